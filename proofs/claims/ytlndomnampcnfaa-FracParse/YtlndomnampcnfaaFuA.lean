/- Plain facts on numbers in limbs of nine digits, with no Go in sight. -/
import Derived.Test.YtlndomnampcnfaaFrJ
namespace Go.Proofs.Ytlndomnampcnfaa
set_option linter.unusedVariables false
set_option linter.unusedSimpArgs false

def lv : List Nat → Nat
  | [] => 0
  | x :: l => x + 1000000000 * lv l
theorem lv_snoc : ∀ (l : List Nat) (x : Nat), lv (l ++ [x]) = lv l + x * 1000000000 ^ l.length
  | [], x => by simp [lv]
  | y :: l, x => by
    simp only [List.cons_append, lv, List.length_cons]
    rw [lv_snoc l x, Nat.pow_succ, Nat.mul_add]
    have : 1000000000 * (x * 1000000000 ^ l.length) = x * (1000000000 ^ l.length * 1000000000) := by
      rw [Nat.mul_comm 1000000000, Nat.mul_assoc]
    omega
def Lim (l : List Nat) : Prop := ∀ x ∈ l, x < 1000000000
theorem Lim.at {l : List Nat} (h : Lim l) {k : Nat} (hk : k < l.length) : l[k] < 1000000000 := h _ (List.getElem_mem hk)
theorem Lim.take {l : List Nat} (h : Lim l) (k : Nat) : Lim (l.take k) := fun x hx => h x (List.mem_of_mem_take hx)
theorem Lim.snoc {l : List Nat} (h : Lim l) {x : Nat} (hx : x < 1000000000) : Lim (l ++ [x]) := fun y hy => by
  rcases List.mem_append.1 hy with q | q
  · exact h y q
  · rw [List.mem_singleton.1 q]; exact hx
theorem lv_lt : ∀ {l : List Nat}, Lim l → lv l < 1000000000 ^ l.length
  | [], _ => by simp [lv]
  | y :: l, h => by
    have h1 := lv_lt (l := l) (fun x hx => h x (List.mem_cons_of_mem _ hx))
    have h2 := h y List.mem_cons_self
    simp only [lv, List.length_cons, Nat.pow_succ]
    have : 1000000000 * (lv l + 1) ≤ 1000000000 ^ l.length * 1000000000 := by rw [Nat.mul_comm _ 1000000000]; exact Nat.mul_le_mul_left _ h1
    omega
theorem lv_next {l : List Nat} {i : Nat} (h : i < l.length) : lv (l.take (i + 1)) = lv (l.take i) + l[i] * 1000000000 ^ i := by
  rw [List.take_succ_eq_append_getElem h, lv_snoc, List.length_take, Nat.min_eq_left (by omega)]
def Nrm (l : List Nat) : Prop := ∀ h : 0 < l.length, l[l.length - 1] ≠ 0
theorem nrm_nil : Nrm [] := fun h => absurd h (by simp)
theorem lv_ge {l : List Nat} (hn : Nrm l) (h : 0 < l.length) : 1000000000 ^ (l.length - 1) ≤ lv l := by
  have e := lv_next (l := l) (i := l.length - 1) (by omega)
  rw [show l.length - 1 + 1 = l.length by omega, List.take_length] at e
  have h1 := hn h
  have : 1 * 1000000000 ^ (l.length - 1) ≤ l[l.length - 1] * 1000000000 ^ (l.length - 1) := Nat.mul_le_mul_right _ (by omega)
  omega
theorem lv_pos {l : List Nat} (hn : Nrm l) (h : 0 < l.length) : 0 < lv l := Nat.lt_of_lt_of_le (Nat.pow_pos (by omega)) (lv_ge hn h)
theorem len_pos {l : List Nat} (h : 0 < lv l) : 0 < l.length := by
  cases l with
  | nil => simp [lv] at h
  | cons x l => simp
theorem lv_nil {l : List Nat} (h : l.length = 0) : lv l = 0 := by rw [List.length_eq_zero_iff.1 h]; rfl
theorem lv_short {x y : List Nat} (hx : Lim x) (hy : Nrm y) (h : x.length < y.length) : lv x < lv y := by
  have h1 := lv_lt hx
  have h2 := lv_ge hy (by omega)
  have h3 : (1000000000 : Nat) ^ x.length ≤ 1000000000 ^ (y.length - 1) := Nat.pow_le_pow_right (by omega) (by omega)
  omega
/-! trim -/
theorem trim_step {l : List Nat} {k : Nat} (hk : k < l.length) (h : l[k] = 0) (e : lv (l.take (k + 1)) = lv l) : lv (l.take k) = lv l := by
  rw [lv_next hk, h] at e; omega
theorem trim_end {l : List Nat} {k : Nat} (hk : k ≤ l.length) (h : ∀ h0 : 0 < k, l[k - 1] ≠ 0) : Nrm (l.take k) := by
  intro h0
  rw [List.length_take, Nat.min_eq_left hk] at h0
  simp only [List.length_take, Nat.min_eq_left hk, List.getElem_take]
  exact h h0
/-! subtraction -/
/-- after i limbs: what is written, and what is borrowed. -/
def SubI (x y r : List Nat) (q : Nat) (i : Nat) (br : Int) : Prop := (lv r : Int) = lv (x.take i) - q * lv (y.take i) + br * (1000000000 : Int) ^ i
theorem sub_start (x y : List Nat) (q : Nat) : SubI x y [] q 0 0 := by simp [SubI, lv]
theorem sub_in {x y r : List Nat} {q i : Nat} {br br2 : Int} {v : Nat} (h : SubI x y r q i br) (hr : r.length = i) (hx : i < x.length) (hy : i < y.length) (hv : (v : Int) = x[i] - br - q * y[i] + br2 * 1000000000) : SubI x y (r ++ [v]) q (i + 1) br2 := by
  unfold SubI at *
  rw [lv_snoc, lv_next hx, lv_next hy, hr]
  simp only [Int.natCast_add, Int.natCast_mul, Int.natCast_pow, Int.pow_succ]
  rw [h, hv]
  generalize ((1000000000 : Nat) : Int) ^ i = P
  have : (1000000000 : Int) ^ i = P ∨ True := .inr trivial
  grind
theorem sub_out {x y r : List Nat} {q i : Nat} {br br2 : Int} {v : Nat} (h : SubI x y r q i br) (hr : r.length = i) (hx : i < x.length) (hy : ¬ i < y.length) (hv : (v : Int) = x[i] - br + br2 * 1000000000) : SubI x y (r ++ [v]) q (i + 1) br2 := by
  unfold SubI at *
  rw [lv_snoc, lv_next hx, List.take_of_length_le (show y.length ≤ i + 1 by omega), hr]
  rw [List.take_of_length_le (show y.length ≤ i by omega)] at h
  simp only [Int.natCast_add, Int.natCast_mul, Int.natCast_pow, Int.pow_succ]
  rw [h, hv]
  grind
theorem sub_end {x y r : List Nat} {q : Nat} {br : Int} (h : SubI x y r q x.length br) (hr : r.length = x.length) (hl : Lim r) (hy : y.length ≤ x.length) (hb : 0 ≤ br) : (br = 0 → q * lv y ≤ lv x ∧ lv r = lv x - q * lv y) ∧ (br ≠ 0 → lv x < q * lv y) := by
  unfold SubI at h
  rw [List.take_length, List.take_of_length_le hy] at h
  have h1 := lv_lt hl
  rw [hr] at h1
  have h2 : ((lv r : Nat) : Int) < (1000000000 : Int) ^ x.length := by
    have q := Int.ofNat_lt.2 h1
    rw [Int.natCast_pow] at q
    exact q
  have e : ((q * lv y : Nat) : Int) = (q : Int) * lv y := by simp
  constructor
  · intro h0
    subst h0
    rw [Int.zero_mul] at h
    omega
  · intro h0
    have h3 : (1000000000 : Int) ^ x.length ≤ br * (1000000000 : Int) ^ x.length := by
      have h4 : 0 ≤ (1000000000 : Int) ^ x.length := Int.le_of_lt (Int.pow_pos (by omega))
      have := Int.mul_le_mul_of_nonneg_right (show 1 ≤ br by omega) h4
      omega
    omega
/-! digits in limbs -/
theorem dec_append (a b : List UInt8) : dec (a ++ b) = dec a * 10 ^ b.length + dec b := by
  have : ∀ (b : List UInt8) (n : Nat), b.foldl (fun n c => n * 10 + (c.toNat - 48)) n = n * 10 ^ b.length + b.foldl (fun n c => n * 10 + (c.toNat - 48)) 0 := by
    intro b
    induction b with
    | nil => intro n; simp
    | cons c b ih =>
      intro n
      simp only [List.foldl_cons, List.length_cons]
      rw [ih (n * 10 + (c.toNat - 48)), ih (0 * 10 + (c.toNat - 48)), Nat.zero_mul, Nat.zero_add, Nat.pow_succ, Nat.add_mul]
      have : n * 10 * 10 ^ b.length = n * (10 ^ b.length * 10) := by rw [Nat.mul_assoc, Nat.mul_comm 10]
      omega
  unfold dec
  rw [List.foldl_append, this]
theorem pow9 (j : Nat) : (1000000000 : Nat) ^ j = 10 ^ (9 * j) := by rw [Nat.pow_mul]
end Go.Proofs.Ytlndomnampcnfaa
