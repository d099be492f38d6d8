/- The shares without an order in sight: who gets a unit more is told by counting who is ahead. Plain facts. -/
import Derived.Test.YtmehihfdfpnfjaaSpR
namespace Go.Proofs.Ytmehihfdfpnfjaa
open Go.RowKit Go.Sort
set_option linter.unusedVariables false
set_option linter.unusedSimpArgs false

def befB (r : Nat → Int) (i k : Nat) : Bool := decide (r k < r i) || (decide (r i = r k) && decide (i < k))
theorem befB_iff {r : Nat → Int} {i k : Nat} : befB r i k = true ↔ Bef r i k := by unfold befB Bef; simp
/-- how many are ahead. -/
def rnk (r : Nat → Int) (n k : Nat) : Nat := sumN (fun i => if befB r i k then 1 else 0) n
theorem rnk_at {r : Nat → Int} {n : Nat} {σ : Nat → Nat} (hs : Srt r σ 0 n) (hp : Prm n σ) {j : Nat} (hj : j < n) : rnk r n (σ j) = j := by
  unfold rnk
  rw [← sumN_perm hp (fun i => if befB r i (σ j) then 1 else 0)]
  rw [sumN_congr n (g := fun i => if decide (i < j) then 1 else 0) ?_]
  · exact sumN_first n (by omega)
  · intro i hi
    have : befB r (σ i) (σ j) = decide (i < j) := by
      by_cases h : i < j
      · rw [decide_eq_true h]; exact befB_iff.2 (hs i j (Nat.zero_le _) h hj)
      · rw [decide_eq_false h]
        cases e : befB r (σ i) (σ j)
        · rfl
        · have h1 := befB_iff.1 e
          by_cases q : i = j
          · subst q; unfold Bef at h1; omega
          · have h2 := hs j i (Nat.zero_le _) (by omega) hi
            unfold Bef at h1 h2; omega
    rw [this]
theorem sel_rnk {r : Nat → Int} {n : Nat} {σ : Nat → Nat} (hs : Srt r σ 0 n) (hp : Prm n σ) {L k : Nat} (hL : L ≤ n) (hk : k < n) : sel σ L k = decide (rnk r n k < L) := by
  obtain ⟨j, j1, rfl⟩ := hp.sur k hk
  rw [sel_at hp hL j1, rnk_at hs hp j1]
/-- a share of the amount's size. -/
def shN (a T : Nat) (W : Nat → Nat) (n k : Nat) : Nat := flo a T W k + (if decide (rnk (lakI a T W) n k < lft a T W n) then 1 else 0)
/-- there is an order. -/
def Ord1 (a T : Nat) (W : Nat → Nat) (n : Nat) : Prop := ∃ σ, Srt (lakI a T W) σ 0 n ∧ Prm n σ
section
variable {a T n : Nat} {W : Nat → Nat} {σ : Nat → Nat}
theorem shr_shN (hT : 0 < T) (hs : sumN W n = T) (hr : Srt (lakI a T W) σ 0 n) (hp : Prm n σ) {k : Nat} (hk : k < n) : shr a T W σ (lft a T W n) k = shN a T W n k := by
  unfold shr shN
  rw [sel_rnk hr hp (lft_le hT hs) hk]
theorem shN_sum (hT : 0 < T) (hs : sumN W n = T) (ho : Ord1 a T W n) : sumN (shN a T W n) n = a := by
  obtain ⟨σ, hr, hp⟩ := ho
  rw [← sumN_congr n (f := shr a T W σ (lft a T W n)) (fun k hk => shr_shN hT hs hr hp hk)]
  exact shr_sum hT hs hp
theorem shN_near (hT : 0 < T) (hs : sumN W n = T) (ho : Ord1 a T W n) {k : Nat} (hk : k < n) :
    shN a T W n k * T < a * W k + T ∧ a * W k < shN a T W n k * T + T ∧ (W k = 0 → shN a T W n k = 0) := by
  obtain ⟨σ, hr, hp⟩ := ho
  rw [← shr_shN hT hs hr hp hk]
  exact shr_near hT hs hp hr hk
theorem shN_mono (hT : 0 < T) (hs : sumN W n = T) (ho : Ord1 a T W n) {i k : Nat} (hi : i < n) (hk : k < n) (h : W k < W i ∨ (W i = W k ∧ i < k)) : shN a T W n k ≤ shN a T W n i := by
  obtain ⟨σ, hr, hp⟩ := ho
  rw [← shr_shN hT hs hr hp hk, ← shr_shN hT hs hr hp hi]
  exact shr_mono hT hs hp hr hi hk h
theorem shN_scale {c : Nat} (hc : 0 < c) (k : Nat) : shN a (c * T) (fun i => c * W i) n k = shN a T W n k := by
  have h1 : lft a (c * T) (fun i => c * W i) n = lft a T W n := by
    unfold lft; rw [sumN_congr n (fun k _ => flo_scale hc k)]
  have h2 : rnk (lakI a (c * T) (fun i => c * W i)) n k = rnk (lakI a T W) n k := by
    unfold rnk
    refine sumN_congr n fun i _ => ?_
    have : befB (lakI a (c * T) (fun i => c * W i)) i k = befB (lakI a T W) i k := by
      have q1 : (c * lak a T W k : Int) < c * lak a T W i ↔ (lak a T W k : Int) < lak a T W i := by
        constructor
        · intro h; exact Int.lt_of_mul_lt_mul_left h (by omega)
        · intro h; exact Int.mul_lt_mul_of_pos_left h (by omega)
      have q2 : (c * lak a T W i : Int) = c * lak a T W k ↔ (lak a T W i : Int) = lak a T W k := by
        constructor
        · intro h; exact Int.eq_of_mul_eq_mul_left (by omega) h
        · intro h; rw [h]
      unfold befB lakI
      rw [lak_scale, lak_scale]
      simp only [Int.natCast_mul]
      simp only [q1, q2]
    rw [this]
  unfold shN
  rw [h1, h2, flo_scale hc]
theorem shN_le (hT : 0 < T) (hk : W n ≤ T) (m : Nat) : shN a T W m n ≤ a + 1 := by
  have := flo_small (a := a) (T := T) (W := W) (k := n) hT hk
  unfold shN; split <;> omega
end
/-- the share k of the amount x. -/
def shV (x : Int) (zs : List Int) (k : Nat) : Int := if x < 0 then -(shN x.natAbs zs.sum.toNat (wtN zs) zs.length k : Int) else (shN x.natAbs zs.sum.toNat (wtN zs) zs.length k : Int)
/-- the shares, none where there is an error. -/
def shO (x : Int) (zs : List Int) : List Int := if shE x zs = 0 then (List.range zs.length).map (shV x zs) else []
/-- what Shares returns. -/
def ShQ (x : Int) (zs : List Int) (w : World) (e : Ending) (w' : World) : Prop :=
  (shE x zs = 0 → Ord1 x.natAbs zs.sum.toNat (wtN zs) zs.length) ∧ ∃ A, e = .returned (.tuple #[.slice A (shO x zs).length (shO x zs).length, .int .i64 (shE x zs)]) ∧ Row w' A (shO x zs) ∧ Below w.heap.size w w'
theorem shO_len {x : Int} {zs : List Int} (h : shE x zs = 0) : (shO x zs).length = zs.length := by unfold shO; rw [if_pos h]; simp
theorem shO_at {x : Int} {zs : List Int} (h : shE x zs = 0) {k : Nat} (hk : k < (shO x zs).length) : (shO x zs)[k] = shV x zs k := by
  unfold shO at hk ⊢; simp only [if_pos h]; simp
theorem shO_err {x : Int} {zs : List Int} (h : ¬ shE x zs = 0) : shO x zs = [] := by unfold shO; rw [if_neg h]
theorem sumOk_iff {x : Int} : sumOk x = true ↔ -1000000000000000 ≤ x ∧ x ≤ 1000000000000000 := by unfold sumOk; simp
structure Fine (x : Int) (zs : List Int) : Prop where
  x1 : -1000000000000000 ≤ x
  x2 : x ≤ 1000000000000000
  n2 : zs.length ≤ 200
  g : Wgd zs zs.sum.toNat
theorem fine_of {x : Int} {zs : List Int} (h : shE x zs = 0) : Fine x zs := by
  unfold shE at h
  by_cases h1 : 200 < zs.length
  · rw [if_pos h1] at h; omega
  · rw [if_neg h1] at h
    by_cases h2 : sumOk x = false
    · rw [if_pos h2] at h; omega
    · rw [if_neg h2] at h
      have h3 := sumOk_iff.1 (show sumOk x = true by simpa using h2)
      exact ⟨h3.1, h3.2, by omega, (wgd_of h).1⟩
theorem Fine.w {x : Int} {zs : List Int} (h : Fine x zs) {k : Nat} (hk : k < zs.length) : wtN zs k ≤ zs.sum.toNat := by
  rw [← h.g.sum]; exact sumN_ge _ k hk
theorem Fine.v {x : Int} {zs : List Int} (h : Fine x zs) {k : Nat} (hk : k < zs.length) : -1000000000000001 ≤ shV x zs k ∧ shV x zs k ≤ 1000000000000001 := by
  have h1 := shN_le (a := x.natAbs) h.g.t0 (h.w hk) zs.length
  have := h.x1
  have := h.x2
  unfold shV; split <;> omega
theorem shP_shQ {x : Int} {zs : List Int} {w : World} {e : Ending} {w' : World} (h : ShP x zs w e w') : ShQ x zs w e w' := by
  rcases h with ⟨⟨q, rfl⟩ | ⟨q, P, σ, rfl, q2, q3, q4, q5⟩, hb⟩
  · refine ⟨fun z => absurd z q, none, ?_, ?_, hb⟩
    · rw [shO_err q]; rfl
    · rw [shO_err q]; exact ⟨fun h => absurd h (by simp), by simp⟩
  · have hf := fine_of q
    refine ⟨fun _ => ⟨σ, q3, q4⟩, some ⟨P, 0, none⟩, by rw [shO_len q, q], ⟨fun _ => ⟨P, 0, rfl, q5.1, fun k hk => ?_⟩, fun z hz => ?_⟩, hb⟩
    · have hk' : k < zs.length := by rw [← shO_len q]; exact hk
      rw [Nat.zero_add, (q5.2 k hk').1, shO_at q]
      have : shF x zs σ k = shV x zs k := by unfold shF shV; rw [shr_shN hf.g.t0 hf.g.sum q3 q4 hk']
      show some (Value.int .i64 (shF x zs σ k)) = _
      rw [this]
    · obtain ⟨k, hk, rfl⟩ := List.getElem_of_mem hz
      rw [shO_at q]
      have := hf.v (k := k) (by rw [← shO_len q]; exact hk)
      omega
/-! what the shares are like -/
theorem take_range_sum (f : Nat → Int) : ∀ n k, k ≤ n → (((List.range n).map f).take k).sum = ((List.range k).map f).sum
  | n, k, h => by rw [← List.map_take, List.take_range, Nat.min_eq_left h]
theorem sum_range (f : Nat → Nat) (s : Int) (g : Nat → Int) (hg : ∀ k, g k = s * (f k : Int)) : ∀ n, ((List.range n).map g).sum = s * (sumN f n : Int)
  | 0 => by simp [sumN]
  | n + 1 => by
    rw [List.range_succ, List.map_append, List.sum_append, sum_range f s g hg n]
    simp only [List.map_cons, List.map_nil, List.sum_cons, List.sum_nil, sumN, hg, Int.natCast_add, Int.mul_add]
    omega
theorem shV_sg (x : Int) (zs : List Int) (k : Nat) : shV x zs k = (if x < 0 then -1 else 1) * (shN x.natAbs zs.sum.toNat (wtN zs) zs.length k : Int) := by unfold shV; split <;> omega
theorem sumN_part {f : Nat → Nat} : ∀ {n k : Nat}, k ≤ n → sumN f k ≤ sumN f n
  | 0, k, h => by rw [Nat.le_zero.1 h]; exact Nat.le_refl _
  | n + 1, k, h => by
    by_cases e : k = n + 1
    · rw [e]; exact Nat.le_refl _
    · have := sumN_part (f := f) (show k ≤ n by omega); simp only [sumN]; omega
theorem shO_sum {x : Int} {zs : List Int} (h : shE x zs = 0) (ho : Ord1 x.natAbs zs.sum.toNat (wtN zs) zs.length) : (shO x zs).sum = x := by
  have hf := fine_of h
  unfold shO; rw [if_pos h, sum_range _ _ _ (shV_sg x zs), shN_sum hf.g.t0 hf.g.sum ho]
  split <;> omega
theorem shO_part {x : Int} {zs : List Int} (h : shE x zs = 0) (ho : Ord1 x.natAbs zs.sum.toNat (wtN zs) zs.length) (k : Nat) (hk : k ≤ (shO x zs).length) : -1000000000000000 ≤ ((shO x zs).take k).sum ∧ ((shO x zs).take k).sum ≤ 1000000000000000 := by
  have hf := fine_of h
  rw [shO_len h] at hk
  unfold shO; rw [if_pos h, take_range_sum _ _ _ hk, sum_range _ _ _ (shV_sg x zs)]
  have h1 := sumN_part (f := shN x.natAbs zs.sum.toNat (wtN zs) zs.length) hk
  rw [shN_sum hf.g.t0 hf.g.sum ho] at h1
  have := hf.x1
  have := hf.x2
  split <;> omega
theorem wgV_neg (x : Int) (zs : List Int) : shE (-x) zs = shE x zs := by
  unfold shE
  have : sumOk (-x) = sumOk x := by unfold sumOk; rw [show decide (-1000000000000000 ≤ -x) = decide (x ≤ 1000000000000000) from decide_eq_decide.2 (by omega), show decide (-x ≤ 1000000000000000) = decide (-1000000000000000 ≤ x) from decide_eq_decide.2 (by omega), Bool.and_comm]
  rw [this]
theorem shN_zero (T : Nat) (W : Nat → Nat) (n k : Nat) : shN 0 T W n k = 0 := by
  unfold shN
  have : lft 0 T W n = 0 := by unfold lft; omega
  rw [this]; simp [flo]
theorem shV_neg (x : Int) (zs : List Int) (k : Nat) : shV (-x) zs k = -shV x zs k := by
  unfold shV
  rw [Int.natAbs_neg]
  by_cases h0 : x = 0
  · subst h0; simp [shN_zero]
  · by_cases h1 : x < 0
    · rw [if_pos h1, if_neg (by omega)]; omega
    · rw [if_neg h1, if_pos (by omega)]
theorem shO_neg (x : Int) (zs : List Int) : shO (-x) zs = (shO x zs).map (fun z => -z) := by
  unfold shO
  rw [wgV_neg]
  split
  · rw [List.map_map]; exact List.map_congr_left fun k _ => shV_neg x zs k
  · rfl
theorem shO_near {x : Int} {zs : List Int} (h : shE x zs = 0) (ho : Ord1 x.natAbs zs.sum.toNat (wtN zs) zs.length) {k : Nat} (hk : k < zs.length) :
    (shV x zs k - 1) * zs.sum < x * zs[k] ∧ x * zs[k] < (shV x zs k + 1) * zs.sum ∧ (zs[k] = 0 → shV x zs k = 0) := by
  have hf := fine_of h
  obtain ⟨n1, n2, n3⟩ := shN_near hf.g.t0 hf.g.sum ho hk
  have e1 := wtN_at hk (hf.g.pos k hk)
  have e2 : zs.sum = (zs.sum.toNat : Int) := by have := hf.g.t0; omega
  rw [e1, e2]
  unfold shV
  generalize zs.sum.toNat = T at *
  generalize shN x.natAbs T (wtN zs) zs.length k = s at *
  generalize wtN zs k = W at *
  have m1 : (s : Int) * T < (x.natAbs : Int) * W + T := by exact_mod_cast n1
  have m2 : (x.natAbs : Int) * W < (s : Int) * T + T := by exact_mod_cast n2
  have m3 : (W : Int) = 0 → (s : Int) = 0 := fun q => by have := n3 (by omega); omega
  by_cases hx : x < 0
  · rw [if_pos hx]
    have ex : x = -(x.natAbs : Int) := by omega
    generalize x.natAbs = b at *
    subst ex
    refine ⟨?_, ?_, fun q => by rw [m3 q]; rfl⟩
    · rw [show (-(s : Int) - 1) * T = -((s : Int) * T + T) by rw [Int.sub_mul, Int.neg_mul]; omega, Int.neg_mul]; omega
    · rw [show (-(s : Int) + 1) * T = -((s : Int) * T) + T by rw [Int.add_mul, Int.neg_mul]; omega, Int.neg_mul]; omega
  · rw [if_neg hx]
    have ex : x = (x.natAbs : Int) := by omega
    generalize x.natAbs = b at *
    subst ex
    refine ⟨?_, ?_, m3⟩
    · rw [Int.sub_mul]; omega
    · rw [Int.add_mul]; omega
def abI (x : Int) : Int := if x < 0 then -x else x
theorem shO_mono {x : Int} {zs : List Int} (h : shE x zs = 0) (ho : Ord1 x.natAbs zs.sum.toNat (wtN zs) zs.length) {i k : Nat} (hi : i < zs.length) (hk : k < zs.length) (hc : zs[k] < zs[i] ∨ (zs[i] = zs[k] ∧ i < k)) : abI (shV x zs k) ≤ abI (shV x zs i) := by
  have hf := fine_of h
  have e1 := wtN_at hk (hf.g.pos k hk)
  have e2 := wtN_at hi (hf.g.pos i hi)
  have h1 := shN_mono hf.g.t0 hf.g.sum ho hi hk (by rw [e1, e2] at hc; omega)
  unfold abI shV
  split <;> split <;> split <;> omega
/-! weights multiplied by the same number -/
theorem sum_mul (c : Int) : ∀ zs : List Int, (zs.map (fun z => z * c)).sum = zs.sum * c
  | [] => by simp
  | z :: zs => by simp only [List.map_cons, List.sum_cons]; rw [sum_mul c zs, Int.add_mul]
theorem sum_le (m : Int) : ∀ zs : List Int, (∀ z ∈ zs, z ≤ m) → zs.sum ≤ zs.length * m
  | [], _ => by simp
  | z :: zs, h => by
    have h1 := sum_le m zs (fun y hy => h y (List.mem_cons_of_mem _ hy))
    have h2 := h z List.mem_cons_self
    simp only [List.sum_cons, List.length_cons, Int.natCast_add, Int.add_mul]; omega
theorem all_pos {zs : List Int} (hp : ∀ z ∈ zs, 0 ≤ z) : zs.all (fun z => decide (0 ≤ z)) = true := by
  rw [List.all_eq_true]; intro z hz; simpa using hp z hz
theorem shE_scale {x c : Int} {zs : List Int} (hp : ∀ z ∈ zs, 0 ≤ z) (c1 : 1 ≤ c) (hb : zs.length ≤ 200 → zs.sum * c ≤ 1000000000000000) : shE x (zs.map (fun z => z * c)) = shE x zs := by
  unfold shE
  rw [List.length_map]
  by_cases hl : 200 < zs.length
  · rw [if_pos hl, if_pos hl]
  · rw [if_neg hl, if_neg hl]
    have hq := all_pos hp
    have hq2 : (zs.map (fun z => z * c)).all (fun z => decide (0 ≤ z)) = true := all_pos fun z hz => by
      obtain ⟨y, hy, rfl⟩ := List.mem_map.1 hz
      exact Int.mul_nonneg (hp y hy) (by omega)
    have hs := sum_pos hq
    have hm := hb (by omega)
    have h1 : zs.sum ≤ zs.sum * c := by
      have := Int.mul_le_mul_of_nonneg_left c1 hs; omega
    have : (wgV (zs.map (fun z => z * c))).2 = (wgV zs).2 := by
      unfold wgV
      rw [hq, hq2, sum_mul]
      simp only [Bool.true_eq_false, if_false]
      rw [if_neg (show ¬ 1000000000000000 < zs.sum * c by omega), if_neg (show ¬ 1000000000000000 < zs.sum by omega)]
      by_cases h0 : zs.sum = 0
      · rw [h0]; simp
      · rw [if_neg h0, if_neg (show ¬ zs.sum * c = 0 by intro e; rcases Int.mul_eq_zero.1 e with z | z <;> omega)]
    rw [this]
theorem toNat_scale {c z : Int} (c1 : 1 ≤ c) : (z * c).toNat = c.toNat * z.toNat := by
  obtain ⟨m, rfl⟩ := Int.eq_ofNat_of_zero_le (show 0 ≤ c by omega)
  rcases Int.lt_or_le z 0 with h | h
  · have : z * (m : Int) ≤ 0 := Int.mul_nonpos_of_nonpos_of_nonneg (by omega) (by omega)
    rw [Int.toNat_of_nonpos this, Int.toNat_of_nonpos (show z ≤ 0 by omega)]; simp
  · obtain ⟨k, rfl⟩ := Int.eq_ofNat_of_zero_le h
    rw [← Int.natCast_mul, Int.toNat_natCast, Int.toNat_natCast, Int.toNat_natCast, Nat.mul_comm]
theorem wtN_scale {c : Int} (c1 : 1 ≤ c) (zs : List Int) : wtN (zs.map (fun z => z * c)) = fun i => c.toNat * wtN zs i := by
  funext i
  unfold wtN
  by_cases hi : i < zs.length
  · simp [List.getD, hi, toNat_scale c1]
  · simp [List.getD, hi]
theorem shO_scale {x c : Int} {zs : List Int} (hp : ∀ z ∈ zs, 0 ≤ z) (c1 : 1 ≤ c) (hb : zs.length ≤ 200 → zs.sum * c ≤ 1000000000000000) : shO x (zs.map (fun z => z * c)) = shO x zs := by
  unfold shO
  rw [shE_scale hp c1 hb, List.length_map]
  split
  · refine List.map_congr_left fun k _ => ?_
    unfold shV
    rw [wtN_scale c1, sum_mul, toNat_scale c1, List.length_map, shN_scale (by omega)]
  · rfl
end Go.Proofs.Ytmehihfdfpnfjaa
