/- Sums over the codes; what large of package accountinglaw25 returns. Written by wip/mk_txp.py. -/
import Derived.Test.YtelahgmnkhkgkaaTxO
namespace Go.Proofs.Ytelahgmnkhkgkaa
open Go.RowKit Go.Sort
set_option linter.unusedVariables false
set_option linter.unusedSimpArgs false

def pS {α : Type} (f : α → Int) (S : List α) (k : Nat) : Int := ((S.take k).map f).sum
theorem pS_zero {α : Type} (f : α → Int) (S : List α) : pS f S 0 = 0 := rfl
theorem pS_more {α : Type} (f : α → Int) {S : List α} {k : Nat} (h : k < S.length) : pS f S (k + 1) = pS f S k + f S[k] := by
  unfold pS; rw [List.take_succ_eq_append_getElem h, List.map_append, List.sum_append]; simp
theorem pS_bd {α : Type} (f : α → Int) {S : List α} {M : Int} (hM : ∀ x ∈ S, -M ≤ f x ∧ f x ≤ M) : ∀ k, k ≤ S.length → -(M * (k : Int)) ≤ pS f S k ∧ pS f S k ≤ M * (k : Int)
  | 0, _ => by rw [pS_zero]; simp
  | k + 1, hk => by
    have h := pS_bd f hM k (by omega)
    have h2 := hM S[k] (List.getElem_mem _)
    rw [pS_more f (show k < S.length by omega)]
    have e : M * ((k + 1 : Nat) : Int) = M * (k : Int) + M := by rw [Int.natCast_add, Int.mul_add]; simp
    omega
def sumF (F : Sm → Int) (g : List UInt8 → Option Sm) (C : List Cd) : Int := (C.map (fun c => F ((g c.1.toList).getD z0))).sum
theorem sumF_none (F : Sm → Int) (h : F z0 = 0) : ∀ C : List Cd, sumF F (fun _ => none) C = 0
  | [] => rfl
  | c :: C => by
    have := sumF_none F h C
    unfold sumF at this ⊢
    simp only [List.map_cons, List.sum_cons]
    rw [this]
    simp [h]
theorem sumF_out (F : Sm → Int) (g : List UInt8 → Option Sm) (s : List UInt8) (a : Sm) : ∀ C : List Cd, (∀ c ∈ C, c.1.toList ≠ s) → sumF F (updS g s a) C = sumF F g C
  | [], _ => rfl
  | c :: C, h => by
    have := sumF_out F g s a C (fun x hx => h x (List.mem_cons_of_mem _ hx))
    unfold sumF at this ⊢
    simp only [List.map_cons, List.sum_cons]
    rw [this]
    have : updS g s a c.1.toList = g c.1.toList := if_neg (h c (List.mem_cons_self ..))
    rw [this]
theorem sumF_in (F : Sm → Int) (g : List UInt8 → Option Sm) (s : List UInt8) (a : Sm) : ∀ C : List Cd, C.Pairwise (fun a b => a.1.toList ≠ b.1.toList) → (∃ c ∈ C, c.1.toList = s) → sumF F (updS g s a) C = sumF F g C + F a - F ((g s).getD z0)
  | [], _, h => by obtain ⟨c, h, _⟩ := h; cases h
  | c :: C, hp, h => by
    rw [List.pairwise_cons] at hp
    by_cases e : c.1.toList = s
    · have ho := sumF_out F g s a C (fun x hx q => hp.1 x hx (e.trans q.symm))
      unfold sumF at ho ⊢
      simp only [List.map_cons, List.sum_cons]
      rw [ho]
      have : updS g s a c.1.toList = some a := if_pos e
      rw [this, e]
      simp
      omega
    · have hi := sumF_in F g s a C hp.2 (by
        obtain ⟨x, hx, q⟩ := h
        rcases List.mem_cons.1 hx with rfl | hx
        · exact absurd q e
        · exact ⟨x, hx, q⟩)
      unfold sumF at hi ⊢
      simp only [List.map_cons, List.sum_cons]
      rw [hi]
      have : updS g s a c.1.toList = g c.1.toList := if_neg e
      rw [this]
      omega
theorem ltS_ne {a b : ByteArray} (h : ltS a b = true) : a.toList ≠ b.toList := by
  intro e
  unfold ltS at h
  rw [e, bytes_lt] at h
  exact absurd (of_decide_eq_true h) (List.lt_irrefl _)
theorem srt_ne {C : List Cd} (h : SrtC C) : C.Pairwise (fun a b => a.1.toList ≠ b.1.toList) := List.Pairwise.imp (fun q => ltS_ne q) h
theorem inO_sum (F : Sm → Int) (h0 : F z0 = 0) {way m : Int} (hw : way ≠ 2) (g : List UInt8 → Option Sm) : ∀ C : List Cd, ((inO way m g C).map F).sum = sumF F g C
  | [] => rfl
  | c :: C => by
    have ih := inO_sum F h0 hw (m := m) g C
    unfold inO sumF at ih ⊢
    simp only [List.map_cons, List.sum_cons, List.filterMap_cons]
    cases q : g c.1.toList with
    | none => simp [h0]; simpa using ih
    | some a =>
      simp only [Option.map_some, List.map_cons, List.sum_cons, Option.getD_some]
      rw [ih]
      unfold one1
      rw [if_neg hw]
theorem at_mem {C : List Cd} {s : ByteArray} (h : atC C s = true) : ∃ c ∈ C, c.1.toList = s.toList := by
  obtain ⟨hi, e⟩ := at_is h
  exact ⟨_, List.getElem_mem hi, by rw [e]⟩
/-- the taxes contained in the lines, by line and by code. -/
theorem within {m : Int} {C : List Cd} {L : List Ln} (hm : modeB m = true) (hC : codesB C = true) (hL : ∀ x ∈ L, lnE C x = 0) : ∀ k, k ≤ L.length →
    sumF (·.2.2) (gK 3 m C (L.take k)) C = pS (fun x => x.1 - ntF 3 m C x) L k
  | 0, _ => by rw [List.take_zero, pS_zero]; exact sumF_none _ rfl C
  | k + 1, hk => by
    have hlt : k < L.length := by omega
    have ih := within hm hC hL k (by omega)
    rw [gK_more hlt, pS_more _ hlt, ← ih]
    clear ih
    have hx := hL L[k] (List.getElem_mem _)
    obtain ⟨⟨h1, h2⟩, h3⟩ := line_ok hx
    generalize L[k] = x at *
    unfold gF ntF
    split
    · omega
    · rename_i hne
      have hat : atC C x.2 = true := by
        rcases h3 with q | q
        · exact absurd q hne
        · exact q
      have hz := arg_zero (x := x.1) hm (val_rate hC hat) h1 h2
      have hi : (nt1 3 m C x).1 + (nt1 3 m C x).2 = x.1 := (in_sum (by
        show (inV x.1 (valC C x.2).2.2.1 (valC C x.2).2.2.2 m).2.2 = 0
        unfold inV; rw [if_pos hz])).1
      rw [sumF_in _ _ _ _ C (srt_ne (codes_srt hC)) (at_mem hat)]
      simp only []
      omega
theorem inO_bd {way m : Int} {C : List Cd} {g : List UInt8 → Option Sm} {k : Nat} (hw : way ≠ 2) (hg : BdG k g) : ∀ s ∈ inO way m g C, -(2000000000000 * (k : Int)) ≤ s.2.2 ∧ s.2.2 ≤ 2000000000000 * (k : Int) := by
  intro s hs
  unfold inO at hs
  obtain ⟨c, _, hc⟩ := List.mem_filterMap.1 hs
  cases q : g c.1.toList with
  | none => rw [q] at hc; cases hc
  | some a =>
    rw [q] at hc
    simp only [Option.map_some, Option.some.injEq] at hc
    subst hc
    unfold one1
    rw [if_neg hw]
    exact (hg _ _ q).2
def LgE (n k : Nat) (e : Ending) : Prop := ∃ b, e = .returned (.bool b) ∧ (b = false → n ≤ 250 ∧ k ≤ 250)
set_option maxHeartbeats 1000000 in
theorem large25_any (A B : Option Addr) (c d : Nat) (n k : Nat) (w : World) (hn : n ≤ maxLen) (hk : k ≤ maxLen) :
    Calls Try.prog 17 #[.slice A n c, .slice B k d] w fun e w' => LgE n k e ∧ w = w' := by
  unfold maxLen at hn hk
  by_cases h1 : 250 < n
  · have h1' : (250 : Int) < (n : Int) := by omega
    go_enter Try.func17, Try.ntmps17
    go_wp2
    go_ret
    exact ⟨⟨_, rfl, fun e => by cases e⟩, rfl⟩
  have h1' : ¬ (250 : Int) < (n : Int) := by omega
  by_cases h2 : 250 < k
  · have h2' : (250 : Int) < (k : Int) := by omega
    go_enter Try.func17, Try.ntmps17
    go_wp2
    go_ret
    exact ⟨⟨_, rfl, fun e => by cases e⟩, rfl⟩
  have h2' : ¬ (250 : Int) < (k : Int) := by omega
  have p1 : (0 : Int) ≤ (n : Int) * (k : Int) := Int.mul_nonneg (by omega) (by omega)
  have p2 : (n : Int) * (k : Int) ≤ 62500 := by
    have := Int.mul_le_mul (show (n : Int) ≤ 250 by omega) (show (k : Int) ≤ 250 by omega) (by omega) (by omega)
    omega
  go_enter Try.func17, Try.ntmps17
  go_wp2
  go_ret
  exact ⟨⟨_, rfl, fun _ => by omega⟩, rfl⟩
end Go.Proofs.Ytelahgmnkhkgkaa
