/- The taxes of a code by line and by code. Written by wip/mk_txr.py. -/
import Derived.Test.YtelahgmnkhkgkaaTxQ
namespace Go.Proofs.Ytelahgmnkhkgkaa
open Go.RowKit Go.Sort
set_option linter.unusedVariables false
set_option linter.unusedSimpArgs false

theorem ba_ext' {a b : ByteArray} (h : a.toList = b.toList) : a = b := by
  rw [ByteArray.toList_eq, ByteArray.toList_eq] at h
  cases a; cases b
  exact congrArg ByteArray.mk (Array.toList_inj.1 h)
def cI (L : List Ln) (s : List UInt8) (k : Nat) : Int := pS (fun x : Ln => if x.2.toList == s then 1 else 0) L k
theorem cI_more {L : List Ln} {s : List UInt8} {k : Nat} (h : k < L.length) : cI L s (k + 1) = cI L s k + (if L[k].2.toList == s then 1 else 0) := pS_more _ h
theorem cI_pos (L : List Ln) (s : List UInt8) : ∀ k, k ≤ L.length → 0 ≤ cI L s k ∧ cI L s k ≤ (k : Int)
  | 0, _ => ⟨Int.le_refl _, Int.le_refl _⟩
  | k + 1, hk => by
    have := cI_pos L s k (by omega)
    rw [cI_more (show k < L.length by omega)]
    split <;> omega
def Er (C : List Cd) (nm : ByteArray) (X t : Int) : Int := t * (valC C nm).2.2.2 - X * (valC C nm).2.2.1
def Rel1 (C : List Cd) (nm : ByteArray) (X t c : Int) : Prop := -(((valC C nm).2.2.2 - 1) * c) ≤ Er C nm X t ∧ Er C nm X t ≤ ((valC C nm).2.2.2 - 1) * c
def RelP (C : List Cd) (L : List Ln) (k : Nat) (g1 g2 : List UInt8 → Option Sm) : Prop :=
  ∀ s, (g1 s = none ∧ g2 s = none) ∨ ∃ nm X t, nm.toList = s ∧ g1 s = some (nm, X, t) ∧ g2 s = some (nm, X, 0) ∧ atC C nm = true ∧ Rel1 C nm X t (cI L s k)
theorem Rel1.mono {C : List Cd} {nm : ByteArray} {X t c c' : Int} (h : Rel1 C nm X t c) (hd : 1 ≤ (valC C nm).2.2.2) (hc : c ≤ c') : Rel1 C nm X t c' := by
  have := Int.mul_le_mul_of_nonneg_left hc (show 0 ≤ (valC C nm).2.2.2 - 1 by omega)
  unfold Rel1 at h ⊢
  omega
theorem Rel1.more {C : List Cd} {nm : ByteArray} {X t c x u : Int} (h : Rel1 C nm X t c) (h1 : -(valC C nm).2.2.2 < u * (valC C nm).2.2.2 - x * (valC C nm).2.2.1) (h2 : u * (valC C nm).2.2.2 - x * (valC C nm).2.2.1 < (valC C nm).2.2.2) : Rel1 C nm (X + x) (t + u) (c + 1) := by
  unfold Rel1 Er at h ⊢
  rw [Int.add_mul, Int.add_mul, Int.mul_add]
  omega
theorem Rel1.zero {C : List Cd} {nm : ByteArray} {c : Int} (hd : 1 ≤ (valC C nm).2.2.2) (hc : 0 ≤ c) : Rel1 C nm 0 0 c := by
  have := Int.mul_nonneg (show 0 ≤ (valC C nm).2.2.2 - 1 by omega) hc
  unfold Rel1 Er
  rw [Int.zero_mul, Int.zero_mul]
  omega
theorem on_err {x n d m : Int} (ha : argE x n d m = 0) : -d < (onV x n d m).1 * d - x * n ∧ (onV x n d m).1 * d - x * n < d := by
  obtain ⟨⟨m1, m2⟩, ⟨e1, e2, e3, e4⟩, e5, e6⟩ := arg_ok ha
  have := md_rate (x := x) (n := n) (c := d) m1 m2 e1 e3 e4 (by omega) (by omega)
  have e : onV x n d m = mdV x n d m := if_pos ha
  rw [e]
  exact this.2.2
theorem rel_all {m : Int} {C : List Cd} {L : List Ln} (hm : modeB m = true) (hC : codesB C = true) (hL : ∀ x ∈ L, lnE C x = 0) : ∀ k, k ≤ L.length → RelP C L k (gK 1 m C (L.take k)) (gK 2 m C (L.take k))
  | 0, _ => fun s => .inl ⟨by rw [List.take_zero]; rfl, by rw [List.take_zero]; rfl⟩
  | k + 1, hk => by
    have hlt : k < L.length := by omega
    have ih := rel_all hm hC hL k (by omega)
    have hp := fun s => cI_pos L s k (by omega)
    have hmr := fun s => cI_more (L := L) (s := s) hlt
    obtain ⟨⟨h1, h2⟩, h3⟩ := line_ok (hL L[k] (List.getElem_mem hlt))
    rw [gK_more hlt, gK_more hlt]
    generalize gK 1 m C (L.take k) = g1 at *
    generalize gK 2 m C (L.take k) = g2 at *
    generalize L[k] = x at *
    have same : ∀ s, (g1 s = none ∧ g2 s = none) ∨ ∃ nm X t, nm.toList = s ∧ g1 s = some (nm, X, t) ∧ g2 s = some (nm, X, 0) ∧ atC C nm = true ∧ Rel1 C nm X t (cI L s (k + 1)) := by
      intro s
      rcases ih s with q | ⟨nm, X, t, q1, q2, q3, q4, q5⟩
      · exact .inl q
      · refine .inr ⟨nm, X, t, q1, q2, q3, q4, q5.mono (rate_in (val_rate hC q4)).1 ?_⟩
        rw [hmr s]; split <;> omega
    intro s
    unfold gF
    by_cases he : x.2.toList.isEmpty = true
    · rw [if_pos he, if_pos he]; exact same s
    · rw [if_neg he, if_neg he]
      unfold updS
      by_cases hs : s = x.2.toList
      · rw [if_pos hs, if_pos hs]
        subst hs
        have hat : atC C x.2 = true := by
          rcases h3 with q | q
          · exact absurd q he
          · exact q
        have hr := val_rate hC hat
        obtain ⟨r1, _⟩ := rate_in hr
        have hz := arg_zero (x := x.1) hm hr h1 h2
        obtain ⟨w1, w2⟩ := on_err hz
        have n1 : nt1 1 m C x = (x.1, (onV x.1 (valC C x.2).2.2.1 (valC C x.2).2.2.2 m).1) := rfl
        have n2 : nt1 2 m C x = (x.1, 0) := rfl
        rw [n1, n2]
        have hc : cI L x.2.toList (k + 1) = cI L x.2.toList k + 1 := by rw [hmr]; simp
        rw [hc]
        right
        rcases ih x.2.toList with ⟨q1, q2⟩ | ⟨nm, X, t, q1, q2, q3, q4, q5⟩
        · rw [q1, q2]
          refine ⟨x.2, _, _, rfl, rfl, rfl, hat, ?_⟩
          exact Rel1.more (Rel1.zero r1 (hp _).1) w1 w2
        · obtain rfl := ba_ext' q1
          rw [q2, q3]
          refine ⟨x.2, _, _, rfl, rfl, rfl, hat, ?_⟩
          exact Rel1.more q5 w1 w2
      · rw [if_neg hs, if_neg hs]; exact same s
/-- a sum by line and by code. -/
def Near (L : List Ln) (a b : Sm) : Prop := a.1 = b.1 ∧ a.2.1 = b.2.1 ∧ -(cI L a.1.toList L.length) ≤ a.2.2 - b.2.2 ∧ a.2.2 - b.2.2 ≤ cI L a.1.toList L.length
theorem near_c {D dd c E E' : Int} (d1 : 1 ≤ dd) (c0 : 0 ≤ c) (h : D * dd = E - E') (h1 : -((dd - 1) * c) ≤ E) (h2 : E ≤ (dd - 1) * c) (h3 : -dd < E') (h4 : E' < dd) : -c ≤ D ∧ D ≤ c := by
  have hx : (dd - 1) * c = dd * c - c := by rw [Int.sub_mul]; simp
  rw [hx] at h1 h2
  refine ⟨?_, ?_⟩
  · rcases Int.lt_or_le D (-c) with k | k
    · have := Int.mul_le_mul_of_nonneg_right (show D ≤ -c - 1 by omega) (show 0 ≤ dd by omega)
      rw [Int.sub_mul, Int.neg_mul, Int.mul_comm c dd] at this
      omega
    · exact k
  · rcases Int.lt_or_le c D with k | k
    · have := Int.mul_le_mul_of_nonneg_right (show c + 1 ≤ D by omega) (show 0 ≤ dd by omega)
      rw [Int.add_mul, Int.mul_comm c dd] at this
      omega
    · exact k
theorem near_list {m : Int} {C : List Cd} {L : List Ln} {g1 g2 : List UInt8 → Option Sm} (hm : modeB m = true) (hC : codesB C = true) (hr : RelP C L L.length g1 g2) (hb : BdG 200 g1) : ∀ C' : List Cd, (∀ c ∈ C', c ∈ C) →
    (inO 1 m g1 C').length = (inO 2 m g2 C').length ∧ ∀ i, (h1 : i < (inO 1 m g1 C').length) → (h2 : i < (inO 2 m g2 C').length) → Near L (inO 1 m g1 C')[i] (inO 2 m g2 C')[i]
  | [], _ => ⟨rfl, fun i h => by cases h⟩
  | c :: C', hm' => by
    obtain ⟨ih1, ih2⟩ := near_list hm hC hr hb C' (fun x hx => hm' x (List.mem_cons_of_mem _ hx))
    have hmem : c ∈ C := hm' c (List.mem_cons_self ..)
    rcases hr c.1.toList with ⟨q1, q2⟩ | ⟨nm, X, t, q1, q2, q3, q4, q5⟩
    · have e1 : inO 1 m g1 (c :: C') = inO 1 m g1 C' := by unfold inO; simp [q1]
      have e2 : inO 2 m g2 (c :: C') = inO 2 m g2 C' := by unfold inO; simp [q2]
      rw [e1, e2]
      exact ⟨ih1, ih2⟩
    · have e1 : inO 1 m g1 (c :: C') = one1 1 m c (nm, X, t) :: inO 1 m g1 C' := by unfold inO; simp [q2]
      have e2 : inO 2 m g2 (c :: C') = one1 2 m c (nm, X, 0) :: inO 2 m g2 C' := by unfold inO; simp [q3]
      have hX := (hb _ _ q2).1
      obtain rfl := ba_ext' q1
      obtain ⟨i, hi, hci⟩ := List.getElem_of_mem hmem
      obtain ⟨hlow, _⟩ := at_of (codes_srt hC) hi (nm := c.1) (by rw [hci])
      have hv : valC C c.1 = c := by unfold valC; rw [hlow, getC hi, hci]
      have hrt := val_rate hC q4
      obtain ⟨r1, r2, r3, r4⟩ := rate_in hrt
      unfold Rel1 Er at q5
      rw [hv] at q5 hrt r1 r2 r3 r4
      have ha : argE X c.2.2.1 c.2.2.2 m = 0 := by
        unfold argE
        rw [hm, hrt, if_neg (by decide), if_neg (by decide), if_neg]
        unfold withB
        simp only [] at hX
        simp; omega
      obtain ⟨w1, w2⟩ := on_err ha
      have hn : Near L (one1 1 m c (c.1, X, t)) (one1 2 m c (c.1, X, 0)) := by
        refine ⟨rfl, rfl, ?_⟩
        show -(cI L c.1.toList L.length) ≤ t - (onV X c.2.2.1 c.2.2.2 m).1 ∧ t - (onV X c.2.2.1 c.2.2.2 m).1 ≤ cI L c.1.toList L.length
        exact near_c r1 (cI_pos L _ _ (Nat.le_refl _)).1 (by rw [Int.sub_mul]; omega) q5.1 q5.2 w1 w2
      rw [e1, e2]
      refine ⟨by simp [ih1], fun i h1 h2 => ?_⟩
      match i with
      | 0 => exact hn
      | i + 1 => exact ih2 i (by simpa using h1) (by simpa using h2)
theorem errO_12 (C : List Cd) (L : List Ln) (m : Int) : errO C L 2 m = errO C L 1 m := by
  unfold errO
  simp
theorem close_all {m : Int} {C : List Cd} {L : List Ln} (hE : errO C L 1 m = 0) : (ofS C L 1 m).length = (ofS C L 2 m).length ∧ ∀ i, (h1 : i < (ofS C L 1 m).length) → (h2 : i < (ofS C L 2 m).length) → Near L (ofS C L 1 m)[i] (ofS C L 2 m)[i] := by
  obtain ⟨_, hmo, hco, hl200, hli⟩ := errO_ok hE
  have hall := linesE_all hli
  have e1 : ofS C L 1 m = inO 1 m (gK 1 m C L) C := if_pos hE
  have e2 : ofS C L 2 m = inO 2 m (gK 2 m C L) C := if_pos (by rw [errO_12]; exact hE)
  have hr := rel_all hmo hco hall L.length (Nat.le_refl _)
  have hb := gK_bd (way := 1) hmo hco hall L.length (Nat.le_refl _)
  rw [List.take_length] at hr hb
  rw [e1, e2]
  refine near_list hmo hco hr (fun s a q => ?_) C (fun c hc => hc)
  have := hb s a q
  omega
end Go.Proofs.Ytelahgmnkhkgkaa
