/- The reference's sums and nets are the program's. Written by wip/mk_txw.py. -/
import Derived.Test.YtelahgmnkhkgkaaTxV
namespace Go.Proofs.Ytelahgmnkhkgkaa
open Go.RowKit Go.Sort
set_option linter.unusedVariables false
set_option linter.unusedSimpArgs false

theorem sum_zero {α : Type} (f : α → Int) : ∀ L : List α, (∀ x ∈ L, f x = 0) → (L.map f).sum = 0
  | [], _ => rfl
  | x :: L, h => by
    rw [List.map_cons, List.sum_cons, h x (List.mem_cons_self ..), sum_zero f L (fun y hy => h y (List.mem_cons_of_mem _ hy))]; rfl
theorem filt_congr {α β : Type} {f g : α → Option β} : ∀ L : List α, (∀ x ∈ L, f x = g x) → L.filterMap f = L.filterMap g
  | [], _ => rfl
  | x :: L, h => by
    rw [List.filterMap_cons, List.filterMap_cons, h x (List.mem_cons_self ..), filt_congr L (fun y hy => h y (List.mem_cons_of_mem _ hy))]
def mt (c : Cd) (x : Ln) : Bool := x.2.toList == c.1.toList
def oN (way m : Int) (c : Cd) (x : Ln) : Int := (oneV way x.1 c.2.2.1 c.2.2.2 m).1
def oT (way m : Int) (c : Cd) (x : Ln) : Int := (oneV way x.1 c.2.2.1 c.2.2.2 m).2
def fN (way m : Int) (c : Cd) (x : Ln) : Int := if mt c x = true then oN way m c x else 0
def fT (way m : Int) (c : Cd) (x : Ln) : Int := if mt c x = true then oT way m c x else 0
def oc (c : Cd) (L : List Ln) (k : Nat) : Bool := (L.take k).any (mt c)
theorem oc_more {c : Cd} {L : List Ln} {k : Nat} (h : k < L.length) : oc c L (k + 1) = (oc c L k || mt c L[k]) := by
  unfold oc; rw [List.take_succ_eq_append_getElem h, List.any_append]; simp
theorem cod_ne {s : ByteArray} (h : codB s = true) : s.toList.isEmpty = false := by
  unfold codB at h
  cases q : s.toList with
  | nil =>
    exfalso
    have e : s.size = s.toList.length := by rw [ByteArray.toList_eq]; rfl
    rw [q] at e
    simp [q] at h
    rw [List.length_nil] at e
    omega
  | cons b l => rfl
theorem mt_val {C : List Cd} (hC : codesB C = true) {c : Cd} (hc : c ∈ C) {x : Ln} (h : mt c x = true) : valC C x.2 = c ∧ x.2.toList.isEmpty = false := by
  obtain ⟨i, hi, e⟩ := List.getElem_of_mem hc
  have hs : x.2.toList = c.1.toList := by unfold mt at h; simpa using h
  have hx : x.2 = c.1 := ba_ext' hs
  obtain ⟨h1, _⟩ := at_of (codes_srt hC) hi (nm := x.2) (by rw [e, hx])
  refine ⟨by unfold valC; rw [h1, getC hi, e], ?_⟩
  rw [hx, ← e]
  exact cod_ne (codes_one hC hi).1
/-- the tax that the program carries for a line: none at way 2. -/
def fP (way m : Int) (c : Cd) (x : Ln) : Int := if way = 2 then 0 else fT way m c x
theorem nt1_is {way m : Int} {C : List Cd} (hC : codesB C = true) (hw : 1 ≤ way ∧ way ≤ 3) {c : Cd} (hc : c ∈ C) {x : Ln} (h : mt c x = true) : (nt1 way m C x).1 = oN way m c x ∧ (nt1 way m C x).2 = if way = 2 then 0 else oT way m c x := by
  obtain ⟨hv, _⟩ := mt_val hC hc h
  unfold nt1 oN oT oneV
  rw [hv]
  unfold divV
  rcases (show way = 1 ∨ way = 2 ∨ way = 3 by omega) with rfl | rfl | rfl <;> simp
theorem gK_is {way m : Int} {C : List Cd} {L : List Ln} (hC : codesB C = true) (hw : 1 ≤ way ∧ way ≤ 3) {c : Cd} (hc : c ∈ C) : ∀ k, k ≤ L.length →
    gK way m C (L.take k) c.1.toList = if oc c L k = true then some (c.1, pS (fN way m c) L k, pS (fP way m c) L k) else none
  | 0, _ => by rw [List.take_zero]; rfl
  | k + 1, hk => by
    have hlt : k < L.length := by omega
    have ih := gK_is (way := way) (m := m) (L := L) hC hw hc k (by omega)
    rw [gK_more hlt, oc_more hlt, pS_more _ hlt, pS_more _ hlt]
    have hz : oc c L k = false → pS (fN way m c) L k = 0 ∧ pS (fP way m c) L k = 0 := by
      intro h
      unfold oc at h
      have hall : ∀ x ∈ L.take k, mt c x = false := by simpa using h
      constructor
      · exact sum_zero _ _ (fun x hx => by unfold fN; rw [hall x hx]; rfl)
      · exact sum_zero _ _ (fun x hx => by unfold fP fT; rw [hall x hx]; simp)
    generalize L[k] = x at *
    generalize gK way m C (L.take k) = g at *
    cases q : mt c x
    · have e1 : fN way m c x = 0 := by unfold fN; rw [q]; rfl
      have e2 : fP way m c x = 0 := by unfold fP fT; rw [q]; simp
      rw [e1, e2, Bool.or_false, Int.add_zero, Int.add_zero]
      have hne : c.1.toList ≠ x.2.toList := by unfold mt at q; intro e; rw [e] at q; simp at q
      rw [← ih]
      unfold gF
      split
      · rfl
      · unfold updS; rw [if_neg hne]
    · obtain ⟨_, he⟩ := mt_val hC hc q
      obtain ⟨n1, n2⟩ := nt1_is (m := m) hC hw hc q
      have e1 : fN way m c x = oN way m c x := by unfold fN; rw [q]; rfl
      have e2 : fP way m c x = if way = 2 then 0 else oT way m c x := by unfold fP fT; rw [q]; simp
      have hs : x.2.toList = c.1.toList := by unfold mt at q; simpa using q
      have hx : x.2 = c.1 := ba_ext' hs
      unfold gF
      rw [he, if_neg (by decide), Bool.or_true, if_pos rfl, e1, e2, ← n1, ← n2]
      unfold updS
      rw [if_pos hs.symm, hs, hx, ih]
      cases z : oc c L k
      · obtain ⟨z1, z2⟩ := hz z
        rw [z1, z2]
        simp [z0]
      · simp
/-- the sum of a code, as the reference gives it. -/
def rS (way m : Int) (L : List Ln) (c : Cd) : Sm := (c.1, pS (fN way m c) L L.length, if way = 2 then (onV (pS (fN way m c) L L.length) c.2.2.1 c.2.2.2 m).1 else pS (fT way m c) L L.length)
def rO (way m : Int) (L : List Ln) (C : List Cd) : List Sm := C.filterMap (fun c => if oc c L L.length = true then some (rS way m L c) else none)
theorem rO_is {way m : Int} {C : List Cd} {L : List Ln} (hC : codesB C = true) (hw : 1 ≤ way ∧ way ≤ 3) : inO way m (gK way m C L) C = rO way m L C := by
  unfold inO rO
  refine filt_congr C fun c hc => ?_
  have h := gK_is (way := way) (m := m) (L := L) hC hw hc L.length (Nat.le_refl _)
  rw [List.take_length] at h
  rw [h]
  cases q : oc c L L.length
  · rfl
  · rw [if_pos rfl, if_pos rfl, Option.map_some]
    congr 1
    unfold one1 rS
    by_cases hw2 : way = 2
    · rw [if_pos hw2, if_pos hw2]
    · rw [if_neg hw2, if_neg hw2]
      congr 2
      have : fP way m c = fT way m c := by funext x; unfold fP; rw [if_neg hw2]
      rw [this]
/-- the net amount of line i behind the first k codes. -/
def nK (way m : Int) (C : List Cd) (x : Ln) : Nat → Int
  | 0 => x.1
  | k + 1 => if mt (C.getD k nC) x = true then oN way m (C.getD k nC) x else nK way m C x k
theorem nK_none {way m : Int} {C : List Cd} {x : Ln} : ∀ k, (∀ j, j < k → mt (C.getD j nC) x = false) → nK way m C x k = x.1
  | 0, _ => rfl
  | k + 1, h => by unfold nK; rw [h k (by omega)]; exact nK_none k (fun j hj => h j (by omega))
theorem nK_is {way m : Int} {C : List Cd} {x : Ln} (hC : codesB C = true) (hw : 1 ≤ way ∧ way ≤ 3) (hx : lnE C x = 0) : nK way m C x C.length = ntF way m C x := by
  have hs := codes_srt hC
  unfold ntF
  split
  · rename_i he
    refine nK_none _ (fun j hj => ?_)
    cases q : mt (C.getD j nC) x
    · rfl
    · rw [getC hj] at q
      have := (mt_val hC (List.getElem_mem hj) q).2
      rw [he] at this; cases this
  · rename_i hne
    have hat : atC C x.2 = true := by
      rcases (line_ok hx).2 with q | q
      · exact absurd q hne
      · exact q
    obtain ⟨hi, e⟩ := at_is hat
    have hm : mt C[lowC C x.2] x = true := by unfold mt; rw [e]; simp
    have key : ∀ k, k ≤ C.length → lowC C x.2 < k → nK way m C x k = (nt1 way m C x).1 := by
      intro k
      induction k with
      | zero => intro _ h; omega
      | succ k ih =>
        intro h1 h2
        unfold nK
        rw [getC (show k < C.length by omega)]
        cases q : mt C[k] x
        · simp only [Bool.false_eq_true, if_false]
          refine ih (by omega) ?_
          rcases Nat.lt_or_ge (lowC C x.2) k with z | z
          · exact z
          · have : k = lowC C x.2 := by omega
            subst this
            rw [hm] at q; cases q
        · rw [if_pos rfl]
          exact ((nt1_is (m := m) hC hw (List.getElem_mem _) q).1).symm
    exact key _ (Nat.le_refl _) hi
end Go.Proofs.Ytelahgmnkhkgkaa
