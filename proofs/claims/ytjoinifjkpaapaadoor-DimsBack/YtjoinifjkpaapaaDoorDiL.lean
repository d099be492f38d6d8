/- How strings are compared; the search of package slices at tags. -/
import Derived.Test.YtjoinifjkpaapaaDoorDiK
namespace Go.Proofs.YtjoinifjkpaapaaDoor
open Go.RowKit Go.Sort
set_option linter.unusedVariables false
set_option linter.unusedSimpArgs false

theorem cb_neg : ∀ (x y : List UInt8), decide (Lib.compareBytes x y < 0) = decide (x < y)
  | [], [] => by simp [Lib.compareBytes]
  | [], b :: y => by simp [Lib.compareBytes]
  | a :: x, [] => by simp [Lib.compareBytes]
  | a :: x, b :: y => by
    have ih := cb_neg x y
    rw [Lib.compareBytes]
    simp only [List.cons_lt_cons_iff]
    by_cases h1 : a < b
    · simp [h1]
    · by_cases h2 : b < a
      · have h3 : ¬ a = b := fun e => by subst e; exact h1 h2
        simp [h1, h2, h3]
      · have h3 : a = b := UInt8.le_antisymm (UInt8.not_lt.1 h2) (UInt8.not_lt.1 h1)
        subst h3
        simpa [h1] using ih
theorem cb_zero : ∀ (x y : List UInt8), Lib.compareBytes x y = 0 ↔ x = y
  | [], [] => by simp [Lib.compareBytes]
  | [], b :: y => by simp [Lib.compareBytes]
  | a :: x, [] => by simp [Lib.compareBytes]
  | a :: x, b :: y => by
    have ih := cb_zero x y
    rw [Lib.compareBytes]
    by_cases h1 : a < b
    · have h3 : ¬ a = b := fun e => by subst e; exact UInt8.lt_irrefl _ h1
      simp [h1, h3]
    · by_cases h2 : b < a
      · have h3 : ¬ a = b := fun e => by subst e; exact h1 h2
        simp [h1, h2, h3]
      · have h3 : a = b := UInt8.le_antisymm (UInt8.not_lt.1 h2) (UInt8.not_lt.1 h1)
        subst h3
        simpa [h1] using ih
theorem cb_lt {x y : List UInt8} (h : Op.bytesLess x y = true) : Lib.compareBytes x y < 0 := by
  rw [bytes_lt, ← cb_neg] at h; simpa using h
theorem cb_ge {x y : List UInt8} (h : Op.bytesLess x y = false) : ¬ Lib.compareBytes x y < 0 := by
  rw [bytes_lt, ← cb_neg] at h; simpa using h
theorem ltS_trans {a b c : ByteArray} (h1 : ltS a b = true) (h2 : ltS b c = true) : ltS a c = true := by
  unfold ltS at *
  rw [bytes_lt, decide_eq_true_iff] at *
  exact List.lt_trans h1 h2
theorem ltS_tri {a b : ByteArray} (h1 : ltS a b = false) (h2 : ¬ a.toList = b.toList) : ltS b a = true := by
  unfold ltS at *
  rw [bytes_lt] at *
  have h1 : ¬ a.toList < b.toList := by simpa using h1
  apply decide_eq_true
  apply Classical.byContradiction
  intro q
  exact h2 (List.le_antisymm (List.not_lt.1 q) (List.not_lt.1 h1))
theorem ltS_irr {a : ByteArray} : ltS a a = false := by
  unfold ltS
  rw [bytes_lt]
  exact decide_eq_false (List.lt_irrefl _)
/-- in increasing order of names. -/
def SrtT (L : List Tg) : Prop := L.Pairwise (fun a b => ltS a.1 b.1 = true)
theorem right_srt {L : List Tg} (h : rightT L = true) : SrtT L := by
  unfold rightT at h
  rw [Bool.and_eq_true, List.all_eq_true] at h
  have hs : ∀ i, i + 1 < L.length → ltS (L.getD i nT).1 (L.getD (i + 1) nT).1 = true := by
    intro i hi
    have := h.2 (i + 1) (List.mem_range.2 hi)
    unfold okI at this
    rw [Bool.and_eq_true] at this
    have q := this.2
    simpa using q
  have hk : ∀ d i, i + d + 1 < L.length → ltS (L.getD i nT).1 (L.getD (i + d + 1) nT).1 = true := by
    intro d
    induction d with
    | zero => intro i hi; exact hs i (by omega)
    | succ d ih => intro i hi; exact ltS_trans (ih i (by omega)) (hs (i + d + 1) (by omega))
  unfold SrtT
  rw [List.pairwise_iff_getElem]
  intro i j hi hj hij
  have := hk (j - i - 1) i (by omega)
  rw [show i + (j - i - 1) + 1 = j by omega, getD_at hi, getD_at hj] at this
  exact this
theorem SrtT.mono {L : List Tg} (h : SrtT L) {nm : ByteArray} {i j : Nat} (hij : i ≤ j) (hj : j < L.length) (q : ltS L[j].1 nm = true) : ltS (L[i]'(by omega)).1 nm = true := by
  rcases Nat.lt_or_ge i j with k | k
  · exact ltS_trans (List.pairwise_iff_getElem.1 h i j (by omega) hj k) q
  · have e : i = j := by omega
    subst e; exact q
theorem low_all {L : List Tg} {nm : ByteArray} {i : Nat} (hi : i < lowI L nm) (hl : i < L.length) : ltS L[i].1 nm = true := by
  have := List.not_of_lt_findIdx (p := fun x : Tg => !(ltS x.1 nm)) (xs := L) hi
  simpa using this
theorem low_is {L : List Tg} {nm : ByteArray} {i : Nat} (hi : i ≤ L.length) (h1 : ∀ k, k < i → (hk : k < L.length) → ltS L[k].1 nm = true) (h2 : i < L.length → ltS (L.getD i nT).1 nm = false) : lowI L nm = i := by
  have hle : i ≤ lowI L nm := by
    apply Classical.byContradiction
    intro q
    have hlt : lowI L nm < L.length := by omega
    have := List.findIdx_getElem (p := fun x : Tg => !(ltS x.1 nm)) (xs := L) (w := hlt)
    have q2 := h1 (lowI L nm) (by omega) hlt
    have this : (!(ltS L[lowI L nm].1 nm)) = true := this
    rw [q2] at this; cases this
  rcases Nat.lt_or_ge i L.length with hlt | hge
  · exact lowI_at hlt hle (by have := h2 hlt; rwa [getD_at hlt] at this)
  · have := lowI_le L nm; omega
theorem put_srt {L : List Tg} {t : Tg} (h : SrtT L) : SrtT (putT L t) := by
  have hg := List.pairwise_iff_getElem.1 h
  have hup : ∀ k, upI L t.1 ≤ k → (hk : k < L.length) → ltS t.1 L[k].1 = true := by
    intro k hk hl
    unfold upI at hk
    split at hk
    · rename_i q
      have q1 := q.1
      have e := q.2
      rw [getD_at q1] at e
      have e2 : L[lowI L t.1].1 = t.1 := ba_ext e
      rw [← e2]
      exact hg (lowI L t.1) k q1 hl (by omega)
    · rename_i q
      have hlow : lowI L t.1 < L.length := by omega
      have hne : ltS L[lowI L t.1].1 t.1 = false := by
        have := List.findIdx_getElem (p := fun x : Tg => !(ltS x.1 t.1)) (xs := L) (w := hlow)
        have this : (!(ltS L[lowI L t.1].1 t.1)) = true := this
        simpa using this
      have hlt := ltS_tri hne (fun e => q ⟨hlow, by rw [getD_at hlow]; exact e⟩)
      rcases Nat.lt_or_ge (lowI L t.1) k with z | z
      · exact ltS_trans hlt (hg _ k hlow hl z)
      · have e : lowI L t.1 = k := by omega
        subst e; exact hlt
  have hlo : ∀ x ∈ L.take (lowI L t.1), ltS x.1 t.1 = true := by
    intro x hx
    obtain ⟨i, hi, rfl⟩ := List.getElem_of_mem hx
    rw [List.length_take] at hi
    rw [List.getElem_take]
    exact low_all (by omega) (by omega)
  have hhi : ∀ x ∈ L.drop (upI L t.1), ltS t.1 x.1 = true := by
    intro x hx
    obtain ⟨i, hi, rfl⟩ := List.getElem_of_mem hx
    rw [List.length_drop] at hi
    rw [List.getElem_drop]
    exact hup _ (by omega) (by omega)
  unfold SrtT putT
  rw [List.append_assoc, List.pairwise_append]
  refine ⟨h.sublist (List.take_sublist _ _), ?_, ?_⟩
  · rw [List.singleton_append, List.pairwise_cons]
    exact ⟨hhi, h.sublist (List.drop_sublist _ _)⟩
  · intro a ha b hb
    rw [List.singleton_append, List.mem_cons] at hb
    rcases hb with rfl | hb
    · exact hlo a ha
    · exact ltS_trans (hlo a ha) (hhi b hb)
/-- the name at the place of nm is nm. -/
def atI (L : List Tg) (nm : ByteArray) : Bool := decide (lowI L nm < L.length) && ((L.getD (lowI L nm) nT).1.toList == nm.toList)
theorem upI_at (L : List Tg) (nm : ByteArray) : upI L nm = if atI L nm = true then lowI L nm + 1 else lowI L nm := by
  unfold upI atI
  by_cases h1 : lowI L nm < L.length <;> by_cases h2 : (L.getD (lowI L nm) nT).1.toList = nm.toList <;> simp [h1, h2]
set_option maxHeartbeats 2000000 in
theorem pcmp_any (a b nm : ByteArray) (w : World) :
    Calls Tryd.prog 35 #[.agg #[.string a, .string b], .string nm] w fun e w' => e = .returned (.int .i64 (Lib.compareBytes a.toList nm.toList)) ∧ Below w.heap.size w w' := by
  have H1 := Lib.hid (fun W => Tryd.strings_Compare a nm W)
  rw [show a.data.toList = a.toList from (ByteArray.toList_eq a).symm, show nm.data.toList = nm.toList from (ByteArray.toList_eq nm).symm] at H1
  have hp := Pr2.alloc w (.string a) (.string b) 32
  have l0 := hp.c0
  have l1 := hp.c1
  have HB := Lib.hid ((Below.refl w.heap.size w).alloc (Nat.le_refl _) (Obj.cells #[.string a, .string b] 32))
  clear hp
  go_enter Tryd.func35, Tryd.ntmps35
  go_wp2_with fail
  refine (H1.out _).mono ?_
  rintro e w2 ⟨rfl, rfl⟩
  go_wp2
  go_ret
  exact ⟨rfl, HB.out⟩
set_option maxRecDepth 100000 in
set_option maxHeartbeats 3000000 in
theorem bsf_any (A : Option Addr) (c : Nat) (L : List Tg) (nm : ByteArray) (w : World) (hR : RowT w A L) (hn : L.length ≤ 100) (hS : SrtT L) :
    Calls Tryd.prog 34 #[.slice A L.length c, .string nm, .func (.func 35) #[] #[]] w fun e w' => e = .returned (.tuple #[.int .i64 (lowI L nm : Int), .bool (atI L nm)]) ∧ Below w.heap.size w w' := by
  have HR := Lib.hid hR
  have HMo := Lib.hid (fun i j (hij : i ≤ j) (hj : j < L.length) (q : ltS L[j].1 nm = true) => hS.mono hij hj q)
  have HC := Lib.hid (fun a b W => pcmp_any a b nm W)
  have HAt := Lib.hid (show atI L nm = (decide (lowI L nm < L.length) && ((L.getD (lowI L nm) nT).1.toList == nm.toList)) from rfl)
  clear hR hS
  go_enter Tryd.func34, Tryd.ntmps34
  go_wp2
  go_loopw [9, 10] (fun x y wr => ∃ i j : Nat, i ≤ j ∧ j ≤ L.length ∧ x = .int .i64 i ∧ y = .int .i64 j ∧ Hid (∀ k, k < i → (hk : k < L.length) → ltS L[k].1 nm = true) ∧ Hid (∀ k, j ≤ k → (hk : k < L.length) → ltS L[k].1 nm = false) ∧ Hid (Below w.heap.size w wr)) (fun x y _ => (intOf y).toNat - (intOf x).toNat)
  case atStart => exact ⟨0, L.length, by omega, by omega, rfl, rfl, Lib.hid (fun k hk => by omega), Lib.hid (fun k hk hl => by omega), Lib.hid (Below.refl _ _)⟩
  case round =>
    obtain ⟨i, j, hij, hj, rfl, rfl, HI, HJ, HB⟩ := hrel
    by_cases h : i < j
    · have h' : (i : Int) < (j : Int) := by omega
      obtain ⟨z, hz, z1, z2⟩ : ∃ z : Nat, ((i : Int) + (j : Int)) / 2 = (z : Int) ∧ i ≤ z ∧ z < j := ⟨(i + j) / 2, by omega, by omega, by omega⟩
      have hzL : z < L.length := by omega
      obtain ⟨b, off, rfl, hl, hc⟩ := (HR.out.below HB.out).1 (by omega)
      obtain ⟨c0, c1⟩ := hc z hzL
      have HY := Lib.hid (fun (q : ltS L[z].1 nm = true) => fun k (hk : k < z + 1) (hkl : k < L.length) => HMo.out k z (by omega) hzL q)
      have HN := Lib.hid (fun (q : ltS L[z].1 nm = false) => fun k (hk : z ≤ k) (hkl : k < L.length) => show ltS L[k].1 nm = false from by
        cases p : ltS L[k].1 nm
        · rfl
        · rw [HMo.out z k hk hkl p] at q; cases q)
      obtain ⟨S, hS⟩ : ∃ S, L[z].1 = S := ⟨_, rfl⟩
      obtain ⟨T, hT⟩ : ∃ T, L[z].2 = T := ⟨_, rfl⟩
      rw [hS] at c0 HY HN
      rw [hT] at c1
      clear hS hT hc HMo
      go_wp2_with fail
      refine (HC.out _ _ _).mono ?_
      rintro e w2 ⟨rfl, hb⟩
      have HB2 := Lib.hid (HB.out.trans (hb.mono HB.out.size))
      clear hb c0 c1
      cases q : ltS S nm
      · have q' := cb_ge (show Op.bytesLess S.toList nm.toList = false from q)
        have HN2 := Lib.hid (HN.out q)
        clear HY HN q
        generalize Lib.compareBytes S.toList nm.toList = cm at *
        go_wp2
        go_roundw
        case rel => exact ⟨i, z, z1, by omega, rfl, rfl, HI, HN2, HB2⟩
        case measure => simp [intOf]; omega
      · have q' := cb_lt (show Op.bytesLess S.toList nm.toList = true from q)
        have HY2 := Lib.hid (HY.out q)
        clear HY HN q
        generalize Lib.compareBytes S.toList nm.toList = cm at *
        go_wp2
        go_roundw
        case rel => exact ⟨z + 1, j, by omega, hj, by go_num, rfl, HY2, HJ, HB2⟩
        case measure => simp [intOf]; omega
    · have h' : ¬ (i : Int) < (j : Int) := by omega
      have e : i = j := by omega
      have HLo := Lib.hid (low_is (by omega) HI.out (fun q => by rw [getD_at q]; exact HJ.out i (by omega) q))
      clear HMo HI HJ
      by_cases hi : i < L.length
      · have hi' : (i : Int) < (L.length : Int) := by omega
        obtain ⟨b, off, rfl, hl, hc⟩ := (HR.out.below HB.out).1 (by omega)
        obtain ⟨c0, c1⟩ := hc i hi
        have HG := Lib.hid (getD_at hi)
        obtain ⟨S, hS⟩ : ∃ S, L[i].1 = S := ⟨_, rfl⟩
        obtain ⟨T, hT⟩ : ∃ T, L[i].2 = T := ⟨_, rfl⟩
        rw [hS] at c0
        rw [hT] at c1
        have HAt2 := Lib.hid (show atI L nm = (S.toList == nm.toList) by rw [HAt.out, HLo.out, HG.out, hS, decide_eq_true hi, Bool.true_and])
        clear hS hT hc HG HAt
        subst e
        go_wp2_with fail
        refine (HC.out _ _ _).mono ?_
        rintro e w2 ⟨rfl, hb⟩
        have HB2 := Lib.hid (HB.out.trans (hb.mono HB.out.size))
        have HZ := Lib.hid (show (Lib.compareBytes S.toList nm.toList == 0) = (S.toList == nm.toList) by
          rw [Bool.eq_iff_iff]; simp [cb_zero])
        clear hb c0 c1
        generalize Lib.compareBytes S.toList nm.toList = cm at *
        go_wp2
        go_ret2
        exact ⟨by rw [HLo.out, HAt2.out, ← HZ.out]; rfl, HB2.out⟩
      · have hi' : ¬ (i : Int) < (L.length : Int) := by omega
        have HAt2 := Lib.hid (show atI L nm = false by rw [HAt.out, HLo.out, decide_eq_false hi, Bool.false_and])
        subst e
        go_wp2
        go_ret2
        exact ⟨by rw [HLo.out, HAt2.out]; rfl, HB.out⟩
end Go.Proofs.YtjoinifjkpaapaaDoor
