/- What light and lives of package accountinglaw09 return. -/
import Derived.Test.YtjoinifjkpaapaaDoorDiR
import Derived.Lib.SmallJoins
namespace Go.Proofs.YtjoinifjkpaapaaDoor
open Go.RowKit Go.Sort
set_option linter.unusedVariables false
set_option linter.unusedSimpArgs false

/-- the tags L lie where the slice with address A begins, however long their strings are. -/
def RowG (w : World) (A : Option Addr) (L : List Tg) : Prop :=
  0 < L.length → ∃ b off, A = some ⟨b, off, none⟩ ∧ b < w.heap.size ∧ ∀ i, (h : i < L.length) → w.cell? ⟨b, off + i * 2, none⟩ = some (.string L[i].1) ∧ w.cell? ⟨b, off + i * 2 + 1, none⟩ = some (.string L[i].2)
theorem RowG.below {w w' : World} {A : Option Addr} {L : List Tg} (h : RowG w A L) (hb : Below w.heap.size w w') : RowG w' A L := by
  intro h0
  obtain ⟨b, off, e, hl, hc⟩ := h h0
  exact ⟨b, off, e, Nat.lt_of_lt_of_le hl hb.size, fun i hi => ⟨by rw [hb.cell hl]; exact (hc i hi).1, by rw [hb.cell hl]; exact (hc i hi).2⟩⟩
def ligT (L : List Tg) : Bool := decide (L.length ≤ 20) && L.all (fun t => decide (t.1.size ≤ 100) && decide (t.2.size ≤ 100))
theorem ligT_row {w : World} {A : Option Addr} {L : List Tg} (hG : RowG w A L) (h : ligT L = true) : RowT w A L ∧ L.length ≤ 20 := by
  unfold ligT at h
  rw [Bool.and_eq_true, List.all_eq_true] at h
  refine ⟨⟨hG, fun t ht => ?_⟩, by simpa using h.1⟩
  have := h.2 t ht
  simp at this
  omega
theorem lig_bad {L : List Tg} {k : Nat} (hk : k < L.length) (h : 100 < L[k].1.size ∨ 100 < L[k].2.size) : ligT L = false := by
  unfold ligT
  have : L.all (fun t => decide (t.1.size ≤ 100) && decide (t.2.size ≤ 100)) = false := by
    rw [List.all_eq_false]
    refine ⟨L[k], List.getElem_mem hk, ?_⟩
    rcases h with q | q <;> simp <;> omega
  rw [this, Bool.and_false]
theorem lig_good {L : List Tg} (h0 : L.length ≤ 20) (h : ∀ i, (hi : i < L.length) → L[i].1.size ≤ 100 ∧ L[i].2.size ≤ 100) : ligT L = true := by
  unfold ligT
  rw [Bool.and_eq_true, List.all_eq_true]
  refine ⟨by simpa using h0, fun t ht => ?_⟩
  obtain ⟨i, hi, rfl⟩ := List.getElem_of_mem ht
  have := h i hi
  simp; omega
set_option maxHeartbeats 2000000 in
theorem light_any (A : Option Addr) (c : Nat) (L : List Tg) (w : World) (hG : RowG w A L) :
    Calls Tryd.prog 8 #[.slice A L.length c] w fun e w' => e = .returned (.bool (ligT L)) ∧ w = w' := by
  have HG := Lib.hid hG
  clear hG
  by_cases h20 : 20 < L.length
  · have h20' : (20 : Int) < (L.length : Int) := by omega
    have HE := Lib.hid (show ligT L = false by unfold ligT; rw [decide_eq_false (by omega), Bool.false_and])
    go_enter Tryd.func8, Tryd.ntmps8
    go_wp2
    go_ret
    exact ⟨ret_bool (by rw [HE.out]), rfl⟩
  · have h20' : ¬ (20 : Int) < (L.length : Int) := by omega
    go_enter Tryd.func8, Tryd.ntmps8
    go_wp2
    go_loop [3] (fun x => ∃ k : Nat, k ≤ L.length ∧ x = .int .i64 k ∧ Hid (∀ i, i < k → (h : i < L.length) → L[i].1.size ≤ 100 ∧ L[i].2.size ≤ 100)) (fun x => L.length - (intOf x).toNat)
    case atStart => exact ⟨0, Nat.zero_le _, rfl, Lib.hid (fun i hi => by omega)⟩
    case round =>
      obtain ⟨k, hk, rfl, HK⟩ := hrel
      by_cases h : k < L.length
      · have h' : (k : Int) < (L.length : Int) := by omega
        obtain ⟨b, off, rfl, hl, hc⟩ := HG.out (by omega)
        obtain ⟨c0, c1⟩ := hc k h
        have HB := Lib.hid (fun q => lig_bad (L := L) h q)
        have HK2 := Lib.hid (show L[k].1.size ≤ 100 ∧ L[k].2.size ≤ 100 → ∀ i, i < k + 1 → (h : i < L.length) → L[i].1.size ≤ 100 ∧ L[i].2.size ≤ 100 from fun q i hi hl => by
          by_cases e : i = k
          · subst e; exact q
          · exact HK.out i (by omega) hl)
        obtain ⟨S, hS⟩ : ∃ S, L[k].1 = S := ⟨_, rfl⟩
        obtain ⟨T, hT⟩ : ∃ T, L[k].2 = T := ⟨_, rfl⟩
        rw [hS] at c0 HB HK2
        rw [hT] at c1 HB HK2
        clear hS hT hc
        by_cases q1 : 100 < S.size
        · have q1' : (100 : Int) < (S.size : Int) := by omega
          have HE := Lib.hid (HB.out (.inl q1))
          go_wp2
          go_ret
          exact ⟨ret_bool (by rw [HE.out]), rfl⟩
        · have q1' : ¬ (100 : Int) < (S.size : Int) := by omega
          by_cases q2 : 100 < T.size
          · have q2' : (100 : Int) < (T.size : Int) := by omega
            have HE := Lib.hid (HB.out (.inr q2))
            go_wp2
            go_ret
            exact ⟨ret_bool (by rw [HE.out]), rfl⟩
          · have q2' : ¬ (100 : Int) < (T.size : Int) := by omega
            have HK3 := Lib.hid (HK2.out ⟨by omega, by omega⟩)
            go_wp2
            go_round
            case rel => exact ⟨k + 1, by omega, by go_num, HK3⟩
            case measure => simp [intOf]; omega
      · have h' : ¬ (k : Int) < (L.length : Int) := by omega
        have HE := Lib.hid (lig_good (by omega) (fun i hi => HK.out i (by omega) hi))
        go_wp2
        go_ret
        exact ⟨ret_bool (by rw [HE.out]), rfl⟩
def tA : Tg := (⟨#[100, 101, 112, 116]⟩, ⟨#[120]⟩)
def tB : Tg := (⟨#[112, 114, 111, 106]⟩, ⟨#[55]⟩)
theorem Pr2.set0 {w : World} {B : Nat} {a b : Value} (h : Pr2 w B a b) (v : Value) : Pr2 (w.setCell ⟨B, 0, none⟩ v) B v b :=
  ⟨by show B < (w.heap.modify _ _).size; rw [Array.size_modify]; exact h.lt, World.cell?_setCell_same _ _ _ h.c0, by rw [World.cell?_setCell_other _ _ _ _ (by simp)]; exact h.c1⟩
theorem Pr2.set1 {w : World} {B : Nat} {a b : Value} (h : Pr2 w B a b) (v : Value) : Pr2 (w.setCell ⟨B, 1, none⟩ v) B a v :=
  ⟨by show B < (w.heap.modify _ _).size; rw [Array.size_modify]; exact h.lt, by rw [World.cell?_setCell_other _ _ _ _ (by simp)]; exact h.c0, World.cell?_setCell_same _ _ _ h.c1⟩
theorem Pr2.far {w : World} {B B' : Nat} {a b : Value} (h : Pr2 w B a b) (hB : B ≠ B') (j : Nat) (v : Value) : Pr2 (w.setCell ⟨B', j, none⟩ v) B a b :=
  ⟨by show B < (w.heap.modify _ _).size; rw [Array.size_modify]; exact h.lt, by rw [World.cell?_setCell_other _ _ _ _ (by intro h; cases h; exact hB rfl)]; exact h.c0, by rw [World.cell?_setCell_other _ _ _ _ (by intro h; cases h; exact hB rfl)]; exact h.c1⟩
theorem row_two2 (w : World) (s t : Tg) (ty : TypeId) (hs : s.1.size ≤ 400 ∧ s.2.size ≤ 400) (ht : t.1.size ≤ 400 ∧ t.2.size ≤ 400) : RowT (w.alloc (Obj.cells #[.string s.1, .string s.2, .string t.1, .string t.2] ty)) (some ⟨w.heap.size, 0, none⟩) [s, t] := by
  refine ⟨fun _ => ⟨_, 0, rfl, by simp, fun i hi => ?_⟩, fun x hx => ?_⟩
  · have : i = 0 ∨ i = 1 := by simp at hi; omega
    rcases this with rfl | rfl
    · exact ⟨by rw [World.cell?_alloc_at _ _ _ _ rfl]; rfl, by rw [World.cell?_alloc_at _ _ _ _ rfl]; rfl⟩
    · exact ⟨by rw [World.cell?_alloc_at _ _ _ _ rfl]; rfl, by rw [World.cell?_alloc_at _ _ _ _ rfl]; rfl⟩
  · simp at hx
    rcases hx with rfl | rfl
    · exact hs
    · exact ht
def lvS : List UInt8 := [100, 101, 112, 116, 61, 120, 44, 112, 114, 111, 106, 61, 55]
def lvR : List UInt8 := [112, 114, 111, 106, 61, 55, 44, 100, 101, 112, 116, 61, 120]
theorem lv1 : mkR [tB, tA] = ([tA, tB], 0) := by decide +kernel
theorem lv2 : mkR [tA, tA] = ([], 8) := by decide +kernel
theorem lv3 : rightT [tA, tB] = true := by decide +kernel
theorem lv4 : txT [tA, tB] = lvS := by decide +kernel
theorem lv5 : paR lvS = ([tA, tB], 0) := by decide +kernel
theorem lv6 : paR lvR = ([], 5) := by decide +kernel
theorem lv7 : getV [tA, tB] ⟨#[112, 114, 111, 106]⟩ = (⟨#[55]⟩, true) := by decide +kernel
theorem lv8 : matchT [(⟨#[100, 101, 112, 116]⟩, ⟨#[42]⟩)] [tA, tB] = true := by decide +kernel
theorem lv9 : matchT [(⟨#[100, 101, 112, 116]⟩, ⟨#[121]⟩)] [tA, tB] = false := by decide +kernel
set_option maxRecDepth 100000 in
set_option maxHeartbeats 3000000 in
theorem lives_any (w : World) : Calls Tryd.prog 9 #[] w fun e w' => e = .returned (.bool true) ∧ Below w.heap.size w w' := by
  have bA : tA.1.size ≤ 400 ∧ tA.2.size ≤ 400 := by decide
  have bB : tB.1.size ≤ 400 ∧ tB.2.size ≤ 400 := by decide
  have HM1 := Lib.hid (fun W A (h : RowT W A [tB, tA]) => make_any A 2 [tB, tA] W h (by decide))
  rw [lv1] at HM1
  have HM2 := Lib.hid (fun W A (h : RowT W A [tA, tA]) => make_any A 2 [tA, tA] W h (by decide))
  rw [lv2] at HM2
  have HTx := Lib.hid (fun W A c (h : RowT W A [tA, tB]) => text_any A c [tA, tB] W h (by decide))
  rw [lv3, if_pos rfl, if_pos rfl, lv4, show bs lvS = (⟨#[100, 101, 112, 116, 61, 120, 44, 112, 114, 111, 106, 61, 55]⟩ : ByteArray) from rfl] at HTx
  have HP1 := Lib.hid (fun W => parse_any ⟨#[100, 101, 112, 116, 61, 120, 44, 112, 114, 111, 106, 61, 55]⟩ W (by decide))
  rw [show (⟨#[100, 101, 112, 116, 61, 120, 44, 112, 114, 111, 106, 61, 55]⟩ : ByteArray).toList = lvS from ByteArray.toList_mk _, lv5] at HP1
  have HP2 := Lib.hid (fun W => parse_any ⟨#[112, 114, 111, 106, 61, 55, 44, 100, 101, 112, 116, 61, 120]⟩ W (by decide))
  rw [show (⟨#[112, 114, 111, 106, 61, 55, 44, 100, 101, 112, 116, 61, 120]⟩ : ByteArray).toList = lvR from ByteArray.toList_mk _, lv6] at HP2
  have HGe := Lib.hid (fun W A c (h : RowT W A [tA, tB]) => get_any A c [tA, tB] ⟨#[112, 114, 111, 106]⟩ W h (by decide))
  rw [lv7] at HGe
  have HSa := Lib.hid (fun W A B c d (h : RowT W A [tA, tB]) (k : RowT W B [tA, tB]) => same_any A B c d [tA, tB] [tA, tB] W h k (by decide) (by decide))
  rw [decide_eq_true (rfl : [tA, tB] = [tA, tB])] at HSa
  have HMa := Lib.hid (fun W A B c d (h : RowT W A [(⟨#[100, 101, 112, 116]⟩, ⟨#[42]⟩)]) (k : RowT W B [tA, tB]) => match_any A B c d [(⟨#[100, 101, 112, 116]⟩, ⟨#[42]⟩)] [tA, tB] W h k (by decide) (by decide))
  rw [lv8] at HMa
  have HMb := Lib.hid (fun W A B c d (h : RowT W A [(⟨#[100, 101, 112, 116]⟩, ⟨#[121]⟩)]) (k : RowT W B [tA, tB]) => match_any A B c d [(⟨#[100, 101, 112, 116]⟩, ⟨#[121]⟩)] [tA, tB] W h k (by decide) (by decide))
  rw [lv9] at HMb
  have hbAB : ∀ t ∈ [tA, tB], t.1.size ≤ 400 ∧ t.2.size ≤ 400 := by intro t ht; simp at ht; rcases ht with rfl | rfl; exact bA; exact bB
  have HbAB := Lib.hid hbAB
  clear hbAB
  have hB0 := ((Below.refl w.heap.size w).alloc (Nat.le_refl _) (Obj.cells #[.string tA.1, .string tA.2] 32)).alloc (by simp) (Obj.cells #[.string tB.1, .string tB.2] 32)
  have hPB := Pr2.alloc (w.alloc (Obj.cells #[.string tA.1, .string tA.2] 32)) (.string tB.1) (.string tB.2) 32
  have hPA := (Pr2.alloc w (.string tA.1) (.string tA.2) 32).below ((Below.refl _ _).alloc (Nat.le_refl _) (Obj.cells #[.string tB.1, .string tB.2] 32))
  rw [World.size_alloc] at hPB
  go_enter Tryd.func9, Tryd.ntmps9
  go_wp2_with fail
  obtain ⟨W0, hW0⟩ : ∃ W0, (w.alloc (Obj.cells #[.string tA.1, .string tA.2] 32)).alloc (Obj.cells #[.string tB.1, .string tB.2] 32) = W0 := ⟨_, rfl⟩
  have hsz : W0.heap.size = w.heap.size + 1 + 1 := by rw [← hW0]; simp
  rw [hW0] at hB0 hPB hPA
  have HB0 := Lib.hid hB0
  have HPA := Lib.hid hPA
  have HPB := Lib.hid hPB
  have hR0 := row_two2 W0 tB tA 32 bB bA
  have hb0 : Below W0.heap.size W0 (W0.alloc (Obj.cells #[.string tB.1, .string tB.2, .string tA.1, .string tA.2] 32)) := (Below.refl _ _).alloc (Nat.le_refl _) _
  rw [hsz] at hR0
  have HR0 := Lib.hid hR0
  have HB1 := Lib.hid (HB0.out.trans (hb0.mono HB0.out.size))
  have HPA1 := Lib.hid (HPA.out.below hb0)
  have HPB1 := Lib.hid (HPB.out.below hb0)
  rw [← hW0] at HR0 HB1 HPA1 HPB1
  clear hB0 hPB hPA hR0 hb0 hsz HB0 HPA HPB hW0
  unfold tA tB at HR0 HB1 HPA1 HPB1
  refine (HM1.out _ _ HR0.out).mono ?_
  rintro e W1 ⟨v, rfl, ho, hb⟩
  have HB2 := Lib.hid (HB1.out.trans (hb.mono HB1.out.size))
  have HPA2 := Lib.hid (HPA1.out.below hb)
  have HPB2 := Lib.hid (HPB1.out.below hb)
  have HO1 := Lib.hid ho
  obtain ⟨ao, cap, hv, _, _⟩ := ho.shape
  have hv : v = .slice ao 2 cap := hv
  subst hv
  clear ho hb
  have HRo := Lib.hid (HO1.out.row HbAB.out)
  go_wp2_with fail
  refine (HTx.out _ _ _ HRo.out).mono ?_
  rintro e W2 ⟨rfl, hb⟩
  have HB3 := Lib.hid (HB2.out.trans (hb.mono HB2.out.size))
  have HPA3 := Lib.hid (HPA2.out.below hb)
  have HPB3 := Lib.hid (HPB2.out.below hb)
  have HRo3 := Lib.hid (HRo.out.below hb)
  clear hb
  go_wp2_with fail
  refine (HP1.out _).mono ?_
  rintro e W3 ⟨v2, rfl, ho, hb⟩
  have HB4 := Lib.hid (HB3.out.trans (hb.mono HB3.out.size))
  have HPA4 := Lib.hid (HPA3.out.below hb)
  have HPB4 := Lib.hid (HPB3.out.below hb)
  have HRo4 := Lib.hid (HRo3.out.below hb)
  obtain ⟨ao2, cap2, hv, _, _⟩ := ho.shape
  have hv : v2 = .slice ao2 2 cap2 := hv
  subst hv
  have HRp4 := Lib.hid (ho.row HbAB.out)
  clear ho hb
  go_wp2_with fail
  refine (HP2.out _).mono ?_
  rintro e W4 ⟨v3, rfl, ho, hb⟩
  have HB5 := Lib.hid (HB4.out.trans (hb.mono HB4.out.size))
  have HPA5 := Lib.hid (HPA4.out.below hb)
  have HPB5 := Lib.hid (HPB4.out.below hb)
  have HRo5 := Lib.hid (HRo4.out.below hb)
  have HRp5 := Lib.hid (HRp4.out.below hb)
  clear ho hb
  go_wp2_with fail
  refine (HGe.out _ _ _ HRo5.out).mono ?_
  rintro e W5 ⟨rfl, hb⟩
  have HB6 := Lib.hid (HB5.out.trans (hb.mono HB5.out.size))
  have hPA6 := HPA5.out.below hb
  have HPA6 := Lib.hid hPA6
  have HPB6 := Lib.hid (HPB5.out.below hb)
  have HRo6 := Lib.hid (HRo5.out.below hb)
  have HRp6 := Lib.hid (HRp5.out.below hb)
  have l0 := hPA6.c0
  have l1 := hPA6.c1
  clear hPA6 hb
  go_wp2_with fail
  have HR6 := Lib.hid (row_two2 W5 tA tA 32 bA bA)
  have hb6 : Below W5.heap.size W5 (W5.alloc (Obj.cells #[.string tA.1, .string tA.2, .string tA.1, .string tA.2] 32)) := (Below.refl _ _).alloc (Nat.le_refl _) _
  refine (HM2.out _ _ HR6.out).mono ?_
  rintro e W6 ⟨v4, rfl, ho, hb⟩
  have hb := hb6.trans (hb.mono hb6.size)
  have HB7 := Lib.hid (HB6.out.trans (hb.mono HB6.out.size))
  have hPA7 := HPA6.out.below hb
  have HPA7 := Lib.hid hPA7
  have hPB7 := HPB6.out.below hb
  have HPB7 := Lib.hid hPB7
  have HRo7 := Lib.hid (HRo6.out.below hb)
  have HRp7 := Lib.hid (HRp6.out.below hb)
  have m0 := hPA7.c0
  have m1 := hPA7.c1
  have m2 := hPB7.c0
  have m3 := hPB7.c1
  clear hPA7 hPB7 hb ho hb6 l0 l1
  go_wp2_with fail
  have HR7 := Lib.hid (row_two2 W6 tA tB 32 bA bB)
  have hb7 : Below W6.heap.size W6 (W6.alloc (Obj.cells #[.string tA.1, .string tA.2, .string tB.1, .string tB.2] 32)) := (Below.refl _ _).alloc (Nat.le_refl _) _
  refine (HSa.out _ _ _ _ _ (HRo7.out.below hb7) HR7.out).mono ?_
  rintro e W7 ⟨rfl, hb⟩
  have hb := hb7.trans (hb.mono hb7.size)
  have HB8 := Lib.hid (HB7.out.trans (hb.mono HB7.out.size))
  have HRo8 := Lib.hid (HRo7.out.below hb)
  have HRp8 := Lib.hid (HRp7.out.below hb)
  clear hb hb7 m0 m1 m2 m3
  go_wp2_with fail
  refine (HSa.out _ _ _ _ _ HRp8.out HRo8.out).mono ?_
  rintro e W8 ⟨rfl, hb⟩
  have HB9 := Lib.hid (HB8.out.trans (hb.mono HB8.out.size))
  have HRo9 := Lib.hid (HRo8.out.below hb)
  clear hb
  go_wp2_with fail
  have HR9 := Lib.hid (row_one W8 ⟨#[100, 101, 112, 116]⟩ ⟨#[42]⟩ 32 (by decide) (by decide))
  have hb9 : Below W8.heap.size W8 (W8.alloc (Obj.cells #[.string ⟨#[100, 101, 112, 116]⟩, .string ⟨#[42]⟩] 32)) := (Below.refl _ _).alloc (Nat.le_refl _) _
  refine (HMa.out _ _ _ _ _ HR9.out (HRo9.out.below hb9)).mono ?_
  rintro e W9 ⟨rfl, hb⟩
  have hb := hb9.trans (hb.mono hb9.size)
  have HB10 := Lib.hid (HB9.out.trans (hb.mono HB9.out.size))
  have HRo10 := Lib.hid (HRo9.out.below hb)
  clear hb hb9
  go_wp2_with fail
  have HR10 := Lib.hid (row_one W9 ⟨#[100, 101, 112, 116]⟩ ⟨#[121]⟩ 32 (by decide) (by decide))
  have hb10 : Below W9.heap.size W9 (W9.alloc (Obj.cells #[.string ⟨#[100, 101, 112, 116]⟩, .string ⟨#[121]⟩] 32)) := (Below.refl _ _).alloc (Nat.le_refl _) _
  refine (HMb.out _ _ _ _ _ HR10.out (HRo10.out.below hb10)).mono ?_
  rintro e W10 ⟨rfl, hb⟩
  have hb := hb10.trans (hb.mono hb10.size)
  have HB11 := Lib.hid (HB10.out.trans (hb.mono HB10.out.size))
  clear hb hb10
  go_wp2
  go_ret
  exact ⟨rfl, HB11.out⟩
end Go.Proofs.YtjoinifjkpaapaaDoor
