/- Sums of cells by package sheet. Written by wip/mk_shi.py. -/
import Derived.Test.YtenhnnfemehbcaaShH
import Derived.Test.YtenhnnfemehbcaaNumX
namespace Go.Proofs.Ytenhnnfemehbcaa
open Go.RowKit Go.Sort
set_option linter.unusedVariables false
set_option linter.unusedSimpArgs false

theorem und_ints : Try.prog.underlying 66 = some (.slice 3) := by kernel_rfl
theorem inf_int : (Try.prog.info? 3).map (fun i => (i.zero, i.size, i.bytes)) = some (some (.int .i64 0), 1, 8) := by kernel_rfl
theorem PaV.congr {w : World} {P n : Nat} {f g : Nat → Value} (h : PaV w P n f) (e : ∀ t, t < n → f t = g t) : PaV w P n g := ⟨h.1, fun t ht => ⟨by rw [← e t ht]; exact (h.2 t ht).1, (h.2 t ht).2⟩⟩
theorem ret_boolS {a b : Bool} (h : a = b) : Ending.returned (.bool a) = .returned (.bool b) := by rw [h]
set_option maxHeartbeats 1000000 in
theorem isSum_any (x : Int) (w : World) : Calls Try.prog 48 #[.int .i64 x] w fun e w' => e = .returned (.bool (okSum x)) ∧ w' = w := by
  unfold okSum
  by_cases h1 : -1000000000000000 ≤ x
  · have k1 : decide (-1000000000000000 ≤ x) = true := by simpa using h1
    by_cases h2 : x ≤ 1000000000000000
    · have k2 : decide (x ≤ 1000000000000000) = true := by simpa using h2
      go_enter Try.func48, Try.ntmps48
      go_wp2
      go_ret
      exact ⟨ret_boolS (by first | rfl | (rw [k1, k2]; rfl)), rfl⟩
    · have k2 : decide (x ≤ 1000000000000000) = false := decide_eq_false h2
      go_enter Try.func48, Try.ntmps48
      go_wp2
      go_ret
      exact ⟨ret_boolS (by first | rfl | (rw [k1, k2]; rfl)), rfl⟩
  · have k1 : decide (-1000000000000000 ≤ x) = false := decide_eq_false h1
    go_enter Try.func48, Try.ntmps48
    go_wp2
    go_ret
    exact ⟨ret_boolS (by first | rfl | (rw [k1]; rfl)), rfl⟩
set_option maxHeartbeats 1000000 in
theorem rFits_any (x : Int) (w : World) : Calls Try.prog 47 #[.int .i64 x] w fun e w' => e = .returned (.bool (okSum x)) ∧ w' = w := by
  unfold okSum
  by_cases h1 : -1000000000000000 ≤ x
  · have k1 : decide (-1000000000000000 ≤ x) = true := by simpa using h1
    by_cases h2 : x ≤ 1000000000000000
    · have k2 : decide (x ≤ 1000000000000000) = true := by simpa using h2
      go_enter Try.func47, Try.ntmps47
      go_wp2
      go_ret
      exact ⟨ret_boolS (by first | rfl | (rw [k1, k2]; rfl)), rfl⟩
    · have k2 : decide (x ≤ 1000000000000000) = false := decide_eq_false h2
      go_enter Try.func47, Try.ntmps47
      go_wp2
      go_ret
      exact ⟨ret_boolS (by first | rfl | (rw [k1, k2]; rfl)), rfl⟩
  · have k1 : decide (-1000000000000000 ≤ x) = false := decide_eq_false h1
    go_enter Try.func47, Try.ntmps47
    go_wp2
    go_ret
    exact ⟨ret_boolS (by first | rfl | (rw [k1]; rfl)), rfl⟩
theorem amountOf_any (a1 a2 a3 a4 a5 : ByteArray) (m n : Int) (w : World) : Calls Try.prog 58 #[.agg #[.string a1, .string a2, .string a3, .string a4, .string a5, .int .i64 m, .int .i64 n]] w fun e w' => e = .returned (.int .i64 m) ∧ Below w.heap.size w w' := by
  have HQ := Lib.hid (Q7.alloc w (.string a1) (.string a2) (.string a3) (.string a4) (.string a5) (.int .i64 m) (.int .i64 n) 37)
  have HB := Lib.hid ((Below.refl w.heap.size w).alloc (Nat.le_refl _) (Obj.cells #[.string a1, .string a2, .string a3, .string a4, .string a5, .int .i64 m, .int .i64 n] 37))
  have x5 := HQ.out.c5
  go_enter Try.func58, Try.ntmps58
  go_wp2
  go_ret
  exact ⟨rfl, HB.out⟩
theorem baseOf_any (a1 a2 a3 a4 a5 : ByteArray) (m n : Int) (w : World) : Calls Try.prog 55 #[.agg #[.string a1, .string a2, .string a3, .string a4, .string a5, .int .i64 m, .int .i64 n]] w fun e w' => e = .returned (.int .i64 n) ∧ Below w.heap.size w w' := by
  have HQ := Lib.hid (Q7.alloc w (.string a1) (.string a2) (.string a3) (.string a4) (.string a5) (.int .i64 m) (.int .i64 n) 37)
  have HB := Lib.hid ((Below.refl w.heap.size w).alloc (Nat.le_refl _) (Obj.cells #[.string a1, .string a2, .string a3, .string a4, .string a5, .int .i64 m, .int .i64 n] 37))
  have x5 := HQ.out.c6
  go_enter Try.func55, Try.ntmps55
  go_wp2
  go_ret
  exact ⟨rfl, HB.out⟩
theorem isEmpty_any (a1 a2 a3 a4 a5 : ByteArray) (m n : Int) (w : World) : Calls Try.prog 44 #[.agg #[.string a1, .string a2, .string a3, .string a4, .string a5, .int .i64 m, .int .i64 n]] w fun e w' => e = .returned (.bool (emp ((a1, a2, a3, a4, a5), m, n))) ∧ Below w.heap.size w w' := by
  have HQ := Lib.hid (Q7.alloc w (.string a1) (.string a2) (.string a3) (.string a4) (.string a5) (.int .i64 m) (.int .i64 n) 37)
  have HB := Lib.hid ((Below.refl w.heap.size w).alloc (Nat.le_refl _) (Obj.cells #[.string a1, .string a2, .string a3, .string a4, .string a5, .int .i64 m, .int .i64 n] 37))
  have x5 := HQ.out.c5
  have x6 := HQ.out.c6
  unfold emp
  by_cases h : m = 0
  · subst h
    go_enter Try.func44, Try.ntmps44
    go_wp2
    go_ret
    exact ⟨ret_boolS (by by_cases z : n = 0 <;> simp [z]), HB.out⟩
  · have h1 : (m == 0) = false := by simpa using h
    go_enter Try.func44, Try.ntmps44
    go_wp2
    go_ret
    exact ⟨ret_boolS (by simp [h]), HB.out⟩
/-- a sum that is not too large, and the error. -/
def suV (x : Int) : Int := if okSum x = true then x else 0
def suE (x : Int) : Int := if okSum x = true then 0 else 4
theorem okSum_is {x : Int} (h : okSum x = true) : fits x = true ∧ fit x = x := by
  unfold okSum at h
  simp at h
  exact ⟨fits_of (by omega) (by omega), fit_of (by omega) (by omega)⟩
theorem fit_yes {x : Int} (h : fits x = true) : fit x = x := by unfold fit; rw [h]; rfl
theorem fit_no {x : Int} (h : fits x = false) : fit x = 0 := by unfold fit; rw [h]; rfl
set_option maxRecDepth 100000 in
set_option maxHeartbeats 1000000 in
theorem sum_amountOf (A : Option Addr) (c : Nat) (L : List Cl) (w : World) (hR : RowS w A L) (hBd : BdS L) (hl : L.length ≤ 2000) :
    Calls Try.prog 54 #[.slice A L.length c, .func (.func 58) #[] #[]] w fun e w' => e = .returned (.tuple #[.int .i64 (suV (amS L)), .int .i64 (suE (amS L))]) ∧ Below w.heap.size w w' := by
  obtain ⟨i0, hi, hz0, hz1, hz2⟩ := info_parts inf_int
  have HR := Lib.hid hR
  have HBd := Lib.hid hBd
  have HI := Lib.hid isSum_any
  obtain ⟨T, hT⟩ : ∃ T, amS L = T := ⟨_, rfl⟩
  rw [hT]
  have HT := Lib.hid hT
  clear hR hBd hT
  go_enter Try.func54, Try.ntmps54
  go_wp2_with (at_make; refine wpList_make_full _ rfl _ _ 66 rfl w.heap.size 3 i0 (.int .i64 0) 1 und_ints hi hz0 hz1 _ _ _ _ L.length rfl rfl rfl rfl ?_ ?_ ?_ ?_)
  · rw [hz2]; omega
  · unfold maxLen; omega
  · exact Nat.le_refl _
  intro w1 hown hgr
  have HL0 := Lib.hid (PaV.made (w := w1) (base := w.heap.size) (P := w.heap.size) (n := L.length) (T := 3) (z := .int .i64 0) (by rw [Nat.mul_one]; exact hown))
  have HB0 := Lib.hid (show Below w.heap.size w w1 from (Below.refl _ _).grown hgr (Nat.le_refl _) (by simp))
  clear hown hgr
  go_wp2_with fail
  go_loopw [15] (fun x wr => ∃ k : Nat, k ≤ L.length ∧ x = .int .i64 k ∧ Hid (PaV wr w.heap.size L.length (fun t => .int .i64 (if t < k then (L.map (fun c => c.2.1))[t]! else 0))) ∧ Hid (Below w.heap.size w wr)) (fun x _ => L.length - (intOf x).toNat)
  case atStart => exact ⟨0, Nat.zero_le _, rfl, Lib.hid (HL0.out.congr fun t _ => by simp), HB0⟩
  case round =>
    clear HL0 HB0
    obtain ⟨k, hk, rfl, HL, HB⟩ := hrel
    by_cases h : k < L.length
    · have h' : (k : Int) < (L.length : Int) := by omega
      have hbs := HB.out.size
      have hP := HL.out.1
      obtain ⟨b, off, rfl, hbl, c0, c1, c2, c3, c4, c5, c6⟩ := (HR.out.below HB.out).at h
      obtain ⟨r1, r2⟩ := HBd.out L[k] (List.getElem_mem h)
      obtain ⟨x, hx⟩ : ∃ x, L[k] = x := ⟨_, rfl⟩
      have HX := Lib.hid (show (L.map (fun c => c.2.1))[k]! = x.2.1 from by rw [getElem!_pos _ _ (by simpa using h), List.getElem_map, hx])
      rw [hx] at c0 c1 c2 c3 c4 c5 c6 r1 r2
      clear hx
      obtain ⟨⟨a1, a2, a3, a4, a5⟩, m, n⟩ := x
      dsimp only at c0 c1 c2 c3 c4 c5 c6 r1 r2
      obtain ⟨r3, r4⟩ := r1
      obtain ⟨r5, r6⟩ := r2
      have hQ := Q7.alloc wr (.string a1) (.string a2) (.string a3) (.string a4) (.string a5) (.int .i64 m) (.int .i64 n) 37
      have ha : Below wr.heap.size wr (wr.alloc (Obj.cells #[.string a1, .string a2, .string a3, .string a4, .string a5, .int .i64 m, .int .i64 n] 37)) := (Below.refl _ _).alloc (Nat.le_refl _) _
      have HLa := Lib.hid (HL.out.below ha hP (Nat.lt_of_lt_of_le hP ha.size))
      have HBa := Lib.hid (HB.out.trans (ha.mono hbs))
      have HF := Lib.hid (fun W => amountOf_any a1 a2 a3 a4 a5 m n W)
      have q0 := hQ.c0
      have q1 := hQ.c1
      have q2 := hQ.c2
      have q3 := hQ.c3
      have q4 := hQ.c4
      have q5 := hQ.c5
      have q6 := hQ.c6
      have hsa : w.heap.size < (wr.alloc (Obj.cells #[.string a1, .string a2, .string a3, .string a4, .string a5, .int .i64 m, .int .i64 n] 37)).heap.size := Nat.lt_of_lt_of_le hP ha.size
      clear hQ ha HL HB
      go_wp2_with fail
      refine (HF.out _).mono ?_
      rintro e w2 ⟨rfl, hb⟩
      have hs2 := Nat.lt_of_lt_of_le hsa hb.size
      have HL2 := Lib.hid (HLa.out.below hb hsa hs2)
      have HB2 := Lib.hid (HBa.out.trans (hb.mono (Nat.le_of_lt hsa)))
      have l0 := (HL2.out.2 k h).1
      have l1 := (HL2.out.2 k h).2
      clear hb HLa HBa HF q0 q1 q2 q3 q4 q5 q6 c0 c1 c2 c3 c4 c5 c6
      have HL3 := Lib.hid (show PaV (w2.setCell ⟨w.heap.size, k, none⟩ (.int .i64 m)) w.heap.size L.length (fun t => .int .i64 (if t < k + 1 then (L.map (fun c => c.2.1))[t]! else 0)) by
        have q := HL2.out.set (g := fun t => .int .i64 (if t < k + 1 then (L.map (fun c => c.2.1))[t]! else 0)) k h (fun t ht e => by by_cases z : t < k; simp [z, show t < k + 1 by omega]; simp [z, show ¬ t < k + 1 by omega])
        rw [if_pos (Nat.lt_succ_self k), HX.out] at q
        exact q)
      have HB3 := Lib.hid (HB2.out.setCell (p := ⟨w.heap.size, k, none⟩) (Nat.le_refl _) (.int .i64 m))
      clear HL2 HB2
      go_wp2
      go_roundw
      case rel => exact ⟨k + 1, by omega, by go_num, HL3, HB3⟩
      case measure => simp [intOf]; omega
    · have h' : ¬ (k : Int) < (L.length : Int) := by omega
      obtain rfl : k = L.length := by omega
      have hrow : Row wr (some ⟨w.heap.size, 0, none⟩) (L.map (fun c => c.2.1)) := by
        refine ⟨fun _ => ⟨w.heap.size, 0, rfl, HL.out.1, fun t ht => ?_⟩, ?_⟩
        · have ht' : t < L.length := by simpa using ht
          have q := (HL.out.2 t ht').1
          rw [Nat.zero_add, q]
          dsimp only
          rw [if_pos ht', getElem!_pos (L.map (fun c => c.2.1)) t ht]
        · intro z hz
          obtain ⟨x, hx, rfl⟩ := List.mem_map.1 hz
          exact (HBd.out x hx).1
      have hs := sum_any _ L.length _ wr hrow (by simpa using hl)
      rw [List.length_map] at hs
      have HS := Lib.hid hs
      clear hrow hs
      rw [show (L.map (fun c => c.2.1)).sum = T from HT.out] at HS
      cases hok : okSum T
      · have HV := Lib.hid (show suV T = 0 ∧ suE T = 4 from by unfold suV suE; rw [hok]; exact ⟨rfl, rfl⟩)
        cases hf : fits T
        · rw [hf, fit_no hf] at HS
          clear hok hf
          go_wp2_with fail
          refine HS.out.mono ?_
          rintro e w_ ⟨rfl, rfl⟩
          go_wp2
          go_ret2
          exact ⟨by (rw [HV.out.1, HV.out.2]; rfl), HB.out⟩
        · rw [hf, fit_yes hf] at HS
          have HI2 := Lib.hid (fun W => HI.out T W)
          rw [hok] at HI2
          clear hok hf
          go_wp2_with fail
          refine HS.out.mono ?_
          rintro e w_ ⟨rfl, rfl⟩
          go_wp2_with fail
          refine (HI2.out _).mono ?_
          rintro e w_ ⟨rfl, rfl⟩
          go_wp2
          go_ret2
          exact ⟨by (rw [HV.out.1, HV.out.2]; rfl), HB.out⟩
      · have HV := Lib.hid (show suV T = T ∧ suE T = 0 from by unfold suV suE; rw [hok]; exact ⟨rfl, rfl⟩)
        obtain ⟨hf, hf2⟩ := okSum_is hok
        rw [hf, hf2] at HS
        have HI2 := Lib.hid (fun W => HI.out T W)
        rw [hok] at HI2
        clear hok hf hf2
        go_wp2_with fail
        refine HS.out.mono ?_
        rintro e w_ ⟨rfl, rfl⟩
        go_wp2_with fail
        refine (HI2.out _).mono ?_
        rintro e w_ ⟨rfl, rfl⟩
        go_wp2
        go_ret2
        exact ⟨by (rw [HV.out.1, HV.out.2]; rfl), HB.out⟩
set_option maxRecDepth 100000 in
set_option maxHeartbeats 1000000 in
theorem sum_baseOf (A : Option Addr) (c : Nat) (L : List Cl) (w : World) (hR : RowS w A L) (hBd : BdS L) (hl : L.length ≤ 2000) :
    Calls Try.prog 54 #[.slice A L.length c, .func (.func 55) #[] #[]] w fun e w' => e = .returned (.tuple #[.int .i64 (suV (baS L)), .int .i64 (suE (baS L))]) ∧ Below w.heap.size w w' := by
  obtain ⟨i0, hi, hz0, hz1, hz2⟩ := info_parts inf_int
  have HR := Lib.hid hR
  have HBd := Lib.hid hBd
  have HI := Lib.hid isSum_any
  obtain ⟨T, hT⟩ : ∃ T, baS L = T := ⟨_, rfl⟩
  rw [hT]
  have HT := Lib.hid hT
  clear hR hBd hT
  go_enter Try.func54, Try.ntmps54
  go_wp2_with (at_make; refine wpList_make_full _ rfl _ _ 66 rfl w.heap.size 3 i0 (.int .i64 0) 1 und_ints hi hz0 hz1 _ _ _ _ L.length rfl rfl rfl rfl ?_ ?_ ?_ ?_)
  · rw [hz2]; omega
  · unfold maxLen; omega
  · exact Nat.le_refl _
  intro w1 hown hgr
  have HL0 := Lib.hid (PaV.made (w := w1) (base := w.heap.size) (P := w.heap.size) (n := L.length) (T := 3) (z := .int .i64 0) (by rw [Nat.mul_one]; exact hown))
  have HB0 := Lib.hid (show Below w.heap.size w w1 from (Below.refl _ _).grown hgr (Nat.le_refl _) (by simp))
  clear hown hgr
  go_wp2_with fail
  go_loopw [15] (fun x wr => ∃ k : Nat, k ≤ L.length ∧ x = .int .i64 k ∧ Hid (PaV wr w.heap.size L.length (fun t => .int .i64 (if t < k then (L.map (fun c => c.2.2))[t]! else 0))) ∧ Hid (Below w.heap.size w wr)) (fun x _ => L.length - (intOf x).toNat)
  case atStart => exact ⟨0, Nat.zero_le _, rfl, Lib.hid (HL0.out.congr fun t _ => by simp), HB0⟩
  case round =>
    clear HL0 HB0
    obtain ⟨k, hk, rfl, HL, HB⟩ := hrel
    by_cases h : k < L.length
    · have h' : (k : Int) < (L.length : Int) := by omega
      have hbs := HB.out.size
      have hP := HL.out.1
      obtain ⟨b, off, rfl, hbl, c0, c1, c2, c3, c4, c5, c6⟩ := (HR.out.below HB.out).at h
      obtain ⟨r1, r2⟩ := HBd.out L[k] (List.getElem_mem h)
      obtain ⟨x, hx⟩ : ∃ x, L[k] = x := ⟨_, rfl⟩
      have HX := Lib.hid (show (L.map (fun c => c.2.2))[k]! = x.2.2 from by rw [getElem!_pos _ _ (by simpa using h), List.getElem_map, hx])
      rw [hx] at c0 c1 c2 c3 c4 c5 c6 r1 r2
      clear hx
      obtain ⟨⟨a1, a2, a3, a4, a5⟩, m, n⟩ := x
      dsimp only at c0 c1 c2 c3 c4 c5 c6 r1 r2
      obtain ⟨r3, r4⟩ := r1
      obtain ⟨r5, r6⟩ := r2
      have hQ := Q7.alloc wr (.string a1) (.string a2) (.string a3) (.string a4) (.string a5) (.int .i64 m) (.int .i64 n) 37
      have ha : Below wr.heap.size wr (wr.alloc (Obj.cells #[.string a1, .string a2, .string a3, .string a4, .string a5, .int .i64 m, .int .i64 n] 37)) := (Below.refl _ _).alloc (Nat.le_refl _) _
      have HLa := Lib.hid (HL.out.below ha hP (Nat.lt_of_lt_of_le hP ha.size))
      have HBa := Lib.hid (HB.out.trans (ha.mono hbs))
      have HF := Lib.hid (fun W => baseOf_any a1 a2 a3 a4 a5 m n W)
      have q0 := hQ.c0
      have q1 := hQ.c1
      have q2 := hQ.c2
      have q3 := hQ.c3
      have q4 := hQ.c4
      have q5 := hQ.c5
      have q6 := hQ.c6
      have hsa : w.heap.size < (wr.alloc (Obj.cells #[.string a1, .string a2, .string a3, .string a4, .string a5, .int .i64 m, .int .i64 n] 37)).heap.size := Nat.lt_of_lt_of_le hP ha.size
      clear hQ ha HL HB
      go_wp2_with fail
      refine (HF.out _).mono ?_
      rintro e w2 ⟨rfl, hb⟩
      have hs2 := Nat.lt_of_lt_of_le hsa hb.size
      have HL2 := Lib.hid (HLa.out.below hb hsa hs2)
      have HB2 := Lib.hid (HBa.out.trans (hb.mono (Nat.le_of_lt hsa)))
      have l0 := (HL2.out.2 k h).1
      have l1 := (HL2.out.2 k h).2
      clear hb HLa HBa HF q0 q1 q2 q3 q4 q5 q6 c0 c1 c2 c3 c4 c5 c6
      have HL3 := Lib.hid (show PaV (w2.setCell ⟨w.heap.size, k, none⟩ (.int .i64 n)) w.heap.size L.length (fun t => .int .i64 (if t < k + 1 then (L.map (fun c => c.2.2))[t]! else 0)) by
        have q := HL2.out.set (g := fun t => .int .i64 (if t < k + 1 then (L.map (fun c => c.2.2))[t]! else 0)) k h (fun t ht e => by by_cases z : t < k; simp [z, show t < k + 1 by omega]; simp [z, show ¬ t < k + 1 by omega])
        rw [if_pos (Nat.lt_succ_self k), HX.out] at q
        exact q)
      have HB3 := Lib.hid (HB2.out.setCell (p := ⟨w.heap.size, k, none⟩) (Nat.le_refl _) (.int .i64 n))
      clear HL2 HB2
      go_wp2
      go_roundw
      case rel => exact ⟨k + 1, by omega, by go_num, HL3, HB3⟩
      case measure => simp [intOf]; omega
    · have h' : ¬ (k : Int) < (L.length : Int) := by omega
      obtain rfl : k = L.length := by omega
      have hrow : Row wr (some ⟨w.heap.size, 0, none⟩) (L.map (fun c => c.2.2)) := by
        refine ⟨fun _ => ⟨w.heap.size, 0, rfl, HL.out.1, fun t ht => ?_⟩, ?_⟩
        · have ht' : t < L.length := by simpa using ht
          have q := (HL.out.2 t ht').1
          rw [Nat.zero_add, q]
          dsimp only
          rw [if_pos ht', getElem!_pos (L.map (fun c => c.2.2)) t ht]
        · intro z hz
          obtain ⟨x, hx, rfl⟩ := List.mem_map.1 hz
          exact (HBd.out x hx).2
      have hs := sum_any _ L.length _ wr hrow (by simpa using hl)
      rw [List.length_map] at hs
      have HS := Lib.hid hs
      clear hrow hs
      rw [show (L.map (fun c => c.2.2)).sum = T from HT.out] at HS
      cases hok : okSum T
      · have HV := Lib.hid (show suV T = 0 ∧ suE T = 4 from by unfold suV suE; rw [hok]; exact ⟨rfl, rfl⟩)
        cases hf : fits T
        · rw [hf, fit_no hf] at HS
          clear hok hf
          go_wp2_with fail
          refine HS.out.mono ?_
          rintro e w_ ⟨rfl, rfl⟩
          go_wp2
          go_ret2
          exact ⟨by (rw [HV.out.1, HV.out.2]; rfl), HB.out⟩
        · rw [hf, fit_yes hf] at HS
          have HI2 := Lib.hid (fun W => HI.out T W)
          rw [hok] at HI2
          clear hok hf
          go_wp2_with fail
          refine HS.out.mono ?_
          rintro e w_ ⟨rfl, rfl⟩
          go_wp2_with fail
          refine (HI2.out _).mono ?_
          rintro e w_ ⟨rfl, rfl⟩
          go_wp2
          go_ret2
          exact ⟨by (rw [HV.out.1, HV.out.2]; rfl), HB.out⟩
      · have HV := Lib.hid (show suV T = T ∧ suE T = 0 from by unfold suV suE; rw [hok]; exact ⟨rfl, rfl⟩)
        obtain ⟨hf, hf2⟩ := okSum_is hok
        rw [hf, hf2] at HS
        have HI2 := Lib.hid (fun W => HI.out T W)
        rw [hok] at HI2
        clear hok hf hf2
        go_wp2_with fail
        refine HS.out.mono ?_
        rintro e w_ ⟨rfl, rfl⟩
        go_wp2_with fail
        refine (HI2.out _).mono ?_
        rintro e w_ ⟨rfl, rfl⟩
        go_wp2
        go_ret2
        exact ⟨by (rw [HV.out.1, HV.out.2]; rfl), HB.out⟩
end Go.Proofs.Ytenhnnfemehbcaa
