/- What Text and Parse of package accountingref05 return. -/
import Derived.Test.YtaibjmdfkahjjaaDoorFsU
namespace Go.Proofs.YtaibjmdfkahjjaaDoor
open Go.RowKit Go.Sort
set_option linter.unusedVariables false

/-- the ten digits. -/
def tenD : ByteArray := ⟨#[48, 49, 50, 51, 52, 53, 54, 55, 56, 57]⟩
theorem tenD_cut {d : Int} (h1 : 0 ≤ d) (h2 : d < 10) : tenD.extract d.toNat (d + 1).toNat = ⟨#[UInt8.ofNat (48 + d.toNat)]⟩ := by
  obtain ⟨k, rfl⟩ : ∃ k : Nat, d = k := ⟨d.toNat, by omega⟩
  have hk : k < 10 := by omega
  have e1 : ((k : Int)).toNat = k := by omega
  have e2 : ((k : Int) + 1).toNat = k + 1 := by omega
  rw [e1, e2]
  match k, hk with
  | 0, _ => rfl
  | 1, _ => rfl
  | 2, _ => rfl
  | 3, _ => rfl
  | 4, _ => rfl
  | 5, _ => rfl
  | 6, _ => rfl
  | 7, _ => rfl
  | 8, _ => rfl
  | 9, _ => rfl
/-- the last k digits of y. -/
def lowS (y : Int) (k : Nat) : ByteArray := ⟨((text y).drop (4 - k)).toArray⟩
theorem dg4 {n : Nat} (h1 : 1000 ≤ n) (h2 : n ≤ 9999) : (dg n).length = 4 := by
  rw [dg_len, len0_step (by omega), len0_step (by omega), len0_step (by omega)]
  unfold len0; rw [if_pos (by omega)]
theorem pw (m k : Nat) : ((m : Int) / 10 ^ k) = ((m / 10 ^ k : Nat) : Int) := by
  rw [Int.natCast_ediv, Int.natCast_pow]; rfl
theorem pw10 {y : Int} (h : 0 ≤ y) (k : Nat) : (y / 10 ^ k % 10).toNat = y.toNat / 10 ^ k % 10 := by
  obtain ⟨m, rfl⟩ : ∃ m : Nat, y = m := ⟨y.toNat, by omega⟩
  rw [pw, Int.toNat_natCast]
  generalize m / 10 ^ k = q
  omega
theorem pw_b {y : Int} (h : 0 ≤ y) (k : Nat) : 0 ≤ y / 10 ^ k ∧ y / 10 ^ k ≤ y := by
  obtain ⟨m, rfl⟩ : ∃ m : Nat, y = m := ⟨y.toNat, by omega⟩
  rw [pw]
  have := Nat.div_le_self m (10 ^ k)
  generalize m / 10 ^ k = q at *
  omega
theorem lowS_step {y : Int} (h1 : 1000 ≤ y) (h2 : y ≤ 9999) {k : Nat} (hk : k < 4) : (⟨#[UInt8.ofNat (48 + (y / 10 ^ k % 10).toNat)]⟩ : ByteArray) ++ lowS y k = lowS y (k + 1) := by
  have e : (⟨#[UInt8.ofNat (48 + (y / 10 ^ k % 10).toNat)]⟩ ++ lowS y k : ByteArray) = ⟨(UInt8.ofNat (48 + (y / 10 ^ k % 10).toNat) :: (text y).drop (4 - k)).toArray⟩ := by
    unfold lowS
    apply ByteArray.ext
    rw [ByteArray.data_append]
    simp
  rw [e]
  unfold lowS
  have hl : (dg y.toNat).length = 4 := dg4 (by omega) (by omega)
  have hg := dg_get k y.toNat (by omega)
  rw [hl] at hg
  rw [text_nat (by omega)]
  have hd : (dg y.toNat).drop (4 - (k + 1)) = UInt8.ofNat (48 + (y / 10 ^ k % 10).toNat) :: (dg y.toNat).drop (4 - k) := by
    have hlt : 4 - (k + 1) < (dg y.toNat).length := by omega
    rw [List.drop_eq_getElem_cons hlt]
    have e2 : (dg y.toNat)[4 - (k + 1)] = UInt8.ofNat (48 + (y / 10 ^ k % 10).toNat) := by
      have : (dg y.toNat)[4 - (k + 1)]? = some (UInt8.ofNat (48 + (y / 10 ^ k % 10).toNat)) := by
        rw [show 4 - (k + 1) = 4 - 1 - k by omega, hg]
        rw [pw10 (by omega)]
      rw [List.getElem?_eq_getElem hlt] at this
      exact Option.some.inj this
    rw [e2, show 4 - (k + 1) + 1 = 4 - k by omega]
  rw [hd]
theorem lowS_0 {y : Int} (h1 : 1000 ≤ y) (h2 : y ≤ 9999) : lowS y 0 = ⟨#[]⟩ := by
  unfold lowS
  rw [text_nat (by omega), List.drop_of_length_le (by rw [dg4 (by omega) (by omega)]; omega)]
theorem lowS_4 (y : Int) : lowS y 4 = textS y := by unfold lowS textS; simp
theorem lowS_size (y : Int) (h1 : 1000 ≤ y) (h2 : y ≤ 9999) (k : Nat) : (lowS y k).size ≤ 4 := by
  unfold lowS
  rw [← bytes_len, toList_mk, List.length_drop, text_nat (by omega), dg4 (by omega) (by omega)]; omega
theorem two_app (a b : UInt8) (A : ByteArray) : A ++ ⟨#[a]⟩ ++ ⟨#[b]⟩ = A ++ ⟨#[a, b]⟩ := by
  apply ByteArray.ext
  rw [ByteArray.data_append, ByteArray.data_append, ByteArray.data_append]
  apply Array.ext'
  simp

set_option maxHeartbeats 2000000 in
theorem rText_yes (y n : Int) (w : World) (h : notO y n) :
    Calls Tryd.prog 29 #[.agg #[.int .i64 y, .int .i64 n]] w fun e w' => e = .returned (.tuple #[.string (perS y n), .int .i64 0]) ∧ Below w.heap.size w w' := by
  have HI := Lib.hid (fun w => rIn_any y n w)
  rw [decide_eq_true h] at HI
  obtain ⟨a1, a2, a3, a4⟩ := h
  have H0 := Lib.hid (lowS_0 (y := y) (by omega) (by omega))
  go_enter Tryd.func29, Tryd.ntmps29
  go_wp2_with fail
  have P0_1 := Lib.hid (show Cell2 (w.alloc (Obj.cells #[(.int .i64 y), (.int .i64 n)] 25)) (w.heap.size) (.int .i64 y) (.int .i64 n) from by simpa using Cell2.alloc w (.int .i64 y) (.int .i64 n) 25)
  have HB1 := Lib.hid ((Below.refl w.heap.size w).alloc (Nat.le_refl _) (Obj.cells #[(.int .i64 y), (.int .i64 n)] 25))
  generalize (w.alloc (Obj.cells #[(.int .i64 y), (.int .i64 n)] 25)) = W1 at *
  refine (HI.out _).mono ?_
  rintro e W2 ⟨rfl, hb2⟩
  have HB2 := Lib.hid (HB1.out.trans ((hb2).mono HB1.out.size))
  have P0_2 := Lib.hid (P0_1.out.below (hb2) P0_1.out.lt)
  clear HB1 P0_1 hb2
  have lP0_2 := P0_2.out.lt
  have cP0_2_0 := P0_2.out.c0
  have cP0_2_1 := P0_2.out.c1
  go_wp2_with fail
  clear lP0_2 cP0_2_0 cP0_2_1
  go_loopw [5, 6, 7] (fun s m i wr => ∃ k : Nat, k ≤ 4 ∧ i = .int .i64 (k : Int) ∧ m = .int .i64 (y / 10 ^ k) ∧ s = .string (lowS y k) ∧ W2 = wr) (fun _ _ i _ => (4 - intOf i).toNat)
  case atStart => exact ⟨0, by omega, rfl, by simp, by rw [H0.out], rfl⟩
  case round =>
    obtain ⟨k, hk, rfl, rfl, rfl, rfl⟩ := hrel
    have hz := lowS_size y (by omega) (by omega) k
    by_cases hlt : k < 4
    · have HS := Lib.hid (lowS_step (y := y) (by omega) (by omega) hlt)
      have HD := Lib.hid (show y / 10 ^ k / 10 = y / 10 ^ (k + 1) by rw [Int.pow_succ, Int.ediv_ediv_of_nonneg (Int.pow_nonneg (by omega))])
      have hb : 0 ≤ y / 10 ^ k ∧ y / 10 ^ k ≤ 9999 := by have := pw_b (y := y) (by omega) k; omega
      generalize y / 10 ^ k = Q at *
      obtain ⟨hb1, hb2⟩ := hb
      have HC := Lib.hid (tenD_cut (d := Q % 10) (by omega) (by omega))
      unfold tenD at HC
      go_wp2
      go_roundw
      case rel => exact ⟨k + 1, by omega, by go_num, by rw [HD.out], by rw [HC.out, HS.out], by trivial⟩
      case measure => simp [intOf]; omega
    · obtain rfl : k = 4 := by omega
      have HC1 := Lib.hid (tenD_cut (d := n / 10) (by omega) (by omega))
      have HC2 := Lib.hid (tenD_cut (d := n % 10) (by omega) (by omega))
      have HX := Lib.hid (show perS y n = lowS y 4 ++ ⟨#[45]⟩ ++ tenD.extract (n / 10).toNat (n / 10 + 1).toNat ++ tenD.extract (n % 10).toNat (n % 10 + 1).toNat by
        rw [HC1.out, HC2.out, lowS_4, two_app]; rfl)
      unfold tenD at HX
      clear HC1 HC2
      generalize y / 10 ^ 4 = Q at *
      generalize lowS y 4 = L at *
      go_wp2_with fail
      have l0 := cell_regrown P0_2.out.c0
      have l1 := cell_regrown P0_2.out.c1
      refine wp_region_quiet_below (l := _) (by kernel_rfl) (by kernel_rfl) ?_
      repeat (first | go_big_quiet_step (fail))
      refine wpQuiet_nil ?_
      intro w2 hw'
      obtain ⟨⟨dq2, osq2⟩, hw''⟩ := hw'
      have hb2 := below_regrown W2 dq2 osq2
      rw [← hw''] at hb2
      clear hw''
      go_wp2
      go_ret2
      exact ⟨by rw [HX.out]; rfl, HB2.out.trans (hb2.mono HB2.out.size)⟩
set_option maxHeartbeats 400000 in
theorem rText_no (y n : Int) (w : World) (h : ¬ notO y n) :
    Calls Tryd.prog 29 #[.agg #[.int .i64 y, .int .i64 n]] w fun e w' => e = .returned (.tuple #[.string ⟨#[]⟩, .int .i64 16]) ∧ Below w.heap.size w w' := by
  have HI := Lib.hid (fun w => rIn_any y n w)
  rw [decide_eq_false h] at HI
  clear h
  go_enter Tryd.func29, Tryd.ntmps29
  go_wp2_with fail
  have P0_3 := Lib.hid (show Cell2 (w.alloc (Obj.cells #[(.int .i64 y), (.int .i64 n)] 25)) (w.heap.size) (.int .i64 y) (.int .i64 n) from by simpa using Cell2.alloc w (.int .i64 y) (.int .i64 n) 25)
  have HB3 := Lib.hid ((Below.refl w.heap.size w).alloc (Nat.le_refl _) (Obj.cells #[(.int .i64 y), (.int .i64 n)] 25))
  generalize (w.alloc (Obj.cells #[(.int .i64 y), (.int .i64 n)] 25)) = W3 at *
  refine (HI.out _).mono ?_
  rintro e W4 ⟨rfl, hb4⟩
  have HB4 := Lib.hid (HB3.out.trans ((hb4).mono HB3.out.size))
  have P0_4 := Lib.hid (P0_3.out.below (hb4) P0_3.out.lt)
  clear HB3 P0_3 hb4
  go_wp2
  go_ret2
  exact ⟨rfl, HB4.out⟩

/-- the digits that the reference has read. -/
def yP (s : ByteArray) (k : Nat) : Int := (dec (s.toList.take (min k 4)) : Int)
def nP (s : ByteArray) (k : Nat) : Int := (dec ((s.toList.drop 5).take (k - 5)) : Int)
def DigB (s : ByteArray) (k : Nat) : Prop := ∀ j, (h : j < s.size) → j < k → j ≠ 4 → dig s[j] = true
theorem rd_all {s : ByteArray} {a b : Nat} (hb : b ≤ s.size) : rdO (s.extract a b) = true ↔ ∀ j, a ≤ j → j < b → (h : j < s.size) → dig s[j] = true := by
  unfold rdO
  rw [ext_list, List.all_eq_true]
  constructor
  · intro h j h1 h2 h3
    apply h
    rw [List.mem_iff_getElem?]
    refine ⟨j - a, ?_⟩
    rw [List.getElem?_drop, List.getElem?_take, if_pos (by omega), show a + (j - a) = j by omega, at_get h3]
  · intro h x hx
    rw [List.mem_iff_getElem?] at hx
    obtain ⟨i, hi⟩ := hx
    rw [List.getElem?_drop, List.getElem?_take] at hi
    split at hi
    · rename_i hlt
      have h3 : a + i < s.size := by omega
      rw [at_get h3] at hi
      rw [← Option.some.inj hi]
      exact h _ (by omega) hlt h3
    · cases hi
theorem yP_step {s : ByteArray} {k : Nat} (hs : s.size = 7) (hk : k < 4) (hd : dig (s[k]'(by omega)) = true) : yP s (k + 1) = 10 * yP s k + (((s[k]'(by omega)).toNat : Int) - 48) := by
  unfold yP
  rw [show min (k + 1) 4 = k + 1 by omega, show min k 4 = k by omega, take_snoc s k (by omega), dec_snoc]
  have := dig_iff.1 hd
  omega
theorem nP_step {s : ByteArray} {k : Nat} (hs : s.size = 7) (hk : 5 ≤ k) (hk2 : k < 7) (hd : dig (s[k]'(by omega)) = true) : nP s (k + 1) = 10 * nP s k + (((s[k]'(by omega)).toNat : Int) - 48) := by
  unfold nP
  have e : (s.toList.drop 5).take (k + 1 - 5) = (s.toList.drop 5).take (k - 5) ++ [s[k]'(by omega)] := by
    have hl : k - 5 < (s.toList.drop 5).length := by rw [List.length_drop, bytes_len]; omega
    rw [show k + 1 - 5 = k - 5 + 1 by omega, List.take_succ_eq_append_getElem hl]
    congr 2
    rw [List.getElem_drop]
    have := bytes_get s k (by omega) (by rw [bytes_len]; omega)
    rw [← this]
    congr 1
    omega
  rw [e, dec_snoc]
  have := dig_iff.1 hd
  omega
theorem yP_far {s : ByteArray} {k : Nat} (hk : 4 ≤ k) : yP s (k + 1) = yP s k := by
  unfold yP; rw [show min (k + 1) 4 = 4 by omega, show min k 4 = 4 by omega]
theorem nP_near {s : ByteArray} {k : Nat} (hk : k < 5) : nP s (k + 1) = nP s k := by
  unfold nP; rw [show k + 1 - 5 = 0 by omega, show k - 5 = 0 by omega]
theorem yP_b {s : ByteArray} {k : Nat} (hs : s.size = 7) (h : DigB s k) : 0 ≤ yP s k ∧ yP s k ≤ 9999 := by
  unfold yP
  have ha : (s.toList.take (min k 4)).all dig = true := by
    rw [List.all_eq_true]
    intro x hx
    rw [List.mem_iff_getElem?] at hx
    obtain ⟨i, hi⟩ := hx
    rw [List.getElem?_take] at hi
    split at hi
    · rename_i hlt
      rw [at_get (by omega)] at hi
      rw [← Option.some.inj hi]
      exact h i (by omega) (by omega) (by omega)
    · cases hi
  have := dec_small (l := s.toList.take (min k 4)) ha (by rw [List.length_take]; omega) 4
  rw [List.take_of_length_le (by rw [List.length_take]; omega)] at this
  omega
theorem nP_b {s : ByteArray} {k : Nat} (hs : s.size = 7) (h : DigB s k) : 0 ≤ nP s k ∧ nP s k ≤ 9999 := by
  unfold nP
  have ha : ((s.toList.drop 5).take (k - 5)).all dig = true := by
    rw [List.all_eq_true]
    intro x hx
    rw [List.mem_iff_getElem?] at hx
    obtain ⟨i, hi⟩ := hx
    rw [List.getElem?_take] at hi
    split at hi
    · rename_i hlt
      rw [List.getElem?_drop] at hi
      by_cases h3 : 5 + i < s.size
      · rw [at_get h3] at hi
        rw [← Option.some.inj hi]
        exact h (5 + i) h3 (by omega) (by omega)
      · rw [List.getElem?_eq_none (by rw [bytes_len]; omega)] at hi
        cases hi
    · cases hi
  have hl : ((s.toList.drop 5).take (k - 5)).length ≤ 4 := by rw [List.length_take, List.length_drop, bytes_len]; omega
  have := dec_small (l := (s.toList.drop 5).take (k - 5)) ha hl 4
  rw [List.take_of_length_le hl] at this
  omega
theorem p_end {s : ByteArray} (hs : s.size = 7) (h4 : s[4] = 45) (h : DigB s 7) : ptO s ∧ yP s 7 = rdV (s.extract 0 4) ∧ nP s 7 = rdV (s.extract 5 7) := by
  have h1 : rdO (s.extract 0 4) = true := (rd_all (by omega)).2 fun j _ h2 h3 => h j h3 (by omega) (by omega)
  have h2 : rdO (s.extract 5 7) = true := (rd_all (by omega)).2 fun j _ h2 h3 => h j h3 (by omega) (by omega)
  refine ⟨⟨hs, by rw [at_get (by omega), h4], h1, h2⟩, ?_, ?_⟩
  · unfold yP rdV; rw [if_pos h1, ext_list]; simp
  · unfold nP rdV
    rw [if_pos h2, ext_list, List.take_of_length_le (l := s.toList) (by rw [bytes_len]; omega), List.take_of_length_le (by rw [List.length_drop, bytes_len]; omega)]
theorem p_bad {s : ByteArray} {k : Nat} (hs : s.size = 7) (hk : k < s.size) (h4 : k ≠ 4) (hd : dig s[k] = false) : ¬ ptO s := by
  rintro ⟨_, _, h1, h2⟩
  rcases Nat.lt_or_ge k 4 with c | c
  · have := (rd_all (a := 0) (b := 4) (by omega)).1 h1 k (by omega) c hk
    rw [hd] at this; cases this
  · have := (rd_all (a := 5) (b := 7) (by omega)).1 h2 k (by omega) (by omega) hk
    rw [hd] at this; cases this
/-- what the loop of the reference's Parse keeps. -/
def PrI (w : World) (s : ByteArray) (i : Value) (wr : World) : Prop :=
  ∃ k : Nat, k ≤ 7 ∧ i = .int .i64 (k : Int) ∧ DigB s k ∧ Below w.heap.size w wr ∧ Cell2 wr w.heap.size (.int .i64 0) (.int .i64 0) ∧ Cell2 wr (w.heap.size + 1) (.int .i64 (yP s k)) (.int .i64 (nP s k))

set_option maxHeartbeats 2000000 in
theorem rParse_any (s : ByteArray) (w : World) (hs : s.size ≤ maxLen) :
    Calls Tryd.prog 31 #[.string s] w fun e w' => e = .returned (.tuple #[.agg #[.int .i64 (ptY s), .int .i64 (ptN s)], .int .i64 (ptE s)]) ∧ Below w.heap.size w w' := by
  unfold maxLen at hs
  by_cases h1 : s.size = 7
  · have hl : (s.size : Int) = 7 := by omega
    by_cases h2 : s[4] = 45
    · have b2 : (s[4].toNat : Int) = 45 := by rw [h2]; rfl
      have H2 := Lib.hid h2
      clear h2
      go_enter Tryd.func31, Tryd.ntmps31
      go_wp2_with fail
      have P0_5 := Lib.hid (show Cell2 ((w.alloc (Obj.cells #[(.int .i64 0), (.int .i64 0)] 25)).alloc (Obj.cells #[(.int .i64 0), (.int .i64 0)] 25)) (w.heap.size) (.int .i64 0) (.int .i64 0) from by have q := Cell2.alloc w (.int .i64 0) (.int .i64 0) 25; exact q.below (N := w.heap.size + 1) ((Below.refl _ _).alloc (by simp <;> omega) (Obj.cells #[(.int .i64 0), (.int .i64 0)] 25)) (by omega))
      have P1_5 := Lib.hid (show Cell2 ((w.alloc (Obj.cells #[(.int .i64 0), (.int .i64 0)] 25)).alloc (Obj.cells #[(.int .i64 0), (.int .i64 0)] 25)) (w.heap.size + 1) (.int .i64 0) (.int .i64 0) from by simpa using Cell2.alloc (w.alloc (Obj.cells #[(.int .i64 0), (.int .i64 0)] 25)) (.int .i64 0) (.int .i64 0) 25)
      have HB5 := Lib.hid (((Below.refl w.heap.size w).alloc (Nat.le_refl _) (Obj.cells #[(.int .i64 0), (.int .i64 0)] 25)).alloc (by simp) (Obj.cells #[(.int .i64 0), (.int .i64 0)] 25))
      generalize ((w.alloc (Obj.cells #[(.int .i64 0), (.int .i64 0)] 25)).alloc (Obj.cells #[(.int .i64 0), (.int .i64 0)] 25)) = W5 at *
      go_loopw [5] (fun i wr => PrI w s i wr) (fun i _ => (7 - intOf i).toNat)
      case atStart => exact ⟨0, by omega, rfl, fun j _ h => by omega, HB5.out, P0_5.out, P1_5.out⟩
      case round =>
        obtain ⟨k, hk, rfl, hd, hb, hc1, hc2⟩ := hrel
        have HBr := Lib.hid hb
        have R0 := Lib.hid hc1
        have P1 := Lib.hid hc2
        have HDg := Lib.hid hd
        clear hb hc1 hc2 hd
        have by1 := yP_b h1 HDg.out
        have bn1 := nP_b h1 HDg.out
        obtain ⟨by1, by2⟩ := by1
        obtain ⟨bn1, bn2⟩ := bn1
        have lR := R0.out.lt
        have c0 := P1.out.c0
        have c1 := P1.out.c1
        have f0 := P1.out.f0
        have f1 := P1.out.f1
        have r0 := R0.out.c0
        have r1 := R0.out.c1
        have rf0 := R0.out.f0
        have rf1 := R0.out.f1
        by_cases k4 : k = 4
        · subst k4
          have HY := Lib.hid (yP_far (s := s) (k := 4) (by omega))
          have HN := Lib.hid (nP_near (s := s) (k := 4) (by omega))
          generalize yP s 4 = Y at *
          generalize nP s 4 = N at *
          go_wp2
          go_roundw
          case rel => exact ⟨5, by omega, by go_num, fun j h h2 h3 => HDg.out j h (by omega) h3, HBr.out, R0.out, by rw [HY.out, HN.out]; exact P1.out⟩
          case measure => simp [intOf]
        · by_cases k7 : k = 7
          · subst k7
            have he := p_end h1 H2.out HDg.out
            have HI := Lib.hid (fun w => rIn_any (yP s 7) (nP s 7) w)
            have HV := Lib.hid (show (decide (notO (yP s 7) (nP s 7)) = true ∧ ptY s = yP s 7 ∧ ptN s = nP s 7 ∧ ptE s = 0) ∨ (decide (notO (yP s 7) (nP s 7)) = false ∧ ptY s = 0 ∧ ptN s = 0 ∧ ptE s = 16) from by
              obtain ⟨ho, e1, e2⟩ := he
              rw [e1, e2]
              by_cases q : ptX s
              · exact .inl ⟨decide_eq_true q, pt_yes ho q⟩
              · exact .inr ⟨decide_eq_false q, pt_no ho q⟩)
            clear he
            generalize decide (notO (yP s 7) (nP s 7)) = NB at *
            generalize yP s 7 = Y at *
            generalize nP s 7 = N at *
            go_wp2_with fail
            clear c0 c1 f0 f1 r0 r1 rf0 rf1 lR
            refine (HI.out _).mono ?_
            rintro e W9 ⟨rfl, hb⟩
            have HB9 := Lib.hid (HBr.out.trans (hb.mono HBr.out.size))
            have R9 := Lib.hid (R0.out.below hb R0.out.lt)
            have P9 := Lib.hid (P1.out.below hb P1.out.lt)
            clear hb
            have c0 := P9.out.c0
            have c1 := P9.out.c1
            have rf0 := R9.out.f0
            have rf1 := R9.out.f1
            have r0 := R9.out.c0
            have r1 := R9.out.c1
            rcases HV.out with ⟨rfl, gg⟩ | ⟨rfl, gg⟩
            · have HG := Lib.hid gg
              clear HV gg
              go_wp2
              refine bodyPost_ret (v := .tuple #[.agg #[.int .i64 Y, .int .i64 N], .int .i64 0]) ?_ rfl ⟨by rw [HG.out.1, HG.out.2.1, HG.out.2.2], (HB9.out.setCell (p := ⟨w.heap.size, 0, none⟩) (Nat.le_refl _) _).setCell (p := ⟨w.heap.size, 1, none⟩) (Nat.le_refl _) _⟩
              have u0 := ((R9.out.set0 (.int .i64 Y)).set1 (.int .i64 N)).c0
              have u1 := ((R9.out.set0 (.int .i64 Y)).set1 (.int .i64 N)).c1
              rw [results_cell_tmp rfl]
              go_simp
            · have HG := Lib.hid gg
              clear HV gg
              go_wp2
              refine bodyPost_ret (v := .tuple #[.agg #[.int .i64 0, .int .i64 0], .int .i64 16]) ?_ rfl ⟨by rw [HG.out.1, HG.out.2.1, HG.out.2.2], (HB9.out.setCell (p := ⟨w.heap.size, 0, none⟩) (Nat.le_refl _) _).setCell (p := ⟨w.heap.size, 1, none⟩) (Nat.le_refl _) _⟩
              have u0 := ((R9.out.set0 (.int .i64 0)).set1 (.int .i64 0)).c0
              have u1 := ((R9.out.set0 (.int .i64 0)).set1 (.int .i64 0)).c1
              rw [results_cell_tmp rfl]
              go_simp
          · have hks : k < s.size := by omega
            have HG := Lib.hid (fun w => rDigit_any s[k] w)
            by_cases hd : dig s[k] = true
            · have hdb := dig_iff.1 hd
              obtain ⟨hd1, hd2⟩ := hdb
              rw [hd] at HG
              simp only [if_true] at HG
              have HD2 := Lib.hid (show DigB s (k + 1) from fun j h h2 h3 => by
                rcases Nat.lt_or_ge j k with c | c
                · exact HDg.out j h c h3
                · obtain rfl : j = k := by omega
                  exact hd)
              by_cases k3 : k < 4
              · have HY := Lib.hid (yP_step h1 k3 hd)
                have HN := Lib.hid (nP_near (s := s) (k := k) (by omega))
                generalize yP s k = Y at *
                generalize nP s k = N at *
                go_wp2_with fail
                refine (HG.out _).mono ?_
                rintro e w_ ⟨rfl, rfl⟩
                go_wp2
                go_roundw
                case rel =>
                  refine ⟨k + 1, by omega, by go_num, HD2.out, HBr.out.setCell (p := ⟨w.heap.size + 1, 0, none⟩) (by simp) _, R0.out.far (by omega) _ _, ?_⟩
                  rw [HY.out, HN.out]
                  exact P1.out.set0 _
                case measure => simp [intOf]; omega
              · have HY := Lib.hid (yP_far (s := s) (k := k) (by omega))
                have HN := Lib.hid (nP_step h1 (by omega) (by omega) hd)
                generalize yP s k = Y at *
                generalize nP s k = N at *
                go_wp2_with fail
                refine (HG.out _).mono ?_
                rintro e w_ ⟨rfl, rfl⟩
                go_wp2
                go_roundw
                case rel =>
                  refine ⟨k + 1, by omega, by go_num, HD2.out, HBr.out.setCell (p := ⟨w.heap.size + 1, 1, none⟩) (by simp) _, R0.out.far (by omega) _ _, ?_⟩
                  rw [HY.out, HN.out]
                  exact P1.out.set1 _
                case measure => simp [intOf]; omega
            · have hd' : dig s[k] = false := by simpa using hd
              rw [hd'] at HG
              simp only [Bool.false_eq_true, if_false] at HG
              have HF := Lib.hid (pt_form (p_bad h1 hks k4 hd'))
              clear hd hd'
              generalize yP s k = Y at *
              generalize nP s k = N at *
              go_wp2_with fail
              refine (HG.out _).mono ?_
              rintro e w_ ⟨rfl, rfl⟩
              go_wp2
              refine bodyPost_ret (v := .tuple #[.agg #[.int .i64 0, .int .i64 0], .int .i64 5]) ?_ rfl ⟨by rw [HF.out.1, HF.out.2.1, HF.out.2.2], (HBr.out.setCell (p := ⟨w.heap.size, 0, none⟩) (Nat.le_refl _) _).setCell (p := ⟨w.heap.size, 1, none⟩) (Nat.le_refl _) _⟩
              have u0 := ((R0.out.set0 (.int .i64 0)).set1 (.int .i64 0)).c0
              have u1 := ((R0.out.set0 (.int .i64 0)).set1 (.int .i64 0)).c1
              rw [results_cell_tmp rfl]
              go_simp
    · obtain ⟨g1, g2, g3⟩ := pt_form (s := s) (by unfold ptO; rw [at_get (by omega)]; simp [h2])
      rw [g1, g2, g3]
      clear g1 g2 g3
      have b2 : ¬ (s[4].toNat : Int) = 45 := fun h => h2 (byte45.1 h)
      go_enter Tryd.func31, Tryd.ntmps31
      go_wp2
      refine bodyPost_ret (v := .tuple #[.agg #[.int .i64 0, .int .i64 0], .int .i64 5]) ?_ rfl ⟨rfl, (Below.refl _ _).alloc (Nat.le_refl _) _⟩
      rw [results_cell_tmp rfl]
      go_simp
  · obtain ⟨g1, g2, g3⟩ := pt_form (s := s) (by unfold ptO; simp [h1])
    rw [g1, g2, g3]
    clear g1 g2 g3
    have hl : ¬ (s.size : Int) = 7 := by omega
    go_enter Tryd.func31, Tryd.ntmps31
    go_wp2
    refine bodyPost_ret (v := .tuple #[.agg #[.int .i64 0, .int .i64 0], .int .i64 5]) ?_ rfl ⟨rfl, (Below.refl _ _).alloc (Nat.le_refl _) _⟩
    rw [results_cell_tmp rfl]
    go_simp
end Go.Proofs.YtaibjmdfkahjjaaDoor
