/- What Text of package accountingref07 returns; the statement MoneyTexts. -/
import Derived.Test.YtbiicdpmilplmaaDoorMoU
import Derived.Test.YtbiicdpmilplmaaDoorNumR
namespace Go.Proofs.YtbiicdpmilplmaaDoor
open Go.RowKit Go.Sort
set_option linter.unusedVariables false

theorem abs_rs {A d : Int} (h1 : 0 ≤ A) (h2 : A ≤ 1000000000000000) (d1 : 0 ≤ d) (d2 : d ≤ 4) : rsF (absS A d) d ∧ rsV (absS A d) d = A ∧ (absS A d).size ≤ 40 ∧ isNeg (absS A d).toList = false := by
  have hl := abs_list h1 d1 d2
  obtain ⟨hw, hf, hd⟩ := form_rs d1 hl (back_len _ _) (dg_notn _) (back_all _ _)
  refine ⟨hf, ?_, ?_, ?_⟩
  · unfold rsV
    rw [hd]
    have e : dec (if d = 0 then dg (A.toNat / 10 ^ d.toNat) else dg (A.toNat / 10 ^ d.toNat) ++ backL d.toNat A.toNat) = A.toNat := by
      split
      · rename_i h; subst h
        simp [dec_dg]
      · exact dec_pad _ _
    rw [e]
    unfold capM
    rw [if_pos (by omega)]; omega
  · rw [← bytes_len, hl, List.length_append]
    have a1 := dg_len20 (n := A.toNat / 10 ^ d.toNat) (Nat.le_trans (Nat.div_le_self _ _) (by omega))
    split
    · simp; omega
    · simp [back_len]; omega
  · rw [hl]
    obtain ⟨x, hx1, hx2, _⟩ := dg_head (A.toNat / 10 ^ d.toNat)
    unfold isNeg
    have e : (dg (A.toNat / 10 ^ d.toNat) ++ if d = 0 then [] else 46 :: backL d.toNat A.toNat).head? = some (UInt8.ofNat (48 + x)) := by
      have hp := dg_pos (A.toNat / 10 ^ d.toNat)
      cases hq : dg (A.toNat / 10 ^ d.toNat) with
      | nil => rw [hq] at hp; simp at hp
      | cons a t => rw [hq] at hx2; simpa using hx2
    rw [e]
    have : UInt8.ofNat (48 + x) ≠ 45 := by
      intro h
      have := congrArg UInt8.toNat h
      rw [byte48add hx1] at this
      simp at this
      omega
    simpa using this
theorem neg_rest (X : ByteArray) : isNeg (⟨#[45]⟩ ++ X).toList = true ∧ restOf (⟨#[45]⟩ ++ X) = X := by
  have hl : (⟨#[45]⟩ ++ X).toList = 45 :: X.toList := by rw [app_list2, toList_mk [45]]; rfl
  have h1 : isNeg (⟨#[45]⟩ ++ X).toList = true := by rw [hl]; rfl
  refine ⟨h1, ?_⟩
  rw [restOf_yes h1]
  have : ((⟨#[45]⟩ ++ X).extract 1 (⟨#[45]⟩ ++ X).size).toList = X.toList := by
    rw [ext_list, ← bytes_len, List.take_length, hl]; rfl
  rw [ByteArray.toList_eq, ByteArray.toList_eq] at this
  exact ByteArray.ext (Array.ext' this)
theorem amt_back {a d : Int} (hs : sumO a) (hd : digO d) : (amtS a d).size ≤ maxLen ∧ rsF (restOf (amtS a d)) d ∧ rsV (restOf (amtS a d)) d = absI a ∧ isNeg (amtS a d).toList = decide (a < 0) := by
  obtain ⟨s1, s2⟩ := hs
  obtain ⟨d1, d2⟩ := hd
  unfold amtS absI maxLen
  by_cases h : a < 0
  · rw [if_pos h, if_pos h, decide_eq_true h]
    obtain ⟨k1, k2, k3, k4⟩ := abs_rs (A := -a) (by omega) (by omega) d1 d2
    obtain ⟨n1, n2⟩ := neg_rest (absS (-a) d)
    rw [n1, n2]
    refine ⟨?_, k1, k2, rfl⟩
    rw [ByteArray.size_append]
    have : (⟨#[45]⟩ : ByteArray).size = 1 := rfl
    omega
  · rw [if_neg h, if_neg h, decide_eq_false h]
    obtain ⟨k1, k2, k3, k4⟩ := abs_rs (A := a) (by omega) (by omega) d1 d2
    rw [restOf_no k4]
    exact ⟨by omega, k1, k2, k4⟩
theorem mParse_back (a d : Int) (w : World) (hs : sumO a) (hd : digO d) :
    Calls Tryd.prog 22 #[.string (amtS a d), .int .i64 d] w fun e w' => e = .returned (.tuple #[.int .i64 a, .int .i64 0]) ∧ Below w.heap.size w w' := by
  obtain ⟨k1, k2, k3, k4⟩ := amt_back hs hd
  have h := mParse_ok (amtS a d) d w k1 hd k2 (by rw [k3]; unfold sumO absI at *; split <;> omega) (by rw [k3, k4]; unfold absI; simp; intro h; split <;> omega)
  have e : (if isNeg (amtS a d).toList = true then -(rsV (restOf (amtS a d)) d) else rsV (restOf (amtS a d)) d) = a := by
    rw [k3, k4]; unfold absI; simp; split <;> omega
  rw [e] at h
  exact h
set_option maxHeartbeats 400000 in
theorem mText_arg (a d : Int) (w : World) (hd : ¬ digO d) :
    Calls Tryd.prog 20 #[.int .i64 a, .int .i64 d] w fun e w' => e = .returned (.tuple #[.string ⟨#[]⟩, .int .i64 2]) ∧ Below w.heap.size w w' := by
  have H1 := Lib.hid (fun w => isDigits_any d w)
  rw [decide_eq_false hd] at H1
  clear hd
  go_enter Tryd.func20, Tryd.ntmps20
  go_wp2_with fail
  refine (H1.out _).mono ?_
  rintro e w_ ⟨rfl, rfl⟩
  go_wp2
  go_ret2
  exact ⟨rfl, Below.refl _ _⟩
set_option maxHeartbeats 400000 in
theorem mText_over (a d : Int) (w : World) (hd : digO d) (hs : ¬ sumO a) :
    Calls Tryd.prog 20 #[.int .i64 a, .int .i64 d] w fun e w' => e = .returned (.tuple #[.string ⟨#[]⟩, .int .i64 4]) ∧ Below w.heap.size w w' := by
  have H1 := Lib.hid (fun w => isDigits_any d w)
  rw [decide_eq_true hd] at H1
  have H2 := Lib.hid (fun w => isSum_any a w)
  rw [decide_eq_false hs] at H2
  clear hd hs
  go_enter Tryd.func20, Tryd.ntmps20
  go_wp2_with fail
  refine (H1.out _).mono ?_
  rintro e w_ ⟨rfl, rfl⟩
  go_wp2_with fail
  refine (H2.out _).mono ?_
  rintro e w_ ⟨rfl, rfl⟩
  go_wp2
  go_ret2
  exact ⟨rfl, Below.refl _ _⟩

/-- the digits of A, with k zeros ahead. -/
def zeS (k : Nat) (l : List UInt8) : ByteArray := ⟨(List.replicate k 48 ++ l).toArray⟩
theorem zeS_list (k : Nat) (l : List UInt8) : (zeS k l).toList = List.replicate k 48 ++ l := toList_mk _
theorem zeS_size (k : Nat) (l : List UInt8) : (zeS k l).size = k + l.length := by
  rw [← bytes_len, zeS_list]; simp
theorem zeS_step (k : Nat) (l : List UInt8) : ⟨#[48]⟩ ++ zeS k l = zeS (k + 1) l := by
  apply ByteArray.ext
  rw [ByteArray.data_append]
  unfold zeS
  simp [List.replicate_succ]
theorem bytes_ext {a b : ByteArray} (h : a.toList = b.toList) : a = b := by
  rw [ByteArray.toList_eq, ByteArray.toList_eq] at h
  exact ByteArray.ext (Array.ext' h)
/-- the padded digits, cut d digits ahead of their end. -/
theorem zeS_cut {A d : Int} {k : Nat} (hA : 0 ≤ A) (d1 : 0 < d) (d2 : d ≤ 4) (hk : k = d.toNat + 1 - (dg A.toNat).length) :
    (zeS k (dg A.toNat)).extract 0 (((zeS k (dg A.toNat)).size : Int) - d).toNat ++ ⟨#[46]⟩ ++ (zeS k (dg A.toNat)).extract (((zeS k (dg A.toNat)).size : Int) - d).toNat (zeS k (dg A.toNat)).size = absS A d := by
  apply bytes_ext
  have hs : (zeS k (dg A.toNat)).toList = dg (A.toNat / 10 ^ d.toNat) ++ backL d.toNat A.toNat := by
    rw [zeS_list, hk]; exact pad_split _ _
  have hz : (zeS k (dg A.toNat)).size = (dg (A.toNat / 10 ^ d.toNat)).length + d.toNat := by
    rw [← bytes_len, hs, List.length_append, back_len]
  rw [abs_list hA (by omega) d2, if_neg (by omega), app_list2, app_list2, ext_list, ext_list, toList_mk [46], hs, hz]
  have e : ((((dg (A.toNat / 10 ^ d.toNat)).length + d.toNat : Nat) : Int) - d).toNat = (dg (A.toNat / 10 ^ d.toNat)).length := by omega
  rw [e, List.drop_zero, List.take_left, List.take_of_length_le (by rw [List.length_append, back_len]; omega), List.drop_left, List.append_assoc]
  rfl
theorem zeS_whole {A : Int} {k : Nat} (hA : 0 ≤ A) (hk : k = 0 + 1 - (dg A.toNat).length) : zeS k (dg A.toNat) = absS A 0 := by
  apply bytes_ext
  have := dg_pos A.toNat
  rw [zeS_list, abs_list hA (by omega) (by omega), if_pos rfl, show k = 0 by omega]
  simp
def szOf : Value → Nat
  | .string s => s.size
  | _ => 0
theorem neg_cut {A : Int} (h : 0 < A) (h2 : A ≤ 1000000000000000) : (textS (-A)).extract 1 (textS (-A)).size = zeS 0 (dg A.toNat) ∧ 1 ≤ (textS (-A)).size ∧ (textS (-A)).size ≤ 30 := by
  have e : text (-A) = 45 :: dg A.toNat := by unfold text; rw [if_pos (by omega), show (-A).natAbs = A.toNat by omega]
  refine ⟨?_, ?_, ?_⟩
  · apply bytes_ext
    rw [ext_list, textS_size, textS_list, e, zeS_list, List.take_length]
    rfl
  · rw [textS_size, e]; simp
  · have := textS_size21 (n := -A) (by omega) (by omega); omega
set_option maxHeartbeats 2000000 in
theorem rfText_p0 (A : Int) (w : World) (h1 : 0 ≤ A) (h2 : A ≤ 1000000000000000) :
    Calls Tryd.prog 21 #[.int .i64 A, .int .i64 0] w fun e w' => e = .returned (.tuple #[.string (amtS A 0), .int .i64 0]) ∧ Below w.heap.size w w' := by
  have H1 := Lib.hid (fun w => large_any A w)
  rw [decide_eq_true (by unfold sumO; omega)] at H1
  have H2 := Lib.hid (fun w => rText_any A w (by omega) (by omega))
  have e0 : textS A = zeS 0 (dg A.toNat) := by unfold textS zeS; rw [text_nat h1]; rfl
  rw [e0] at H2
  clear e0
  have hneg : ¬ A < 0 := by omega
  have HA := Lib.hid (show amtS A 0 = absS A 0 from if_neg (by omega))
  have hl := dg_pos A.toNat
  have hl2 := dg_len20 (n := A.toNat) (by omega)
  have HC := Lib.hid (fun k (hk : k = 0 + 1 - (dg A.toNat).length) => zeS_whole (A := A) (k := k) (by omega) hk)
  generalize dg A.toNat = l at *
  go_enter Tryd.func21, Tryd.ntmps21
  go_wp2_with fail
  refine (H1.out _).mono ?_
  rintro e w_ ⟨rfl, rfl⟩
  go_wp2_with fail
  refine (H2.out _).mono ?_
  rintro e w_ ⟨rfl, rfl⟩
  go_wp2
  go_loop [6] (fun v => ∃ k : Nat, v = .string (zeS k l) ∧ (k = 0 ∨ k + l.length ≤ (0 : Int).toNat + 1)) (fun v => (0 : Int).toNat + 1 - szOf v)
  case atStart => exact ⟨0, by first | rfl | rw [ec], .inl rfl⟩
  case round =>
    obtain ⟨k, rfl, hk⟩ := hrel
    have hz := zeS_size k l
    by_cases hlt : k + l.length ≤ (0 : Int).toNat
    · exfalso
      have : ((0 : Int)).toNat = 0 := rfl
      omega
    · have q : ¬ ((zeS k l).size : Int) ≤ 0 := by omega
      have hk2 : k = (0 : Int).toNat + 1 - l.length := by omega
      have HC2 := Lib.hid (HC.out k (by simpa using hk2))
      have hz1 : (zeS k l).size ≤ 40 := by omega
      have hz2 : 0 < ((zeS k l).size : Int) := by omega
      have hz3 : ¬ (zeS k l).size = 0 := by omega
      have hz4 : 0 < (zeS k l).size := by omega
      clear HC hk hlt hk2 hz
      generalize zeS k l = S at *
      go_wp2
      go_ret2
      exact ⟨by first | (rw [HA.out, ← HC2.out]; rfl) | (rw [HA.out, ← HC2.out, nil_app]; rfl) | (rw [HA.out, ← HC2.out, ← nil_app S]; rfl), Below.refl _ _⟩
set_option maxHeartbeats 2000000 in
theorem rfText_pd (A d : Int) (w : World) (h1 : 0 ≤ A) (h2 : A ≤ 1000000000000000) (d1 : 0 < d) (d2 : d ≤ 4) :
    Calls Tryd.prog 21 #[.int .i64 A, .int .i64 d] w fun e w' => e = .returned (.tuple #[.string (amtS A d), .int .i64 0]) ∧ Below w.heap.size w w' := by
  have H1 := Lib.hid (fun w => large_any A w)
  rw [decide_eq_true (by unfold sumO; omega)] at H1
  have H2 := Lib.hid (fun w => rText_any A w (by omega) (by omega))
  have e0 : textS A = zeS 0 (dg A.toNat) := by unfold textS zeS; rw [text_nat h1]; rfl
  rw [e0] at H2
  clear e0
  have hneg : ¬ A < 0 := by omega
  have HA := Lib.hid (show amtS A d = absS A d from if_neg (by omega))
  have hl := dg_pos A.toNat
  have hl2 := dg_len20 (n := A.toNat) (by omega)
  have HC := Lib.hid (fun k (hk : k = d.toNat + 1 - (dg A.toNat).length) => zeS_cut (A := A) (d := d) (k := k) (by omega) d1 d2 hk)
  generalize dg A.toNat = l at *
  go_enter Tryd.func21, Tryd.ntmps21
  go_wp2_with fail
  refine (H1.out _).mono ?_
  rintro e w_ ⟨rfl, rfl⟩
  go_wp2_with fail
  refine (H2.out _).mono ?_
  rintro e w_ ⟨rfl, rfl⟩
  go_wp2
  go_loop [6] (fun v => ∃ k : Nat, v = .string (zeS k l) ∧ (k = 0 ∨ k + l.length ≤ (d : Int).toNat + 1)) (fun v => (d : Int).toNat + 1 - szOf v)
  case atStart => exact ⟨0, by first | rfl | rw [ec], .inl rfl⟩
  case round =>
    obtain ⟨k, rfl, hk⟩ := hrel
    have hz := zeS_size k l
    by_cases hlt : k + l.length ≤ (d : Int).toNat
    · have HS := Lib.hid (zeS_step k l)
      have q : ((zeS k l).size : Int) ≤ d := by omega
      have HZ := Lib.hid hz
      have HK := Lib.hid hlt
      clear hk
      generalize zeS k l = S at *
      have q2 : ¬ 9223372036854775807 < 1 + S.size := by omega
      go_wp2
      go_round
      case rel => exact ⟨k + 1, by rw [HS.out], .inr (by have := HK.out; omega)⟩
      case measure =>
        simp only [szOf, ByteArray.size_append]
        have : (⟨#[48]⟩ : ByteArray).size = 1 := rfl
        have := HZ.out
        have := HK.out
        omega
    · have q : ¬ ((zeS k l).size : Int) ≤ d := by omega
      have hk2 : k = (d : Int).toNat + 1 - l.length := by omega
      have HC2 := Lib.hid (HC.out k hk2)
      have hz1 : (zeS k l).size ≤ 40 := by omega
      have hz2 : d < ((zeS k l).size : Int) := by omega
      have hz3 : ¬ (zeS k l).size = 0 := by omega
      have hz4 : 0 < (zeS k l).size := by omega
      clear HC hk hlt hk2 hz
      generalize zeS k l = S at *
      go_wp2_with fail
      refine wp_region_quiet_below (l := _) (by kernel_rfl) (by kernel_rfl) ?_
      repeat (first | go_big_quiet_step (fail))
      refine wpQuiet_nil ?_
      intro w2 hw'
      obtain ⟨⟨dq2, osq2⟩, hw''⟩ := hw'
      have hb2 := below_regrown w dq2 osq2
      rw [← hw''] at hb2
      clear hw''
      go_wp2
      go_ret2
      exact ⟨by first | (rw [HA.out, ← HC2.out]; rfl) | (rw [HA.out, ← HC2.out, ← app3, ← app3]; rfl) | (rw [HA.out, ← HC2.out, ← nil_app (S.extract 0 ((S.size : Int) - d).toNat)]; rfl), hb2⟩
set_option maxHeartbeats 2000000 in
theorem rfText_n0 (A : Int) (w : World) (h1 : 0 < A) (h2 : A ≤ 1000000000000000) :
    Calls Tryd.prog 21 #[.int .i64 (-A), .int .i64 0] w fun e w' => e = .returned (.tuple #[.string (amtS (-A) 0), .int .i64 0]) ∧ Below w.heap.size w w' := by
  have H1 := Lib.hid (fun w => large_any (-A) w)
  rw [decide_eq_true (by unfold sumO; omega)] at H1
  have H2 := Lib.hid (fun w => rText_any (-A) w (by omega) (by omega))
  obtain ⟨ec, es1, es2⟩ := neg_cut h1 h2
  have es3 : (1 : Int) ≤ ((textS (-A)).size : Int) := by omega
  have hneg : -A < 0 := by omega
  have HA := Lib.hid (show amtS (-A) 0 = ⟨#[45]⟩ ++ absS A 0 from by unfold amtS; rw [if_pos (by omega), Int.neg_neg])
  have hl := dg_pos A.toNat
  have hl2 := dg_len20 (n := A.toNat) (by omega)
  have HC := Lib.hid (fun k (hk : k = 0 + 1 - (dg A.toNat).length) => zeS_whole (A := A) (k := k) (by omega) hk)
  generalize textS (-A) = TT at *
  generalize dg A.toNat = l at *
  go_enter Tryd.func21, Tryd.ntmps21
  go_wp2_with fail
  refine (H1.out _).mono ?_
  rintro e w_ ⟨rfl, rfl⟩
  go_wp2_with fail
  refine (H2.out _).mono ?_
  rintro e w_ ⟨rfl, rfl⟩
  go_wp2
  go_loop [6] (fun v => ∃ k : Nat, v = .string (zeS k l) ∧ (k = 0 ∨ k + l.length ≤ (0 : Int).toNat + 1)) (fun v => (0 : Int).toNat + 1 - szOf v)
  case atStart => exact ⟨0, by first | rfl | rw [ec], .inl rfl⟩
  case round =>
    obtain ⟨k, rfl, hk⟩ := hrel
    have hz := zeS_size k l
    by_cases hlt : k + l.length ≤ (0 : Int).toNat
    · exfalso
      have : ((0 : Int)).toNat = 0 := rfl
      omega
    · have q : ¬ ((zeS k l).size : Int) ≤ 0 := by omega
      have hk2 : k = (0 : Int).toNat + 1 - l.length := by omega
      have HC2 := Lib.hid (HC.out k (by simpa using hk2))
      have hz1 : (zeS k l).size ≤ 40 := by omega
      have hz2 : 0 < ((zeS k l).size : Int) := by omega
      have hz3 : ¬ (zeS k l).size = 0 := by omega
      have hz4 : 0 < (zeS k l).size := by omega
      clear HC hk hlt hk2 hz
      generalize zeS k l = S at *
      go_wp2
      go_ret2
      exact ⟨by first | (rw [HA.out, ← HC2.out]; rfl) | (rw [HA.out, ← HC2.out, nil_app]; rfl) | (rw [HA.out, ← HC2.out, ← nil_app S]; rfl), Below.refl _ _⟩
set_option maxHeartbeats 2000000 in
theorem rfText_nd (A d : Int) (w : World) (h1 : 0 < A) (h2 : A ≤ 1000000000000000) (d1 : 0 < d) (d2 : d ≤ 4) :
    Calls Tryd.prog 21 #[.int .i64 (-A), .int .i64 d] w fun e w' => e = .returned (.tuple #[.string (amtS (-A) d), .int .i64 0]) ∧ Below w.heap.size w w' := by
  have H1 := Lib.hid (fun w => large_any (-A) w)
  rw [decide_eq_true (by unfold sumO; omega)] at H1
  have H2 := Lib.hid (fun w => rText_any (-A) w (by omega) (by omega))
  obtain ⟨ec, es1, es2⟩ := neg_cut h1 h2
  have es3 : (1 : Int) ≤ ((textS (-A)).size : Int) := by omega
  have hneg : -A < 0 := by omega
  have HA := Lib.hid (show amtS (-A) d = ⟨#[45]⟩ ++ absS A d from by unfold amtS; rw [if_pos (by omega), Int.neg_neg])
  have hl := dg_pos A.toNat
  have hl2 := dg_len20 (n := A.toNat) (by omega)
  have HC := Lib.hid (fun k (hk : k = d.toNat + 1 - (dg A.toNat).length) => zeS_cut (A := A) (d := d) (k := k) (by omega) d1 d2 hk)
  generalize textS (-A) = TT at *
  generalize dg A.toNat = l at *
  go_enter Tryd.func21, Tryd.ntmps21
  go_wp2_with fail
  refine (H1.out _).mono ?_
  rintro e w_ ⟨rfl, rfl⟩
  go_wp2_with fail
  refine (H2.out _).mono ?_
  rintro e w_ ⟨rfl, rfl⟩
  go_wp2
  go_loop [6] (fun v => ∃ k : Nat, v = .string (zeS k l) ∧ (k = 0 ∨ k + l.length ≤ (d : Int).toNat + 1)) (fun v => (d : Int).toNat + 1 - szOf v)
  case atStart => exact ⟨0, by first | rfl | rw [ec], .inl rfl⟩
  case round =>
    obtain ⟨k, rfl, hk⟩ := hrel
    have hz := zeS_size k l
    by_cases hlt : k + l.length ≤ (d : Int).toNat
    · have HS := Lib.hid (zeS_step k l)
      have q : ((zeS k l).size : Int) ≤ d := by omega
      have HZ := Lib.hid hz
      have HK := Lib.hid hlt
      clear hk
      generalize zeS k l = S at *
      have q2 : ¬ 9223372036854775807 < 1 + S.size := by omega
      go_wp2
      go_round
      case rel => exact ⟨k + 1, by rw [HS.out], .inr (by have := HK.out; omega)⟩
      case measure =>
        simp only [szOf, ByteArray.size_append]
        have : (⟨#[48]⟩ : ByteArray).size = 1 := rfl
        have := HZ.out
        have := HK.out
        omega
    · have q : ¬ ((zeS k l).size : Int) ≤ d := by omega
      have hk2 : k = (d : Int).toNat + 1 - l.length := by omega
      have HC2 := Lib.hid (HC.out k hk2)
      have hz1 : (zeS k l).size ≤ 40 := by omega
      have hz2 : d < ((zeS k l).size : Int) := by omega
      have hz3 : ¬ (zeS k l).size = 0 := by omega
      have hz4 : 0 < (zeS k l).size := by omega
      clear HC hk hlt hk2 hz
      generalize zeS k l = S at *
      go_wp2_with fail
      refine wp_region_quiet_below (l := _) (by kernel_rfl) (by kernel_rfl) ?_
      repeat (first | go_big_quiet_step (fail))
      refine wpQuiet_nil ?_
      intro w2 hw'
      obtain ⟨⟨dq2, osq2⟩, hw''⟩ := hw'
      have hb2 := below_regrown w dq2 osq2
      rw [← hw''] at hb2
      clear hw''
      go_wp2
      go_ret2
      exact ⟨by first | (rw [HA.out, ← HC2.out]; rfl) | (rw [HA.out, ← HC2.out, ← app3, ← app3]; rfl) | (rw [HA.out, ← HC2.out, ← nil_app (S.extract 0 ((S.size : Int) - d).toNat)]; rfl), hb2⟩
end Go.Proofs.YtbiicdpmilplmaaDoor
