/- What Text of package money returns. -/
import Derived.Test.YtbiicdpmilplmaaDoorMoB
import Derived.Test.YtbiicdpmilplmaaDoorNumT
namespace Go.Proofs.YtbiicdpmilplmaaDoor
open Go.RowKit Go.Sort
set_option linter.unusedVariables false

/-- the notation of an amount that is not negative, and of any amount. -/
def absS (A d : Int) : ByteArray := textS (A / tenP d) ++ if d = 0 then ⟨#[]⟩ else ⟨#[46]⟩ ++ (textS (tenP d + A % tenP d)).extract 1 (textS (tenP d + A % tenP d)).size
def amtS (a d : Int) : ByteArray := if a < 0 then ⟨#[45]⟩ ++ absS (-a) d else absS a d
theorem textS_size21 {n : Int} (h1 : -9223372036854775808 ≤ n) (h2 : n ≤ 9223372036854775807) : (textS n).size ≤ 21 := by
  rw [textS_size]; exact text_len h1 h2
theorem textS_pos (n : Int) : 0 < (textS n).size := by
  rw [textS_size]; unfold text
  split
  · simp
  · exact dg_pos _
theorem nil_app (s : ByteArray) : ⟨#[]⟩ ++ s = s := by
  apply ByteArray.ext; simp [ByteArray.data_append]
theorem app_nil (s : ByteArray) : s ++ ⟨#[]⟩ = s := by
  apply ByteArray.ext; simp [ByteArray.data_append]
theorem app3 (a b c : ByteArray) : a ++ b ++ c = a ++ (b ++ c) := by
  apply ByteArray.ext; simp [ByteArray.data_append]

set_option maxHeartbeats 1000000 in
theorem mText_0p (A : Int) (w : World) (ht : Tab w) (h1 : 0 ≤ A) (h2 : A ≤ 1000000000000000) :
    Calls Tryd.prog 20 #[.int .i64 A, .int .i64 0] w fun e w' => e = .returned (.tuple #[.string (amtS A 0), .int .i64 0]) ∧ Below w.heap.size w w' := by
  have H1 := Lib.hid (fun w => isDigits_any 0 w)
  rw [decide_eq_true (by decide)] at H1
  have H2 := Lib.hid (fun w => isSum_any A w)
  rw [decide_eq_true (by unfold sumO; omega)] at H2
  have HX := Lib.hid (show amtS A 0 = (textS (A)) by
    unfold amtS
    rw [if_neg (by omega)]
    unfold absS; rw [if_pos rfl, app_nil, show tenP 0 = 1 from rfl, Int.ediv_one])
  have H3 := Lib.hid (fun w => text_any (A) w (by omega) (by omega))
  have z1 := textS_size21 (n := A) (by omega) (by omega)
  generalize textS (A) = S1 at *
  generalize amtS A 0 = R at *
  have hneg : ¬ A < 0 := by omega
  have c := ht.2 0 (by omega)
  rw [show tenT.getD 0 0 = 1 from rfl] at c
  go_enter Tryd.func20, Tryd.ntmps20
  go_wp2_with fail
  refine (H1.out _).mono ?_
  rintro e w_ ⟨rfl, rfl⟩
  go_wp2_with fail
  refine (H2.out _).mono ?_
  rintro e w_ ⟨rfl, rfl⟩
  go_wp2_with fail
  refine (H3.out _).mono ?_
  rintro e W1 ⟨rfl, hb1⟩
  have HB1 := Lib.hid hb1
  clear hb1
  go_wp2
  go_ret2
  exact ⟨by rw [HX.out]; rfl, HB1.out⟩
set_option maxHeartbeats 1000000 in
theorem mText_0n (A : Int) (w : World) (ht : Tab w) (h1 : 0 < A) (h2 : A ≤ 1000000000000000) :
    Calls Tryd.prog 20 #[.int .i64 (-A), .int .i64 0] w fun e w' => e = .returned (.tuple #[.string (amtS (-A) 0), .int .i64 0]) ∧ Below w.heap.size w w' := by
  have H1 := Lib.hid (fun w => isDigits_any 0 w)
  rw [decide_eq_true (by decide)] at H1
  have H2 := Lib.hid (fun w => isSum_any (-A) w)
  rw [decide_eq_true (by unfold sumO; omega)] at H2
  have HX := Lib.hid (show amtS (-A) 0 = ⟨#[45]⟩ ++ (textS (A)) by
    unfold amtS
    rw [if_pos (by omega), Int.neg_neg]
    unfold absS; rw [if_pos rfl, app_nil, show tenP 0 = 1 from rfl, Int.ediv_one])
  have H3 := Lib.hid (fun w => text_any (A) w (by omega) (by omega))
  have z1 := textS_size21 (n := A) (by omega) (by omega)
  generalize textS (A) = S1 at *
  generalize amtS (-A) 0 = R at *
  have hneg : -A < 0 := by omega
  have c := ht.2 0 (by omega)
  rw [show tenT.getD 0 0 = 1 from rfl] at c
  go_enter Tryd.func20, Tryd.ntmps20
  go_wp2_with fail
  refine (H1.out _).mono ?_
  rintro e w_ ⟨rfl, rfl⟩
  go_wp2_with fail
  refine (H2.out _).mono ?_
  rintro e w_ ⟨rfl, rfl⟩
  go_wp2_with fail
  refine (H3.out _).mono ?_
  rintro e W1 ⟨rfl, hb1⟩
  have HB1 := Lib.hid hb1
  clear hb1
  go_wp2
  go_ret2
  exact ⟨by rw [HX.out]; rfl, HB1.out⟩
set_option maxHeartbeats 1000000 in
theorem mText_1p (A : Int) (w : World) (ht : Tab w) (h1 : 0 ≤ A) (h2 : A ≤ 1000000000000000) :
    Calls Tryd.prog 20 #[.int .i64 A, .int .i64 1] w fun e w' => e = .returned (.tuple #[.string (amtS A 1), .int .i64 0]) ∧ Below w.heap.size w w' := by
  have H1 := Lib.hid (fun w => isDigits_any 1 w)
  rw [decide_eq_true (by decide)] at H1
  have H2 := Lib.hid (fun w => isSum_any A w)
  rw [decide_eq_true (by unfold sumO; omega)] at H2
  have HX := Lib.hid (show amtS A 1 = (textS (A / 10) ++ (⟨#[46]⟩ ++ (textS (10 + A % 10)).extract 1 (textS (10 + A % 10)).size)) by
    unfold amtS
    rw [if_neg (by omega)]
    rfl)
  have H3 := Lib.hid (fun w => text_any (A / 10) w (by omega) (by omega))
  have z1 := textS_size21 (n := A / 10) (by omega) (by omega)
  have H4 := Lib.hid (fun w => text_any (10 + A % 10) w (by omega) (by omega))
  have z2 := textS_size21 (n := 10 + A % 10) (by omega) (by omega)
  have z3 := textS_pos (10 + A % 10)
  generalize textS (10 + A % 10) = S2 at *
  have i2 : (1 : Int) ≤ (S2.size : Int) := by omega
  have z4 : (S2.extract 1 S2.size).size ≤ 21 := by rw [ByteArray.size_extract]; omega
  generalize textS (A / 10) = S1 at *
  generalize amtS A 1 = R at *
  have hneg : ¬ A < 0 := by omega
  have c := ht.2 1 (by omega)
  rw [show tenT.getD 1 0 = 10 from rfl] at c
  go_enter Tryd.func20, Tryd.ntmps20
  go_wp2_with fail
  refine (H1.out _).mono ?_
  rintro e w_ ⟨rfl, rfl⟩
  go_wp2_with fail
  refine (H2.out _).mono ?_
  rintro e w_ ⟨rfl, rfl⟩
  go_wp2_with fail
  refine (H3.out _).mono ?_
  rintro e W1 ⟨rfl, hb1⟩
  have HB1 := Lib.hid hb1
  clear hb1
  go_wp2_with fail
  refine (H4.out _).mono ?_
  rintro e W2 ⟨rfl, hb2⟩
  have HB2 := Lib.hid (HB1.out.trans (hb2.mono HB1.out.size))
  clear hb2
  go_wp2
  go_ret2
  exact ⟨by first | (rw [HX.out]; rfl) | (rw [HX.out, ← app3]; rfl) | (rw [HX.out, ← app3, ← app3]; rfl), HB2.out⟩
set_option maxHeartbeats 1000000 in
theorem mText_1n (A : Int) (w : World) (ht : Tab w) (h1 : 0 < A) (h2 : A ≤ 1000000000000000) :
    Calls Tryd.prog 20 #[.int .i64 (-A), .int .i64 1] w fun e w' => e = .returned (.tuple #[.string (amtS (-A) 1), .int .i64 0]) ∧ Below w.heap.size w w' := by
  have H1 := Lib.hid (fun w => isDigits_any 1 w)
  rw [decide_eq_true (by decide)] at H1
  have H2 := Lib.hid (fun w => isSum_any (-A) w)
  rw [decide_eq_true (by unfold sumO; omega)] at H2
  have HX := Lib.hid (show amtS (-A) 1 = ⟨#[45]⟩ ++ (textS (A / 10) ++ (⟨#[46]⟩ ++ (textS (10 + A % 10)).extract 1 (textS (10 + A % 10)).size)) by
    unfold amtS
    rw [if_pos (by omega), Int.neg_neg]
    rfl)
  have H3 := Lib.hid (fun w => text_any (A / 10) w (by omega) (by omega))
  have z1 := textS_size21 (n := A / 10) (by omega) (by omega)
  have H4 := Lib.hid (fun w => text_any (10 + A % 10) w (by omega) (by omega))
  have z2 := textS_size21 (n := 10 + A % 10) (by omega) (by omega)
  have z3 := textS_pos (10 + A % 10)
  generalize textS (10 + A % 10) = S2 at *
  have i2 : (1 : Int) ≤ (S2.size : Int) := by omega
  have z4 : (S2.extract 1 S2.size).size ≤ 21 := by rw [ByteArray.size_extract]; omega
  generalize textS (A / 10) = S1 at *
  generalize amtS (-A) 1 = R at *
  have hneg : -A < 0 := by omega
  have c := ht.2 1 (by omega)
  rw [show tenT.getD 1 0 = 10 from rfl] at c
  go_enter Tryd.func20, Tryd.ntmps20
  go_wp2_with fail
  refine (H1.out _).mono ?_
  rintro e w_ ⟨rfl, rfl⟩
  go_wp2_with fail
  refine (H2.out _).mono ?_
  rintro e w_ ⟨rfl, rfl⟩
  go_wp2_with fail
  refine (H3.out _).mono ?_
  rintro e W1 ⟨rfl, hb1⟩
  have HB1 := Lib.hid hb1
  clear hb1
  go_wp2_with fail
  refine (H4.out _).mono ?_
  rintro e W2 ⟨rfl, hb2⟩
  have HB2 := Lib.hid (HB1.out.trans (hb2.mono HB1.out.size))
  clear hb2
  go_wp2
  go_ret2
  exact ⟨by first | (rw [HX.out]; rfl) | (rw [HX.out, ← app3]; rfl) | (rw [HX.out, ← app3, ← app3]; rfl), HB2.out⟩
set_option maxHeartbeats 1000000 in
theorem mText_2p (A : Int) (w : World) (ht : Tab w) (h1 : 0 ≤ A) (h2 : A ≤ 1000000000000000) :
    Calls Tryd.prog 20 #[.int .i64 A, .int .i64 2] w fun e w' => e = .returned (.tuple #[.string (amtS A 2), .int .i64 0]) ∧ Below w.heap.size w w' := by
  have H1 := Lib.hid (fun w => isDigits_any 2 w)
  rw [decide_eq_true (by decide)] at H1
  have H2 := Lib.hid (fun w => isSum_any A w)
  rw [decide_eq_true (by unfold sumO; omega)] at H2
  have HX := Lib.hid (show amtS A 2 = (textS (A / 100) ++ (⟨#[46]⟩ ++ (textS (100 + A % 100)).extract 1 (textS (100 + A % 100)).size)) by
    unfold amtS
    rw [if_neg (by omega)]
    rfl)
  have H3 := Lib.hid (fun w => text_any (A / 100) w (by omega) (by omega))
  have z1 := textS_size21 (n := A / 100) (by omega) (by omega)
  have H4 := Lib.hid (fun w => text_any (100 + A % 100) w (by omega) (by omega))
  have z2 := textS_size21 (n := 100 + A % 100) (by omega) (by omega)
  have z3 := textS_pos (100 + A % 100)
  generalize textS (100 + A % 100) = S2 at *
  have i2 : (1 : Int) ≤ (S2.size : Int) := by omega
  have z4 : (S2.extract 1 S2.size).size ≤ 21 := by rw [ByteArray.size_extract]; omega
  generalize textS (A / 100) = S1 at *
  generalize amtS A 2 = R at *
  have hneg : ¬ A < 0 := by omega
  have c := ht.2 2 (by omega)
  rw [show tenT.getD 2 0 = 100 from rfl] at c
  go_enter Tryd.func20, Tryd.ntmps20
  go_wp2_with fail
  refine (H1.out _).mono ?_
  rintro e w_ ⟨rfl, rfl⟩
  go_wp2_with fail
  refine (H2.out _).mono ?_
  rintro e w_ ⟨rfl, rfl⟩
  go_wp2_with fail
  refine (H3.out _).mono ?_
  rintro e W1 ⟨rfl, hb1⟩
  have HB1 := Lib.hid hb1
  clear hb1
  go_wp2_with fail
  refine (H4.out _).mono ?_
  rintro e W2 ⟨rfl, hb2⟩
  have HB2 := Lib.hid (HB1.out.trans (hb2.mono HB1.out.size))
  clear hb2
  go_wp2
  go_ret2
  exact ⟨by first | (rw [HX.out]; rfl) | (rw [HX.out, ← app3]; rfl) | (rw [HX.out, ← app3, ← app3]; rfl), HB2.out⟩
set_option maxHeartbeats 1000000 in
theorem mText_2n (A : Int) (w : World) (ht : Tab w) (h1 : 0 < A) (h2 : A ≤ 1000000000000000) :
    Calls Tryd.prog 20 #[.int .i64 (-A), .int .i64 2] w fun e w' => e = .returned (.tuple #[.string (amtS (-A) 2), .int .i64 0]) ∧ Below w.heap.size w w' := by
  have H1 := Lib.hid (fun w => isDigits_any 2 w)
  rw [decide_eq_true (by decide)] at H1
  have H2 := Lib.hid (fun w => isSum_any (-A) w)
  rw [decide_eq_true (by unfold sumO; omega)] at H2
  have HX := Lib.hid (show amtS (-A) 2 = ⟨#[45]⟩ ++ (textS (A / 100) ++ (⟨#[46]⟩ ++ (textS (100 + A % 100)).extract 1 (textS (100 + A % 100)).size)) by
    unfold amtS
    rw [if_pos (by omega), Int.neg_neg]
    rfl)
  have H3 := Lib.hid (fun w => text_any (A / 100) w (by omega) (by omega))
  have z1 := textS_size21 (n := A / 100) (by omega) (by omega)
  have H4 := Lib.hid (fun w => text_any (100 + A % 100) w (by omega) (by omega))
  have z2 := textS_size21 (n := 100 + A % 100) (by omega) (by omega)
  have z3 := textS_pos (100 + A % 100)
  generalize textS (100 + A % 100) = S2 at *
  have i2 : (1 : Int) ≤ (S2.size : Int) := by omega
  have z4 : (S2.extract 1 S2.size).size ≤ 21 := by rw [ByteArray.size_extract]; omega
  generalize textS (A / 100) = S1 at *
  generalize amtS (-A) 2 = R at *
  have hneg : -A < 0 := by omega
  have c := ht.2 2 (by omega)
  rw [show tenT.getD 2 0 = 100 from rfl] at c
  go_enter Tryd.func20, Tryd.ntmps20
  go_wp2_with fail
  refine (H1.out _).mono ?_
  rintro e w_ ⟨rfl, rfl⟩
  go_wp2_with fail
  refine (H2.out _).mono ?_
  rintro e w_ ⟨rfl, rfl⟩
  go_wp2_with fail
  refine (H3.out _).mono ?_
  rintro e W1 ⟨rfl, hb1⟩
  have HB1 := Lib.hid hb1
  clear hb1
  go_wp2_with fail
  refine (H4.out _).mono ?_
  rintro e W2 ⟨rfl, hb2⟩
  have HB2 := Lib.hid (HB1.out.trans (hb2.mono HB1.out.size))
  clear hb2
  go_wp2
  go_ret2
  exact ⟨by first | (rw [HX.out]; rfl) | (rw [HX.out, ← app3]; rfl) | (rw [HX.out, ← app3, ← app3]; rfl), HB2.out⟩
set_option maxHeartbeats 1000000 in
theorem mText_3p (A : Int) (w : World) (ht : Tab w) (h1 : 0 ≤ A) (h2 : A ≤ 1000000000000000) :
    Calls Tryd.prog 20 #[.int .i64 A, .int .i64 3] w fun e w' => e = .returned (.tuple #[.string (amtS A 3), .int .i64 0]) ∧ Below w.heap.size w w' := by
  have H1 := Lib.hid (fun w => isDigits_any 3 w)
  rw [decide_eq_true (by decide)] at H1
  have H2 := Lib.hid (fun w => isSum_any A w)
  rw [decide_eq_true (by unfold sumO; omega)] at H2
  have HX := Lib.hid (show amtS A 3 = (textS (A / 1000) ++ (⟨#[46]⟩ ++ (textS (1000 + A % 1000)).extract 1 (textS (1000 + A % 1000)).size)) by
    unfold amtS
    rw [if_neg (by omega)]
    rfl)
  have H3 := Lib.hid (fun w => text_any (A / 1000) w (by omega) (by omega))
  have z1 := textS_size21 (n := A / 1000) (by omega) (by omega)
  have H4 := Lib.hid (fun w => text_any (1000 + A % 1000) w (by omega) (by omega))
  have z2 := textS_size21 (n := 1000 + A % 1000) (by omega) (by omega)
  have z3 := textS_pos (1000 + A % 1000)
  generalize textS (1000 + A % 1000) = S2 at *
  have i2 : (1 : Int) ≤ (S2.size : Int) := by omega
  have z4 : (S2.extract 1 S2.size).size ≤ 21 := by rw [ByteArray.size_extract]; omega
  generalize textS (A / 1000) = S1 at *
  generalize amtS A 3 = R at *
  have hneg : ¬ A < 0 := by omega
  have c := ht.2 3 (by omega)
  rw [show tenT.getD 3 0 = 1000 from rfl] at c
  go_enter Tryd.func20, Tryd.ntmps20
  go_wp2_with fail
  refine (H1.out _).mono ?_
  rintro e w_ ⟨rfl, rfl⟩
  go_wp2_with fail
  refine (H2.out _).mono ?_
  rintro e w_ ⟨rfl, rfl⟩
  go_wp2_with fail
  refine (H3.out _).mono ?_
  rintro e W1 ⟨rfl, hb1⟩
  have HB1 := Lib.hid hb1
  clear hb1
  go_wp2_with fail
  refine (H4.out _).mono ?_
  rintro e W2 ⟨rfl, hb2⟩
  have HB2 := Lib.hid (HB1.out.trans (hb2.mono HB1.out.size))
  clear hb2
  go_wp2
  go_ret2
  exact ⟨by first | (rw [HX.out]; rfl) | (rw [HX.out, ← app3]; rfl) | (rw [HX.out, ← app3, ← app3]; rfl), HB2.out⟩
set_option maxHeartbeats 1000000 in
theorem mText_3n (A : Int) (w : World) (ht : Tab w) (h1 : 0 < A) (h2 : A ≤ 1000000000000000) :
    Calls Tryd.prog 20 #[.int .i64 (-A), .int .i64 3] w fun e w' => e = .returned (.tuple #[.string (amtS (-A) 3), .int .i64 0]) ∧ Below w.heap.size w w' := by
  have H1 := Lib.hid (fun w => isDigits_any 3 w)
  rw [decide_eq_true (by decide)] at H1
  have H2 := Lib.hid (fun w => isSum_any (-A) w)
  rw [decide_eq_true (by unfold sumO; omega)] at H2
  have HX := Lib.hid (show amtS (-A) 3 = ⟨#[45]⟩ ++ (textS (A / 1000) ++ (⟨#[46]⟩ ++ (textS (1000 + A % 1000)).extract 1 (textS (1000 + A % 1000)).size)) by
    unfold amtS
    rw [if_pos (by omega), Int.neg_neg]
    rfl)
  have H3 := Lib.hid (fun w => text_any (A / 1000) w (by omega) (by omega))
  have z1 := textS_size21 (n := A / 1000) (by omega) (by omega)
  have H4 := Lib.hid (fun w => text_any (1000 + A % 1000) w (by omega) (by omega))
  have z2 := textS_size21 (n := 1000 + A % 1000) (by omega) (by omega)
  have z3 := textS_pos (1000 + A % 1000)
  generalize textS (1000 + A % 1000) = S2 at *
  have i2 : (1 : Int) ≤ (S2.size : Int) := by omega
  have z4 : (S2.extract 1 S2.size).size ≤ 21 := by rw [ByteArray.size_extract]; omega
  generalize textS (A / 1000) = S1 at *
  generalize amtS (-A) 3 = R at *
  have hneg : -A < 0 := by omega
  have c := ht.2 3 (by omega)
  rw [show tenT.getD 3 0 = 1000 from rfl] at c
  go_enter Tryd.func20, Tryd.ntmps20
  go_wp2_with fail
  refine (H1.out _).mono ?_
  rintro e w_ ⟨rfl, rfl⟩
  go_wp2_with fail
  refine (H2.out _).mono ?_
  rintro e w_ ⟨rfl, rfl⟩
  go_wp2_with fail
  refine (H3.out _).mono ?_
  rintro e W1 ⟨rfl, hb1⟩
  have HB1 := Lib.hid hb1
  clear hb1
  go_wp2_with fail
  refine (H4.out _).mono ?_
  rintro e W2 ⟨rfl, hb2⟩
  have HB2 := Lib.hid (HB1.out.trans (hb2.mono HB1.out.size))
  clear hb2
  go_wp2
  go_ret2
  exact ⟨by first | (rw [HX.out]; rfl) | (rw [HX.out, ← app3]; rfl) | (rw [HX.out, ← app3, ← app3]; rfl), HB2.out⟩
set_option maxHeartbeats 1000000 in
theorem mText_4p (A : Int) (w : World) (ht : Tab w) (h1 : 0 ≤ A) (h2 : A ≤ 1000000000000000) :
    Calls Tryd.prog 20 #[.int .i64 A, .int .i64 4] w fun e w' => e = .returned (.tuple #[.string (amtS A 4), .int .i64 0]) ∧ Below w.heap.size w w' := by
  have H1 := Lib.hid (fun w => isDigits_any 4 w)
  rw [decide_eq_true (by decide)] at H1
  have H2 := Lib.hid (fun w => isSum_any A w)
  rw [decide_eq_true (by unfold sumO; omega)] at H2
  have HX := Lib.hid (show amtS A 4 = (textS (A / 10000) ++ (⟨#[46]⟩ ++ (textS (10000 + A % 10000)).extract 1 (textS (10000 + A % 10000)).size)) by
    unfold amtS
    rw [if_neg (by omega)]
    rfl)
  have H3 := Lib.hid (fun w => text_any (A / 10000) w (by omega) (by omega))
  have z1 := textS_size21 (n := A / 10000) (by omega) (by omega)
  have H4 := Lib.hid (fun w => text_any (10000 + A % 10000) w (by omega) (by omega))
  have z2 := textS_size21 (n := 10000 + A % 10000) (by omega) (by omega)
  have z3 := textS_pos (10000 + A % 10000)
  generalize textS (10000 + A % 10000) = S2 at *
  have i2 : (1 : Int) ≤ (S2.size : Int) := by omega
  have z4 : (S2.extract 1 S2.size).size ≤ 21 := by rw [ByteArray.size_extract]; omega
  generalize textS (A / 10000) = S1 at *
  generalize amtS A 4 = R at *
  have hneg : ¬ A < 0 := by omega
  have c := ht.2 4 (by omega)
  rw [show tenT.getD 4 0 = 10000 from rfl] at c
  go_enter Tryd.func20, Tryd.ntmps20
  go_wp2_with fail
  refine (H1.out _).mono ?_
  rintro e w_ ⟨rfl, rfl⟩
  go_wp2_with fail
  refine (H2.out _).mono ?_
  rintro e w_ ⟨rfl, rfl⟩
  go_wp2_with fail
  refine (H3.out _).mono ?_
  rintro e W1 ⟨rfl, hb1⟩
  have HB1 := Lib.hid hb1
  clear hb1
  go_wp2_with fail
  refine (H4.out _).mono ?_
  rintro e W2 ⟨rfl, hb2⟩
  have HB2 := Lib.hid (HB1.out.trans (hb2.mono HB1.out.size))
  clear hb2
  go_wp2
  go_ret2
  exact ⟨by first | (rw [HX.out]; rfl) | (rw [HX.out, ← app3]; rfl) | (rw [HX.out, ← app3, ← app3]; rfl), HB2.out⟩
set_option maxHeartbeats 1000000 in
theorem mText_4n (A : Int) (w : World) (ht : Tab w) (h1 : 0 < A) (h2 : A ≤ 1000000000000000) :
    Calls Tryd.prog 20 #[.int .i64 (-A), .int .i64 4] w fun e w' => e = .returned (.tuple #[.string (amtS (-A) 4), .int .i64 0]) ∧ Below w.heap.size w w' := by
  have H1 := Lib.hid (fun w => isDigits_any 4 w)
  rw [decide_eq_true (by decide)] at H1
  have H2 := Lib.hid (fun w => isSum_any (-A) w)
  rw [decide_eq_true (by unfold sumO; omega)] at H2
  have HX := Lib.hid (show amtS (-A) 4 = ⟨#[45]⟩ ++ (textS (A / 10000) ++ (⟨#[46]⟩ ++ (textS (10000 + A % 10000)).extract 1 (textS (10000 + A % 10000)).size)) by
    unfold amtS
    rw [if_pos (by omega), Int.neg_neg]
    rfl)
  have H3 := Lib.hid (fun w => text_any (A / 10000) w (by omega) (by omega))
  have z1 := textS_size21 (n := A / 10000) (by omega) (by omega)
  have H4 := Lib.hid (fun w => text_any (10000 + A % 10000) w (by omega) (by omega))
  have z2 := textS_size21 (n := 10000 + A % 10000) (by omega) (by omega)
  have z3 := textS_pos (10000 + A % 10000)
  generalize textS (10000 + A % 10000) = S2 at *
  have i2 : (1 : Int) ≤ (S2.size : Int) := by omega
  have z4 : (S2.extract 1 S2.size).size ≤ 21 := by rw [ByteArray.size_extract]; omega
  generalize textS (A / 10000) = S1 at *
  generalize amtS (-A) 4 = R at *
  have hneg : -A < 0 := by omega
  have c := ht.2 4 (by omega)
  rw [show tenT.getD 4 0 = 10000 from rfl] at c
  go_enter Tryd.func20, Tryd.ntmps20
  go_wp2_with fail
  refine (H1.out _).mono ?_
  rintro e w_ ⟨rfl, rfl⟩
  go_wp2_with fail
  refine (H2.out _).mono ?_
  rintro e w_ ⟨rfl, rfl⟩
  go_wp2_with fail
  refine (H3.out _).mono ?_
  rintro e W1 ⟨rfl, hb1⟩
  have HB1 := Lib.hid hb1
  clear hb1
  go_wp2_with fail
  refine (H4.out _).mono ?_
  rintro e W2 ⟨rfl, hb2⟩
  have HB2 := Lib.hid (HB1.out.trans (hb2.mono HB1.out.size))
  clear hb2
  go_wp2
  go_ret2
  exact ⟨by first | (rw [HX.out]; rfl) | (rw [HX.out, ← app3]; rfl) | (rw [HX.out, ← app3, ← app3]; rfl), HB2.out⟩
end Go.Proofs.YtbiicdpmilplmaaDoor
