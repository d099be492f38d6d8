/- What the checked operations of package frac and Neg, Add, Mul and Quo of package accountingref03 return. -/
import Derived.Test.YtmanlfkoannkoaaFrM
namespace Go.Proofs.Ytmanlfkoannkoaa
open Go.RowKit Go.Sort
set_option linter.unusedVariables false

/-- a variable of one cell in memory. -/
structure Cell1 (w : World) (B : Nat) (a : Value) : Prop where
  c0 : w.cell? ⟨B, 0, none⟩ = some a
  f0 : w.frozen? ⟨B, 0, none⟩ = false
theorem Cell1.alloc (w : World) (a : Value) (t : TypeId) : Cell1 (w.alloc (Obj.cells #[a] t)) w.heap.size a :=
  ⟨World.cell?_alloc_at _ _ _ _ rfl, World.frozen?_alloc_at _ _ _ _ rfl⟩
theorem Cell1.below {w w' : World} {B N : Nat} {a : Value} (h : Cell1 w B a) (hb : Below N w w') (hB : B < N) : Cell1 w' B a :=
  ⟨by rw [hb.cell hB]; exact h.c0, by rw [hb.frozen hB]; exact h.f0⟩
theorem Cell1.lt {w : World} {B : Nat} {a : Value} (h : Cell1 w B a) : B < w.heap.size := by
  rcases Nat.lt_or_ge B w.heap.size with k | k
  · exact k
  · exact absurd h.c0 (by simp [World.cell?, Array.getElem?_eq_none k])
theorem part_n {a b : Int} (h : RightP a b) : part a := ⟨h.2.2.1, h.2.2.2.1⟩
theorem part_d {a b : Int} (h : RightP a b) : part b := ⟨by have := h.1; omega, h.2.1⟩
theorem right_val (a b : Int) (r : Bool) (h : rightB a b = r) (w : World) (a1 : -9223372036854775808 ≤ a) (a2 : a ≤ 9223372036854775807) (b1 : -9223372036854775808 ≤ b) (b2 : b ≤ 9223372036854775807) :
    Calls Try.prog 12 #[.agg #[.int .i64 a, .int .i64 b]] w fun e w' => e = .returned (.bool r) ∧ Below w.heap.size w w' := h ▸ right_any a b w a1 a2 b1 b2
theorem rRight_val (a b : Int) (r : Bool) (h : rightB a b = r) (w : World) (a1 : -9223372036854775808 ≤ a) (a2 : a ≤ 9223372036854775807) (b1 : -9223372036854775808 ≤ b) (b2 : b ≤ 9223372036854775807) :
    Calls Try.prog 13 #[.agg #[.int .i64 a, .int .i64 b]] w fun e w' => e = .returned (.bool r) ∧ Below w.heap.size w w' := h ▸ rRight_any a b w a1 a2 b1 b2
theorem ok_no1 {a b c d : Int} (h : rightB a b = false) : okB a b c d = false := by unfold okB; rw [h]; rfl
theorem ok_no2 {a b c d : Int} (h : rightB c d = false) : okB a b c d = false := by unfold okB; rw [h, Bool.and_false]
theorem ok_yes {a b c d : Int} (h : rightB a b = true) (k : rightB c d = true) : okB a b c d = true := by unfold okB; rw [h, k]; rfl

set_option maxRecDepth 100000 in
set_option maxHeartbeats 4000000 in
theorem ckAdd_any (a b c d : Int) (B : Nat) (w : World) (a1 : -9223372036854775808 ≤ a) (a2 : a ≤ 9223372036854775807) (b1 : -9223372036854775808 ≤ b) (b2 : b ≤ 9223372036854775807) (c1 : -9223372036854775808 ≤ c) (c2 : c ≤ 9223372036854775807) (d1 : -9223372036854775808 ≤ d) (d2 : d ≤ 9223372036854775807) (hB : Cell1 w B (.func (.func 38) #[] #[])) :
    Calls Try.prog 56 #[.agg #[.int .i64 a, .int .i64 b], .agg #[.int .i64 c, .int .i64 d], .pointer (some ⟨B, 0, none⟩)] w fun e w' => e = .returned (.tuple #[.agg #[.int .i64 (opN (okB a b c d) (a * d + c * b) (b * d)), .int .i64 (opD (okB a b c d) (a * d + c * b) (b * d))], .int .i64 (opE (okB a b c d) (a * d + c * b) (b * d))]) ∧ Below w.heap.size w w' := by
  have F_0 := Lib.hid hB
  clear hB
  by_cases h1 : rightB a b = true
  case neg =>
    have h1' : rightB a b = false := by simpa using h1
    have E0 : okB a b c d = false := ok_no1 h1'
    rw [E0, show opN false (a * d + c * b) (b * d) = 0 from rfl, show opD false (a * d + c * b) (b * d) = 0 from rfl, show opE false (a * d + c * b) (b * d) = 2 from rfl]
    clear E0
    have H1 := Lib.hid (fun W => right_val a b false h1' W a1 a2 b1 b2)
    clear h1 h1'
    go_enter Try.func56, Try.ntmps56
    go_wp2_with fail
    have P0_1 := Lib.hid (show Cell2 (((w.alloc (Obj.cells #[(.int .i64 a), (.int .i64 b)] 23)).alloc (Obj.cells #[(.int .i64 c), (.int .i64 d)] 23)).alloc (Obj.cells #[(.int .i64 0), (.int .i64 0)] 23)) (w.heap.size) (.int .i64 a) (.int .i64 b) from by have q := Cell2.alloc w (.int .i64 a) (.int .i64 b) 23; exact q.below (N := w.heap.size + 1) (((Below.refl _ _).alloc (by simp <;> omega) (Obj.cells #[(.int .i64 c), (.int .i64 d)] 23)).alloc (by simp <;> omega) (Obj.cells #[(.int .i64 0), (.int .i64 0)] 23)) (by omega))
    have P1_1 := Lib.hid (show Cell2 (((w.alloc (Obj.cells #[(.int .i64 a), (.int .i64 b)] 23)).alloc (Obj.cells #[(.int .i64 c), (.int .i64 d)] 23)).alloc (Obj.cells #[(.int .i64 0), (.int .i64 0)] 23)) (w.heap.size + 1) (.int .i64 c) (.int .i64 d) from by have q := Cell2.alloc (w.alloc (Obj.cells #[(.int .i64 a), (.int .i64 b)] 23)) (.int .i64 c) (.int .i64 d) 23; try simp only [World.size_alloc] at q; exact q.below (N := w.heap.size + 1 + 1) ((Below.refl _ _).alloc (by simp <;> omega) (Obj.cells #[(.int .i64 0), (.int .i64 0)] 23)) (by omega))
    have P2_1 := Lib.hid (show Cell2 (((w.alloc (Obj.cells #[(.int .i64 a), (.int .i64 b)] 23)).alloc (Obj.cells #[(.int .i64 c), (.int .i64 d)] 23)).alloc (Obj.cells #[(.int .i64 0), (.int .i64 0)] 23)) (w.heap.size + 2) (.int .i64 0) (.int .i64 0) from by simpa using Cell2.alloc ((w.alloc (Obj.cells #[(.int .i64 a), (.int .i64 b)] 23)).alloc (Obj.cells #[(.int .i64 c), (.int .i64 d)] 23)) (.int .i64 0) (.int .i64 0) 23)
    have HB1 := Lib.hid ((((Below.refl w.heap.size w).alloc (Nat.le_refl _) (Obj.cells #[(.int .i64 a), (.int .i64 b)] 23)).alloc (by simp) (Obj.cells #[(.int .i64 c), (.int .i64 d)] 23)).alloc (by simp; omega) (Obj.cells #[(.int .i64 0), (.int .i64 0)] 23))
    have F_1 := Lib.hid (F_0.out.below HB1.out F_0.out.lt)
    generalize (((w.alloc (Obj.cells #[(.int .i64 a), (.int .i64 b)] 23)).alloc (Obj.cells #[(.int .i64 c), (.int .i64 d)] 23)).alloc (Obj.cells #[(.int .i64 0), (.int .i64 0)] 23)) = W1 at *
    refine (H1.out _).mono ?_
    rintro e W2 ⟨rfl, hb2⟩
    have HB2 := Lib.hid (HB1.out.trans ((hb2).mono HB1.out.size))
    have F_2 := Lib.hid (F_1.out.below (hb2) F_1.out.lt)
    have P0_2 := Lib.hid (P0_1.out.below (hb2) P0_1.out.lt)
    have P1_2 := Lib.hid (P1_1.out.below (hb2) P1_1.out.lt)
    have P2_2 := Lib.hid (P2_1.out.below (hb2) P2_1.out.lt)
    clear HB1 F_1 P0_1 P1_1 P2_1 hb2
    have lF_2 := F_2.out.lt
    have cF_2_0 := F_2.out.c0
    have lP0_2 := P0_2.out.lt
    have cP0_2_0 := P0_2.out.c0
    have cP0_2_1 := P0_2.out.c1
    have lP1_2 := P1_2.out.lt
    have cP1_2_0 := P1_2.out.c0
    have cP1_2_1 := P1_2.out.c1
    have lP2_2 := P2_2.out.lt
    have cP2_2_0 := P2_2.out.c0
    have cP2_2_1 := P2_2.out.c1
    have fP2_2_0 := P2_2.out.f0
    have fP2_2_1 := P2_2.out.f1
    go_wp2
    refine bodyPost_ret (v := .tuple #[.agg #[(.int .i64 0), (.int .i64 0)], .int .i64 2]) ?_ rfl ⟨rfl, ((HB2.out.setCell (p := ⟨w.heap.size + 2, 0, none⟩) (by simp) (.int .i64 0)).setCell (p := ⟨w.heap.size + 2, 1, none⟩) (by simp) (.int .i64 0))⟩
    have u0 := ((P2_2.out.set0 (.int .i64 0)).set1 (.int .i64 0)).c0
    have u1 := ((P2_2.out.set0 (.int .i64 0)).set1 (.int .i64 0)).c1
    rw [results_cell_tmp rfl]
    go_simp
  by_cases h2 : rightB c d = true
  case neg =>
    have h2' : rightB c d = false := by simpa using h2
    have E0 : okB a b c d = false := ok_no2 h2'
    rw [E0, show opN false (a * d + c * b) (b * d) = 0 from rfl, show opD false (a * d + c * b) (b * d) = 0 from rfl, show opE false (a * d + c * b) (b * d) = 2 from rfl]
    clear E0
    have H1 := Lib.hid (fun W => right_val a b true h1 W a1 a2 b1 b2)
    have H2 := Lib.hid (fun W => right_val c d false h2' W c1 c2 d1 d2)
    clear h1 h2 h2'
    go_enter Try.func56, Try.ntmps56
    go_wp2_with fail
    have P0_3 := Lib.hid (show Cell2 (((w.alloc (Obj.cells #[(.int .i64 a), (.int .i64 b)] 23)).alloc (Obj.cells #[(.int .i64 c), (.int .i64 d)] 23)).alloc (Obj.cells #[(.int .i64 0), (.int .i64 0)] 23)) (w.heap.size) (.int .i64 a) (.int .i64 b) from by have q := Cell2.alloc w (.int .i64 a) (.int .i64 b) 23; exact q.below (N := w.heap.size + 1) (((Below.refl _ _).alloc (by simp <;> omega) (Obj.cells #[(.int .i64 c), (.int .i64 d)] 23)).alloc (by simp <;> omega) (Obj.cells #[(.int .i64 0), (.int .i64 0)] 23)) (by omega))
    have P1_3 := Lib.hid (show Cell2 (((w.alloc (Obj.cells #[(.int .i64 a), (.int .i64 b)] 23)).alloc (Obj.cells #[(.int .i64 c), (.int .i64 d)] 23)).alloc (Obj.cells #[(.int .i64 0), (.int .i64 0)] 23)) (w.heap.size + 1) (.int .i64 c) (.int .i64 d) from by have q := Cell2.alloc (w.alloc (Obj.cells #[(.int .i64 a), (.int .i64 b)] 23)) (.int .i64 c) (.int .i64 d) 23; try simp only [World.size_alloc] at q; exact q.below (N := w.heap.size + 1 + 1) ((Below.refl _ _).alloc (by simp <;> omega) (Obj.cells #[(.int .i64 0), (.int .i64 0)] 23)) (by omega))
    have P2_3 := Lib.hid (show Cell2 (((w.alloc (Obj.cells #[(.int .i64 a), (.int .i64 b)] 23)).alloc (Obj.cells #[(.int .i64 c), (.int .i64 d)] 23)).alloc (Obj.cells #[(.int .i64 0), (.int .i64 0)] 23)) (w.heap.size + 2) (.int .i64 0) (.int .i64 0) from by simpa using Cell2.alloc ((w.alloc (Obj.cells #[(.int .i64 a), (.int .i64 b)] 23)).alloc (Obj.cells #[(.int .i64 c), (.int .i64 d)] 23)) (.int .i64 0) (.int .i64 0) 23)
    have HB3 := Lib.hid ((((Below.refl w.heap.size w).alloc (Nat.le_refl _) (Obj.cells #[(.int .i64 a), (.int .i64 b)] 23)).alloc (by simp) (Obj.cells #[(.int .i64 c), (.int .i64 d)] 23)).alloc (by simp; omega) (Obj.cells #[(.int .i64 0), (.int .i64 0)] 23))
    have F_3 := Lib.hid (F_0.out.below HB3.out F_0.out.lt)
    generalize (((w.alloc (Obj.cells #[(.int .i64 a), (.int .i64 b)] 23)).alloc (Obj.cells #[(.int .i64 c), (.int .i64 d)] 23)).alloc (Obj.cells #[(.int .i64 0), (.int .i64 0)] 23)) = W3 at *
    refine (H1.out _).mono ?_
    rintro e W4 ⟨rfl, hb4⟩
    have HB4 := Lib.hid (HB3.out.trans ((hb4).mono HB3.out.size))
    have F_4 := Lib.hid (F_3.out.below (hb4) F_3.out.lt)
    have P0_4 := Lib.hid (P0_3.out.below (hb4) P0_3.out.lt)
    have P1_4 := Lib.hid (P1_3.out.below (hb4) P1_3.out.lt)
    have P2_4 := Lib.hid (P2_3.out.below (hb4) P2_3.out.lt)
    clear HB3 F_3 P0_3 P1_3 P2_3 hb4
    have lF_4 := F_4.out.lt
    have cF_4_0 := F_4.out.c0
    have lP0_4 := P0_4.out.lt
    have cP0_4_0 := P0_4.out.c0
    have cP0_4_1 := P0_4.out.c1
    have lP1_4 := P1_4.out.lt
    have cP1_4_0 := P1_4.out.c0
    have cP1_4_1 := P1_4.out.c1
    have lP2_4 := P2_4.out.lt
    have cP2_4_0 := P2_4.out.c0
    have cP2_4_1 := P2_4.out.c1
    go_wp2_with fail
    clear lF_4 cF_4_0 lP0_4 cP0_4_0 cP0_4_1 lP1_4 cP1_4_0 cP1_4_1 lP2_4 cP2_4_0 cP2_4_1
    refine (H2.out _).mono ?_
    rintro e W5 ⟨rfl, hb5⟩
    have HB5 := Lib.hid (HB4.out.trans ((hb5).mono HB4.out.size))
    have F_5 := Lib.hid (F_4.out.below (hb5) F_4.out.lt)
    have P0_5 := Lib.hid (P0_4.out.below (hb5) P0_4.out.lt)
    have P1_5 := Lib.hid (P1_4.out.below (hb5) P1_4.out.lt)
    have P2_5 := Lib.hid (P2_4.out.below (hb5) P2_4.out.lt)
    clear HB4 F_4 P0_4 P1_4 P2_4 hb5
    have lF_5 := F_5.out.lt
    have cF_5_0 := F_5.out.c0
    have lP0_5 := P0_5.out.lt
    have cP0_5_0 := P0_5.out.c0
    have cP0_5_1 := P0_5.out.c1
    have lP1_5 := P1_5.out.lt
    have cP1_5_0 := P1_5.out.c0
    have cP1_5_1 := P1_5.out.c1
    have lP2_5 := P2_5.out.lt
    have cP2_5_0 := P2_5.out.c0
    have cP2_5_1 := P2_5.out.c1
    have fP2_5_0 := P2_5.out.f0
    have fP2_5_1 := P2_5.out.f1
    go_wp2
    refine bodyPost_ret (v := .tuple #[.agg #[(.int .i64 0), (.int .i64 0)], .int .i64 2]) ?_ rfl ⟨rfl, ((HB5.out.setCell (p := ⟨w.heap.size + 2, 0, none⟩) (by simp) (.int .i64 0)).setCell (p := ⟨w.heap.size + 2, 1, none⟩) (by simp) (.int .i64 0))⟩
    have u0 := ((P2_5.out.set0 (.int .i64 0)).set1 (.int .i64 0)).c0
    have u1 := ((P2_5.out.set0 (.int .i64 0)).set1 (.int .i64 0)).c1
    rw [results_cell_tmp rfl]
    go_simp
  have R1 := right_iff.1 h1
  have R2 := right_iff.1 h2
  rw [ok_yes h1 h2, show opN true (a * d + c * b) (b * d) = mkN (a * d + c * b) (b * d) from rfl, show opD true (a * d + c * b) (b * d) = mkD (a * d + c * b) (b * d) from rfl, show opE true (a * d + c * b) (b * d) = mkE (a * d + c * b) (b * d) from rfl]
  have H1 := Lib.hid (fun W => right_val a b true h1 W a1 a2 b1 b2)
  have H2 := Lib.hid (fun W => right_val c d true h2 W c1 c2 d1 d2)
  have m0 := mulB (part_n R1) (part_d R2)
  obtain ⟨m0a, m0b⟩ := m0
  have m1 := mulB (part_n R2) (part_d R1)
  obtain ⟨m1a, m1b⟩ := m1
  have m2 := mulB (part_d R1) (part_d R2)
  obtain ⟨m2a, m2b⟩ := m2
  have HM := Lib.hid (fun W => make_any (a * d + c * b) (b * d) W (by omega) (by omega) (by omega) (by omega))
  have HC := Lib.hid (fun W => addC_any a b c d W (part_n R1) (part_d R1) (part_n R2) (part_d R2))
  clear h1 h2 R1 R2
  generalize mkN (a * d + c * b) (b * d) = rn at *
  generalize mkD (a * d + c * b) (b * d) = rd at *
  generalize mkE (a * d + c * b) (b * d) = re at *
  clear m0a m0b m1a m1b m2a m2b
  generalize a * d + c * b = n at *
  generalize b * d = m at *
  go_enter Try.func56, Try.ntmps56
  go_wp2_with fail
  have P0_6 := Lib.hid (show Cell2 (((w.alloc (Obj.cells #[(.int .i64 a), (.int .i64 b)] 23)).alloc (Obj.cells #[(.int .i64 c), (.int .i64 d)] 23)).alloc (Obj.cells #[(.int .i64 0), (.int .i64 0)] 23)) (w.heap.size) (.int .i64 a) (.int .i64 b) from by have q := Cell2.alloc w (.int .i64 a) (.int .i64 b) 23; exact q.below (N := w.heap.size + 1) (((Below.refl _ _).alloc (by simp <;> omega) (Obj.cells #[(.int .i64 c), (.int .i64 d)] 23)).alloc (by simp <;> omega) (Obj.cells #[(.int .i64 0), (.int .i64 0)] 23)) (by omega))
  have P1_6 := Lib.hid (show Cell2 (((w.alloc (Obj.cells #[(.int .i64 a), (.int .i64 b)] 23)).alloc (Obj.cells #[(.int .i64 c), (.int .i64 d)] 23)).alloc (Obj.cells #[(.int .i64 0), (.int .i64 0)] 23)) (w.heap.size + 1) (.int .i64 c) (.int .i64 d) from by have q := Cell2.alloc (w.alloc (Obj.cells #[(.int .i64 a), (.int .i64 b)] 23)) (.int .i64 c) (.int .i64 d) 23; try simp only [World.size_alloc] at q; exact q.below (N := w.heap.size + 1 + 1) ((Below.refl _ _).alloc (by simp <;> omega) (Obj.cells #[(.int .i64 0), (.int .i64 0)] 23)) (by omega))
  have P2_6 := Lib.hid (show Cell2 (((w.alloc (Obj.cells #[(.int .i64 a), (.int .i64 b)] 23)).alloc (Obj.cells #[(.int .i64 c), (.int .i64 d)] 23)).alloc (Obj.cells #[(.int .i64 0), (.int .i64 0)] 23)) (w.heap.size + 2) (.int .i64 0) (.int .i64 0) from by simpa using Cell2.alloc ((w.alloc (Obj.cells #[(.int .i64 a), (.int .i64 b)] 23)).alloc (Obj.cells #[(.int .i64 c), (.int .i64 d)] 23)) (.int .i64 0) (.int .i64 0) 23)
  have HB6 := Lib.hid ((((Below.refl w.heap.size w).alloc (Nat.le_refl _) (Obj.cells #[(.int .i64 a), (.int .i64 b)] 23)).alloc (by simp) (Obj.cells #[(.int .i64 c), (.int .i64 d)] 23)).alloc (by simp; omega) (Obj.cells #[(.int .i64 0), (.int .i64 0)] 23))
  have F_6 := Lib.hid (F_0.out.below HB6.out F_0.out.lt)
  generalize (((w.alloc (Obj.cells #[(.int .i64 a), (.int .i64 b)] 23)).alloc (Obj.cells #[(.int .i64 c), (.int .i64 d)] 23)).alloc (Obj.cells #[(.int .i64 0), (.int .i64 0)] 23)) = W6 at *
  refine (H1.out _).mono ?_
  rintro e W7 ⟨rfl, hb7⟩
  have HB7 := Lib.hid (HB6.out.trans ((hb7).mono HB6.out.size))
  have F_7 := Lib.hid (F_6.out.below (hb7) F_6.out.lt)
  have P0_7 := Lib.hid (P0_6.out.below (hb7) P0_6.out.lt)
  have P1_7 := Lib.hid (P1_6.out.below (hb7) P1_6.out.lt)
  have P2_7 := Lib.hid (P2_6.out.below (hb7) P2_6.out.lt)
  clear HB6 F_6 P0_6 P1_6 P2_6 hb7
  have lF_7 := F_7.out.lt
  have cF_7_0 := F_7.out.c0
  have lP0_7 := P0_7.out.lt
  have cP0_7_0 := P0_7.out.c0
  have cP0_7_1 := P0_7.out.c1
  have lP1_7 := P1_7.out.lt
  have cP1_7_0 := P1_7.out.c0
  have cP1_7_1 := P1_7.out.c1
  have lP2_7 := P2_7.out.lt
  have cP2_7_0 := P2_7.out.c0
  have cP2_7_1 := P2_7.out.c1
  go_wp2_with fail
  clear lF_7 cF_7_0 lP0_7 cP0_7_0 cP0_7_1 lP1_7 cP1_7_0 cP1_7_1 lP2_7 cP2_7_0 cP2_7_1
  refine (H2.out _).mono ?_
  rintro e W8 ⟨rfl, hb8⟩
  have HB8 := Lib.hid (HB7.out.trans ((hb8).mono HB7.out.size))
  have F_8 := Lib.hid (F_7.out.below (hb8) F_7.out.lt)
  have P0_8 := Lib.hid (P0_7.out.below (hb8) P0_7.out.lt)
  have P1_8 := Lib.hid (P1_7.out.below (hb8) P1_7.out.lt)
  have P2_8 := Lib.hid (P2_7.out.below (hb8) P2_7.out.lt)
  clear HB7 F_7 P0_7 P1_7 P2_7 hb8
  have lF_8 := F_8.out.lt
  have cF_8_0 := F_8.out.c0
  have lP0_8 := P0_8.out.lt
  have cP0_8_0 := P0_8.out.c0
  have cP0_8_1 := P0_8.out.c1
  have lP1_8 := P1_8.out.lt
  have cP1_8_0 := P1_8.out.c0
  have cP1_8_1 := P1_8.out.c1
  have lP2_8 := P2_8.out.lt
  have cP2_8_0 := P2_8.out.c0
  have cP2_8_1 := P2_8.out.c1
  go_wp2_with fail
  clear lF_8 cF_8_0 lP0_8 cP0_8_0 cP0_8_1 lP1_8 cP1_8_0 cP1_8_1 lP2_8 cP2_8_0 cP2_8_1
  refine (HC.out _).mono ?_
  rintro e W9 ⟨rfl, hb9⟩
  have HB9 := Lib.hid (HB8.out.trans ((hb9).mono HB8.out.size))
  have F_9 := Lib.hid (F_8.out.below (hb9) F_8.out.lt)
  have P0_9 := Lib.hid (P0_8.out.below (hb9) P0_8.out.lt)
  have P1_9 := Lib.hid (P1_8.out.below (hb9) P1_8.out.lt)
  have P2_9 := Lib.hid (P2_8.out.below (hb9) P2_8.out.lt)
  clear HB8 F_8 P0_8 P1_8 P2_8 hb9
  have lF_9 := F_9.out.lt
  have cF_9_0 := F_9.out.c0
  have lP0_9 := P0_9.out.lt
  have cP0_9_0 := P0_9.out.c0
  have cP0_9_1 := P0_9.out.c1
  have lP1_9 := P1_9.out.lt
  have cP1_9_0 := P1_9.out.c0
  have cP1_9_1 := P1_9.out.c1
  have lP2_9 := P2_9.out.lt
  have cP2_9_0 := P2_9.out.c0
  have cP2_9_1 := P2_9.out.c1
  go_wp2_with fail
  clear lF_9 cF_9_0 lP0_9 cP0_9_0 cP0_9_1 lP1_9 cP1_9_0 cP1_9_1 lP2_9 cP2_9_0 cP2_9_1
  refine (HM.out _).mono ?_
  rintro e W10 ⟨rfl, hb10⟩
  have HB10 := Lib.hid (HB9.out.trans ((hb10).mono HB9.out.size))
  have F_10 := Lib.hid (F_9.out.below (hb10) F_9.out.lt)
  have P0_10 := Lib.hid (P0_9.out.below (hb10) P0_9.out.lt)
  have P1_10 := Lib.hid (P1_9.out.below (hb10) P1_9.out.lt)
  have P2_10 := Lib.hid (P2_9.out.below (hb10) P2_9.out.lt)
  clear HB9 F_9 P0_9 P1_9 P2_9 hb10
  have lF_10 := F_10.out.lt
  have cF_10_0 := F_10.out.c0
  have lP0_10 := P0_10.out.lt
  have cP0_10_0 := P0_10.out.c0
  have cP0_10_1 := P0_10.out.c1
  have lP1_10 := P1_10.out.lt
  have cP1_10_0 := P1_10.out.c0
  have cP1_10_1 := P1_10.out.c1
  have lP2_10 := P2_10.out.lt
  have cP2_10_0 := P2_10.out.c0
  have cP2_10_1 := P2_10.out.c1
  have fP2_10_0 := P2_10.out.f0
  have fP2_10_1 := P2_10.out.f1
  go_wp2
  refine bodyPost_ret (v := .tuple #[.agg #[(.int .i64 rn), (.int .i64 rd)], .int .i64 re]) ?_ rfl ⟨rfl, ((HB10.out.setCell (p := ⟨w.heap.size + 2, 0, none⟩) (by simp) (.int .i64 rn)).setCell (p := ⟨w.heap.size + 2, 1, none⟩) (by simp) (.int .i64 rd))⟩
  have u0 := ((P2_10.out.set0 (.int .i64 rn)).set1 (.int .i64 rd)).c0
  have u1 := ((P2_10.out.set0 (.int .i64 rn)).set1 (.int .i64 rd)).c1
  rw [results_cell_tmp rfl]
  go_simp

set_option maxRecDepth 100000 in
set_option maxHeartbeats 4000000 in
theorem ckSub_any (a b c d : Int) (B : Nat) (w : World) (a1 : -9223372036854775808 ≤ a) (a2 : a ≤ 9223372036854775807) (b1 : -9223372036854775808 ≤ b) (b2 : b ≤ 9223372036854775807) (c1 : -9223372036854775808 ≤ c) (c2 : c ≤ 9223372036854775807) (d1 : -9223372036854775808 ≤ d) (d2 : d ≤ 9223372036854775807) (hB : Cell1 w B (.func (.func 39) #[] #[])) :
    Calls Try.prog 56 #[.agg #[.int .i64 a, .int .i64 b], .agg #[.int .i64 c, .int .i64 d], .pointer (some ⟨B, 0, none⟩)] w fun e w' => e = .returned (.tuple #[.agg #[.int .i64 (opN (okB a b c d) (a * d - c * b) (b * d)), .int .i64 (opD (okB a b c d) (a * d - c * b) (b * d))], .int .i64 (opE (okB a b c d) (a * d - c * b) (b * d))]) ∧ Below w.heap.size w w' := by
  have F_0 := Lib.hid hB
  clear hB
  by_cases h1 : rightB a b = true
  case neg =>
    have h1' : rightB a b = false := by simpa using h1
    have E0 : okB a b c d = false := ok_no1 h1'
    rw [E0, show opN false (a * d - c * b) (b * d) = 0 from rfl, show opD false (a * d - c * b) (b * d) = 0 from rfl, show opE false (a * d - c * b) (b * d) = 2 from rfl]
    clear E0
    have H1 := Lib.hid (fun W => right_val a b false h1' W a1 a2 b1 b2)
    clear h1 h1'
    go_enter Try.func56, Try.ntmps56
    go_wp2_with fail
    have P0_11 := Lib.hid (show Cell2 (((w.alloc (Obj.cells #[(.int .i64 a), (.int .i64 b)] 23)).alloc (Obj.cells #[(.int .i64 c), (.int .i64 d)] 23)).alloc (Obj.cells #[(.int .i64 0), (.int .i64 0)] 23)) (w.heap.size) (.int .i64 a) (.int .i64 b) from by have q := Cell2.alloc w (.int .i64 a) (.int .i64 b) 23; exact q.below (N := w.heap.size + 1) (((Below.refl _ _).alloc (by simp <;> omega) (Obj.cells #[(.int .i64 c), (.int .i64 d)] 23)).alloc (by simp <;> omega) (Obj.cells #[(.int .i64 0), (.int .i64 0)] 23)) (by omega))
    have P1_11 := Lib.hid (show Cell2 (((w.alloc (Obj.cells #[(.int .i64 a), (.int .i64 b)] 23)).alloc (Obj.cells #[(.int .i64 c), (.int .i64 d)] 23)).alloc (Obj.cells #[(.int .i64 0), (.int .i64 0)] 23)) (w.heap.size + 1) (.int .i64 c) (.int .i64 d) from by have q := Cell2.alloc (w.alloc (Obj.cells #[(.int .i64 a), (.int .i64 b)] 23)) (.int .i64 c) (.int .i64 d) 23; try simp only [World.size_alloc] at q; exact q.below (N := w.heap.size + 1 + 1) ((Below.refl _ _).alloc (by simp <;> omega) (Obj.cells #[(.int .i64 0), (.int .i64 0)] 23)) (by omega))
    have P2_11 := Lib.hid (show Cell2 (((w.alloc (Obj.cells #[(.int .i64 a), (.int .i64 b)] 23)).alloc (Obj.cells #[(.int .i64 c), (.int .i64 d)] 23)).alloc (Obj.cells #[(.int .i64 0), (.int .i64 0)] 23)) (w.heap.size + 2) (.int .i64 0) (.int .i64 0) from by simpa using Cell2.alloc ((w.alloc (Obj.cells #[(.int .i64 a), (.int .i64 b)] 23)).alloc (Obj.cells #[(.int .i64 c), (.int .i64 d)] 23)) (.int .i64 0) (.int .i64 0) 23)
    have HB11 := Lib.hid ((((Below.refl w.heap.size w).alloc (Nat.le_refl _) (Obj.cells #[(.int .i64 a), (.int .i64 b)] 23)).alloc (by simp) (Obj.cells #[(.int .i64 c), (.int .i64 d)] 23)).alloc (by simp; omega) (Obj.cells #[(.int .i64 0), (.int .i64 0)] 23))
    have F_11 := Lib.hid (F_0.out.below HB11.out F_0.out.lt)
    generalize (((w.alloc (Obj.cells #[(.int .i64 a), (.int .i64 b)] 23)).alloc (Obj.cells #[(.int .i64 c), (.int .i64 d)] 23)).alloc (Obj.cells #[(.int .i64 0), (.int .i64 0)] 23)) = W11 at *
    refine (H1.out _).mono ?_
    rintro e W12 ⟨rfl, hb12⟩
    have HB12 := Lib.hid (HB11.out.trans ((hb12).mono HB11.out.size))
    have F_12 := Lib.hid (F_11.out.below (hb12) F_11.out.lt)
    have P0_12 := Lib.hid (P0_11.out.below (hb12) P0_11.out.lt)
    have P1_12 := Lib.hid (P1_11.out.below (hb12) P1_11.out.lt)
    have P2_12 := Lib.hid (P2_11.out.below (hb12) P2_11.out.lt)
    clear HB11 F_11 P0_11 P1_11 P2_11 hb12
    have lF_12 := F_12.out.lt
    have cF_12_0 := F_12.out.c0
    have lP0_12 := P0_12.out.lt
    have cP0_12_0 := P0_12.out.c0
    have cP0_12_1 := P0_12.out.c1
    have lP1_12 := P1_12.out.lt
    have cP1_12_0 := P1_12.out.c0
    have cP1_12_1 := P1_12.out.c1
    have lP2_12 := P2_12.out.lt
    have cP2_12_0 := P2_12.out.c0
    have cP2_12_1 := P2_12.out.c1
    have fP2_12_0 := P2_12.out.f0
    have fP2_12_1 := P2_12.out.f1
    go_wp2
    refine bodyPost_ret (v := .tuple #[.agg #[(.int .i64 0), (.int .i64 0)], .int .i64 2]) ?_ rfl ⟨rfl, ((HB12.out.setCell (p := ⟨w.heap.size + 2, 0, none⟩) (by simp) (.int .i64 0)).setCell (p := ⟨w.heap.size + 2, 1, none⟩) (by simp) (.int .i64 0))⟩
    have u0 := ((P2_12.out.set0 (.int .i64 0)).set1 (.int .i64 0)).c0
    have u1 := ((P2_12.out.set0 (.int .i64 0)).set1 (.int .i64 0)).c1
    rw [results_cell_tmp rfl]
    go_simp
  by_cases h2 : rightB c d = true
  case neg =>
    have h2' : rightB c d = false := by simpa using h2
    have E0 : okB a b c d = false := ok_no2 h2'
    rw [E0, show opN false (a * d - c * b) (b * d) = 0 from rfl, show opD false (a * d - c * b) (b * d) = 0 from rfl, show opE false (a * d - c * b) (b * d) = 2 from rfl]
    clear E0
    have H1 := Lib.hid (fun W => right_val a b true h1 W a1 a2 b1 b2)
    have H2 := Lib.hid (fun W => right_val c d false h2' W c1 c2 d1 d2)
    clear h1 h2 h2'
    go_enter Try.func56, Try.ntmps56
    go_wp2_with fail
    have P0_13 := Lib.hid (show Cell2 (((w.alloc (Obj.cells #[(.int .i64 a), (.int .i64 b)] 23)).alloc (Obj.cells #[(.int .i64 c), (.int .i64 d)] 23)).alloc (Obj.cells #[(.int .i64 0), (.int .i64 0)] 23)) (w.heap.size) (.int .i64 a) (.int .i64 b) from by have q := Cell2.alloc w (.int .i64 a) (.int .i64 b) 23; exact q.below (N := w.heap.size + 1) (((Below.refl _ _).alloc (by simp <;> omega) (Obj.cells #[(.int .i64 c), (.int .i64 d)] 23)).alloc (by simp <;> omega) (Obj.cells #[(.int .i64 0), (.int .i64 0)] 23)) (by omega))
    have P1_13 := Lib.hid (show Cell2 (((w.alloc (Obj.cells #[(.int .i64 a), (.int .i64 b)] 23)).alloc (Obj.cells #[(.int .i64 c), (.int .i64 d)] 23)).alloc (Obj.cells #[(.int .i64 0), (.int .i64 0)] 23)) (w.heap.size + 1) (.int .i64 c) (.int .i64 d) from by have q := Cell2.alloc (w.alloc (Obj.cells #[(.int .i64 a), (.int .i64 b)] 23)) (.int .i64 c) (.int .i64 d) 23; try simp only [World.size_alloc] at q; exact q.below (N := w.heap.size + 1 + 1) ((Below.refl _ _).alloc (by simp <;> omega) (Obj.cells #[(.int .i64 0), (.int .i64 0)] 23)) (by omega))
    have P2_13 := Lib.hid (show Cell2 (((w.alloc (Obj.cells #[(.int .i64 a), (.int .i64 b)] 23)).alloc (Obj.cells #[(.int .i64 c), (.int .i64 d)] 23)).alloc (Obj.cells #[(.int .i64 0), (.int .i64 0)] 23)) (w.heap.size + 2) (.int .i64 0) (.int .i64 0) from by simpa using Cell2.alloc ((w.alloc (Obj.cells #[(.int .i64 a), (.int .i64 b)] 23)).alloc (Obj.cells #[(.int .i64 c), (.int .i64 d)] 23)) (.int .i64 0) (.int .i64 0) 23)
    have HB13 := Lib.hid ((((Below.refl w.heap.size w).alloc (Nat.le_refl _) (Obj.cells #[(.int .i64 a), (.int .i64 b)] 23)).alloc (by simp) (Obj.cells #[(.int .i64 c), (.int .i64 d)] 23)).alloc (by simp; omega) (Obj.cells #[(.int .i64 0), (.int .i64 0)] 23))
    have F_13 := Lib.hid (F_0.out.below HB13.out F_0.out.lt)
    generalize (((w.alloc (Obj.cells #[(.int .i64 a), (.int .i64 b)] 23)).alloc (Obj.cells #[(.int .i64 c), (.int .i64 d)] 23)).alloc (Obj.cells #[(.int .i64 0), (.int .i64 0)] 23)) = W13 at *
    refine (H1.out _).mono ?_
    rintro e W14 ⟨rfl, hb14⟩
    have HB14 := Lib.hid (HB13.out.trans ((hb14).mono HB13.out.size))
    have F_14 := Lib.hid (F_13.out.below (hb14) F_13.out.lt)
    have P0_14 := Lib.hid (P0_13.out.below (hb14) P0_13.out.lt)
    have P1_14 := Lib.hid (P1_13.out.below (hb14) P1_13.out.lt)
    have P2_14 := Lib.hid (P2_13.out.below (hb14) P2_13.out.lt)
    clear HB13 F_13 P0_13 P1_13 P2_13 hb14
    have lF_14 := F_14.out.lt
    have cF_14_0 := F_14.out.c0
    have lP0_14 := P0_14.out.lt
    have cP0_14_0 := P0_14.out.c0
    have cP0_14_1 := P0_14.out.c1
    have lP1_14 := P1_14.out.lt
    have cP1_14_0 := P1_14.out.c0
    have cP1_14_1 := P1_14.out.c1
    have lP2_14 := P2_14.out.lt
    have cP2_14_0 := P2_14.out.c0
    have cP2_14_1 := P2_14.out.c1
    go_wp2_with fail
    clear lF_14 cF_14_0 lP0_14 cP0_14_0 cP0_14_1 lP1_14 cP1_14_0 cP1_14_1 lP2_14 cP2_14_0 cP2_14_1
    refine (H2.out _).mono ?_
    rintro e W15 ⟨rfl, hb15⟩
    have HB15 := Lib.hid (HB14.out.trans ((hb15).mono HB14.out.size))
    have F_15 := Lib.hid (F_14.out.below (hb15) F_14.out.lt)
    have P0_15 := Lib.hid (P0_14.out.below (hb15) P0_14.out.lt)
    have P1_15 := Lib.hid (P1_14.out.below (hb15) P1_14.out.lt)
    have P2_15 := Lib.hid (P2_14.out.below (hb15) P2_14.out.lt)
    clear HB14 F_14 P0_14 P1_14 P2_14 hb15
    have lF_15 := F_15.out.lt
    have cF_15_0 := F_15.out.c0
    have lP0_15 := P0_15.out.lt
    have cP0_15_0 := P0_15.out.c0
    have cP0_15_1 := P0_15.out.c1
    have lP1_15 := P1_15.out.lt
    have cP1_15_0 := P1_15.out.c0
    have cP1_15_1 := P1_15.out.c1
    have lP2_15 := P2_15.out.lt
    have cP2_15_0 := P2_15.out.c0
    have cP2_15_1 := P2_15.out.c1
    have fP2_15_0 := P2_15.out.f0
    have fP2_15_1 := P2_15.out.f1
    go_wp2
    refine bodyPost_ret (v := .tuple #[.agg #[(.int .i64 0), (.int .i64 0)], .int .i64 2]) ?_ rfl ⟨rfl, ((HB15.out.setCell (p := ⟨w.heap.size + 2, 0, none⟩) (by simp) (.int .i64 0)).setCell (p := ⟨w.heap.size + 2, 1, none⟩) (by simp) (.int .i64 0))⟩
    have u0 := ((P2_15.out.set0 (.int .i64 0)).set1 (.int .i64 0)).c0
    have u1 := ((P2_15.out.set0 (.int .i64 0)).set1 (.int .i64 0)).c1
    rw [results_cell_tmp rfl]
    go_simp
  have R1 := right_iff.1 h1
  have R2 := right_iff.1 h2
  rw [ok_yes h1 h2, show opN true (a * d - c * b) (b * d) = mkN (a * d - c * b) (b * d) from rfl, show opD true (a * d - c * b) (b * d) = mkD (a * d - c * b) (b * d) from rfl, show opE true (a * d - c * b) (b * d) = mkE (a * d - c * b) (b * d) from rfl]
  have H1 := Lib.hid (fun W => right_val a b true h1 W a1 a2 b1 b2)
  have H2 := Lib.hid (fun W => right_val c d true h2 W c1 c2 d1 d2)
  have m0 := mulB (part_n R1) (part_d R2)
  obtain ⟨m0a, m0b⟩ := m0
  have m1 := mulB (part_n R2) (part_d R1)
  obtain ⟨m1a, m1b⟩ := m1
  have m2 := mulB (part_d R1) (part_d R2)
  obtain ⟨m2a, m2b⟩ := m2
  have HM := Lib.hid (fun W => make_any (a * d - c * b) (b * d) W (by omega) (by omega) (by omega) (by omega))
  have HC := Lib.hid (fun W => subC_any a b c d W (part_n R1) (part_d R1) (part_n R2) (part_d R2))
  clear h1 h2 R1 R2
  generalize mkN (a * d - c * b) (b * d) = rn at *
  generalize mkD (a * d - c * b) (b * d) = rd at *
  generalize mkE (a * d - c * b) (b * d) = re at *
  clear m0a m0b m1a m1b m2a m2b
  generalize a * d - c * b = n at *
  generalize b * d = m at *
  go_enter Try.func56, Try.ntmps56
  go_wp2_with fail
  have P0_16 := Lib.hid (show Cell2 (((w.alloc (Obj.cells #[(.int .i64 a), (.int .i64 b)] 23)).alloc (Obj.cells #[(.int .i64 c), (.int .i64 d)] 23)).alloc (Obj.cells #[(.int .i64 0), (.int .i64 0)] 23)) (w.heap.size) (.int .i64 a) (.int .i64 b) from by have q := Cell2.alloc w (.int .i64 a) (.int .i64 b) 23; exact q.below (N := w.heap.size + 1) (((Below.refl _ _).alloc (by simp <;> omega) (Obj.cells #[(.int .i64 c), (.int .i64 d)] 23)).alloc (by simp <;> omega) (Obj.cells #[(.int .i64 0), (.int .i64 0)] 23)) (by omega))
  have P1_16 := Lib.hid (show Cell2 (((w.alloc (Obj.cells #[(.int .i64 a), (.int .i64 b)] 23)).alloc (Obj.cells #[(.int .i64 c), (.int .i64 d)] 23)).alloc (Obj.cells #[(.int .i64 0), (.int .i64 0)] 23)) (w.heap.size + 1) (.int .i64 c) (.int .i64 d) from by have q := Cell2.alloc (w.alloc (Obj.cells #[(.int .i64 a), (.int .i64 b)] 23)) (.int .i64 c) (.int .i64 d) 23; try simp only [World.size_alloc] at q; exact q.below (N := w.heap.size + 1 + 1) ((Below.refl _ _).alloc (by simp <;> omega) (Obj.cells #[(.int .i64 0), (.int .i64 0)] 23)) (by omega))
  have P2_16 := Lib.hid (show Cell2 (((w.alloc (Obj.cells #[(.int .i64 a), (.int .i64 b)] 23)).alloc (Obj.cells #[(.int .i64 c), (.int .i64 d)] 23)).alloc (Obj.cells #[(.int .i64 0), (.int .i64 0)] 23)) (w.heap.size + 2) (.int .i64 0) (.int .i64 0) from by simpa using Cell2.alloc ((w.alloc (Obj.cells #[(.int .i64 a), (.int .i64 b)] 23)).alloc (Obj.cells #[(.int .i64 c), (.int .i64 d)] 23)) (.int .i64 0) (.int .i64 0) 23)
  have HB16 := Lib.hid ((((Below.refl w.heap.size w).alloc (Nat.le_refl _) (Obj.cells #[(.int .i64 a), (.int .i64 b)] 23)).alloc (by simp) (Obj.cells #[(.int .i64 c), (.int .i64 d)] 23)).alloc (by simp; omega) (Obj.cells #[(.int .i64 0), (.int .i64 0)] 23))
  have F_16 := Lib.hid (F_0.out.below HB16.out F_0.out.lt)
  generalize (((w.alloc (Obj.cells #[(.int .i64 a), (.int .i64 b)] 23)).alloc (Obj.cells #[(.int .i64 c), (.int .i64 d)] 23)).alloc (Obj.cells #[(.int .i64 0), (.int .i64 0)] 23)) = W16 at *
  refine (H1.out _).mono ?_
  rintro e W17 ⟨rfl, hb17⟩
  have HB17 := Lib.hid (HB16.out.trans ((hb17).mono HB16.out.size))
  have F_17 := Lib.hid (F_16.out.below (hb17) F_16.out.lt)
  have P0_17 := Lib.hid (P0_16.out.below (hb17) P0_16.out.lt)
  have P1_17 := Lib.hid (P1_16.out.below (hb17) P1_16.out.lt)
  have P2_17 := Lib.hid (P2_16.out.below (hb17) P2_16.out.lt)
  clear HB16 F_16 P0_16 P1_16 P2_16 hb17
  have lF_17 := F_17.out.lt
  have cF_17_0 := F_17.out.c0
  have lP0_17 := P0_17.out.lt
  have cP0_17_0 := P0_17.out.c0
  have cP0_17_1 := P0_17.out.c1
  have lP1_17 := P1_17.out.lt
  have cP1_17_0 := P1_17.out.c0
  have cP1_17_1 := P1_17.out.c1
  have lP2_17 := P2_17.out.lt
  have cP2_17_0 := P2_17.out.c0
  have cP2_17_1 := P2_17.out.c1
  go_wp2_with fail
  clear lF_17 cF_17_0 lP0_17 cP0_17_0 cP0_17_1 lP1_17 cP1_17_0 cP1_17_1 lP2_17 cP2_17_0 cP2_17_1
  refine (H2.out _).mono ?_
  rintro e W18 ⟨rfl, hb18⟩
  have HB18 := Lib.hid (HB17.out.trans ((hb18).mono HB17.out.size))
  have F_18 := Lib.hid (F_17.out.below (hb18) F_17.out.lt)
  have P0_18 := Lib.hid (P0_17.out.below (hb18) P0_17.out.lt)
  have P1_18 := Lib.hid (P1_17.out.below (hb18) P1_17.out.lt)
  have P2_18 := Lib.hid (P2_17.out.below (hb18) P2_17.out.lt)
  clear HB17 F_17 P0_17 P1_17 P2_17 hb18
  have lF_18 := F_18.out.lt
  have cF_18_0 := F_18.out.c0
  have lP0_18 := P0_18.out.lt
  have cP0_18_0 := P0_18.out.c0
  have cP0_18_1 := P0_18.out.c1
  have lP1_18 := P1_18.out.lt
  have cP1_18_0 := P1_18.out.c0
  have cP1_18_1 := P1_18.out.c1
  have lP2_18 := P2_18.out.lt
  have cP2_18_0 := P2_18.out.c0
  have cP2_18_1 := P2_18.out.c1
  go_wp2_with fail
  clear lF_18 cF_18_0 lP0_18 cP0_18_0 cP0_18_1 lP1_18 cP1_18_0 cP1_18_1 lP2_18 cP2_18_0 cP2_18_1
  refine (HC.out _).mono ?_
  rintro e W19 ⟨rfl, hb19⟩
  have HB19 := Lib.hid (HB18.out.trans ((hb19).mono HB18.out.size))
  have F_19 := Lib.hid (F_18.out.below (hb19) F_18.out.lt)
  have P0_19 := Lib.hid (P0_18.out.below (hb19) P0_18.out.lt)
  have P1_19 := Lib.hid (P1_18.out.below (hb19) P1_18.out.lt)
  have P2_19 := Lib.hid (P2_18.out.below (hb19) P2_18.out.lt)
  clear HB18 F_18 P0_18 P1_18 P2_18 hb19
  have lF_19 := F_19.out.lt
  have cF_19_0 := F_19.out.c0
  have lP0_19 := P0_19.out.lt
  have cP0_19_0 := P0_19.out.c0
  have cP0_19_1 := P0_19.out.c1
  have lP1_19 := P1_19.out.lt
  have cP1_19_0 := P1_19.out.c0
  have cP1_19_1 := P1_19.out.c1
  have lP2_19 := P2_19.out.lt
  have cP2_19_0 := P2_19.out.c0
  have cP2_19_1 := P2_19.out.c1
  go_wp2_with fail
  clear lF_19 cF_19_0 lP0_19 cP0_19_0 cP0_19_1 lP1_19 cP1_19_0 cP1_19_1 lP2_19 cP2_19_0 cP2_19_1
  refine (HM.out _).mono ?_
  rintro e W20 ⟨rfl, hb20⟩
  have HB20 := Lib.hid (HB19.out.trans ((hb20).mono HB19.out.size))
  have F_20 := Lib.hid (F_19.out.below (hb20) F_19.out.lt)
  have P0_20 := Lib.hid (P0_19.out.below (hb20) P0_19.out.lt)
  have P1_20 := Lib.hid (P1_19.out.below (hb20) P1_19.out.lt)
  have P2_20 := Lib.hid (P2_19.out.below (hb20) P2_19.out.lt)
  clear HB19 F_19 P0_19 P1_19 P2_19 hb20
  have lF_20 := F_20.out.lt
  have cF_20_0 := F_20.out.c0
  have lP0_20 := P0_20.out.lt
  have cP0_20_0 := P0_20.out.c0
  have cP0_20_1 := P0_20.out.c1
  have lP1_20 := P1_20.out.lt
  have cP1_20_0 := P1_20.out.c0
  have cP1_20_1 := P1_20.out.c1
  have lP2_20 := P2_20.out.lt
  have cP2_20_0 := P2_20.out.c0
  have cP2_20_1 := P2_20.out.c1
  have fP2_20_0 := P2_20.out.f0
  have fP2_20_1 := P2_20.out.f1
  go_wp2
  refine bodyPost_ret (v := .tuple #[.agg #[(.int .i64 rn), (.int .i64 rd)], .int .i64 re]) ?_ rfl ⟨rfl, ((HB20.out.setCell (p := ⟨w.heap.size + 2, 0, none⟩) (by simp) (.int .i64 rn)).setCell (p := ⟨w.heap.size + 2, 1, none⟩) (by simp) (.int .i64 rd))⟩
  have u0 := ((P2_20.out.set0 (.int .i64 rn)).set1 (.int .i64 rd)).c0
  have u1 := ((P2_20.out.set0 (.int .i64 rn)).set1 (.int .i64 rd)).c1
  rw [results_cell_tmp rfl]
  go_simp

set_option maxRecDepth 100000 in
set_option maxHeartbeats 4000000 in
theorem ckMul_any (a b c d : Int) (B : Nat) (w : World) (a1 : -9223372036854775808 ≤ a) (a2 : a ≤ 9223372036854775807) (b1 : -9223372036854775808 ≤ b) (b2 : b ≤ 9223372036854775807) (c1 : -9223372036854775808 ≤ c) (c2 : c ≤ 9223372036854775807) (d1 : -9223372036854775808 ≤ d) (d2 : d ≤ 9223372036854775807) (hB : Cell1 w B (.func (.func 41) #[] #[])) :
    Calls Try.prog 56 #[.agg #[.int .i64 a, .int .i64 b], .agg #[.int .i64 c, .int .i64 d], .pointer (some ⟨B, 0, none⟩)] w fun e w' => e = .returned (.tuple #[.agg #[.int .i64 (opN (okB a b c d) (a * c) (b * d)), .int .i64 (opD (okB a b c d) (a * c) (b * d))], .int .i64 (opE (okB a b c d) (a * c) (b * d))]) ∧ Below w.heap.size w w' := by
  have F_0 := Lib.hid hB
  clear hB
  by_cases h1 : rightB a b = true
  case neg =>
    have h1' : rightB a b = false := by simpa using h1
    have E0 : okB a b c d = false := ok_no1 h1'
    rw [E0, show opN false (a * c) (b * d) = 0 from rfl, show opD false (a * c) (b * d) = 0 from rfl, show opE false (a * c) (b * d) = 2 from rfl]
    clear E0
    have H1 := Lib.hid (fun W => right_val a b false h1' W a1 a2 b1 b2)
    clear h1 h1'
    go_enter Try.func56, Try.ntmps56
    go_wp2_with fail
    have P0_21 := Lib.hid (show Cell2 (((w.alloc (Obj.cells #[(.int .i64 a), (.int .i64 b)] 23)).alloc (Obj.cells #[(.int .i64 c), (.int .i64 d)] 23)).alloc (Obj.cells #[(.int .i64 0), (.int .i64 0)] 23)) (w.heap.size) (.int .i64 a) (.int .i64 b) from by have q := Cell2.alloc w (.int .i64 a) (.int .i64 b) 23; exact q.below (N := w.heap.size + 1) (((Below.refl _ _).alloc (by simp <;> omega) (Obj.cells #[(.int .i64 c), (.int .i64 d)] 23)).alloc (by simp <;> omega) (Obj.cells #[(.int .i64 0), (.int .i64 0)] 23)) (by omega))
    have P1_21 := Lib.hid (show Cell2 (((w.alloc (Obj.cells #[(.int .i64 a), (.int .i64 b)] 23)).alloc (Obj.cells #[(.int .i64 c), (.int .i64 d)] 23)).alloc (Obj.cells #[(.int .i64 0), (.int .i64 0)] 23)) (w.heap.size + 1) (.int .i64 c) (.int .i64 d) from by have q := Cell2.alloc (w.alloc (Obj.cells #[(.int .i64 a), (.int .i64 b)] 23)) (.int .i64 c) (.int .i64 d) 23; try simp only [World.size_alloc] at q; exact q.below (N := w.heap.size + 1 + 1) ((Below.refl _ _).alloc (by simp <;> omega) (Obj.cells #[(.int .i64 0), (.int .i64 0)] 23)) (by omega))
    have P2_21 := Lib.hid (show Cell2 (((w.alloc (Obj.cells #[(.int .i64 a), (.int .i64 b)] 23)).alloc (Obj.cells #[(.int .i64 c), (.int .i64 d)] 23)).alloc (Obj.cells #[(.int .i64 0), (.int .i64 0)] 23)) (w.heap.size + 2) (.int .i64 0) (.int .i64 0) from by simpa using Cell2.alloc ((w.alloc (Obj.cells #[(.int .i64 a), (.int .i64 b)] 23)).alloc (Obj.cells #[(.int .i64 c), (.int .i64 d)] 23)) (.int .i64 0) (.int .i64 0) 23)
    have HB21 := Lib.hid ((((Below.refl w.heap.size w).alloc (Nat.le_refl _) (Obj.cells #[(.int .i64 a), (.int .i64 b)] 23)).alloc (by simp) (Obj.cells #[(.int .i64 c), (.int .i64 d)] 23)).alloc (by simp; omega) (Obj.cells #[(.int .i64 0), (.int .i64 0)] 23))
    have F_21 := Lib.hid (F_0.out.below HB21.out F_0.out.lt)
    generalize (((w.alloc (Obj.cells #[(.int .i64 a), (.int .i64 b)] 23)).alloc (Obj.cells #[(.int .i64 c), (.int .i64 d)] 23)).alloc (Obj.cells #[(.int .i64 0), (.int .i64 0)] 23)) = W21 at *
    refine (H1.out _).mono ?_
    rintro e W22 ⟨rfl, hb22⟩
    have HB22 := Lib.hid (HB21.out.trans ((hb22).mono HB21.out.size))
    have F_22 := Lib.hid (F_21.out.below (hb22) F_21.out.lt)
    have P0_22 := Lib.hid (P0_21.out.below (hb22) P0_21.out.lt)
    have P1_22 := Lib.hid (P1_21.out.below (hb22) P1_21.out.lt)
    have P2_22 := Lib.hid (P2_21.out.below (hb22) P2_21.out.lt)
    clear HB21 F_21 P0_21 P1_21 P2_21 hb22
    have lF_22 := F_22.out.lt
    have cF_22_0 := F_22.out.c0
    have lP0_22 := P0_22.out.lt
    have cP0_22_0 := P0_22.out.c0
    have cP0_22_1 := P0_22.out.c1
    have lP1_22 := P1_22.out.lt
    have cP1_22_0 := P1_22.out.c0
    have cP1_22_1 := P1_22.out.c1
    have lP2_22 := P2_22.out.lt
    have cP2_22_0 := P2_22.out.c0
    have cP2_22_1 := P2_22.out.c1
    have fP2_22_0 := P2_22.out.f0
    have fP2_22_1 := P2_22.out.f1
    go_wp2
    refine bodyPost_ret (v := .tuple #[.agg #[(.int .i64 0), (.int .i64 0)], .int .i64 2]) ?_ rfl ⟨rfl, ((HB22.out.setCell (p := ⟨w.heap.size + 2, 0, none⟩) (by simp) (.int .i64 0)).setCell (p := ⟨w.heap.size + 2, 1, none⟩) (by simp) (.int .i64 0))⟩
    have u0 := ((P2_22.out.set0 (.int .i64 0)).set1 (.int .i64 0)).c0
    have u1 := ((P2_22.out.set0 (.int .i64 0)).set1 (.int .i64 0)).c1
    rw [results_cell_tmp rfl]
    go_simp
  by_cases h2 : rightB c d = true
  case neg =>
    have h2' : rightB c d = false := by simpa using h2
    have E0 : okB a b c d = false := ok_no2 h2'
    rw [E0, show opN false (a * c) (b * d) = 0 from rfl, show opD false (a * c) (b * d) = 0 from rfl, show opE false (a * c) (b * d) = 2 from rfl]
    clear E0
    have H1 := Lib.hid (fun W => right_val a b true h1 W a1 a2 b1 b2)
    have H2 := Lib.hid (fun W => right_val c d false h2' W c1 c2 d1 d2)
    clear h1 h2 h2'
    go_enter Try.func56, Try.ntmps56
    go_wp2_with fail
    have P0_23 := Lib.hid (show Cell2 (((w.alloc (Obj.cells #[(.int .i64 a), (.int .i64 b)] 23)).alloc (Obj.cells #[(.int .i64 c), (.int .i64 d)] 23)).alloc (Obj.cells #[(.int .i64 0), (.int .i64 0)] 23)) (w.heap.size) (.int .i64 a) (.int .i64 b) from by have q := Cell2.alloc w (.int .i64 a) (.int .i64 b) 23; exact q.below (N := w.heap.size + 1) (((Below.refl _ _).alloc (by simp <;> omega) (Obj.cells #[(.int .i64 c), (.int .i64 d)] 23)).alloc (by simp <;> omega) (Obj.cells #[(.int .i64 0), (.int .i64 0)] 23)) (by omega))
    have P1_23 := Lib.hid (show Cell2 (((w.alloc (Obj.cells #[(.int .i64 a), (.int .i64 b)] 23)).alloc (Obj.cells #[(.int .i64 c), (.int .i64 d)] 23)).alloc (Obj.cells #[(.int .i64 0), (.int .i64 0)] 23)) (w.heap.size + 1) (.int .i64 c) (.int .i64 d) from by have q := Cell2.alloc (w.alloc (Obj.cells #[(.int .i64 a), (.int .i64 b)] 23)) (.int .i64 c) (.int .i64 d) 23; try simp only [World.size_alloc] at q; exact q.below (N := w.heap.size + 1 + 1) ((Below.refl _ _).alloc (by simp <;> omega) (Obj.cells #[(.int .i64 0), (.int .i64 0)] 23)) (by omega))
    have P2_23 := Lib.hid (show Cell2 (((w.alloc (Obj.cells #[(.int .i64 a), (.int .i64 b)] 23)).alloc (Obj.cells #[(.int .i64 c), (.int .i64 d)] 23)).alloc (Obj.cells #[(.int .i64 0), (.int .i64 0)] 23)) (w.heap.size + 2) (.int .i64 0) (.int .i64 0) from by simpa using Cell2.alloc ((w.alloc (Obj.cells #[(.int .i64 a), (.int .i64 b)] 23)).alloc (Obj.cells #[(.int .i64 c), (.int .i64 d)] 23)) (.int .i64 0) (.int .i64 0) 23)
    have HB23 := Lib.hid ((((Below.refl w.heap.size w).alloc (Nat.le_refl _) (Obj.cells #[(.int .i64 a), (.int .i64 b)] 23)).alloc (by simp) (Obj.cells #[(.int .i64 c), (.int .i64 d)] 23)).alloc (by simp; omega) (Obj.cells #[(.int .i64 0), (.int .i64 0)] 23))
    have F_23 := Lib.hid (F_0.out.below HB23.out F_0.out.lt)
    generalize (((w.alloc (Obj.cells #[(.int .i64 a), (.int .i64 b)] 23)).alloc (Obj.cells #[(.int .i64 c), (.int .i64 d)] 23)).alloc (Obj.cells #[(.int .i64 0), (.int .i64 0)] 23)) = W23 at *
    refine (H1.out _).mono ?_
    rintro e W24 ⟨rfl, hb24⟩
    have HB24 := Lib.hid (HB23.out.trans ((hb24).mono HB23.out.size))
    have F_24 := Lib.hid (F_23.out.below (hb24) F_23.out.lt)
    have P0_24 := Lib.hid (P0_23.out.below (hb24) P0_23.out.lt)
    have P1_24 := Lib.hid (P1_23.out.below (hb24) P1_23.out.lt)
    have P2_24 := Lib.hid (P2_23.out.below (hb24) P2_23.out.lt)
    clear HB23 F_23 P0_23 P1_23 P2_23 hb24
    have lF_24 := F_24.out.lt
    have cF_24_0 := F_24.out.c0
    have lP0_24 := P0_24.out.lt
    have cP0_24_0 := P0_24.out.c0
    have cP0_24_1 := P0_24.out.c1
    have lP1_24 := P1_24.out.lt
    have cP1_24_0 := P1_24.out.c0
    have cP1_24_1 := P1_24.out.c1
    have lP2_24 := P2_24.out.lt
    have cP2_24_0 := P2_24.out.c0
    have cP2_24_1 := P2_24.out.c1
    go_wp2_with fail
    clear lF_24 cF_24_0 lP0_24 cP0_24_0 cP0_24_1 lP1_24 cP1_24_0 cP1_24_1 lP2_24 cP2_24_0 cP2_24_1
    refine (H2.out _).mono ?_
    rintro e W25 ⟨rfl, hb25⟩
    have HB25 := Lib.hid (HB24.out.trans ((hb25).mono HB24.out.size))
    have F_25 := Lib.hid (F_24.out.below (hb25) F_24.out.lt)
    have P0_25 := Lib.hid (P0_24.out.below (hb25) P0_24.out.lt)
    have P1_25 := Lib.hid (P1_24.out.below (hb25) P1_24.out.lt)
    have P2_25 := Lib.hid (P2_24.out.below (hb25) P2_24.out.lt)
    clear HB24 F_24 P0_24 P1_24 P2_24 hb25
    have lF_25 := F_25.out.lt
    have cF_25_0 := F_25.out.c0
    have lP0_25 := P0_25.out.lt
    have cP0_25_0 := P0_25.out.c0
    have cP0_25_1 := P0_25.out.c1
    have lP1_25 := P1_25.out.lt
    have cP1_25_0 := P1_25.out.c0
    have cP1_25_1 := P1_25.out.c1
    have lP2_25 := P2_25.out.lt
    have cP2_25_0 := P2_25.out.c0
    have cP2_25_1 := P2_25.out.c1
    have fP2_25_0 := P2_25.out.f0
    have fP2_25_1 := P2_25.out.f1
    go_wp2
    refine bodyPost_ret (v := .tuple #[.agg #[(.int .i64 0), (.int .i64 0)], .int .i64 2]) ?_ rfl ⟨rfl, ((HB25.out.setCell (p := ⟨w.heap.size + 2, 0, none⟩) (by simp) (.int .i64 0)).setCell (p := ⟨w.heap.size + 2, 1, none⟩) (by simp) (.int .i64 0))⟩
    have u0 := ((P2_25.out.set0 (.int .i64 0)).set1 (.int .i64 0)).c0
    have u1 := ((P2_25.out.set0 (.int .i64 0)).set1 (.int .i64 0)).c1
    rw [results_cell_tmp rfl]
    go_simp
  have R1 := right_iff.1 h1
  have R2 := right_iff.1 h2
  rw [ok_yes h1 h2, show opN true (a * c) (b * d) = mkN (a * c) (b * d) from rfl, show opD true (a * c) (b * d) = mkD (a * c) (b * d) from rfl, show opE true (a * c) (b * d) = mkE (a * c) (b * d) from rfl]
  have H1 := Lib.hid (fun W => right_val a b true h1 W a1 a2 b1 b2)
  have H2 := Lib.hid (fun W => right_val c d true h2 W c1 c2 d1 d2)
  have m0 := mulB (part_n R1) (part_n R2)
  obtain ⟨m0a, m0b⟩ := m0
  have m1 := mulB (part_d R1) (part_d R2)
  obtain ⟨m1a, m1b⟩ := m1
  have HM := Lib.hid (fun W => make_any (a * c) (b * d) W (by omega) (by omega) (by omega) (by omega))
  have HC := Lib.hid (fun W => mulC_any a b c d W (part_n R1) (part_d R1) (part_n R2) (part_d R2))
  clear h1 h2 R1 R2
  generalize mkN (a * c) (b * d) = rn at *
  generalize mkD (a * c) (b * d) = rd at *
  generalize mkE (a * c) (b * d) = re at *
  clear m0a m0b m1a m1b
  generalize a * c = n at *
  generalize b * d = m at *
  go_enter Try.func56, Try.ntmps56
  go_wp2_with fail
  have P0_26 := Lib.hid (show Cell2 (((w.alloc (Obj.cells #[(.int .i64 a), (.int .i64 b)] 23)).alloc (Obj.cells #[(.int .i64 c), (.int .i64 d)] 23)).alloc (Obj.cells #[(.int .i64 0), (.int .i64 0)] 23)) (w.heap.size) (.int .i64 a) (.int .i64 b) from by have q := Cell2.alloc w (.int .i64 a) (.int .i64 b) 23; exact q.below (N := w.heap.size + 1) (((Below.refl _ _).alloc (by simp <;> omega) (Obj.cells #[(.int .i64 c), (.int .i64 d)] 23)).alloc (by simp <;> omega) (Obj.cells #[(.int .i64 0), (.int .i64 0)] 23)) (by omega))
  have P1_26 := Lib.hid (show Cell2 (((w.alloc (Obj.cells #[(.int .i64 a), (.int .i64 b)] 23)).alloc (Obj.cells #[(.int .i64 c), (.int .i64 d)] 23)).alloc (Obj.cells #[(.int .i64 0), (.int .i64 0)] 23)) (w.heap.size + 1) (.int .i64 c) (.int .i64 d) from by have q := Cell2.alloc (w.alloc (Obj.cells #[(.int .i64 a), (.int .i64 b)] 23)) (.int .i64 c) (.int .i64 d) 23; try simp only [World.size_alloc] at q; exact q.below (N := w.heap.size + 1 + 1) ((Below.refl _ _).alloc (by simp <;> omega) (Obj.cells #[(.int .i64 0), (.int .i64 0)] 23)) (by omega))
  have P2_26 := Lib.hid (show Cell2 (((w.alloc (Obj.cells #[(.int .i64 a), (.int .i64 b)] 23)).alloc (Obj.cells #[(.int .i64 c), (.int .i64 d)] 23)).alloc (Obj.cells #[(.int .i64 0), (.int .i64 0)] 23)) (w.heap.size + 2) (.int .i64 0) (.int .i64 0) from by simpa using Cell2.alloc ((w.alloc (Obj.cells #[(.int .i64 a), (.int .i64 b)] 23)).alloc (Obj.cells #[(.int .i64 c), (.int .i64 d)] 23)) (.int .i64 0) (.int .i64 0) 23)
  have HB26 := Lib.hid ((((Below.refl w.heap.size w).alloc (Nat.le_refl _) (Obj.cells #[(.int .i64 a), (.int .i64 b)] 23)).alloc (by simp) (Obj.cells #[(.int .i64 c), (.int .i64 d)] 23)).alloc (by simp; omega) (Obj.cells #[(.int .i64 0), (.int .i64 0)] 23))
  have F_26 := Lib.hid (F_0.out.below HB26.out F_0.out.lt)
  generalize (((w.alloc (Obj.cells #[(.int .i64 a), (.int .i64 b)] 23)).alloc (Obj.cells #[(.int .i64 c), (.int .i64 d)] 23)).alloc (Obj.cells #[(.int .i64 0), (.int .i64 0)] 23)) = W26 at *
  refine (H1.out _).mono ?_
  rintro e W27 ⟨rfl, hb27⟩
  have HB27 := Lib.hid (HB26.out.trans ((hb27).mono HB26.out.size))
  have F_27 := Lib.hid (F_26.out.below (hb27) F_26.out.lt)
  have P0_27 := Lib.hid (P0_26.out.below (hb27) P0_26.out.lt)
  have P1_27 := Lib.hid (P1_26.out.below (hb27) P1_26.out.lt)
  have P2_27 := Lib.hid (P2_26.out.below (hb27) P2_26.out.lt)
  clear HB26 F_26 P0_26 P1_26 P2_26 hb27
  have lF_27 := F_27.out.lt
  have cF_27_0 := F_27.out.c0
  have lP0_27 := P0_27.out.lt
  have cP0_27_0 := P0_27.out.c0
  have cP0_27_1 := P0_27.out.c1
  have lP1_27 := P1_27.out.lt
  have cP1_27_0 := P1_27.out.c0
  have cP1_27_1 := P1_27.out.c1
  have lP2_27 := P2_27.out.lt
  have cP2_27_0 := P2_27.out.c0
  have cP2_27_1 := P2_27.out.c1
  go_wp2_with fail
  clear lF_27 cF_27_0 lP0_27 cP0_27_0 cP0_27_1 lP1_27 cP1_27_0 cP1_27_1 lP2_27 cP2_27_0 cP2_27_1
  refine (H2.out _).mono ?_
  rintro e W28 ⟨rfl, hb28⟩
  have HB28 := Lib.hid (HB27.out.trans ((hb28).mono HB27.out.size))
  have F_28 := Lib.hid (F_27.out.below (hb28) F_27.out.lt)
  have P0_28 := Lib.hid (P0_27.out.below (hb28) P0_27.out.lt)
  have P1_28 := Lib.hid (P1_27.out.below (hb28) P1_27.out.lt)
  have P2_28 := Lib.hid (P2_27.out.below (hb28) P2_27.out.lt)
  clear HB27 F_27 P0_27 P1_27 P2_27 hb28
  have lF_28 := F_28.out.lt
  have cF_28_0 := F_28.out.c0
  have lP0_28 := P0_28.out.lt
  have cP0_28_0 := P0_28.out.c0
  have cP0_28_1 := P0_28.out.c1
  have lP1_28 := P1_28.out.lt
  have cP1_28_0 := P1_28.out.c0
  have cP1_28_1 := P1_28.out.c1
  have lP2_28 := P2_28.out.lt
  have cP2_28_0 := P2_28.out.c0
  have cP2_28_1 := P2_28.out.c1
  go_wp2_with fail
  clear lF_28 cF_28_0 lP0_28 cP0_28_0 cP0_28_1 lP1_28 cP1_28_0 cP1_28_1 lP2_28 cP2_28_0 cP2_28_1
  refine (HC.out _).mono ?_
  rintro e W29 ⟨rfl, hb29⟩
  have HB29 := Lib.hid (HB28.out.trans ((hb29).mono HB28.out.size))
  have F_29 := Lib.hid (F_28.out.below (hb29) F_28.out.lt)
  have P0_29 := Lib.hid (P0_28.out.below (hb29) P0_28.out.lt)
  have P1_29 := Lib.hid (P1_28.out.below (hb29) P1_28.out.lt)
  have P2_29 := Lib.hid (P2_28.out.below (hb29) P2_28.out.lt)
  clear HB28 F_28 P0_28 P1_28 P2_28 hb29
  have lF_29 := F_29.out.lt
  have cF_29_0 := F_29.out.c0
  have lP0_29 := P0_29.out.lt
  have cP0_29_0 := P0_29.out.c0
  have cP0_29_1 := P0_29.out.c1
  have lP1_29 := P1_29.out.lt
  have cP1_29_0 := P1_29.out.c0
  have cP1_29_1 := P1_29.out.c1
  have lP2_29 := P2_29.out.lt
  have cP2_29_0 := P2_29.out.c0
  have cP2_29_1 := P2_29.out.c1
  go_wp2_with fail
  clear lF_29 cF_29_0 lP0_29 cP0_29_0 cP0_29_1 lP1_29 cP1_29_0 cP1_29_1 lP2_29 cP2_29_0 cP2_29_1
  refine (HM.out _).mono ?_
  rintro e W30 ⟨rfl, hb30⟩
  have HB30 := Lib.hid (HB29.out.trans ((hb30).mono HB29.out.size))
  have F_30 := Lib.hid (F_29.out.below (hb30) F_29.out.lt)
  have P0_30 := Lib.hid (P0_29.out.below (hb30) P0_29.out.lt)
  have P1_30 := Lib.hid (P1_29.out.below (hb30) P1_29.out.lt)
  have P2_30 := Lib.hid (P2_29.out.below (hb30) P2_29.out.lt)
  clear HB29 F_29 P0_29 P1_29 P2_29 hb30
  have lF_30 := F_30.out.lt
  have cF_30_0 := F_30.out.c0
  have lP0_30 := P0_30.out.lt
  have cP0_30_0 := P0_30.out.c0
  have cP0_30_1 := P0_30.out.c1
  have lP1_30 := P1_30.out.lt
  have cP1_30_0 := P1_30.out.c0
  have cP1_30_1 := P1_30.out.c1
  have lP2_30 := P2_30.out.lt
  have cP2_30_0 := P2_30.out.c0
  have cP2_30_1 := P2_30.out.c1
  have fP2_30_0 := P2_30.out.f0
  have fP2_30_1 := P2_30.out.f1
  go_wp2
  refine bodyPost_ret (v := .tuple #[.agg #[(.int .i64 rn), (.int .i64 rd)], .int .i64 re]) ?_ rfl ⟨rfl, ((HB30.out.setCell (p := ⟨w.heap.size + 2, 0, none⟩) (by simp) (.int .i64 rn)).setCell (p := ⟨w.heap.size + 2, 1, none⟩) (by simp) (.int .i64 rd))⟩
  have u0 := ((P2_30.out.set0 (.int .i64 rn)).set1 (.int .i64 rd)).c0
  have u1 := ((P2_30.out.set0 (.int .i64 rn)).set1 (.int .i64 rd)).c1
  rw [results_cell_tmp rfl]
  go_simp

set_option maxRecDepth 100000 in
set_option maxHeartbeats 4000000 in
theorem ckQuo_any (a b c d : Int) (B : Nat) (w : World) (a1 : -9223372036854775808 ≤ a) (a2 : a ≤ 9223372036854775807) (b1 : -9223372036854775808 ≤ b) (b2 : b ≤ 9223372036854775807) (c1 : -9223372036854775808 ≤ c) (c2 : c ≤ 9223372036854775807) (d1 : -9223372036854775808 ≤ d) (d2 : d ≤ 9223372036854775807) (hB : Cell1 w B (.func (.func 42) #[] #[])) :
    Calls Try.prog 56 #[.agg #[.int .i64 a, .int .i64 b], .agg #[.int .i64 c, .int .i64 d], .pointer (some ⟨B, 0, none⟩)] w fun e w' => e = .returned (.tuple #[.agg #[.int .i64 (opN (okB a b c d) (a * d) (b * c)), .int .i64 (opD (okB a b c d) (a * d) (b * c))], .int .i64 (opE (okB a b c d) (a * d) (b * c))]) ∧ Below w.heap.size w w' := by
  have F_0 := Lib.hid hB
  clear hB
  by_cases h1 : rightB a b = true
  case neg =>
    have h1' : rightB a b = false := by simpa using h1
    have E0 : okB a b c d = false := ok_no1 h1'
    rw [E0, show opN false (a * d) (b * c) = 0 from rfl, show opD false (a * d) (b * c) = 0 from rfl, show opE false (a * d) (b * c) = 2 from rfl]
    clear E0
    have H1 := Lib.hid (fun W => right_val a b false h1' W a1 a2 b1 b2)
    clear h1 h1'
    go_enter Try.func56, Try.ntmps56
    go_wp2_with fail
    have P0_31 := Lib.hid (show Cell2 (((w.alloc (Obj.cells #[(.int .i64 a), (.int .i64 b)] 23)).alloc (Obj.cells #[(.int .i64 c), (.int .i64 d)] 23)).alloc (Obj.cells #[(.int .i64 0), (.int .i64 0)] 23)) (w.heap.size) (.int .i64 a) (.int .i64 b) from by have q := Cell2.alloc w (.int .i64 a) (.int .i64 b) 23; exact q.below (N := w.heap.size + 1) (((Below.refl _ _).alloc (by simp <;> omega) (Obj.cells #[(.int .i64 c), (.int .i64 d)] 23)).alloc (by simp <;> omega) (Obj.cells #[(.int .i64 0), (.int .i64 0)] 23)) (by omega))
    have P1_31 := Lib.hid (show Cell2 (((w.alloc (Obj.cells #[(.int .i64 a), (.int .i64 b)] 23)).alloc (Obj.cells #[(.int .i64 c), (.int .i64 d)] 23)).alloc (Obj.cells #[(.int .i64 0), (.int .i64 0)] 23)) (w.heap.size + 1) (.int .i64 c) (.int .i64 d) from by have q := Cell2.alloc (w.alloc (Obj.cells #[(.int .i64 a), (.int .i64 b)] 23)) (.int .i64 c) (.int .i64 d) 23; try simp only [World.size_alloc] at q; exact q.below (N := w.heap.size + 1 + 1) ((Below.refl _ _).alloc (by simp <;> omega) (Obj.cells #[(.int .i64 0), (.int .i64 0)] 23)) (by omega))
    have P2_31 := Lib.hid (show Cell2 (((w.alloc (Obj.cells #[(.int .i64 a), (.int .i64 b)] 23)).alloc (Obj.cells #[(.int .i64 c), (.int .i64 d)] 23)).alloc (Obj.cells #[(.int .i64 0), (.int .i64 0)] 23)) (w.heap.size + 2) (.int .i64 0) (.int .i64 0) from by simpa using Cell2.alloc ((w.alloc (Obj.cells #[(.int .i64 a), (.int .i64 b)] 23)).alloc (Obj.cells #[(.int .i64 c), (.int .i64 d)] 23)) (.int .i64 0) (.int .i64 0) 23)
    have HB31 := Lib.hid ((((Below.refl w.heap.size w).alloc (Nat.le_refl _) (Obj.cells #[(.int .i64 a), (.int .i64 b)] 23)).alloc (by simp) (Obj.cells #[(.int .i64 c), (.int .i64 d)] 23)).alloc (by simp; omega) (Obj.cells #[(.int .i64 0), (.int .i64 0)] 23))
    have F_31 := Lib.hid (F_0.out.below HB31.out F_0.out.lt)
    generalize (((w.alloc (Obj.cells #[(.int .i64 a), (.int .i64 b)] 23)).alloc (Obj.cells #[(.int .i64 c), (.int .i64 d)] 23)).alloc (Obj.cells #[(.int .i64 0), (.int .i64 0)] 23)) = W31 at *
    refine (H1.out _).mono ?_
    rintro e W32 ⟨rfl, hb32⟩
    have HB32 := Lib.hid (HB31.out.trans ((hb32).mono HB31.out.size))
    have F_32 := Lib.hid (F_31.out.below (hb32) F_31.out.lt)
    have P0_32 := Lib.hid (P0_31.out.below (hb32) P0_31.out.lt)
    have P1_32 := Lib.hid (P1_31.out.below (hb32) P1_31.out.lt)
    have P2_32 := Lib.hid (P2_31.out.below (hb32) P2_31.out.lt)
    clear HB31 F_31 P0_31 P1_31 P2_31 hb32
    have lF_32 := F_32.out.lt
    have cF_32_0 := F_32.out.c0
    have lP0_32 := P0_32.out.lt
    have cP0_32_0 := P0_32.out.c0
    have cP0_32_1 := P0_32.out.c1
    have lP1_32 := P1_32.out.lt
    have cP1_32_0 := P1_32.out.c0
    have cP1_32_1 := P1_32.out.c1
    have lP2_32 := P2_32.out.lt
    have cP2_32_0 := P2_32.out.c0
    have cP2_32_1 := P2_32.out.c1
    have fP2_32_0 := P2_32.out.f0
    have fP2_32_1 := P2_32.out.f1
    go_wp2
    refine bodyPost_ret (v := .tuple #[.agg #[(.int .i64 0), (.int .i64 0)], .int .i64 2]) ?_ rfl ⟨rfl, ((HB32.out.setCell (p := ⟨w.heap.size + 2, 0, none⟩) (by simp) (.int .i64 0)).setCell (p := ⟨w.heap.size + 2, 1, none⟩) (by simp) (.int .i64 0))⟩
    have u0 := ((P2_32.out.set0 (.int .i64 0)).set1 (.int .i64 0)).c0
    have u1 := ((P2_32.out.set0 (.int .i64 0)).set1 (.int .i64 0)).c1
    rw [results_cell_tmp rfl]
    go_simp
  by_cases h2 : rightB c d = true
  case neg =>
    have h2' : rightB c d = false := by simpa using h2
    have E0 : okB a b c d = false := ok_no2 h2'
    rw [E0, show opN false (a * d) (b * c) = 0 from rfl, show opD false (a * d) (b * c) = 0 from rfl, show opE false (a * d) (b * c) = 2 from rfl]
    clear E0
    have H1 := Lib.hid (fun W => right_val a b true h1 W a1 a2 b1 b2)
    have H2 := Lib.hid (fun W => right_val c d false h2' W c1 c2 d1 d2)
    clear h1 h2 h2'
    go_enter Try.func56, Try.ntmps56
    go_wp2_with fail
    have P0_33 := Lib.hid (show Cell2 (((w.alloc (Obj.cells #[(.int .i64 a), (.int .i64 b)] 23)).alloc (Obj.cells #[(.int .i64 c), (.int .i64 d)] 23)).alloc (Obj.cells #[(.int .i64 0), (.int .i64 0)] 23)) (w.heap.size) (.int .i64 a) (.int .i64 b) from by have q := Cell2.alloc w (.int .i64 a) (.int .i64 b) 23; exact q.below (N := w.heap.size + 1) (((Below.refl _ _).alloc (by simp <;> omega) (Obj.cells #[(.int .i64 c), (.int .i64 d)] 23)).alloc (by simp <;> omega) (Obj.cells #[(.int .i64 0), (.int .i64 0)] 23)) (by omega))
    have P1_33 := Lib.hid (show Cell2 (((w.alloc (Obj.cells #[(.int .i64 a), (.int .i64 b)] 23)).alloc (Obj.cells #[(.int .i64 c), (.int .i64 d)] 23)).alloc (Obj.cells #[(.int .i64 0), (.int .i64 0)] 23)) (w.heap.size + 1) (.int .i64 c) (.int .i64 d) from by have q := Cell2.alloc (w.alloc (Obj.cells #[(.int .i64 a), (.int .i64 b)] 23)) (.int .i64 c) (.int .i64 d) 23; try simp only [World.size_alloc] at q; exact q.below (N := w.heap.size + 1 + 1) ((Below.refl _ _).alloc (by simp <;> omega) (Obj.cells #[(.int .i64 0), (.int .i64 0)] 23)) (by omega))
    have P2_33 := Lib.hid (show Cell2 (((w.alloc (Obj.cells #[(.int .i64 a), (.int .i64 b)] 23)).alloc (Obj.cells #[(.int .i64 c), (.int .i64 d)] 23)).alloc (Obj.cells #[(.int .i64 0), (.int .i64 0)] 23)) (w.heap.size + 2) (.int .i64 0) (.int .i64 0) from by simpa using Cell2.alloc ((w.alloc (Obj.cells #[(.int .i64 a), (.int .i64 b)] 23)).alloc (Obj.cells #[(.int .i64 c), (.int .i64 d)] 23)) (.int .i64 0) (.int .i64 0) 23)
    have HB33 := Lib.hid ((((Below.refl w.heap.size w).alloc (Nat.le_refl _) (Obj.cells #[(.int .i64 a), (.int .i64 b)] 23)).alloc (by simp) (Obj.cells #[(.int .i64 c), (.int .i64 d)] 23)).alloc (by simp; omega) (Obj.cells #[(.int .i64 0), (.int .i64 0)] 23))
    have F_33 := Lib.hid (F_0.out.below HB33.out F_0.out.lt)
    generalize (((w.alloc (Obj.cells #[(.int .i64 a), (.int .i64 b)] 23)).alloc (Obj.cells #[(.int .i64 c), (.int .i64 d)] 23)).alloc (Obj.cells #[(.int .i64 0), (.int .i64 0)] 23)) = W33 at *
    refine (H1.out _).mono ?_
    rintro e W34 ⟨rfl, hb34⟩
    have HB34 := Lib.hid (HB33.out.trans ((hb34).mono HB33.out.size))
    have F_34 := Lib.hid (F_33.out.below (hb34) F_33.out.lt)
    have P0_34 := Lib.hid (P0_33.out.below (hb34) P0_33.out.lt)
    have P1_34 := Lib.hid (P1_33.out.below (hb34) P1_33.out.lt)
    have P2_34 := Lib.hid (P2_33.out.below (hb34) P2_33.out.lt)
    clear HB33 F_33 P0_33 P1_33 P2_33 hb34
    have lF_34 := F_34.out.lt
    have cF_34_0 := F_34.out.c0
    have lP0_34 := P0_34.out.lt
    have cP0_34_0 := P0_34.out.c0
    have cP0_34_1 := P0_34.out.c1
    have lP1_34 := P1_34.out.lt
    have cP1_34_0 := P1_34.out.c0
    have cP1_34_1 := P1_34.out.c1
    have lP2_34 := P2_34.out.lt
    have cP2_34_0 := P2_34.out.c0
    have cP2_34_1 := P2_34.out.c1
    go_wp2_with fail
    clear lF_34 cF_34_0 lP0_34 cP0_34_0 cP0_34_1 lP1_34 cP1_34_0 cP1_34_1 lP2_34 cP2_34_0 cP2_34_1
    refine (H2.out _).mono ?_
    rintro e W35 ⟨rfl, hb35⟩
    have HB35 := Lib.hid (HB34.out.trans ((hb35).mono HB34.out.size))
    have F_35 := Lib.hid (F_34.out.below (hb35) F_34.out.lt)
    have P0_35 := Lib.hid (P0_34.out.below (hb35) P0_34.out.lt)
    have P1_35 := Lib.hid (P1_34.out.below (hb35) P1_34.out.lt)
    have P2_35 := Lib.hid (P2_34.out.below (hb35) P2_34.out.lt)
    clear HB34 F_34 P0_34 P1_34 P2_34 hb35
    have lF_35 := F_35.out.lt
    have cF_35_0 := F_35.out.c0
    have lP0_35 := P0_35.out.lt
    have cP0_35_0 := P0_35.out.c0
    have cP0_35_1 := P0_35.out.c1
    have lP1_35 := P1_35.out.lt
    have cP1_35_0 := P1_35.out.c0
    have cP1_35_1 := P1_35.out.c1
    have lP2_35 := P2_35.out.lt
    have cP2_35_0 := P2_35.out.c0
    have cP2_35_1 := P2_35.out.c1
    have fP2_35_0 := P2_35.out.f0
    have fP2_35_1 := P2_35.out.f1
    go_wp2
    refine bodyPost_ret (v := .tuple #[.agg #[(.int .i64 0), (.int .i64 0)], .int .i64 2]) ?_ rfl ⟨rfl, ((HB35.out.setCell (p := ⟨w.heap.size + 2, 0, none⟩) (by simp) (.int .i64 0)).setCell (p := ⟨w.heap.size + 2, 1, none⟩) (by simp) (.int .i64 0))⟩
    have u0 := ((P2_35.out.set0 (.int .i64 0)).set1 (.int .i64 0)).c0
    have u1 := ((P2_35.out.set0 (.int .i64 0)).set1 (.int .i64 0)).c1
    rw [results_cell_tmp rfl]
    go_simp
  have R1 := right_iff.1 h1
  have R2 := right_iff.1 h2
  rw [ok_yes h1 h2, show opN true (a * d) (b * c) = mkN (a * d) (b * c) from rfl, show opD true (a * d) (b * c) = mkD (a * d) (b * c) from rfl, show opE true (a * d) (b * c) = mkE (a * d) (b * c) from rfl]
  have H1 := Lib.hid (fun W => right_val a b true h1 W a1 a2 b1 b2)
  have H2 := Lib.hid (fun W => right_val c d true h2 W c1 c2 d1 d2)
  have m0 := mulB (part_n R1) (part_d R2)
  obtain ⟨m0a, m0b⟩ := m0
  have m1 := mulB (part_d R1) (part_n R2)
  obtain ⟨m1a, m1b⟩ := m1
  have HM := Lib.hid (fun W => make_any (a * d) (b * c) W (by omega) (by omega) (by omega) (by omega))
  have HC := Lib.hid (fun W => quoC_any a b c d W (part_n R1) (part_d R1) (part_n R2) (part_d R2))
  clear h1 h2 R1 R2
  generalize mkN (a * d) (b * c) = rn at *
  generalize mkD (a * d) (b * c) = rd at *
  generalize mkE (a * d) (b * c) = re at *
  clear m0a m0b m1a m1b
  generalize a * d = n at *
  generalize b * c = m at *
  go_enter Try.func56, Try.ntmps56
  go_wp2_with fail
  have P0_36 := Lib.hid (show Cell2 (((w.alloc (Obj.cells #[(.int .i64 a), (.int .i64 b)] 23)).alloc (Obj.cells #[(.int .i64 c), (.int .i64 d)] 23)).alloc (Obj.cells #[(.int .i64 0), (.int .i64 0)] 23)) (w.heap.size) (.int .i64 a) (.int .i64 b) from by have q := Cell2.alloc w (.int .i64 a) (.int .i64 b) 23; exact q.below (N := w.heap.size + 1) (((Below.refl _ _).alloc (by simp <;> omega) (Obj.cells #[(.int .i64 c), (.int .i64 d)] 23)).alloc (by simp <;> omega) (Obj.cells #[(.int .i64 0), (.int .i64 0)] 23)) (by omega))
  have P1_36 := Lib.hid (show Cell2 (((w.alloc (Obj.cells #[(.int .i64 a), (.int .i64 b)] 23)).alloc (Obj.cells #[(.int .i64 c), (.int .i64 d)] 23)).alloc (Obj.cells #[(.int .i64 0), (.int .i64 0)] 23)) (w.heap.size + 1) (.int .i64 c) (.int .i64 d) from by have q := Cell2.alloc (w.alloc (Obj.cells #[(.int .i64 a), (.int .i64 b)] 23)) (.int .i64 c) (.int .i64 d) 23; try simp only [World.size_alloc] at q; exact q.below (N := w.heap.size + 1 + 1) ((Below.refl _ _).alloc (by simp <;> omega) (Obj.cells #[(.int .i64 0), (.int .i64 0)] 23)) (by omega))
  have P2_36 := Lib.hid (show Cell2 (((w.alloc (Obj.cells #[(.int .i64 a), (.int .i64 b)] 23)).alloc (Obj.cells #[(.int .i64 c), (.int .i64 d)] 23)).alloc (Obj.cells #[(.int .i64 0), (.int .i64 0)] 23)) (w.heap.size + 2) (.int .i64 0) (.int .i64 0) from by simpa using Cell2.alloc ((w.alloc (Obj.cells #[(.int .i64 a), (.int .i64 b)] 23)).alloc (Obj.cells #[(.int .i64 c), (.int .i64 d)] 23)) (.int .i64 0) (.int .i64 0) 23)
  have HB36 := Lib.hid ((((Below.refl w.heap.size w).alloc (Nat.le_refl _) (Obj.cells #[(.int .i64 a), (.int .i64 b)] 23)).alloc (by simp) (Obj.cells #[(.int .i64 c), (.int .i64 d)] 23)).alloc (by simp; omega) (Obj.cells #[(.int .i64 0), (.int .i64 0)] 23))
  have F_36 := Lib.hid (F_0.out.below HB36.out F_0.out.lt)
  generalize (((w.alloc (Obj.cells #[(.int .i64 a), (.int .i64 b)] 23)).alloc (Obj.cells #[(.int .i64 c), (.int .i64 d)] 23)).alloc (Obj.cells #[(.int .i64 0), (.int .i64 0)] 23)) = W36 at *
  refine (H1.out _).mono ?_
  rintro e W37 ⟨rfl, hb37⟩
  have HB37 := Lib.hid (HB36.out.trans ((hb37).mono HB36.out.size))
  have F_37 := Lib.hid (F_36.out.below (hb37) F_36.out.lt)
  have P0_37 := Lib.hid (P0_36.out.below (hb37) P0_36.out.lt)
  have P1_37 := Lib.hid (P1_36.out.below (hb37) P1_36.out.lt)
  have P2_37 := Lib.hid (P2_36.out.below (hb37) P2_36.out.lt)
  clear HB36 F_36 P0_36 P1_36 P2_36 hb37
  have lF_37 := F_37.out.lt
  have cF_37_0 := F_37.out.c0
  have lP0_37 := P0_37.out.lt
  have cP0_37_0 := P0_37.out.c0
  have cP0_37_1 := P0_37.out.c1
  have lP1_37 := P1_37.out.lt
  have cP1_37_0 := P1_37.out.c0
  have cP1_37_1 := P1_37.out.c1
  have lP2_37 := P2_37.out.lt
  have cP2_37_0 := P2_37.out.c0
  have cP2_37_1 := P2_37.out.c1
  go_wp2_with fail
  clear lF_37 cF_37_0 lP0_37 cP0_37_0 cP0_37_1 lP1_37 cP1_37_0 cP1_37_1 lP2_37 cP2_37_0 cP2_37_1
  refine (H2.out _).mono ?_
  rintro e W38 ⟨rfl, hb38⟩
  have HB38 := Lib.hid (HB37.out.trans ((hb38).mono HB37.out.size))
  have F_38 := Lib.hid (F_37.out.below (hb38) F_37.out.lt)
  have P0_38 := Lib.hid (P0_37.out.below (hb38) P0_37.out.lt)
  have P1_38 := Lib.hid (P1_37.out.below (hb38) P1_37.out.lt)
  have P2_38 := Lib.hid (P2_37.out.below (hb38) P2_37.out.lt)
  clear HB37 F_37 P0_37 P1_37 P2_37 hb38
  have lF_38 := F_38.out.lt
  have cF_38_0 := F_38.out.c0
  have lP0_38 := P0_38.out.lt
  have cP0_38_0 := P0_38.out.c0
  have cP0_38_1 := P0_38.out.c1
  have lP1_38 := P1_38.out.lt
  have cP1_38_0 := P1_38.out.c0
  have cP1_38_1 := P1_38.out.c1
  have lP2_38 := P2_38.out.lt
  have cP2_38_0 := P2_38.out.c0
  have cP2_38_1 := P2_38.out.c1
  go_wp2_with fail
  clear lF_38 cF_38_0 lP0_38 cP0_38_0 cP0_38_1 lP1_38 cP1_38_0 cP1_38_1 lP2_38 cP2_38_0 cP2_38_1
  refine (HC.out _).mono ?_
  rintro e W39 ⟨rfl, hb39⟩
  have HB39 := Lib.hid (HB38.out.trans ((hb39).mono HB38.out.size))
  have F_39 := Lib.hid (F_38.out.below (hb39) F_38.out.lt)
  have P0_39 := Lib.hid (P0_38.out.below (hb39) P0_38.out.lt)
  have P1_39 := Lib.hid (P1_38.out.below (hb39) P1_38.out.lt)
  have P2_39 := Lib.hid (P2_38.out.below (hb39) P2_38.out.lt)
  clear HB38 F_38 P0_38 P1_38 P2_38 hb39
  have lF_39 := F_39.out.lt
  have cF_39_0 := F_39.out.c0
  have lP0_39 := P0_39.out.lt
  have cP0_39_0 := P0_39.out.c0
  have cP0_39_1 := P0_39.out.c1
  have lP1_39 := P1_39.out.lt
  have cP1_39_0 := P1_39.out.c0
  have cP1_39_1 := P1_39.out.c1
  have lP2_39 := P2_39.out.lt
  have cP2_39_0 := P2_39.out.c0
  have cP2_39_1 := P2_39.out.c1
  go_wp2_with fail
  clear lF_39 cF_39_0 lP0_39 cP0_39_0 cP0_39_1 lP1_39 cP1_39_0 cP1_39_1 lP2_39 cP2_39_0 cP2_39_1
  refine (HM.out _).mono ?_
  rintro e W40 ⟨rfl, hb40⟩
  have HB40 := Lib.hid (HB39.out.trans ((hb40).mono HB39.out.size))
  have F_40 := Lib.hid (F_39.out.below (hb40) F_39.out.lt)
  have P0_40 := Lib.hid (P0_39.out.below (hb40) P0_39.out.lt)
  have P1_40 := Lib.hid (P1_39.out.below (hb40) P1_39.out.lt)
  have P2_40 := Lib.hid (P2_39.out.below (hb40) P2_39.out.lt)
  clear HB39 F_39 P0_39 P1_39 P2_39 hb40
  have lF_40 := F_40.out.lt
  have cF_40_0 := F_40.out.c0
  have lP0_40 := P0_40.out.lt
  have cP0_40_0 := P0_40.out.c0
  have cP0_40_1 := P0_40.out.c1
  have lP1_40 := P1_40.out.lt
  have cP1_40_0 := P1_40.out.c0
  have cP1_40_1 := P1_40.out.c1
  have lP2_40 := P2_40.out.lt
  have cP2_40_0 := P2_40.out.c0
  have cP2_40_1 := P2_40.out.c1
  have fP2_40_0 := P2_40.out.f0
  have fP2_40_1 := P2_40.out.f1
  go_wp2
  refine bodyPost_ret (v := .tuple #[.agg #[(.int .i64 rn), (.int .i64 rd)], .int .i64 re]) ?_ rfl ⟨rfl, ((HB40.out.setCell (p := ⟨w.heap.size + 2, 0, none⟩) (by simp) (.int .i64 rn)).setCell (p := ⟨w.heap.size + 2, 1, none⟩) (by simp) (.int .i64 rd))⟩
  have u0 := ((P2_40.out.set0 (.int .i64 rn)).set1 (.int .i64 rd)).c0
  have u1 := ((P2_40.out.set0 (.int .i64 rn)).set1 (.int .i64 rd)).c1
  rw [results_cell_tmp rfl]
  go_simp

set_option maxRecDepth 100000 in
set_option maxHeartbeats 4000000 in
theorem rAdd_any (a b c d : Int) (w : World) (a1 : -9223372036854775808 ≤ a) (a2 : a ≤ 9223372036854775807) (b1 : -9223372036854775808 ≤ b) (b2 : b ≤ 9223372036854775807) (c1 : -9223372036854775808 ≤ c) (c2 : c ≤ 9223372036854775807) (d1 : -9223372036854775808 ≤ d) (d2 : d ≤ 9223372036854775807) :
    Calls Try.prog 18 #[.agg #[.int .i64 a, .int .i64 b], .agg #[.int .i64 c, .int .i64 d]] w fun e w' => e = .returned (.tuple #[.agg #[.int .i64 (opN (okB a b c d) (a * d + c * b) (b * d)), .int .i64 (opD (okB a b c d) (a * d + c * b) (b * d))], .int .i64 (opE (okB a b c d) (a * d + c * b) (b * d))]) ∧ Below w.heap.size w w' := by
  by_cases h1 : rightB a b = true
  case neg =>
    have h1' : rightB a b = false := by simpa using h1
    have E0 : okB a b c d = false := ok_no1 h1'
    rw [E0, show opN false (a * d + c * b) (b * d) = 0 from rfl, show opD false (a * d + c * b) (b * d) = 0 from rfl, show opE false (a * d + c * b) (b * d) = 2 from rfl]
    clear E0
    have H1 := Lib.hid (fun W => rRight_val a b false h1' W a1 a2 b1 b2)
    clear h1 h1'
    go_enter Try.func18, Try.ntmps18
    go_wp2_with fail
    have P0_41 := Lib.hid (show Cell2 (((w.alloc (Obj.cells #[(.int .i64 a), (.int .i64 b)] 23)).alloc (Obj.cells #[(.int .i64 c), (.int .i64 d)] 23)).alloc (Obj.cells #[(.int .i64 0), (.int .i64 0)] 23)) (w.heap.size) (.int .i64 a) (.int .i64 b) from by have q := Cell2.alloc w (.int .i64 a) (.int .i64 b) 23; exact q.below (N := w.heap.size + 1) (((Below.refl _ _).alloc (by simp <;> omega) (Obj.cells #[(.int .i64 c), (.int .i64 d)] 23)).alloc (by simp <;> omega) (Obj.cells #[(.int .i64 0), (.int .i64 0)] 23)) (by omega))
    have P1_41 := Lib.hid (show Cell2 (((w.alloc (Obj.cells #[(.int .i64 a), (.int .i64 b)] 23)).alloc (Obj.cells #[(.int .i64 c), (.int .i64 d)] 23)).alloc (Obj.cells #[(.int .i64 0), (.int .i64 0)] 23)) (w.heap.size + 1) (.int .i64 c) (.int .i64 d) from by have q := Cell2.alloc (w.alloc (Obj.cells #[(.int .i64 a), (.int .i64 b)] 23)) (.int .i64 c) (.int .i64 d) 23; try simp only [World.size_alloc] at q; exact q.below (N := w.heap.size + 1 + 1) ((Below.refl _ _).alloc (by simp <;> omega) (Obj.cells #[(.int .i64 0), (.int .i64 0)] 23)) (by omega))
    have P2_41 := Lib.hid (show Cell2 (((w.alloc (Obj.cells #[(.int .i64 a), (.int .i64 b)] 23)).alloc (Obj.cells #[(.int .i64 c), (.int .i64 d)] 23)).alloc (Obj.cells #[(.int .i64 0), (.int .i64 0)] 23)) (w.heap.size + 2) (.int .i64 0) (.int .i64 0) from by simpa using Cell2.alloc ((w.alloc (Obj.cells #[(.int .i64 a), (.int .i64 b)] 23)).alloc (Obj.cells #[(.int .i64 c), (.int .i64 d)] 23)) (.int .i64 0) (.int .i64 0) 23)
    have HB41 := Lib.hid ((((Below.refl w.heap.size w).alloc (Nat.le_refl _) (Obj.cells #[(.int .i64 a), (.int .i64 b)] 23)).alloc (by simp) (Obj.cells #[(.int .i64 c), (.int .i64 d)] 23)).alloc (by simp; omega) (Obj.cells #[(.int .i64 0), (.int .i64 0)] 23))
    generalize (((w.alloc (Obj.cells #[(.int .i64 a), (.int .i64 b)] 23)).alloc (Obj.cells #[(.int .i64 c), (.int .i64 d)] 23)).alloc (Obj.cells #[(.int .i64 0), (.int .i64 0)] 23)) = W41 at *
    refine (H1.out _).mono ?_
    rintro e W42 ⟨rfl, hb42⟩
    have HB42 := Lib.hid (HB41.out.trans ((hb42).mono HB41.out.size))
    have P0_42 := Lib.hid (P0_41.out.below (hb42) P0_41.out.lt)
    have P1_42 := Lib.hid (P1_41.out.below (hb42) P1_41.out.lt)
    have P2_42 := Lib.hid (P2_41.out.below (hb42) P2_41.out.lt)
    clear HB41 P0_41 P1_41 P2_41 hb42
    have lP0_42 := P0_42.out.lt
    have cP0_42_0 := P0_42.out.c0
    have cP0_42_1 := P0_42.out.c1
    have lP1_42 := P1_42.out.lt
    have cP1_42_0 := P1_42.out.c0
    have cP1_42_1 := P1_42.out.c1
    have lP2_42 := P2_42.out.lt
    have cP2_42_0 := P2_42.out.c0
    have cP2_42_1 := P2_42.out.c1
    have fP2_42_0 := P2_42.out.f0
    have fP2_42_1 := P2_42.out.f1
    go_wp2
    refine bodyPost_ret (v := .tuple #[.agg #[(.int .i64 0), (.int .i64 0)], .int .i64 2]) ?_ rfl ⟨rfl, ((HB42.out.setCell (p := ⟨w.heap.size + 2, 0, none⟩) (by simp) (.int .i64 0)).setCell (p := ⟨w.heap.size + 2, 1, none⟩) (by simp) (.int .i64 0))⟩
    have u0 := ((P2_42.out.set0 (.int .i64 0)).set1 (.int .i64 0)).c0
    have u1 := ((P2_42.out.set0 (.int .i64 0)).set1 (.int .i64 0)).c1
    rw [results_cell_tmp rfl]
    go_simp
  by_cases h2 : rightB c d = true
  case neg =>
    have h2' : rightB c d = false := by simpa using h2
    have E0 : okB a b c d = false := ok_no2 h2'
    rw [E0, show opN false (a * d + c * b) (b * d) = 0 from rfl, show opD false (a * d + c * b) (b * d) = 0 from rfl, show opE false (a * d + c * b) (b * d) = 2 from rfl]
    clear E0
    have H1 := Lib.hid (fun W => rRight_val a b true h1 W a1 a2 b1 b2)
    have H2 := Lib.hid (fun W => rRight_val c d false h2' W c1 c2 d1 d2)
    clear h1 h2 h2'
    go_enter Try.func18, Try.ntmps18
    go_wp2_with fail
    have P0_43 := Lib.hid (show Cell2 (((w.alloc (Obj.cells #[(.int .i64 a), (.int .i64 b)] 23)).alloc (Obj.cells #[(.int .i64 c), (.int .i64 d)] 23)).alloc (Obj.cells #[(.int .i64 0), (.int .i64 0)] 23)) (w.heap.size) (.int .i64 a) (.int .i64 b) from by have q := Cell2.alloc w (.int .i64 a) (.int .i64 b) 23; exact q.below (N := w.heap.size + 1) (((Below.refl _ _).alloc (by simp <;> omega) (Obj.cells #[(.int .i64 c), (.int .i64 d)] 23)).alloc (by simp <;> omega) (Obj.cells #[(.int .i64 0), (.int .i64 0)] 23)) (by omega))
    have P1_43 := Lib.hid (show Cell2 (((w.alloc (Obj.cells #[(.int .i64 a), (.int .i64 b)] 23)).alloc (Obj.cells #[(.int .i64 c), (.int .i64 d)] 23)).alloc (Obj.cells #[(.int .i64 0), (.int .i64 0)] 23)) (w.heap.size + 1) (.int .i64 c) (.int .i64 d) from by have q := Cell2.alloc (w.alloc (Obj.cells #[(.int .i64 a), (.int .i64 b)] 23)) (.int .i64 c) (.int .i64 d) 23; try simp only [World.size_alloc] at q; exact q.below (N := w.heap.size + 1 + 1) ((Below.refl _ _).alloc (by simp <;> omega) (Obj.cells #[(.int .i64 0), (.int .i64 0)] 23)) (by omega))
    have P2_43 := Lib.hid (show Cell2 (((w.alloc (Obj.cells #[(.int .i64 a), (.int .i64 b)] 23)).alloc (Obj.cells #[(.int .i64 c), (.int .i64 d)] 23)).alloc (Obj.cells #[(.int .i64 0), (.int .i64 0)] 23)) (w.heap.size + 2) (.int .i64 0) (.int .i64 0) from by simpa using Cell2.alloc ((w.alloc (Obj.cells #[(.int .i64 a), (.int .i64 b)] 23)).alloc (Obj.cells #[(.int .i64 c), (.int .i64 d)] 23)) (.int .i64 0) (.int .i64 0) 23)
    have HB43 := Lib.hid ((((Below.refl w.heap.size w).alloc (Nat.le_refl _) (Obj.cells #[(.int .i64 a), (.int .i64 b)] 23)).alloc (by simp) (Obj.cells #[(.int .i64 c), (.int .i64 d)] 23)).alloc (by simp; omega) (Obj.cells #[(.int .i64 0), (.int .i64 0)] 23))
    generalize (((w.alloc (Obj.cells #[(.int .i64 a), (.int .i64 b)] 23)).alloc (Obj.cells #[(.int .i64 c), (.int .i64 d)] 23)).alloc (Obj.cells #[(.int .i64 0), (.int .i64 0)] 23)) = W43 at *
    refine (H1.out _).mono ?_
    rintro e W44 ⟨rfl, hb44⟩
    have HB44 := Lib.hid (HB43.out.trans ((hb44).mono HB43.out.size))
    have P0_44 := Lib.hid (P0_43.out.below (hb44) P0_43.out.lt)
    have P1_44 := Lib.hid (P1_43.out.below (hb44) P1_43.out.lt)
    have P2_44 := Lib.hid (P2_43.out.below (hb44) P2_43.out.lt)
    clear HB43 P0_43 P1_43 P2_43 hb44
    have lP0_44 := P0_44.out.lt
    have cP0_44_0 := P0_44.out.c0
    have cP0_44_1 := P0_44.out.c1
    have lP1_44 := P1_44.out.lt
    have cP1_44_0 := P1_44.out.c0
    have cP1_44_1 := P1_44.out.c1
    have lP2_44 := P2_44.out.lt
    have cP2_44_0 := P2_44.out.c0
    have cP2_44_1 := P2_44.out.c1
    go_wp2_with fail
    clear lP0_44 cP0_44_0 cP0_44_1 lP1_44 cP1_44_0 cP1_44_1 lP2_44 cP2_44_0 cP2_44_1
    refine (H2.out _).mono ?_
    rintro e W45 ⟨rfl, hb45⟩
    have HB45 := Lib.hid (HB44.out.trans ((hb45).mono HB44.out.size))
    have P0_45 := Lib.hid (P0_44.out.below (hb45) P0_44.out.lt)
    have P1_45 := Lib.hid (P1_44.out.below (hb45) P1_44.out.lt)
    have P2_45 := Lib.hid (P2_44.out.below (hb45) P2_44.out.lt)
    clear HB44 P0_44 P1_44 P2_44 hb45
    have lP0_45 := P0_45.out.lt
    have cP0_45_0 := P0_45.out.c0
    have cP0_45_1 := P0_45.out.c1
    have lP1_45 := P1_45.out.lt
    have cP1_45_0 := P1_45.out.c0
    have cP1_45_1 := P1_45.out.c1
    have lP2_45 := P2_45.out.lt
    have cP2_45_0 := P2_45.out.c0
    have cP2_45_1 := P2_45.out.c1
    have fP2_45_0 := P2_45.out.f0
    have fP2_45_1 := P2_45.out.f1
    go_wp2
    refine bodyPost_ret (v := .tuple #[.agg #[(.int .i64 0), (.int .i64 0)], .int .i64 2]) ?_ rfl ⟨rfl, ((HB45.out.setCell (p := ⟨w.heap.size + 2, 0, none⟩) (by simp) (.int .i64 0)).setCell (p := ⟨w.heap.size + 2, 1, none⟩) (by simp) (.int .i64 0))⟩
    have u0 := ((P2_45.out.set0 (.int .i64 0)).set1 (.int .i64 0)).c0
    have u1 := ((P2_45.out.set0 (.int .i64 0)).set1 (.int .i64 0)).c1
    rw [results_cell_tmp rfl]
    go_simp
  have R1 := right_iff.1 h1
  have R2 := right_iff.1 h2
  rw [ok_yes h1 h2, show opN true (a * d + c * b) (b * d) = mkN (a * d + c * b) (b * d) from rfl, show opD true (a * d + c * b) (b * d) = mkD (a * d + c * b) (b * d) from rfl, show opE true (a * d + c * b) (b * d) = mkE (a * d + c * b) (b * d) from rfl]
  have H1 := Lib.hid (fun W => rRight_val a b true h1 W a1 a2 b1 b2)
  have H2 := Lib.hid (fun W => rRight_val c d true h2 W c1 c2 d1 d2)
  have m0 := mulB (part_n R1) (part_d R2)
  obtain ⟨m0a, m0b⟩ := m0
  have m1 := mulB (part_n R2) (part_d R1)
  obtain ⟨m1a, m1b⟩ := m1
  have m2 := mulB (part_d R1) (part_d R2)
  obtain ⟨m2a, m2b⟩ := m2
  have HM := Lib.hid (fun W => rMake_any (a * d + c * b) (b * d) W (by omega) (by omega) (by omega) (by omega))
  clear h1 h2 R1 R2
  generalize mkN (a * d + c * b) (b * d) = rn at *
  generalize mkD (a * d + c * b) (b * d) = rd at *
  generalize mkE (a * d + c * b) (b * d) = re at *
  go_enter Try.func18, Try.ntmps18
  go_wp2_with fail
  have P0_46 := Lib.hid (show Cell2 (((w.alloc (Obj.cells #[(.int .i64 a), (.int .i64 b)] 23)).alloc (Obj.cells #[(.int .i64 c), (.int .i64 d)] 23)).alloc (Obj.cells #[(.int .i64 0), (.int .i64 0)] 23)) (w.heap.size) (.int .i64 a) (.int .i64 b) from by have q := Cell2.alloc w (.int .i64 a) (.int .i64 b) 23; exact q.below (N := w.heap.size + 1) (((Below.refl _ _).alloc (by simp <;> omega) (Obj.cells #[(.int .i64 c), (.int .i64 d)] 23)).alloc (by simp <;> omega) (Obj.cells #[(.int .i64 0), (.int .i64 0)] 23)) (by omega))
  have P1_46 := Lib.hid (show Cell2 (((w.alloc (Obj.cells #[(.int .i64 a), (.int .i64 b)] 23)).alloc (Obj.cells #[(.int .i64 c), (.int .i64 d)] 23)).alloc (Obj.cells #[(.int .i64 0), (.int .i64 0)] 23)) (w.heap.size + 1) (.int .i64 c) (.int .i64 d) from by have q := Cell2.alloc (w.alloc (Obj.cells #[(.int .i64 a), (.int .i64 b)] 23)) (.int .i64 c) (.int .i64 d) 23; try simp only [World.size_alloc] at q; exact q.below (N := w.heap.size + 1 + 1) ((Below.refl _ _).alloc (by simp <;> omega) (Obj.cells #[(.int .i64 0), (.int .i64 0)] 23)) (by omega))
  have P2_46 := Lib.hid (show Cell2 (((w.alloc (Obj.cells #[(.int .i64 a), (.int .i64 b)] 23)).alloc (Obj.cells #[(.int .i64 c), (.int .i64 d)] 23)).alloc (Obj.cells #[(.int .i64 0), (.int .i64 0)] 23)) (w.heap.size + 2) (.int .i64 0) (.int .i64 0) from by simpa using Cell2.alloc ((w.alloc (Obj.cells #[(.int .i64 a), (.int .i64 b)] 23)).alloc (Obj.cells #[(.int .i64 c), (.int .i64 d)] 23)) (.int .i64 0) (.int .i64 0) 23)
  have HB46 := Lib.hid ((((Below.refl w.heap.size w).alloc (Nat.le_refl _) (Obj.cells #[(.int .i64 a), (.int .i64 b)] 23)).alloc (by simp) (Obj.cells #[(.int .i64 c), (.int .i64 d)] 23)).alloc (by simp; omega) (Obj.cells #[(.int .i64 0), (.int .i64 0)] 23))
  generalize (((w.alloc (Obj.cells #[(.int .i64 a), (.int .i64 b)] 23)).alloc (Obj.cells #[(.int .i64 c), (.int .i64 d)] 23)).alloc (Obj.cells #[(.int .i64 0), (.int .i64 0)] 23)) = W46 at *
  refine (H1.out _).mono ?_
  rintro e W47 ⟨rfl, hb47⟩
  have HB47 := Lib.hid (HB46.out.trans ((hb47).mono HB46.out.size))
  have P0_47 := Lib.hid (P0_46.out.below (hb47) P0_46.out.lt)
  have P1_47 := Lib.hid (P1_46.out.below (hb47) P1_46.out.lt)
  have P2_47 := Lib.hid (P2_46.out.below (hb47) P2_46.out.lt)
  clear HB46 P0_46 P1_46 P2_46 hb47
  have lP0_47 := P0_47.out.lt
  have cP0_47_0 := P0_47.out.c0
  have cP0_47_1 := P0_47.out.c1
  have lP1_47 := P1_47.out.lt
  have cP1_47_0 := P1_47.out.c0
  have cP1_47_1 := P1_47.out.c1
  have lP2_47 := P2_47.out.lt
  have cP2_47_0 := P2_47.out.c0
  have cP2_47_1 := P2_47.out.c1
  go_wp2_with fail
  clear lP0_47 cP0_47_0 cP0_47_1 lP1_47 cP1_47_0 cP1_47_1 lP2_47 cP2_47_0 cP2_47_1
  refine (H2.out _).mono ?_
  rintro e W48 ⟨rfl, hb48⟩
  have HB48 := Lib.hid (HB47.out.trans ((hb48).mono HB47.out.size))
  have P0_48 := Lib.hid (P0_47.out.below (hb48) P0_47.out.lt)
  have P1_48 := Lib.hid (P1_47.out.below (hb48) P1_47.out.lt)
  have P2_48 := Lib.hid (P2_47.out.below (hb48) P2_47.out.lt)
  clear HB47 P0_47 P1_47 P2_47 hb48
  have lP0_48 := P0_48.out.lt
  have cP0_48_0 := P0_48.out.c0
  have cP0_48_1 := P0_48.out.c1
  have lP1_48 := P1_48.out.lt
  have cP1_48_0 := P1_48.out.c0
  have cP1_48_1 := P1_48.out.c1
  have lP2_48 := P2_48.out.lt
  have cP2_48_0 := P2_48.out.c0
  have cP2_48_1 := P2_48.out.c1
  go_wp2_with fail
  clear lP0_48 cP0_48_0 cP0_48_1 lP1_48 cP1_48_0 cP1_48_1 lP2_48 cP2_48_0 cP2_48_1
  refine (HM.out _).mono ?_
  rintro e W49 ⟨rfl, hb49⟩
  have HB49 := Lib.hid (HB48.out.trans ((hb49).mono HB48.out.size))
  have P0_49 := Lib.hid (P0_48.out.below (hb49) P0_48.out.lt)
  have P1_49 := Lib.hid (P1_48.out.below (hb49) P1_48.out.lt)
  have P2_49 := Lib.hid (P2_48.out.below (hb49) P2_48.out.lt)
  clear HB48 P0_48 P1_48 P2_48 hb49
  have lP0_49 := P0_49.out.lt
  have cP0_49_0 := P0_49.out.c0
  have cP0_49_1 := P0_49.out.c1
  have lP1_49 := P1_49.out.lt
  have cP1_49_0 := P1_49.out.c0
  have cP1_49_1 := P1_49.out.c1
  have lP2_49 := P2_49.out.lt
  have cP2_49_0 := P2_49.out.c0
  have cP2_49_1 := P2_49.out.c1
  have fP2_49_0 := P2_49.out.f0
  have fP2_49_1 := P2_49.out.f1
  go_wp2
  refine bodyPost_ret (v := .tuple #[.agg #[(.int .i64 rn), (.int .i64 rd)], .int .i64 re]) ?_ rfl ⟨rfl, ((HB49.out.setCell (p := ⟨w.heap.size + 2, 0, none⟩) (by simp) (.int .i64 rn)).setCell (p := ⟨w.heap.size + 2, 1, none⟩) (by simp) (.int .i64 rd))⟩
  have u0 := ((P2_49.out.set0 (.int .i64 rn)).set1 (.int .i64 rd)).c0
  have u1 := ((P2_49.out.set0 (.int .i64 rn)).set1 (.int .i64 rd)).c1
  rw [results_cell_tmp rfl]
  go_simp

set_option maxRecDepth 100000 in
set_option maxHeartbeats 4000000 in
theorem rMul_any (a b c d : Int) (w : World) (a1 : -9223372036854775808 ≤ a) (a2 : a ≤ 9223372036854775807) (b1 : -9223372036854775808 ≤ b) (b2 : b ≤ 9223372036854775807) (c1 : -9223372036854775808 ≤ c) (c2 : c ≤ 9223372036854775807) (d1 : -9223372036854775808 ≤ d) (d2 : d ≤ 9223372036854775807) :
    Calls Try.prog 22 #[.agg #[.int .i64 a, .int .i64 b], .agg #[.int .i64 c, .int .i64 d]] w fun e w' => e = .returned (.tuple #[.agg #[.int .i64 (opN (okB a b c d) (a * c) (b * d)), .int .i64 (opD (okB a b c d) (a * c) (b * d))], .int .i64 (opE (okB a b c d) (a * c) (b * d))]) ∧ Below w.heap.size w w' := by
  by_cases h1 : rightB a b = true
  case neg =>
    have h1' : rightB a b = false := by simpa using h1
    have E0 : okB a b c d = false := ok_no1 h1'
    rw [E0, show opN false (a * c) (b * d) = 0 from rfl, show opD false (a * c) (b * d) = 0 from rfl, show opE false (a * c) (b * d) = 2 from rfl]
    clear E0
    have H1 := Lib.hid (fun W => rRight_val a b false h1' W a1 a2 b1 b2)
    clear h1 h1'
    go_enter Try.func22, Try.ntmps22
    go_wp2_with fail
    have P0_50 := Lib.hid (show Cell2 (((w.alloc (Obj.cells #[(.int .i64 a), (.int .i64 b)] 23)).alloc (Obj.cells #[(.int .i64 c), (.int .i64 d)] 23)).alloc (Obj.cells #[(.int .i64 0), (.int .i64 0)] 23)) (w.heap.size) (.int .i64 a) (.int .i64 b) from by have q := Cell2.alloc w (.int .i64 a) (.int .i64 b) 23; exact q.below (N := w.heap.size + 1) (((Below.refl _ _).alloc (by simp <;> omega) (Obj.cells #[(.int .i64 c), (.int .i64 d)] 23)).alloc (by simp <;> omega) (Obj.cells #[(.int .i64 0), (.int .i64 0)] 23)) (by omega))
    have P1_50 := Lib.hid (show Cell2 (((w.alloc (Obj.cells #[(.int .i64 a), (.int .i64 b)] 23)).alloc (Obj.cells #[(.int .i64 c), (.int .i64 d)] 23)).alloc (Obj.cells #[(.int .i64 0), (.int .i64 0)] 23)) (w.heap.size + 1) (.int .i64 c) (.int .i64 d) from by have q := Cell2.alloc (w.alloc (Obj.cells #[(.int .i64 a), (.int .i64 b)] 23)) (.int .i64 c) (.int .i64 d) 23; try simp only [World.size_alloc] at q; exact q.below (N := w.heap.size + 1 + 1) ((Below.refl _ _).alloc (by simp <;> omega) (Obj.cells #[(.int .i64 0), (.int .i64 0)] 23)) (by omega))
    have P2_50 := Lib.hid (show Cell2 (((w.alloc (Obj.cells #[(.int .i64 a), (.int .i64 b)] 23)).alloc (Obj.cells #[(.int .i64 c), (.int .i64 d)] 23)).alloc (Obj.cells #[(.int .i64 0), (.int .i64 0)] 23)) (w.heap.size + 2) (.int .i64 0) (.int .i64 0) from by simpa using Cell2.alloc ((w.alloc (Obj.cells #[(.int .i64 a), (.int .i64 b)] 23)).alloc (Obj.cells #[(.int .i64 c), (.int .i64 d)] 23)) (.int .i64 0) (.int .i64 0) 23)
    have HB50 := Lib.hid ((((Below.refl w.heap.size w).alloc (Nat.le_refl _) (Obj.cells #[(.int .i64 a), (.int .i64 b)] 23)).alloc (by simp) (Obj.cells #[(.int .i64 c), (.int .i64 d)] 23)).alloc (by simp; omega) (Obj.cells #[(.int .i64 0), (.int .i64 0)] 23))
    generalize (((w.alloc (Obj.cells #[(.int .i64 a), (.int .i64 b)] 23)).alloc (Obj.cells #[(.int .i64 c), (.int .i64 d)] 23)).alloc (Obj.cells #[(.int .i64 0), (.int .i64 0)] 23)) = W50 at *
    refine (H1.out _).mono ?_
    rintro e W51 ⟨rfl, hb51⟩
    have HB51 := Lib.hid (HB50.out.trans ((hb51).mono HB50.out.size))
    have P0_51 := Lib.hid (P0_50.out.below (hb51) P0_50.out.lt)
    have P1_51 := Lib.hid (P1_50.out.below (hb51) P1_50.out.lt)
    have P2_51 := Lib.hid (P2_50.out.below (hb51) P2_50.out.lt)
    clear HB50 P0_50 P1_50 P2_50 hb51
    have lP0_51 := P0_51.out.lt
    have cP0_51_0 := P0_51.out.c0
    have cP0_51_1 := P0_51.out.c1
    have lP1_51 := P1_51.out.lt
    have cP1_51_0 := P1_51.out.c0
    have cP1_51_1 := P1_51.out.c1
    have lP2_51 := P2_51.out.lt
    have cP2_51_0 := P2_51.out.c0
    have cP2_51_1 := P2_51.out.c1
    have fP2_51_0 := P2_51.out.f0
    have fP2_51_1 := P2_51.out.f1
    go_wp2
    refine bodyPost_ret (v := .tuple #[.agg #[(.int .i64 0), (.int .i64 0)], .int .i64 2]) ?_ rfl ⟨rfl, ((HB51.out.setCell (p := ⟨w.heap.size + 2, 0, none⟩) (by simp) (.int .i64 0)).setCell (p := ⟨w.heap.size + 2, 1, none⟩) (by simp) (.int .i64 0))⟩
    have u0 := ((P2_51.out.set0 (.int .i64 0)).set1 (.int .i64 0)).c0
    have u1 := ((P2_51.out.set0 (.int .i64 0)).set1 (.int .i64 0)).c1
    rw [results_cell_tmp rfl]
    go_simp
  by_cases h2 : rightB c d = true
  case neg =>
    have h2' : rightB c d = false := by simpa using h2
    have E0 : okB a b c d = false := ok_no2 h2'
    rw [E0, show opN false (a * c) (b * d) = 0 from rfl, show opD false (a * c) (b * d) = 0 from rfl, show opE false (a * c) (b * d) = 2 from rfl]
    clear E0
    have H1 := Lib.hid (fun W => rRight_val a b true h1 W a1 a2 b1 b2)
    have H2 := Lib.hid (fun W => rRight_val c d false h2' W c1 c2 d1 d2)
    clear h1 h2 h2'
    go_enter Try.func22, Try.ntmps22
    go_wp2_with fail
    have P0_52 := Lib.hid (show Cell2 (((w.alloc (Obj.cells #[(.int .i64 a), (.int .i64 b)] 23)).alloc (Obj.cells #[(.int .i64 c), (.int .i64 d)] 23)).alloc (Obj.cells #[(.int .i64 0), (.int .i64 0)] 23)) (w.heap.size) (.int .i64 a) (.int .i64 b) from by have q := Cell2.alloc w (.int .i64 a) (.int .i64 b) 23; exact q.below (N := w.heap.size + 1) (((Below.refl _ _).alloc (by simp <;> omega) (Obj.cells #[(.int .i64 c), (.int .i64 d)] 23)).alloc (by simp <;> omega) (Obj.cells #[(.int .i64 0), (.int .i64 0)] 23)) (by omega))
    have P1_52 := Lib.hid (show Cell2 (((w.alloc (Obj.cells #[(.int .i64 a), (.int .i64 b)] 23)).alloc (Obj.cells #[(.int .i64 c), (.int .i64 d)] 23)).alloc (Obj.cells #[(.int .i64 0), (.int .i64 0)] 23)) (w.heap.size + 1) (.int .i64 c) (.int .i64 d) from by have q := Cell2.alloc (w.alloc (Obj.cells #[(.int .i64 a), (.int .i64 b)] 23)) (.int .i64 c) (.int .i64 d) 23; try simp only [World.size_alloc] at q; exact q.below (N := w.heap.size + 1 + 1) ((Below.refl _ _).alloc (by simp <;> omega) (Obj.cells #[(.int .i64 0), (.int .i64 0)] 23)) (by omega))
    have P2_52 := Lib.hid (show Cell2 (((w.alloc (Obj.cells #[(.int .i64 a), (.int .i64 b)] 23)).alloc (Obj.cells #[(.int .i64 c), (.int .i64 d)] 23)).alloc (Obj.cells #[(.int .i64 0), (.int .i64 0)] 23)) (w.heap.size + 2) (.int .i64 0) (.int .i64 0) from by simpa using Cell2.alloc ((w.alloc (Obj.cells #[(.int .i64 a), (.int .i64 b)] 23)).alloc (Obj.cells #[(.int .i64 c), (.int .i64 d)] 23)) (.int .i64 0) (.int .i64 0) 23)
    have HB52 := Lib.hid ((((Below.refl w.heap.size w).alloc (Nat.le_refl _) (Obj.cells #[(.int .i64 a), (.int .i64 b)] 23)).alloc (by simp) (Obj.cells #[(.int .i64 c), (.int .i64 d)] 23)).alloc (by simp; omega) (Obj.cells #[(.int .i64 0), (.int .i64 0)] 23))
    generalize (((w.alloc (Obj.cells #[(.int .i64 a), (.int .i64 b)] 23)).alloc (Obj.cells #[(.int .i64 c), (.int .i64 d)] 23)).alloc (Obj.cells #[(.int .i64 0), (.int .i64 0)] 23)) = W52 at *
    refine (H1.out _).mono ?_
    rintro e W53 ⟨rfl, hb53⟩
    have HB53 := Lib.hid (HB52.out.trans ((hb53).mono HB52.out.size))
    have P0_53 := Lib.hid (P0_52.out.below (hb53) P0_52.out.lt)
    have P1_53 := Lib.hid (P1_52.out.below (hb53) P1_52.out.lt)
    have P2_53 := Lib.hid (P2_52.out.below (hb53) P2_52.out.lt)
    clear HB52 P0_52 P1_52 P2_52 hb53
    have lP0_53 := P0_53.out.lt
    have cP0_53_0 := P0_53.out.c0
    have cP0_53_1 := P0_53.out.c1
    have lP1_53 := P1_53.out.lt
    have cP1_53_0 := P1_53.out.c0
    have cP1_53_1 := P1_53.out.c1
    have lP2_53 := P2_53.out.lt
    have cP2_53_0 := P2_53.out.c0
    have cP2_53_1 := P2_53.out.c1
    go_wp2_with fail
    clear lP0_53 cP0_53_0 cP0_53_1 lP1_53 cP1_53_0 cP1_53_1 lP2_53 cP2_53_0 cP2_53_1
    refine (H2.out _).mono ?_
    rintro e W54 ⟨rfl, hb54⟩
    have HB54 := Lib.hid (HB53.out.trans ((hb54).mono HB53.out.size))
    have P0_54 := Lib.hid (P0_53.out.below (hb54) P0_53.out.lt)
    have P1_54 := Lib.hid (P1_53.out.below (hb54) P1_53.out.lt)
    have P2_54 := Lib.hid (P2_53.out.below (hb54) P2_53.out.lt)
    clear HB53 P0_53 P1_53 P2_53 hb54
    have lP0_54 := P0_54.out.lt
    have cP0_54_0 := P0_54.out.c0
    have cP0_54_1 := P0_54.out.c1
    have lP1_54 := P1_54.out.lt
    have cP1_54_0 := P1_54.out.c0
    have cP1_54_1 := P1_54.out.c1
    have lP2_54 := P2_54.out.lt
    have cP2_54_0 := P2_54.out.c0
    have cP2_54_1 := P2_54.out.c1
    have fP2_54_0 := P2_54.out.f0
    have fP2_54_1 := P2_54.out.f1
    go_wp2
    refine bodyPost_ret (v := .tuple #[.agg #[(.int .i64 0), (.int .i64 0)], .int .i64 2]) ?_ rfl ⟨rfl, ((HB54.out.setCell (p := ⟨w.heap.size + 2, 0, none⟩) (by simp) (.int .i64 0)).setCell (p := ⟨w.heap.size + 2, 1, none⟩) (by simp) (.int .i64 0))⟩
    have u0 := ((P2_54.out.set0 (.int .i64 0)).set1 (.int .i64 0)).c0
    have u1 := ((P2_54.out.set0 (.int .i64 0)).set1 (.int .i64 0)).c1
    rw [results_cell_tmp rfl]
    go_simp
  have R1 := right_iff.1 h1
  have R2 := right_iff.1 h2
  rw [ok_yes h1 h2, show opN true (a * c) (b * d) = mkN (a * c) (b * d) from rfl, show opD true (a * c) (b * d) = mkD (a * c) (b * d) from rfl, show opE true (a * c) (b * d) = mkE (a * c) (b * d) from rfl]
  have H1 := Lib.hid (fun W => rRight_val a b true h1 W a1 a2 b1 b2)
  have H2 := Lib.hid (fun W => rRight_val c d true h2 W c1 c2 d1 d2)
  have m0 := mulB (part_n R1) (part_n R2)
  obtain ⟨m0a, m0b⟩ := m0
  have m1 := mulB (part_d R1) (part_d R2)
  obtain ⟨m1a, m1b⟩ := m1
  have HM := Lib.hid (fun W => rMake_any (a * c) (b * d) W (by omega) (by omega) (by omega) (by omega))
  clear h1 h2 R1 R2
  generalize mkN (a * c) (b * d) = rn at *
  generalize mkD (a * c) (b * d) = rd at *
  generalize mkE (a * c) (b * d) = re at *
  go_enter Try.func22, Try.ntmps22
  go_wp2_with fail
  have P0_55 := Lib.hid (show Cell2 (((w.alloc (Obj.cells #[(.int .i64 a), (.int .i64 b)] 23)).alloc (Obj.cells #[(.int .i64 c), (.int .i64 d)] 23)).alloc (Obj.cells #[(.int .i64 0), (.int .i64 0)] 23)) (w.heap.size) (.int .i64 a) (.int .i64 b) from by have q := Cell2.alloc w (.int .i64 a) (.int .i64 b) 23; exact q.below (N := w.heap.size + 1) (((Below.refl _ _).alloc (by simp <;> omega) (Obj.cells #[(.int .i64 c), (.int .i64 d)] 23)).alloc (by simp <;> omega) (Obj.cells #[(.int .i64 0), (.int .i64 0)] 23)) (by omega))
  have P1_55 := Lib.hid (show Cell2 (((w.alloc (Obj.cells #[(.int .i64 a), (.int .i64 b)] 23)).alloc (Obj.cells #[(.int .i64 c), (.int .i64 d)] 23)).alloc (Obj.cells #[(.int .i64 0), (.int .i64 0)] 23)) (w.heap.size + 1) (.int .i64 c) (.int .i64 d) from by have q := Cell2.alloc (w.alloc (Obj.cells #[(.int .i64 a), (.int .i64 b)] 23)) (.int .i64 c) (.int .i64 d) 23; try simp only [World.size_alloc] at q; exact q.below (N := w.heap.size + 1 + 1) ((Below.refl _ _).alloc (by simp <;> omega) (Obj.cells #[(.int .i64 0), (.int .i64 0)] 23)) (by omega))
  have P2_55 := Lib.hid (show Cell2 (((w.alloc (Obj.cells #[(.int .i64 a), (.int .i64 b)] 23)).alloc (Obj.cells #[(.int .i64 c), (.int .i64 d)] 23)).alloc (Obj.cells #[(.int .i64 0), (.int .i64 0)] 23)) (w.heap.size + 2) (.int .i64 0) (.int .i64 0) from by simpa using Cell2.alloc ((w.alloc (Obj.cells #[(.int .i64 a), (.int .i64 b)] 23)).alloc (Obj.cells #[(.int .i64 c), (.int .i64 d)] 23)) (.int .i64 0) (.int .i64 0) 23)
  have HB55 := Lib.hid ((((Below.refl w.heap.size w).alloc (Nat.le_refl _) (Obj.cells #[(.int .i64 a), (.int .i64 b)] 23)).alloc (by simp) (Obj.cells #[(.int .i64 c), (.int .i64 d)] 23)).alloc (by simp; omega) (Obj.cells #[(.int .i64 0), (.int .i64 0)] 23))
  generalize (((w.alloc (Obj.cells #[(.int .i64 a), (.int .i64 b)] 23)).alloc (Obj.cells #[(.int .i64 c), (.int .i64 d)] 23)).alloc (Obj.cells #[(.int .i64 0), (.int .i64 0)] 23)) = W55 at *
  refine (H1.out _).mono ?_
  rintro e W56 ⟨rfl, hb56⟩
  have HB56 := Lib.hid (HB55.out.trans ((hb56).mono HB55.out.size))
  have P0_56 := Lib.hid (P0_55.out.below (hb56) P0_55.out.lt)
  have P1_56 := Lib.hid (P1_55.out.below (hb56) P1_55.out.lt)
  have P2_56 := Lib.hid (P2_55.out.below (hb56) P2_55.out.lt)
  clear HB55 P0_55 P1_55 P2_55 hb56
  have lP0_56 := P0_56.out.lt
  have cP0_56_0 := P0_56.out.c0
  have cP0_56_1 := P0_56.out.c1
  have lP1_56 := P1_56.out.lt
  have cP1_56_0 := P1_56.out.c0
  have cP1_56_1 := P1_56.out.c1
  have lP2_56 := P2_56.out.lt
  have cP2_56_0 := P2_56.out.c0
  have cP2_56_1 := P2_56.out.c1
  go_wp2_with fail
  clear lP0_56 cP0_56_0 cP0_56_1 lP1_56 cP1_56_0 cP1_56_1 lP2_56 cP2_56_0 cP2_56_1
  refine (H2.out _).mono ?_
  rintro e W57 ⟨rfl, hb57⟩
  have HB57 := Lib.hid (HB56.out.trans ((hb57).mono HB56.out.size))
  have P0_57 := Lib.hid (P0_56.out.below (hb57) P0_56.out.lt)
  have P1_57 := Lib.hid (P1_56.out.below (hb57) P1_56.out.lt)
  have P2_57 := Lib.hid (P2_56.out.below (hb57) P2_56.out.lt)
  clear HB56 P0_56 P1_56 P2_56 hb57
  have lP0_57 := P0_57.out.lt
  have cP0_57_0 := P0_57.out.c0
  have cP0_57_1 := P0_57.out.c1
  have lP1_57 := P1_57.out.lt
  have cP1_57_0 := P1_57.out.c0
  have cP1_57_1 := P1_57.out.c1
  have lP2_57 := P2_57.out.lt
  have cP2_57_0 := P2_57.out.c0
  have cP2_57_1 := P2_57.out.c1
  go_wp2_with fail
  clear lP0_57 cP0_57_0 cP0_57_1 lP1_57 cP1_57_0 cP1_57_1 lP2_57 cP2_57_0 cP2_57_1
  refine (HM.out _).mono ?_
  rintro e W58 ⟨rfl, hb58⟩
  have HB58 := Lib.hid (HB57.out.trans ((hb58).mono HB57.out.size))
  have P0_58 := Lib.hid (P0_57.out.below (hb58) P0_57.out.lt)
  have P1_58 := Lib.hid (P1_57.out.below (hb58) P1_57.out.lt)
  have P2_58 := Lib.hid (P2_57.out.below (hb58) P2_57.out.lt)
  clear HB57 P0_57 P1_57 P2_57 hb58
  have lP0_58 := P0_58.out.lt
  have cP0_58_0 := P0_58.out.c0
  have cP0_58_1 := P0_58.out.c1
  have lP1_58 := P1_58.out.lt
  have cP1_58_0 := P1_58.out.c0
  have cP1_58_1 := P1_58.out.c1
  have lP2_58 := P2_58.out.lt
  have cP2_58_0 := P2_58.out.c0
  have cP2_58_1 := P2_58.out.c1
  have fP2_58_0 := P2_58.out.f0
  have fP2_58_1 := P2_58.out.f1
  go_wp2
  refine bodyPost_ret (v := .tuple #[.agg #[(.int .i64 rn), (.int .i64 rd)], .int .i64 re]) ?_ rfl ⟨rfl, ((HB58.out.setCell (p := ⟨w.heap.size + 2, 0, none⟩) (by simp) (.int .i64 rn)).setCell (p := ⟨w.heap.size + 2, 1, none⟩) (by simp) (.int .i64 rd))⟩
  have u0 := ((P2_58.out.set0 (.int .i64 rn)).set1 (.int .i64 rd)).c0
  have u1 := ((P2_58.out.set0 (.int .i64 rn)).set1 (.int .i64 rd)).c1
  rw [results_cell_tmp rfl]
  go_simp

set_option maxRecDepth 100000 in
set_option maxHeartbeats 4000000 in
theorem rQuo_any (a b c d : Int) (w : World) (a1 : -9223372036854775808 ≤ a) (a2 : a ≤ 9223372036854775807) (b1 : -9223372036854775808 ≤ b) (b2 : b ≤ 9223372036854775807) (c1 : -9223372036854775808 ≤ c) (c2 : c ≤ 9223372036854775807) (d1 : -9223372036854775808 ≤ d) (d2 : d ≤ 9223372036854775807) :
    Calls Try.prog 24 #[.agg #[.int .i64 a, .int .i64 b], .agg #[.int .i64 c, .int .i64 d]] w fun e w' => e = .returned (.tuple #[.agg #[.int .i64 (opN (okB a b c d) (a * d) (b * c)), .int .i64 (opD (okB a b c d) (a * d) (b * c))], .int .i64 (opE (okB a b c d) (a * d) (b * c))]) ∧ Below w.heap.size w w' := by
  by_cases h1 : rightB a b = true
  case neg =>
    have h1' : rightB a b = false := by simpa using h1
    have E0 : okB a b c d = false := ok_no1 h1'
    rw [E0, show opN false (a * d) (b * c) = 0 from rfl, show opD false (a * d) (b * c) = 0 from rfl, show opE false (a * d) (b * c) = 2 from rfl]
    clear E0
    have H1 := Lib.hid (fun W => rRight_val a b false h1' W a1 a2 b1 b2)
    clear h1 h1'
    go_enter Try.func24, Try.ntmps24
    go_wp2_with fail
    have P0_59 := Lib.hid (show Cell2 (((w.alloc (Obj.cells #[(.int .i64 a), (.int .i64 b)] 23)).alloc (Obj.cells #[(.int .i64 c), (.int .i64 d)] 23)).alloc (Obj.cells #[(.int .i64 0), (.int .i64 0)] 23)) (w.heap.size) (.int .i64 a) (.int .i64 b) from by have q := Cell2.alloc w (.int .i64 a) (.int .i64 b) 23; exact q.below (N := w.heap.size + 1) (((Below.refl _ _).alloc (by simp <;> omega) (Obj.cells #[(.int .i64 c), (.int .i64 d)] 23)).alloc (by simp <;> omega) (Obj.cells #[(.int .i64 0), (.int .i64 0)] 23)) (by omega))
    have P1_59 := Lib.hid (show Cell2 (((w.alloc (Obj.cells #[(.int .i64 a), (.int .i64 b)] 23)).alloc (Obj.cells #[(.int .i64 c), (.int .i64 d)] 23)).alloc (Obj.cells #[(.int .i64 0), (.int .i64 0)] 23)) (w.heap.size + 1) (.int .i64 c) (.int .i64 d) from by have q := Cell2.alloc (w.alloc (Obj.cells #[(.int .i64 a), (.int .i64 b)] 23)) (.int .i64 c) (.int .i64 d) 23; try simp only [World.size_alloc] at q; exact q.below (N := w.heap.size + 1 + 1) ((Below.refl _ _).alloc (by simp <;> omega) (Obj.cells #[(.int .i64 0), (.int .i64 0)] 23)) (by omega))
    have P2_59 := Lib.hid (show Cell2 (((w.alloc (Obj.cells #[(.int .i64 a), (.int .i64 b)] 23)).alloc (Obj.cells #[(.int .i64 c), (.int .i64 d)] 23)).alloc (Obj.cells #[(.int .i64 0), (.int .i64 0)] 23)) (w.heap.size + 2) (.int .i64 0) (.int .i64 0) from by simpa using Cell2.alloc ((w.alloc (Obj.cells #[(.int .i64 a), (.int .i64 b)] 23)).alloc (Obj.cells #[(.int .i64 c), (.int .i64 d)] 23)) (.int .i64 0) (.int .i64 0) 23)
    have HB59 := Lib.hid ((((Below.refl w.heap.size w).alloc (Nat.le_refl _) (Obj.cells #[(.int .i64 a), (.int .i64 b)] 23)).alloc (by simp) (Obj.cells #[(.int .i64 c), (.int .i64 d)] 23)).alloc (by simp; omega) (Obj.cells #[(.int .i64 0), (.int .i64 0)] 23))
    generalize (((w.alloc (Obj.cells #[(.int .i64 a), (.int .i64 b)] 23)).alloc (Obj.cells #[(.int .i64 c), (.int .i64 d)] 23)).alloc (Obj.cells #[(.int .i64 0), (.int .i64 0)] 23)) = W59 at *
    refine (H1.out _).mono ?_
    rintro e W60 ⟨rfl, hb60⟩
    have HB60 := Lib.hid (HB59.out.trans ((hb60).mono HB59.out.size))
    have P0_60 := Lib.hid (P0_59.out.below (hb60) P0_59.out.lt)
    have P1_60 := Lib.hid (P1_59.out.below (hb60) P1_59.out.lt)
    have P2_60 := Lib.hid (P2_59.out.below (hb60) P2_59.out.lt)
    clear HB59 P0_59 P1_59 P2_59 hb60
    have lP0_60 := P0_60.out.lt
    have cP0_60_0 := P0_60.out.c0
    have cP0_60_1 := P0_60.out.c1
    have lP1_60 := P1_60.out.lt
    have cP1_60_0 := P1_60.out.c0
    have cP1_60_1 := P1_60.out.c1
    have lP2_60 := P2_60.out.lt
    have cP2_60_0 := P2_60.out.c0
    have cP2_60_1 := P2_60.out.c1
    have fP2_60_0 := P2_60.out.f0
    have fP2_60_1 := P2_60.out.f1
    go_wp2
    refine bodyPost_ret (v := .tuple #[.agg #[(.int .i64 0), (.int .i64 0)], .int .i64 2]) ?_ rfl ⟨rfl, ((HB60.out.setCell (p := ⟨w.heap.size + 2, 0, none⟩) (by simp) (.int .i64 0)).setCell (p := ⟨w.heap.size + 2, 1, none⟩) (by simp) (.int .i64 0))⟩
    have u0 := ((P2_60.out.set0 (.int .i64 0)).set1 (.int .i64 0)).c0
    have u1 := ((P2_60.out.set0 (.int .i64 0)).set1 (.int .i64 0)).c1
    rw [results_cell_tmp rfl]
    go_simp
  by_cases h2 : rightB c d = true
  case neg =>
    have h2' : rightB c d = false := by simpa using h2
    have E0 : okB a b c d = false := ok_no2 h2'
    rw [E0, show opN false (a * d) (b * c) = 0 from rfl, show opD false (a * d) (b * c) = 0 from rfl, show opE false (a * d) (b * c) = 2 from rfl]
    clear E0
    have H1 := Lib.hid (fun W => rRight_val a b true h1 W a1 a2 b1 b2)
    have H2 := Lib.hid (fun W => rRight_val c d false h2' W c1 c2 d1 d2)
    clear h1 h2 h2'
    go_enter Try.func24, Try.ntmps24
    go_wp2_with fail
    have P0_61 := Lib.hid (show Cell2 (((w.alloc (Obj.cells #[(.int .i64 a), (.int .i64 b)] 23)).alloc (Obj.cells #[(.int .i64 c), (.int .i64 d)] 23)).alloc (Obj.cells #[(.int .i64 0), (.int .i64 0)] 23)) (w.heap.size) (.int .i64 a) (.int .i64 b) from by have q := Cell2.alloc w (.int .i64 a) (.int .i64 b) 23; exact q.below (N := w.heap.size + 1) (((Below.refl _ _).alloc (by simp <;> omega) (Obj.cells #[(.int .i64 c), (.int .i64 d)] 23)).alloc (by simp <;> omega) (Obj.cells #[(.int .i64 0), (.int .i64 0)] 23)) (by omega))
    have P1_61 := Lib.hid (show Cell2 (((w.alloc (Obj.cells #[(.int .i64 a), (.int .i64 b)] 23)).alloc (Obj.cells #[(.int .i64 c), (.int .i64 d)] 23)).alloc (Obj.cells #[(.int .i64 0), (.int .i64 0)] 23)) (w.heap.size + 1) (.int .i64 c) (.int .i64 d) from by have q := Cell2.alloc (w.alloc (Obj.cells #[(.int .i64 a), (.int .i64 b)] 23)) (.int .i64 c) (.int .i64 d) 23; try simp only [World.size_alloc] at q; exact q.below (N := w.heap.size + 1 + 1) ((Below.refl _ _).alloc (by simp <;> omega) (Obj.cells #[(.int .i64 0), (.int .i64 0)] 23)) (by omega))
    have P2_61 := Lib.hid (show Cell2 (((w.alloc (Obj.cells #[(.int .i64 a), (.int .i64 b)] 23)).alloc (Obj.cells #[(.int .i64 c), (.int .i64 d)] 23)).alloc (Obj.cells #[(.int .i64 0), (.int .i64 0)] 23)) (w.heap.size + 2) (.int .i64 0) (.int .i64 0) from by simpa using Cell2.alloc ((w.alloc (Obj.cells #[(.int .i64 a), (.int .i64 b)] 23)).alloc (Obj.cells #[(.int .i64 c), (.int .i64 d)] 23)) (.int .i64 0) (.int .i64 0) 23)
    have HB61 := Lib.hid ((((Below.refl w.heap.size w).alloc (Nat.le_refl _) (Obj.cells #[(.int .i64 a), (.int .i64 b)] 23)).alloc (by simp) (Obj.cells #[(.int .i64 c), (.int .i64 d)] 23)).alloc (by simp; omega) (Obj.cells #[(.int .i64 0), (.int .i64 0)] 23))
    generalize (((w.alloc (Obj.cells #[(.int .i64 a), (.int .i64 b)] 23)).alloc (Obj.cells #[(.int .i64 c), (.int .i64 d)] 23)).alloc (Obj.cells #[(.int .i64 0), (.int .i64 0)] 23)) = W61 at *
    refine (H1.out _).mono ?_
    rintro e W62 ⟨rfl, hb62⟩
    have HB62 := Lib.hid (HB61.out.trans ((hb62).mono HB61.out.size))
    have P0_62 := Lib.hid (P0_61.out.below (hb62) P0_61.out.lt)
    have P1_62 := Lib.hid (P1_61.out.below (hb62) P1_61.out.lt)
    have P2_62 := Lib.hid (P2_61.out.below (hb62) P2_61.out.lt)
    clear HB61 P0_61 P1_61 P2_61 hb62
    have lP0_62 := P0_62.out.lt
    have cP0_62_0 := P0_62.out.c0
    have cP0_62_1 := P0_62.out.c1
    have lP1_62 := P1_62.out.lt
    have cP1_62_0 := P1_62.out.c0
    have cP1_62_1 := P1_62.out.c1
    have lP2_62 := P2_62.out.lt
    have cP2_62_0 := P2_62.out.c0
    have cP2_62_1 := P2_62.out.c1
    go_wp2_with fail
    clear lP0_62 cP0_62_0 cP0_62_1 lP1_62 cP1_62_0 cP1_62_1 lP2_62 cP2_62_0 cP2_62_1
    refine (H2.out _).mono ?_
    rintro e W63 ⟨rfl, hb63⟩
    have HB63 := Lib.hid (HB62.out.trans ((hb63).mono HB62.out.size))
    have P0_63 := Lib.hid (P0_62.out.below (hb63) P0_62.out.lt)
    have P1_63 := Lib.hid (P1_62.out.below (hb63) P1_62.out.lt)
    have P2_63 := Lib.hid (P2_62.out.below (hb63) P2_62.out.lt)
    clear HB62 P0_62 P1_62 P2_62 hb63
    have lP0_63 := P0_63.out.lt
    have cP0_63_0 := P0_63.out.c0
    have cP0_63_1 := P0_63.out.c1
    have lP1_63 := P1_63.out.lt
    have cP1_63_0 := P1_63.out.c0
    have cP1_63_1 := P1_63.out.c1
    have lP2_63 := P2_63.out.lt
    have cP2_63_0 := P2_63.out.c0
    have cP2_63_1 := P2_63.out.c1
    have fP2_63_0 := P2_63.out.f0
    have fP2_63_1 := P2_63.out.f1
    go_wp2
    refine bodyPost_ret (v := .tuple #[.agg #[(.int .i64 0), (.int .i64 0)], .int .i64 2]) ?_ rfl ⟨rfl, ((HB63.out.setCell (p := ⟨w.heap.size + 2, 0, none⟩) (by simp) (.int .i64 0)).setCell (p := ⟨w.heap.size + 2, 1, none⟩) (by simp) (.int .i64 0))⟩
    have u0 := ((P2_63.out.set0 (.int .i64 0)).set1 (.int .i64 0)).c0
    have u1 := ((P2_63.out.set0 (.int .i64 0)).set1 (.int .i64 0)).c1
    rw [results_cell_tmp rfl]
    go_simp
  have R1 := right_iff.1 h1
  have R2 := right_iff.1 h2
  rw [ok_yes h1 h2, show opN true (a * d) (b * c) = mkN (a * d) (b * c) from rfl, show opD true (a * d) (b * c) = mkD (a * d) (b * c) from rfl, show opE true (a * d) (b * c) = mkE (a * d) (b * c) from rfl]
  have H1 := Lib.hid (fun W => rRight_val a b true h1 W a1 a2 b1 b2)
  have H2 := Lib.hid (fun W => rRight_val c d true h2 W c1 c2 d1 d2)
  have m0 := mulB (part_n R1) (part_d R2)
  obtain ⟨m0a, m0b⟩ := m0
  have m1 := mulB (part_d R1) (part_n R2)
  obtain ⟨m1a, m1b⟩ := m1
  by_cases hc : c = 0
  case pos =>
    subst hc
    rw [show b * (0 : Int) = 0 from Int.mul_zero b, (mk_arg (a * d)).1, (mk_arg (a * d)).2.1, (mk_arg (a * d)).2.2]
    clear h1 h2 R1 R2 m0a m0b m1a m1b
    go_enter Try.func24, Try.ntmps24
    go_wp2_with fail
    have P0_64 := Lib.hid (show Cell2 (((w.alloc (Obj.cells #[(.int .i64 a), (.int .i64 b)] 23)).alloc (Obj.cells #[(.int .i64 0), (.int .i64 d)] 23)).alloc (Obj.cells #[(.int .i64 0), (.int .i64 0)] 23)) (w.heap.size) (.int .i64 a) (.int .i64 b) from by have q := Cell2.alloc w (.int .i64 a) (.int .i64 b) 23; exact q.below (N := w.heap.size + 1) (((Below.refl _ _).alloc (by simp <;> omega) (Obj.cells #[(.int .i64 0), (.int .i64 d)] 23)).alloc (by simp <;> omega) (Obj.cells #[(.int .i64 0), (.int .i64 0)] 23)) (by omega))
    have P1_64 := Lib.hid (show Cell2 (((w.alloc (Obj.cells #[(.int .i64 a), (.int .i64 b)] 23)).alloc (Obj.cells #[(.int .i64 0), (.int .i64 d)] 23)).alloc (Obj.cells #[(.int .i64 0), (.int .i64 0)] 23)) (w.heap.size + 1) (.int .i64 0) (.int .i64 d) from by have q := Cell2.alloc (w.alloc (Obj.cells #[(.int .i64 a), (.int .i64 b)] 23)) (.int .i64 0) (.int .i64 d) 23; try simp only [World.size_alloc] at q; exact q.below (N := w.heap.size + 1 + 1) ((Below.refl _ _).alloc (by simp <;> omega) (Obj.cells #[(.int .i64 0), (.int .i64 0)] 23)) (by omega))
    have P2_64 := Lib.hid (show Cell2 (((w.alloc (Obj.cells #[(.int .i64 a), (.int .i64 b)] 23)).alloc (Obj.cells #[(.int .i64 0), (.int .i64 d)] 23)).alloc (Obj.cells #[(.int .i64 0), (.int .i64 0)] 23)) (w.heap.size + 2) (.int .i64 0) (.int .i64 0) from by simpa using Cell2.alloc ((w.alloc (Obj.cells #[(.int .i64 a), (.int .i64 b)] 23)).alloc (Obj.cells #[(.int .i64 0), (.int .i64 d)] 23)) (.int .i64 0) (.int .i64 0) 23)
    have HB64 := Lib.hid ((((Below.refl w.heap.size w).alloc (Nat.le_refl _) (Obj.cells #[(.int .i64 a), (.int .i64 b)] 23)).alloc (by simp) (Obj.cells #[(.int .i64 0), (.int .i64 d)] 23)).alloc (by simp; omega) (Obj.cells #[(.int .i64 0), (.int .i64 0)] 23))
    generalize (((w.alloc (Obj.cells #[(.int .i64 a), (.int .i64 b)] 23)).alloc (Obj.cells #[(.int .i64 0), (.int .i64 d)] 23)).alloc (Obj.cells #[(.int .i64 0), (.int .i64 0)] 23)) = W64 at *
    refine (H1.out _).mono ?_
    rintro e W65 ⟨rfl, hb65⟩
    have HB65 := Lib.hid (HB64.out.trans ((hb65).mono HB64.out.size))
    have P0_65 := Lib.hid (P0_64.out.below (hb65) P0_64.out.lt)
    have P1_65 := Lib.hid (P1_64.out.below (hb65) P1_64.out.lt)
    have P2_65 := Lib.hid (P2_64.out.below (hb65) P2_64.out.lt)
    clear HB64 P0_64 P1_64 P2_64 hb65
    have lP0_65 := P0_65.out.lt
    have cP0_65_0 := P0_65.out.c0
    have cP0_65_1 := P0_65.out.c1
    have lP1_65 := P1_65.out.lt
    have cP1_65_0 := P1_65.out.c0
    have cP1_65_1 := P1_65.out.c1
    have lP2_65 := P2_65.out.lt
    have cP2_65_0 := P2_65.out.c0
    have cP2_65_1 := P2_65.out.c1
    go_wp2_with fail
    clear lP0_65 cP0_65_0 cP0_65_1 lP1_65 cP1_65_0 cP1_65_1 lP2_65 cP2_65_0 cP2_65_1
    refine (H2.out _).mono ?_
    rintro e W66 ⟨rfl, hb66⟩
    have HB66 := Lib.hid (HB65.out.trans ((hb66).mono HB65.out.size))
    have P0_66 := Lib.hid (P0_65.out.below (hb66) P0_65.out.lt)
    have P1_66 := Lib.hid (P1_65.out.below (hb66) P1_65.out.lt)
    have P2_66 := Lib.hid (P2_65.out.below (hb66) P2_65.out.lt)
    clear HB65 P0_65 P1_65 P2_65 hb66
    have lP0_66 := P0_66.out.lt
    have cP0_66_0 := P0_66.out.c0
    have cP0_66_1 := P0_66.out.c1
    have lP1_66 := P1_66.out.lt
    have cP1_66_0 := P1_66.out.c0
    have cP1_66_1 := P1_66.out.c1
    have lP2_66 := P2_66.out.lt
    have cP2_66_0 := P2_66.out.c0
    have cP2_66_1 := P2_66.out.c1
    have fP2_66_0 := P2_66.out.f0
    have fP2_66_1 := P2_66.out.f1
    go_wp2
    refine bodyPost_ret (v := .tuple #[.agg #[(.int .i64 0), (.int .i64 0)], .int .i64 2]) ?_ rfl ⟨rfl, ((HB66.out.setCell (p := ⟨w.heap.size + 2, 0, none⟩) (by simp) (.int .i64 0)).setCell (p := ⟨w.heap.size + 2, 1, none⟩) (by simp) (.int .i64 0))⟩
    have u0 := ((P2_66.out.set0 (.int .i64 0)).set1 (.int .i64 0)).c0
    have u1 := ((P2_66.out.set0 (.int .i64 0)).set1 (.int .i64 0)).c1
    rw [results_cell_tmp rfl]
    go_simp
  have hc' : (c == 0) = false := by simpa using hc
  have HM := Lib.hid (fun W => rMake_any (a * d) (b * c) W (by omega) (by omega) (by omega) (by omega))
  clear h1 h2 R1 R2
  generalize mkN (a * d) (b * c) = rn at *
  generalize mkD (a * d) (b * c) = rd at *
  generalize mkE (a * d) (b * c) = re at *
  go_enter Try.func24, Try.ntmps24
  go_wp2_with fail
  have P0_67 := Lib.hid (show Cell2 (((w.alloc (Obj.cells #[(.int .i64 a), (.int .i64 b)] 23)).alloc (Obj.cells #[(.int .i64 c), (.int .i64 d)] 23)).alloc (Obj.cells #[(.int .i64 0), (.int .i64 0)] 23)) (w.heap.size) (.int .i64 a) (.int .i64 b) from by have q := Cell2.alloc w (.int .i64 a) (.int .i64 b) 23; exact q.below (N := w.heap.size + 1) (((Below.refl _ _).alloc (by simp <;> omega) (Obj.cells #[(.int .i64 c), (.int .i64 d)] 23)).alloc (by simp <;> omega) (Obj.cells #[(.int .i64 0), (.int .i64 0)] 23)) (by omega))
  have P1_67 := Lib.hid (show Cell2 (((w.alloc (Obj.cells #[(.int .i64 a), (.int .i64 b)] 23)).alloc (Obj.cells #[(.int .i64 c), (.int .i64 d)] 23)).alloc (Obj.cells #[(.int .i64 0), (.int .i64 0)] 23)) (w.heap.size + 1) (.int .i64 c) (.int .i64 d) from by have q := Cell2.alloc (w.alloc (Obj.cells #[(.int .i64 a), (.int .i64 b)] 23)) (.int .i64 c) (.int .i64 d) 23; try simp only [World.size_alloc] at q; exact q.below (N := w.heap.size + 1 + 1) ((Below.refl _ _).alloc (by simp <;> omega) (Obj.cells #[(.int .i64 0), (.int .i64 0)] 23)) (by omega))
  have P2_67 := Lib.hid (show Cell2 (((w.alloc (Obj.cells #[(.int .i64 a), (.int .i64 b)] 23)).alloc (Obj.cells #[(.int .i64 c), (.int .i64 d)] 23)).alloc (Obj.cells #[(.int .i64 0), (.int .i64 0)] 23)) (w.heap.size + 2) (.int .i64 0) (.int .i64 0) from by simpa using Cell2.alloc ((w.alloc (Obj.cells #[(.int .i64 a), (.int .i64 b)] 23)).alloc (Obj.cells #[(.int .i64 c), (.int .i64 d)] 23)) (.int .i64 0) (.int .i64 0) 23)
  have HB67 := Lib.hid ((((Below.refl w.heap.size w).alloc (Nat.le_refl _) (Obj.cells #[(.int .i64 a), (.int .i64 b)] 23)).alloc (by simp) (Obj.cells #[(.int .i64 c), (.int .i64 d)] 23)).alloc (by simp; omega) (Obj.cells #[(.int .i64 0), (.int .i64 0)] 23))
  generalize (((w.alloc (Obj.cells #[(.int .i64 a), (.int .i64 b)] 23)).alloc (Obj.cells #[(.int .i64 c), (.int .i64 d)] 23)).alloc (Obj.cells #[(.int .i64 0), (.int .i64 0)] 23)) = W67 at *
  refine (H1.out _).mono ?_
  rintro e W68 ⟨rfl, hb68⟩
  have HB68 := Lib.hid (HB67.out.trans ((hb68).mono HB67.out.size))
  have P0_68 := Lib.hid (P0_67.out.below (hb68) P0_67.out.lt)
  have P1_68 := Lib.hid (P1_67.out.below (hb68) P1_67.out.lt)
  have P2_68 := Lib.hid (P2_67.out.below (hb68) P2_67.out.lt)
  clear HB67 P0_67 P1_67 P2_67 hb68
  have lP0_68 := P0_68.out.lt
  have cP0_68_0 := P0_68.out.c0
  have cP0_68_1 := P0_68.out.c1
  have lP1_68 := P1_68.out.lt
  have cP1_68_0 := P1_68.out.c0
  have cP1_68_1 := P1_68.out.c1
  have lP2_68 := P2_68.out.lt
  have cP2_68_0 := P2_68.out.c0
  have cP2_68_1 := P2_68.out.c1
  go_wp2_with fail
  clear lP0_68 cP0_68_0 cP0_68_1 lP1_68 cP1_68_0 cP1_68_1 lP2_68 cP2_68_0 cP2_68_1
  refine (H2.out _).mono ?_
  rintro e W69 ⟨rfl, hb69⟩
  have HB69 := Lib.hid (HB68.out.trans ((hb69).mono HB68.out.size))
  have P0_69 := Lib.hid (P0_68.out.below (hb69) P0_68.out.lt)
  have P1_69 := Lib.hid (P1_68.out.below (hb69) P1_68.out.lt)
  have P2_69 := Lib.hid (P2_68.out.below (hb69) P2_68.out.lt)
  clear HB68 P0_68 P1_68 P2_68 hb69
  have lP0_69 := P0_69.out.lt
  have cP0_69_0 := P0_69.out.c0
  have cP0_69_1 := P0_69.out.c1
  have lP1_69 := P1_69.out.lt
  have cP1_69_0 := P1_69.out.c0
  have cP1_69_1 := P1_69.out.c1
  have lP2_69 := P2_69.out.lt
  have cP2_69_0 := P2_69.out.c0
  have cP2_69_1 := P2_69.out.c1
  go_wp2_with fail
  clear lP0_69 cP0_69_0 cP0_69_1 lP1_69 cP1_69_0 cP1_69_1 lP2_69 cP2_69_0 cP2_69_1
  refine (HM.out _).mono ?_
  rintro e W70 ⟨rfl, hb70⟩
  have HB70 := Lib.hid (HB69.out.trans ((hb70).mono HB69.out.size))
  have P0_70 := Lib.hid (P0_69.out.below (hb70) P0_69.out.lt)
  have P1_70 := Lib.hid (P1_69.out.below (hb70) P1_69.out.lt)
  have P2_70 := Lib.hid (P2_69.out.below (hb70) P2_69.out.lt)
  clear HB69 P0_69 P1_69 P2_69 hb70
  have lP0_70 := P0_70.out.lt
  have cP0_70_0 := P0_70.out.c0
  have cP0_70_1 := P0_70.out.c1
  have lP1_70 := P1_70.out.lt
  have cP1_70_0 := P1_70.out.c0
  have cP1_70_1 := P1_70.out.c1
  have lP2_70 := P2_70.out.lt
  have cP2_70_0 := P2_70.out.c0
  have cP2_70_1 := P2_70.out.c1
  have fP2_70_0 := P2_70.out.f0
  have fP2_70_1 := P2_70.out.f1
  go_wp2
  refine bodyPost_ret (v := .tuple #[.agg #[(.int .i64 rn), (.int .i64 rd)], .int .i64 re]) ?_ rfl ⟨rfl, ((HB70.out.setCell (p := ⟨w.heap.size + 2, 0, none⟩) (by simp) (.int .i64 rn)).setCell (p := ⟨w.heap.size + 2, 1, none⟩) (by simp) (.int .i64 rd))⟩
  have u0 := ((P2_70.out.set0 (.int .i64 rn)).set1 (.int .i64 rd)).c0
  have u1 := ((P2_70.out.set0 (.int .i64 rn)).set1 (.int .i64 rd)).c1
  rw [results_cell_tmp rfl]
  go_simp

theorem results_cell1 {fn : Func} {p : Tmp} {ty : TypeId} (h : fn.results = #[.cell p ty]) (tmps : Array Value) (P : Program) (w : World) :
    (results fn tmps).run P w = ((asAddr (tmps.getD p undef)).run P w).andThen fun a w₁ => (loadVar ty a).run P w₁ := by
  simp only [results, h]
  simp [Sem.run_bind, Result.andThen]

end Go.Proofs.Ytmanlfkoannkoaa
