/- What the checked operations of package frac and Neg, Add, Mul and Quo of package accountingref03 return. -/
import Derived.Test.YtlndomnampcnfaaFrM
namespace Go.Proofs.Ytlndomnampcnfaa
open Go.RowKit Go.Sort
set_option linter.unusedVariables false

/-- a variable of one cell in memory. -/
structure Cell1 (w : World) (B : Nat) (a : Value) : Prop where
  c0 : w.cell? ⟨B, 0, none⟩ = some a
  f0 : w.frozen? ⟨B, 0, none⟩ = false
theorem Cell1.alloc (w : World) (a : Value) (t : TypeId) : Cell1 (w.alloc (Obj.cells #[a] t)) w.heap.size a :=
  ⟨World.cell?_alloc_at _ _ _ _ rfl, World.frozen?_alloc_at _ _ _ _ rfl⟩
theorem Cell1.below {w w' : World} {B N : Nat} {a : Value} (h : Cell1 w B a) (hb : Below N w w') (hB : B < N) : Cell1 w' B a :=
  ⟨by rw [hb.cell hB]; exact h.c0, by rw [hb.frozen hB]; exact h.f0⟩
theorem Cell1.lt {w : World} {B : Nat} {a : Value} (h : Cell1 w B a) : B < w.heap.size := by
  rcases Nat.lt_or_ge B w.heap.size with k | k
  · exact k
  · exact absurd h.c0 (by simp [World.cell?, Array.getElem?_eq_none k])
theorem part_n {a b : Int} (h : RightP a b) : part a := ⟨h.2.2.1, h.2.2.2.1⟩
theorem part_d {a b : Int} (h : RightP a b) : part b := ⟨by have := h.1; omega, h.2.1⟩
theorem right_val (a b : Int) (r : Bool) (h : rightB a b = r) (w : World) (a1 : -9223372036854775808 ≤ a) (a2 : a ≤ 9223372036854775807) (b1 : -9223372036854775808 ≤ b) (b2 : b ≤ 9223372036854775807) :
    Calls Try.prog 9 #[.agg #[.int .i64 a, .int .i64 b]] w fun e w' => e = .returned (.bool r) ∧ Below w.heap.size w w' := h ▸ right_any a b w a1 a2 b1 b2
theorem ok_no1 {a b c d : Int} (h : rightB a b = false) : okB a b c d = false := by unfold okB; rw [h]; rfl
theorem ok_no2 {a b c d : Int} (h : rightB c d = false) : okB a b c d = false := by unfold okB; rw [h, Bool.and_false]
theorem ok_yes {a b c d : Int} (h : rightB a b = true) (k : rightB c d = true) : okB a b c d = true := by unfold okB; rw [h, k]; rfl

set_option maxRecDepth 100000 in
set_option maxHeartbeats 4000000 in
theorem ckAdd_any (a b c d : Int) (B : Nat) (w : World) (a1 : -9223372036854775808 ≤ a) (a2 : a ≤ 9223372036854775807) (b1 : -9223372036854775808 ≤ b) (b2 : b ≤ 9223372036854775807) (c1 : -9223372036854775808 ≤ c) (c2 : c ≤ 9223372036854775807) (d1 : -9223372036854775808 ≤ d) (d2 : d ≤ 9223372036854775807) (hB : Cell1 w B (.func (.func 28) #[] #[])) :
    Calls Try.prog 43 #[.agg #[.int .i64 a, .int .i64 b], .agg #[.int .i64 c, .int .i64 d], .pointer (some ⟨B, 0, none⟩)] w fun e w' => e = .returned (.tuple #[.agg #[.int .i64 (opN (okB a b c d) (a * d + c * b) (b * d)), .int .i64 (opD (okB a b c d) (a * d + c * b) (b * d))], .int .i64 (opE (okB a b c d) (a * d + c * b) (b * d))]) ∧ Below w.heap.size w w' := by
  have F_0 := Lib.hid hB
  clear hB
  by_cases h1 : rightB a b = true
  case neg =>
    have h1' : rightB a b = false := by simpa using h1
    have E0 : okB a b c d = false := ok_no1 h1'
    rw [E0, show opN false (a * d + c * b) (b * d) = 0 from rfl, show opD false (a * d + c * b) (b * d) = 0 from rfl, show opE false (a * d + c * b) (b * d) = 2 from rfl]
    clear E0
    have H1 := Lib.hid (fun W => right_val a b false h1' W a1 a2 b1 b2)
    clear h1 h1'
    go_enter Try.func43, Try.ntmps43
    go_wp2_with fail
    have P0_1 := Lib.hid (show Cell2 (((w.alloc (Obj.cells #[(.int .i64 a), (.int .i64 b)] 24)).alloc (Obj.cells #[(.int .i64 c), (.int .i64 d)] 24)).alloc (Obj.cells #[(.int .i64 0), (.int .i64 0)] 24)) (w.heap.size) (.int .i64 a) (.int .i64 b) from by have q := Cell2.alloc w (.int .i64 a) (.int .i64 b) 24; exact q.below (N := w.heap.size + 1) (((Below.refl _ _).alloc (by simp <;> omega) (Obj.cells #[(.int .i64 c), (.int .i64 d)] 24)).alloc (by simp <;> omega) (Obj.cells #[(.int .i64 0), (.int .i64 0)] 24)) (by omega))
    have P1_1 := Lib.hid (show Cell2 (((w.alloc (Obj.cells #[(.int .i64 a), (.int .i64 b)] 24)).alloc (Obj.cells #[(.int .i64 c), (.int .i64 d)] 24)).alloc (Obj.cells #[(.int .i64 0), (.int .i64 0)] 24)) (w.heap.size + 1) (.int .i64 c) (.int .i64 d) from by have q := Cell2.alloc (w.alloc (Obj.cells #[(.int .i64 a), (.int .i64 b)] 24)) (.int .i64 c) (.int .i64 d) 24; try simp only [World.size_alloc] at q; exact q.below (N := w.heap.size + 1 + 1) ((Below.refl _ _).alloc (by simp <;> omega) (Obj.cells #[(.int .i64 0), (.int .i64 0)] 24)) (by omega))
    have P2_1 := Lib.hid (show Cell2 (((w.alloc (Obj.cells #[(.int .i64 a), (.int .i64 b)] 24)).alloc (Obj.cells #[(.int .i64 c), (.int .i64 d)] 24)).alloc (Obj.cells #[(.int .i64 0), (.int .i64 0)] 24)) (w.heap.size + 2) (.int .i64 0) (.int .i64 0) from by simpa using Cell2.alloc ((w.alloc (Obj.cells #[(.int .i64 a), (.int .i64 b)] 24)).alloc (Obj.cells #[(.int .i64 c), (.int .i64 d)] 24)) (.int .i64 0) (.int .i64 0) 24)
    have HB1 := Lib.hid ((((Below.refl w.heap.size w).alloc (Nat.le_refl _) (Obj.cells #[(.int .i64 a), (.int .i64 b)] 24)).alloc (by simp) (Obj.cells #[(.int .i64 c), (.int .i64 d)] 24)).alloc (by simp; omega) (Obj.cells #[(.int .i64 0), (.int .i64 0)] 24))
    have F_1 := Lib.hid (F_0.out.below HB1.out F_0.out.lt)
    generalize (((w.alloc (Obj.cells #[(.int .i64 a), (.int .i64 b)] 24)).alloc (Obj.cells #[(.int .i64 c), (.int .i64 d)] 24)).alloc (Obj.cells #[(.int .i64 0), (.int .i64 0)] 24)) = W1 at *
    refine (H1.out _).mono ?_
    rintro e W2 ⟨rfl, hb2⟩
    have HB2 := Lib.hid (HB1.out.trans ((hb2).mono HB1.out.size))
    have F_2 := Lib.hid (F_1.out.below (hb2) F_1.out.lt)
    have P0_2 := Lib.hid (P0_1.out.below (hb2) P0_1.out.lt)
    have P1_2 := Lib.hid (P1_1.out.below (hb2) P1_1.out.lt)
    have P2_2 := Lib.hid (P2_1.out.below (hb2) P2_1.out.lt)
    clear HB1 F_1 P0_1 P1_1 P2_1 hb2
    have lF_2 := F_2.out.lt
    have cF_2_0 := F_2.out.c0
    have lP0_2 := P0_2.out.lt
    have cP0_2_0 := P0_2.out.c0
    have cP0_2_1 := P0_2.out.c1
    have lP1_2 := P1_2.out.lt
    have cP1_2_0 := P1_2.out.c0
    have cP1_2_1 := P1_2.out.c1
    have lP2_2 := P2_2.out.lt
    have cP2_2_0 := P2_2.out.c0
    have cP2_2_1 := P2_2.out.c1
    have fP2_2_0 := P2_2.out.f0
    have fP2_2_1 := P2_2.out.f1
    go_wp2
    refine bodyPost_ret (v := .tuple #[.agg #[(.int .i64 0), (.int .i64 0)], .int .i64 2]) ?_ rfl ⟨rfl, ((HB2.out.setCell (p := ⟨w.heap.size + 2, 0, none⟩) (by simp) (.int .i64 0)).setCell (p := ⟨w.heap.size + 2, 1, none⟩) (by simp) (.int .i64 0))⟩
    have u0 := ((P2_2.out.set0 (.int .i64 0)).set1 (.int .i64 0)).c0
    have u1 := ((P2_2.out.set0 (.int .i64 0)).set1 (.int .i64 0)).c1
    rw [results_cell_tmp rfl]
    go_simp
  by_cases h2 : rightB c d = true
  case neg =>
    have h2' : rightB c d = false := by simpa using h2
    have E0 : okB a b c d = false := ok_no2 h2'
    rw [E0, show opN false (a * d + c * b) (b * d) = 0 from rfl, show opD false (a * d + c * b) (b * d) = 0 from rfl, show opE false (a * d + c * b) (b * d) = 2 from rfl]
    clear E0
    have H1 := Lib.hid (fun W => right_val a b true h1 W a1 a2 b1 b2)
    have H2 := Lib.hid (fun W => right_val c d false h2' W c1 c2 d1 d2)
    clear h1 h2 h2'
    go_enter Try.func43, Try.ntmps43
    go_wp2_with fail
    have P0_3 := Lib.hid (show Cell2 (((w.alloc (Obj.cells #[(.int .i64 a), (.int .i64 b)] 24)).alloc (Obj.cells #[(.int .i64 c), (.int .i64 d)] 24)).alloc (Obj.cells #[(.int .i64 0), (.int .i64 0)] 24)) (w.heap.size) (.int .i64 a) (.int .i64 b) from by have q := Cell2.alloc w (.int .i64 a) (.int .i64 b) 24; exact q.below (N := w.heap.size + 1) (((Below.refl _ _).alloc (by simp <;> omega) (Obj.cells #[(.int .i64 c), (.int .i64 d)] 24)).alloc (by simp <;> omega) (Obj.cells #[(.int .i64 0), (.int .i64 0)] 24)) (by omega))
    have P1_3 := Lib.hid (show Cell2 (((w.alloc (Obj.cells #[(.int .i64 a), (.int .i64 b)] 24)).alloc (Obj.cells #[(.int .i64 c), (.int .i64 d)] 24)).alloc (Obj.cells #[(.int .i64 0), (.int .i64 0)] 24)) (w.heap.size + 1) (.int .i64 c) (.int .i64 d) from by have q := Cell2.alloc (w.alloc (Obj.cells #[(.int .i64 a), (.int .i64 b)] 24)) (.int .i64 c) (.int .i64 d) 24; try simp only [World.size_alloc] at q; exact q.below (N := w.heap.size + 1 + 1) ((Below.refl _ _).alloc (by simp <;> omega) (Obj.cells #[(.int .i64 0), (.int .i64 0)] 24)) (by omega))
    have P2_3 := Lib.hid (show Cell2 (((w.alloc (Obj.cells #[(.int .i64 a), (.int .i64 b)] 24)).alloc (Obj.cells #[(.int .i64 c), (.int .i64 d)] 24)).alloc (Obj.cells #[(.int .i64 0), (.int .i64 0)] 24)) (w.heap.size + 2) (.int .i64 0) (.int .i64 0) from by simpa using Cell2.alloc ((w.alloc (Obj.cells #[(.int .i64 a), (.int .i64 b)] 24)).alloc (Obj.cells #[(.int .i64 c), (.int .i64 d)] 24)) (.int .i64 0) (.int .i64 0) 24)
    have HB3 := Lib.hid ((((Below.refl w.heap.size w).alloc (Nat.le_refl _) (Obj.cells #[(.int .i64 a), (.int .i64 b)] 24)).alloc (by simp) (Obj.cells #[(.int .i64 c), (.int .i64 d)] 24)).alloc (by simp; omega) (Obj.cells #[(.int .i64 0), (.int .i64 0)] 24))
    have F_3 := Lib.hid (F_0.out.below HB3.out F_0.out.lt)
    generalize (((w.alloc (Obj.cells #[(.int .i64 a), (.int .i64 b)] 24)).alloc (Obj.cells #[(.int .i64 c), (.int .i64 d)] 24)).alloc (Obj.cells #[(.int .i64 0), (.int .i64 0)] 24)) = W3 at *
    refine (H1.out _).mono ?_
    rintro e W4 ⟨rfl, hb4⟩
    have HB4 := Lib.hid (HB3.out.trans ((hb4).mono HB3.out.size))
    have F_4 := Lib.hid (F_3.out.below (hb4) F_3.out.lt)
    have P0_4 := Lib.hid (P0_3.out.below (hb4) P0_3.out.lt)
    have P1_4 := Lib.hid (P1_3.out.below (hb4) P1_3.out.lt)
    have P2_4 := Lib.hid (P2_3.out.below (hb4) P2_3.out.lt)
    clear HB3 F_3 P0_3 P1_3 P2_3 hb4
    have lF_4 := F_4.out.lt
    have cF_4_0 := F_4.out.c0
    have lP0_4 := P0_4.out.lt
    have cP0_4_0 := P0_4.out.c0
    have cP0_4_1 := P0_4.out.c1
    have lP1_4 := P1_4.out.lt
    have cP1_4_0 := P1_4.out.c0
    have cP1_4_1 := P1_4.out.c1
    have lP2_4 := P2_4.out.lt
    have cP2_4_0 := P2_4.out.c0
    have cP2_4_1 := P2_4.out.c1
    go_wp2_with fail
    clear lF_4 cF_4_0 lP0_4 cP0_4_0 cP0_4_1 lP1_4 cP1_4_0 cP1_4_1 lP2_4 cP2_4_0 cP2_4_1
    refine (H2.out _).mono ?_
    rintro e W5 ⟨rfl, hb5⟩
    have HB5 := Lib.hid (HB4.out.trans ((hb5).mono HB4.out.size))
    have F_5 := Lib.hid (F_4.out.below (hb5) F_4.out.lt)
    have P0_5 := Lib.hid (P0_4.out.below (hb5) P0_4.out.lt)
    have P1_5 := Lib.hid (P1_4.out.below (hb5) P1_4.out.lt)
    have P2_5 := Lib.hid (P2_4.out.below (hb5) P2_4.out.lt)
    clear HB4 F_4 P0_4 P1_4 P2_4 hb5
    have lF_5 := F_5.out.lt
    have cF_5_0 := F_5.out.c0
    have lP0_5 := P0_5.out.lt
    have cP0_5_0 := P0_5.out.c0
    have cP0_5_1 := P0_5.out.c1
    have lP1_5 := P1_5.out.lt
    have cP1_5_0 := P1_5.out.c0
    have cP1_5_1 := P1_5.out.c1
    have lP2_5 := P2_5.out.lt
    have cP2_5_0 := P2_5.out.c0
    have cP2_5_1 := P2_5.out.c1
    have fP2_5_0 := P2_5.out.f0
    have fP2_5_1 := P2_5.out.f1
    go_wp2
    refine bodyPost_ret (v := .tuple #[.agg #[(.int .i64 0), (.int .i64 0)], .int .i64 2]) ?_ rfl ⟨rfl, ((HB5.out.setCell (p := ⟨w.heap.size + 2, 0, none⟩) (by simp) (.int .i64 0)).setCell (p := ⟨w.heap.size + 2, 1, none⟩) (by simp) (.int .i64 0))⟩
    have u0 := ((P2_5.out.set0 (.int .i64 0)).set1 (.int .i64 0)).c0
    have u1 := ((P2_5.out.set0 (.int .i64 0)).set1 (.int .i64 0)).c1
    rw [results_cell_tmp rfl]
    go_simp
  have R1 := right_iff.1 h1
  have R2 := right_iff.1 h2
  rw [ok_yes h1 h2, show opN true (a * d + c * b) (b * d) = mkN (a * d + c * b) (b * d) from rfl, show opD true (a * d + c * b) (b * d) = mkD (a * d + c * b) (b * d) from rfl, show opE true (a * d + c * b) (b * d) = mkE (a * d + c * b) (b * d) from rfl]
  have H1 := Lib.hid (fun W => right_val a b true h1 W a1 a2 b1 b2)
  have H2 := Lib.hid (fun W => right_val c d true h2 W c1 c2 d1 d2)
  have m0 := mulB (part_n R1) (part_d R2)
  obtain ⟨m0a, m0b⟩ := m0
  have m1 := mulB (part_n R2) (part_d R1)
  obtain ⟨m1a, m1b⟩ := m1
  have m2 := mulB (part_d R1) (part_d R2)
  obtain ⟨m2a, m2b⟩ := m2
  have HM := Lib.hid (fun W => make_any (a * d + c * b) (b * d) W (by omega) (by omega) (by omega) (by omega))
  have HC := Lib.hid (fun W => addC_any a b c d W (part_n R1) (part_d R1) (part_n R2) (part_d R2))
  clear h1 h2 R1 R2
  generalize mkN (a * d + c * b) (b * d) = rn at *
  generalize mkD (a * d + c * b) (b * d) = rd at *
  generalize mkE (a * d + c * b) (b * d) = re at *
  clear m0a m0b m1a m1b m2a m2b
  generalize a * d + c * b = n at *
  generalize b * d = m at *
  go_enter Try.func43, Try.ntmps43
  go_wp2_with fail
  have P0_6 := Lib.hid (show Cell2 (((w.alloc (Obj.cells #[(.int .i64 a), (.int .i64 b)] 24)).alloc (Obj.cells #[(.int .i64 c), (.int .i64 d)] 24)).alloc (Obj.cells #[(.int .i64 0), (.int .i64 0)] 24)) (w.heap.size) (.int .i64 a) (.int .i64 b) from by have q := Cell2.alloc w (.int .i64 a) (.int .i64 b) 24; exact q.below (N := w.heap.size + 1) (((Below.refl _ _).alloc (by simp <;> omega) (Obj.cells #[(.int .i64 c), (.int .i64 d)] 24)).alloc (by simp <;> omega) (Obj.cells #[(.int .i64 0), (.int .i64 0)] 24)) (by omega))
  have P1_6 := Lib.hid (show Cell2 (((w.alloc (Obj.cells #[(.int .i64 a), (.int .i64 b)] 24)).alloc (Obj.cells #[(.int .i64 c), (.int .i64 d)] 24)).alloc (Obj.cells #[(.int .i64 0), (.int .i64 0)] 24)) (w.heap.size + 1) (.int .i64 c) (.int .i64 d) from by have q := Cell2.alloc (w.alloc (Obj.cells #[(.int .i64 a), (.int .i64 b)] 24)) (.int .i64 c) (.int .i64 d) 24; try simp only [World.size_alloc] at q; exact q.below (N := w.heap.size + 1 + 1) ((Below.refl _ _).alloc (by simp <;> omega) (Obj.cells #[(.int .i64 0), (.int .i64 0)] 24)) (by omega))
  have P2_6 := Lib.hid (show Cell2 (((w.alloc (Obj.cells #[(.int .i64 a), (.int .i64 b)] 24)).alloc (Obj.cells #[(.int .i64 c), (.int .i64 d)] 24)).alloc (Obj.cells #[(.int .i64 0), (.int .i64 0)] 24)) (w.heap.size + 2) (.int .i64 0) (.int .i64 0) from by simpa using Cell2.alloc ((w.alloc (Obj.cells #[(.int .i64 a), (.int .i64 b)] 24)).alloc (Obj.cells #[(.int .i64 c), (.int .i64 d)] 24)) (.int .i64 0) (.int .i64 0) 24)
  have HB6 := Lib.hid ((((Below.refl w.heap.size w).alloc (Nat.le_refl _) (Obj.cells #[(.int .i64 a), (.int .i64 b)] 24)).alloc (by simp) (Obj.cells #[(.int .i64 c), (.int .i64 d)] 24)).alloc (by simp; omega) (Obj.cells #[(.int .i64 0), (.int .i64 0)] 24))
  have F_6 := Lib.hid (F_0.out.below HB6.out F_0.out.lt)
  generalize (((w.alloc (Obj.cells #[(.int .i64 a), (.int .i64 b)] 24)).alloc (Obj.cells #[(.int .i64 c), (.int .i64 d)] 24)).alloc (Obj.cells #[(.int .i64 0), (.int .i64 0)] 24)) = W6 at *
  refine (H1.out _).mono ?_
  rintro e W7 ⟨rfl, hb7⟩
  have HB7 := Lib.hid (HB6.out.trans ((hb7).mono HB6.out.size))
  have F_7 := Lib.hid (F_6.out.below (hb7) F_6.out.lt)
  have P0_7 := Lib.hid (P0_6.out.below (hb7) P0_6.out.lt)
  have P1_7 := Lib.hid (P1_6.out.below (hb7) P1_6.out.lt)
  have P2_7 := Lib.hid (P2_6.out.below (hb7) P2_6.out.lt)
  clear HB6 F_6 P0_6 P1_6 P2_6 hb7
  have lF_7 := F_7.out.lt
  have cF_7_0 := F_7.out.c0
  have lP0_7 := P0_7.out.lt
  have cP0_7_0 := P0_7.out.c0
  have cP0_7_1 := P0_7.out.c1
  have lP1_7 := P1_7.out.lt
  have cP1_7_0 := P1_7.out.c0
  have cP1_7_1 := P1_7.out.c1
  have lP2_7 := P2_7.out.lt
  have cP2_7_0 := P2_7.out.c0
  have cP2_7_1 := P2_7.out.c1
  go_wp2_with fail
  clear lF_7 cF_7_0 lP0_7 cP0_7_0 cP0_7_1 lP1_7 cP1_7_0 cP1_7_1 lP2_7 cP2_7_0 cP2_7_1
  refine (H2.out _).mono ?_
  rintro e W8 ⟨rfl, hb8⟩
  have HB8 := Lib.hid (HB7.out.trans ((hb8).mono HB7.out.size))
  have F_8 := Lib.hid (F_7.out.below (hb8) F_7.out.lt)
  have P0_8 := Lib.hid (P0_7.out.below (hb8) P0_7.out.lt)
  have P1_8 := Lib.hid (P1_7.out.below (hb8) P1_7.out.lt)
  have P2_8 := Lib.hid (P2_7.out.below (hb8) P2_7.out.lt)
  clear HB7 F_7 P0_7 P1_7 P2_7 hb8
  have lF_8 := F_8.out.lt
  have cF_8_0 := F_8.out.c0
  have lP0_8 := P0_8.out.lt
  have cP0_8_0 := P0_8.out.c0
  have cP0_8_1 := P0_8.out.c1
  have lP1_8 := P1_8.out.lt
  have cP1_8_0 := P1_8.out.c0
  have cP1_8_1 := P1_8.out.c1
  have lP2_8 := P2_8.out.lt
  have cP2_8_0 := P2_8.out.c0
  have cP2_8_1 := P2_8.out.c1
  go_wp2_with fail
  clear lF_8 cF_8_0 lP0_8 cP0_8_0 cP0_8_1 lP1_8 cP1_8_0 cP1_8_1 lP2_8 cP2_8_0 cP2_8_1
  refine (HC.out _).mono ?_
  rintro e W9 ⟨rfl, hb9⟩
  have HB9 := Lib.hid (HB8.out.trans ((hb9).mono HB8.out.size))
  have F_9 := Lib.hid (F_8.out.below (hb9) F_8.out.lt)
  have P0_9 := Lib.hid (P0_8.out.below (hb9) P0_8.out.lt)
  have P1_9 := Lib.hid (P1_8.out.below (hb9) P1_8.out.lt)
  have P2_9 := Lib.hid (P2_8.out.below (hb9) P2_8.out.lt)
  clear HB8 F_8 P0_8 P1_8 P2_8 hb9
  have lF_9 := F_9.out.lt
  have cF_9_0 := F_9.out.c0
  have lP0_9 := P0_9.out.lt
  have cP0_9_0 := P0_9.out.c0
  have cP0_9_1 := P0_9.out.c1
  have lP1_9 := P1_9.out.lt
  have cP1_9_0 := P1_9.out.c0
  have cP1_9_1 := P1_9.out.c1
  have lP2_9 := P2_9.out.lt
  have cP2_9_0 := P2_9.out.c0
  have cP2_9_1 := P2_9.out.c1
  go_wp2_with fail
  clear lF_9 cF_9_0 lP0_9 cP0_9_0 cP0_9_1 lP1_9 cP1_9_0 cP1_9_1 lP2_9 cP2_9_0 cP2_9_1
  refine (HM.out _).mono ?_
  rintro e W10 ⟨rfl, hb10⟩
  have HB10 := Lib.hid (HB9.out.trans ((hb10).mono HB9.out.size))
  have F_10 := Lib.hid (F_9.out.below (hb10) F_9.out.lt)
  have P0_10 := Lib.hid (P0_9.out.below (hb10) P0_9.out.lt)
  have P1_10 := Lib.hid (P1_9.out.below (hb10) P1_9.out.lt)
  have P2_10 := Lib.hid (P2_9.out.below (hb10) P2_9.out.lt)
  clear HB9 F_9 P0_9 P1_9 P2_9 hb10
  have lF_10 := F_10.out.lt
  have cF_10_0 := F_10.out.c0
  have lP0_10 := P0_10.out.lt
  have cP0_10_0 := P0_10.out.c0
  have cP0_10_1 := P0_10.out.c1
  have lP1_10 := P1_10.out.lt
  have cP1_10_0 := P1_10.out.c0
  have cP1_10_1 := P1_10.out.c1
  have lP2_10 := P2_10.out.lt
  have cP2_10_0 := P2_10.out.c0
  have cP2_10_1 := P2_10.out.c1
  have fP2_10_0 := P2_10.out.f0
  have fP2_10_1 := P2_10.out.f1
  go_wp2
  refine bodyPost_ret (v := .tuple #[.agg #[(.int .i64 rn), (.int .i64 rd)], .int .i64 re]) ?_ rfl ⟨rfl, ((HB10.out.setCell (p := ⟨w.heap.size + 2, 0, none⟩) (by simp) (.int .i64 rn)).setCell (p := ⟨w.heap.size + 2, 1, none⟩) (by simp) (.int .i64 rd))⟩
  have u0 := ((P2_10.out.set0 (.int .i64 rn)).set1 (.int .i64 rd)).c0
  have u1 := ((P2_10.out.set0 (.int .i64 rn)).set1 (.int .i64 rd)).c1
  rw [results_cell_tmp rfl]
  go_simp

theorem results_cell1 {fn : Func} {p : Tmp} {ty : TypeId} (h : fn.results = #[.cell p ty]) (tmps : Array Value) (P : Program) (w : World) :
    (results fn tmps).run P w = ((asAddr (tmps.getD p undef)).run P w).andThen fun a w₁ => (loadVar ty a).run P w₁ := by
  simp only [results, h]
  simp [Sem.run_bind, Result.andThen]

end Go.Proofs.Ytlndomnampcnfaa
