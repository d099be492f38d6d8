/- What Date of package accountingref04 returns; Weekday of both. -/
import Derived.Test.YtkpdbhpmnegahaaGreatDoorDyF
namespace Go.Proofs.YtkpdbhpmnegahaaGreatDoor
open Go.RowKit Go.Sort
set_option linter.unusedVariables false

/-- a struct of three cells in memory. -/
structure Cell3 (w : World) (B : Nat) (a b c : Value) : Prop where
  c0 : w.cell? ⟨B, 0, none⟩ = some a
  c1 : w.cell? ⟨B, 1, none⟩ = some b
  c2 : w.cell? ⟨B, 2, none⟩ = some c
  f0 : w.frozen? ⟨B, 0, none⟩ = false
  f1 : w.frozen? ⟨B, 1, none⟩ = false
  f2 : w.frozen? ⟨B, 2, none⟩ = false
theorem Cell3.set0 {w : World} {B : Nat} {a b c : Value} (h : Cell3 w B a b c) (v : Value) : Cell3 (w.setCell ⟨B, 0, none⟩ v) B v b c :=
  ⟨World.cell?_setCell_same _ _ _ h.c0, by rw [World.cell?_setCell_other _ _ _ _ (by simp)]; exact h.c1, by rw [World.cell?_setCell_other _ _ _ _ (by simp)]; exact h.c2, by rw [World.frozen?_setCell]; exact h.f0, by rw [World.frozen?_setCell]; exact h.f1, by rw [World.frozen?_setCell]; exact h.f2⟩
theorem Cell3.set1 {w : World} {B : Nat} {a b c : Value} (h : Cell3 w B a b c) (v : Value) : Cell3 (w.setCell ⟨B, 1, none⟩ v) B a v c :=
  ⟨by rw [World.cell?_setCell_other _ _ _ _ (by simp)]; exact h.c0, World.cell?_setCell_same _ _ _ h.c1, by rw [World.cell?_setCell_other _ _ _ _ (by simp)]; exact h.c2, by rw [World.frozen?_setCell]; exact h.f0, by rw [World.frozen?_setCell]; exact h.f1, by rw [World.frozen?_setCell]; exact h.f2⟩
theorem Cell3.set2 {w : World} {B : Nat} {a b c : Value} (h : Cell3 w B a b c) (v : Value) : Cell3 (w.setCell ⟨B, 2, none⟩ v) B a b v :=
  ⟨by rw [World.cell?_setCell_other _ _ _ _ (by simp)]; exact h.c0, by rw [World.cell?_setCell_other _ _ _ _ (by simp)]; exact h.c1, World.cell?_setCell_same _ _ _ h.c2, by rw [World.frozen?_setCell]; exact h.f0, by rw [World.frozen?_setCell]; exact h.f1, by rw [World.frozen?_setCell]; exact h.f2⟩
theorem Cell3.alloc (w : World) (a b c : Value) (t : TypeId) : Cell3 (w.alloc (Obj.cells #[a, b, c] t)) w.heap.size a b c :=
  ⟨World.cell?_alloc_at _ _ _ _ rfl, World.cell?_alloc_at _ _ _ _ rfl, World.cell?_alloc_at _ _ _ _ rfl, World.frozen?_alloc_at _ _ _ _ rfl, World.frozen?_alloc_at _ _ _ _ rfl, World.frozen?_alloc_at _ _ _ _ rfl⟩
theorem Cell3.below {w w' : World} {B N : Nat} {a b c : Value} (h : Cell3 w B a b c) (hb : Below N w w') (hB : B < N) : Cell3 w' B a b c :=
  ⟨by rw [hb.cell hB]; exact h.c0, by rw [hb.cell hB]; exact h.c1, by rw [hb.cell hB]; exact h.c2, by rw [hb.frozen hB]; exact h.f0, by rw [hb.frozen hB]; exact h.f1, by rw [hb.frozen hB]; exact h.f2⟩

set_option maxHeartbeats 400000 in
theorem rDate_no (n : Int) (w : World) (n1 : -9223372036854775808 ≤ n) (n2 : n ≤ 9223372036854775807) (h : n < 0 ∨ 109572 < n) :
    Calls Tryz.prog 52 #[.int .i64 n] w fun e w' => e = .returned (.tuple #[.agg #[.int .i64 0, .int .i64 0, .int .i64 0], .int .i64 11]) ∧ Below w.heap.size w w' := by
  have HD := Lib.hid (fun w => rIs_any n w n1 n2)
  rw [decide_eq_false (by omega)] at HD
  clear h
  go_enter Tryz.func52, Tryz.ntmps52
  go_wp2_with fail
  refine (HD.out _).mono ?_
  rintro e w' ⟨rfl, rfl⟩
  go_wp2
  (try simp only [Exit.inBlock, Exit.then])
  refine bodyPost_ret (v := .tuple #[.agg #[.int .i64 0, .int .i64 0, .int .i64 0], .int .i64 11]) ?_ rfl ⟨rfl, (Below.refl _ _).alloc (Nat.le_refl _) _⟩
  rw [results_cell_tmp rfl]
  go_simp

set_option maxHeartbeats 4000000 in
theorem rDate_any (n y m d : Int) (w : World) (h : IsDate n y m d) :
    Calls Tryz.prog 52 #[.int .i64 n] w fun e w' => e = .returned (.tuple #[.agg #[.int .i64 y, .int .i64 m, .int .i64 d], .int .i64 0]) ∧ Below w.heap.size w w' := by
  obtain ⟨n1, n2, n3, n4⟩ := h.range
  have hm := h.1.m
  have hk := h.1.monE
  have HOF := Lib.hid (show n = firstM (mon y m) + d - 1 from h.2.symm)
  obtain ⟨v1, v2, v3, v4⟩ := h.1
  have HD := Lib.hid (fun w => rIs_any n w (by omega) (by omega))
  rw [decide_eq_true (by omega)] at HD
  obtain ⟨hk1, hk2⟩ := hk
  have HK1 := Lib.hid hk1
  clear hk1 h
  generalize hK : mon y m = K at *
  clear hK
  have HC0 := Lib.hid (Cell3.alloc w (.int .i64 0) (.int .i64 0) (.int .i64 0) 85)
  have HB0 := Lib.hid ((Below.refl w.heap.size w).alloc (Nat.le_refl _) (Obj.cells #[.int .i64 0, .int .i64 0, .int .i64 0] 85))
  have HBs := Lib.hid (show (w.alloc (Obj.cells #[.int .i64 0, .int .i64 0, .int .i64 0] 85)).heap.size = w.heap.size + 1 by simp)
  go_enter Tryz.func52, Tryz.ntmps52
  go_wp2_with fail
  refine (HD.out _).mono ?_
  rintro e w' ⟨rfl, rfl⟩
  go_wp2
  generalize w.alloc (Obj.cells #[.int .i64 0, .int .i64 0, .int .i64 0] 85) = W at *
  go_loopw [4, 5] (fun a b wr => ∃ j : Nat, j ≤ K ∧ a = .int .i64 j ∧ b = .int .i64 (n - firstM j) ∧ Hid (Below W.heap.size W wr)) (fun a _ _ => K - (intOf a).toNat)
  case atStart => exact ⟨0, by omega, rfl, by simp [firstM], Lib.hid (Below.refl _ _)⟩
  case round =>
    obtain ⟨j, hj, rfl, rfl, HB⟩ := hrel
    obtain ⟨b1, b2⟩ := firstM_b j
    have HL := Lib.hid (fun w => rLength_any (1900 + ((j / 12 : Nat) : Int)) (((j % 12 : Nat) : Int) + 1) w (by omega) (by omega) (by omega) (by omega))
    change Hid (∀ w, Calls _ _ _ w fun e w' => e = .returned (.int .i64 (dayM j)) ∧ _) at HL
    obtain ⟨b3, b4⟩ := dayM_b j
    have HS := Lib.hid (show firstM (j + 1) = firstM j + dayM j from rfl)
    by_cases hlt : j < K
    · have hge : dayM j ≤ n - firstM j := by
        have := firstM_mono (a := j + 1) (b := K) (by omega)
        rw [HS.out] at this; omega
      generalize dayM j = L at *
      generalize firstM j = I at *
      go_wp2_with fail
      refine (HL.out _).mono ?_
      rintro e w2 ⟨rfl, hb⟩
      go_wp2_with fail
      refine (HL.out _).mono ?_
      rintro e w3 ⟨rfl, hb2⟩
      go_wp2
      go_roundw
      case rel => exact ⟨j + 1, by omega, by go_num, by rw [HS.out]; go_num, Lib.hid ((HB.out.trans (hb.mono HB.out.size)).trans (hb2.mono (Nat.le_trans HB.out.size hb.size)))⟩
      case measure => simp [intOf]; omega
    · have eJ : j = K := by omega
      subst eJ
      have hlt2 : n - firstM j < dayM j := by rw [HS.out] at n4; omega
      have HN := Lib.hid (show n - firstM j + 1 = d by have := HOF.out; omega)
      have H1 := Lib.hid (show (1900 : Int) + (j : Int) / 12 = y by have := HK1.out; omega)
      have H2 := Lib.hid (show (j : Int) % 12 + 1 = m by have := HK1.out; omega)
      rw [HS.out] at n4
      generalize dayM j = L at *
      generalize firstM j = I at *
      go_wp2_with fail
      refine (HL.out _).mono ?_
      rintro e w2 ⟨rfl, hb⟩
      have hb3 := HB.out.trans (hb.mono HB.out.size)
      have HC := Lib.hid (HC0.out.below hb3 (by rw [HBs.out]; omega))
      have HBz := Lib.hid ((HB0.out.trans (hb3.mono HB0.out.size)))
      clear hb hb3 HB
      have c0 := HC.out.c0
      have f0 := HC.out.f0
      have c1 := fun x => (HC.out.set0 x).c1
      have f1 := fun x => (HC.out.set0 x).f1
      have c2 := fun x y => ((HC.out.set0 x).set1 y).c2
      have f2 := fun x y => ((HC.out.set0 x).set1 y).f2
      go_wp2
      clear c0 f0 c1 f1 c2 f2
      have HE := Lib.hid (((HC.out.set0 (.int .i64 (1900 + (j : Int) / 12))).set1 (.int .i64 ((j : Int) % 12 + 1))).set2 (.int .i64 (n - I + 1)))
      have HBe := Lib.hid (((HBz.out.setCell (p := ⟨w.heap.size, 0, none⟩) (Nat.le_refl _) (.int .i64 (1900 + (j : Int) / 12))).setCell (p := ⟨w.heap.size, 1, none⟩) (Nat.le_refl _) (.int .i64 ((j : Int) % 12 + 1))).setCell (p := ⟨w.heap.size, 2, none⟩) (Nat.le_refl _) (.int .i64 (n - I + 1)))
      generalize ((w2.setCell ⟨w.heap.size, 0, none⟩ (.int .i64 (1900 + (j : Int) / 12))).setCell ⟨w.heap.size, 1, none⟩ (.int .i64 ((j : Int) % 12 + 1))).setCell ⟨w.heap.size, 2, none⟩ (.int .i64 (n - I + 1)) = U at *
      (try simp only [Exit.inBlock, Exit.then])
      refine bodyPost_ret (v := .tuple #[.agg #[.int .i64 (1900 + (j : Int) / 12), .int .i64 ((j : Int) % 12 + 1), .int .i64 (n - I + 1)], .int .i64 0]) ?_ rfl ⟨by rw [← HN.out, ← H1.out, ← H2.out], HBe.out⟩
      have c0 := HE.out.c0
      have c1 := HE.out.c1
      have c2 := HE.out.c2
      rw [results_cell_tmp rfl]
      go_simp

set_option maxHeartbeats 400000 in
theorem weekday_any (n : Int) (w : World) (n1 : -9223372036854775808 ≤ n) (n2 : n ≤ 9223372036854775807) :
    Calls Tryz.prog 48 #[.int .i64 n] w fun e w' => e = .returned (.int .i64 (if 0 ≤ n ∧ n ≤ 109572 then n % 7 else -1)) ∧ w = w' := by
  have HD := Lib.hid (isDay_any n w n1 n2)
  by_cases h : 0 ≤ n ∧ n ≤ 109572
  · rw [decide_eq_true h] at HD
    rw [if_pos h]
    obtain ⟨h1, h2⟩ := h
    go_enter Tryz.func48, Tryz.ntmps48
    go_wp2_with fail
    refine HD.out.mono ?_
    rintro e w' ⟨rfl, rfl⟩
    go_wp2
    go_ret
    exact ⟨rfl, rfl⟩
  · rw [decide_eq_false h] at HD
    rw [if_neg h]
    go_enter Tryz.func48, Tryz.ntmps48
    go_wp2_with fail
    refine HD.out.mono ?_
    rintro e w' ⟨rfl, rfl⟩
    go_wp2
    go_ret
    exact ⟨rfl, rfl⟩

end Go.Proofs.YtkpdbhpmnegahaaGreatDoor
