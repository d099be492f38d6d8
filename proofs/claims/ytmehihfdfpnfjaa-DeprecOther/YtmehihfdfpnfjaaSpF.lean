/- What the comparison of remainders returns, and what rotateCmpFunc and insertionSortCmpFunc of package slices do. -/
import Derived.Test.YtmehihfdfpnfjaaSpE
import Derived.Test.YtmehihfdfpnfjaaMdA
namespace Go.Proofs.Ytmehihfdfpnfjaa
open Go.RowKit Go.Sort
set_option linter.unusedVariables false
set_option linter.unusedSimpArgs false

set_option maxHeartbeats 2000000 in
theorem lfCmp_any (x rx y ry : Int) (w : World) :
    Calls Try.prog 76 #[.agg #[.int .i64 x, .int .i64 rx], .agg #[.int .i64 y, .int .i64 ry]] w fun e w' => e = .returned (.int .i64 (cmpI ry rx)) ∧ Below w.heap.size w w' := by
  have H1 := Lib.hid (fun W => compareI_any ry rx W)
  generalize cmpI ry rx = v at *
  go_enter Try.func76, Try.ntmps76
  go_wp2_with fail
  refine (H1.out _).mono ?_
  rintro e w1 ⟨rfl, rfl⟩
  go_wp2
  go_ret
  exact ⟨rfl, ((Below.refl _ _).alloc (Nat.le_refl _) _).alloc (by simp) _⟩
theorem cmpI_neg {a b : Int} : cmpI a b < 0 ↔ a < b := by
  unfold cmpI
  repeat' split
  all_goals omega
set_option maxRecDepth 100000 in
set_option maxHeartbeats 4000000 in
theorem rotate_any (P N c : Nat) (r : Nat → Int) (σ : Nat → Nat) (a m b : Nat) (w : World) (hN : N ≤ 200) (hc : N ≤ c) (ham : a < m) (hmb : m < b) (hbN : b ≤ N) (hp : Prs w P N r σ) :
    Calls Try.prog 81 #[.slice (some ⟨P, 0, none⟩) N c, .int .i64 a, .int .i64 m, .int .i64 b, cmpV] w fun e w' => e = .returned (.tuple #[]) ∧ Prs w' P N r (rot σ a m b) ∧ Below P w w' := by
  have HP := Lib.hid hp
  clear hp
  have HI0 := Lib.hid (rot_start σ ham hmb)
  generalize rot σ a m b = T at *
  have HS := Lib.hid (fun τ x y n W h1 h2 h3 => swapRange_any P N c r τ x y n W hN hc h1 h2 h3)
  go_enter Try.func81, Try.ntmps81
  go_wp2
  go_loopw [10, 11] (fun x y wr => ∃ (i j : Nat) (τ : Nat → Nat), x = .int .i64 i ∧ y = .int .i64 j ∧ i ≤ m ∧ m + j ≤ b ∧ Hid (RotI T τ m i j) ∧ Hid (Prs wr P N r τ) ∧ Hid (Below P w wr)) (fun x y _ => (intOf x + intOf y).toNat)
  case atStart => exact ⟨m - a, b - m, σ, congrArg (Value.int .i64) (by omega), congrArg (Value.int .i64) (by omega), by omega, by omega, HI0, HP, Lib.hid (Below.refl _ _)⟩
  case round =>
    obtain ⟨i, j, τ, rfl, rfl, hi, hj, HI, HPr, HB⟩ := hrel
    have hpos := HI.out.pos
    obtain ⟨A, hA, hA2⟩ : ∃ A : Nat, (m : Int) - (i : Int) = (A : Int) ∧ A = m - i := ⟨m - i, by omega, rfl⟩
    have hPl := HPr.out.lt
    rcases Nat.lt_trichotomy i j with h | h | h
    · have h1 : ((i : Int) != (j : Int)) = true := by simp; omega
      have h2 : ¬ (j : Int) < (i : Int) := by omega
      obtain ⟨B, hB, hB2⟩ : ∃ B : Nat, (m : Int) + (j : Int) - (i : Int) = (B : Int) ∧ B = m + j - i := ⟨m + j - i, by omega, rfl⟩
      have HC := Lib.hid (HS.out τ A B i wr (by omega) (by omega) HPr.out)
      have HN := Lib.hid (rot_lt HI.out h)
      rw [← hA2, ← hB2] at HN
      clear hA2 hB2
      go_wp2_with fail
      refine HC.out.mono ?_
      rintro e w2 ⟨rfl, hp2, hb2⟩
      have HP2 := Lib.hid hp2
      have HB2 := Lib.hid (HB.out.trans hb2)
      clear hp2 hb2 HPr HB HI HC
      go_wp2
      go_roundw
      case rel => exact ⟨i, j - i, _, rfl, congrArg (Value.int .i64) (by omega), hi, by omega, HN, HP2, HB2⟩
      case measure => simp [intOf]; omega
    · subst h
      have h1 : ((i : Int) != (i : Int)) = false := by simp
      have HC := Lib.hid (HS.out τ A m i wr (by omega) (by omega) HPr.out)
      have HN := Lib.hid (rot_end HI.out)
      rw [← hA2] at HN
      clear hA2
      go_wp2_with fail
      refine HC.out.mono ?_
      rintro e w2 ⟨rfl, hp2, hb2⟩
      have HP2 := Lib.hid hp2
      have HB2 := Lib.hid (HB.out.trans hb2)
      clear hp2 hb2 HPr HB HI HC
      go_wp2
      go_end0
      exact ⟨rfl, by rw [← HN.out]; exact HP2.out, HB2.out⟩
    · have h1 : ((i : Int) != (j : Int)) = true := by simp; omega
      have h2 : (j : Int) < (i : Int) := by omega
      have HC := Lib.hid (HS.out τ A m j wr (by omega) (by omega) HPr.out)
      have HN := Lib.hid (rot_gt HI.out h)
      rw [← hA2] at HN
      clear hA2
      go_wp2_with fail
      refine HC.out.mono ?_
      rintro e w2 ⟨rfl, hp2, hb2⟩
      have HP2 := Lib.hid hp2
      have HB2 := Lib.hid (HB.out.trans hb2)
      clear hp2 hb2 HPr HB HI HC
      go_wp2
      go_roundw
      case rel => exact ⟨i - j, j, _, congrArg (Value.int .i64) (by omega), rfl, by omega, hj, HN, HP2, HB2⟩
      case measure => simp [intOf]; omega
set_option maxRecDepth 100000 in
set_option maxHeartbeats 8000000 in
theorem insertion_any (P N c : Nat) (r : Nat → Int) (σ : Nat → Nat) (a b : Nat) (w : World) (hN : N ≤ 200) (hc : N ≤ c) (hab : a ≤ b) (hbN : b ≤ N) (hinc : ∀ p q, a ≤ p → p < q → q < b → σ p < σ q) (hp : Prs w P N r σ) :
    Calls Try.prog 79 #[.slice (some ⟨P, 0, none⟩) N c, .int .i64 a, .int .i64 b, cmpV] w fun e w' => e = .returned (.tuple #[]) ∧ ∃ σ', Rar a b σ σ' ∧ Srt r σ' a b ∧ Prs w' P N r σ' ∧ Below P w w' := by
  have HP := Lib.hid hp
  have HPo := Lib.hid hp.lt
  have HInc := Lib.hid hinc
  clear hp hinc
  go_enter Try.func79, Try.ntmps79
  go_wp2
  go_loopw [8] (fun x wr => ∃ (i : Nat) (τ : Nat → Nat), x = .int .i64 i ∧ a < i ∧ i ≤ 201 ∧ Hid (i ≤ b ∨ τ = σ) ∧ Hid (Srt r τ a i) ∧ Hid (i ≤ b → Rar a i σ τ) ∧ Hid (Prs wr P N r τ) ∧ Hid (Below P w wr)) (fun x _ => 202 - (intOf x).toNat)
  case atStart => exact ⟨a + 1, σ, by go_num, by omega, by omega, Lib.hid (.inr rfl), Lib.hid (fun i j h1 h2 h3 => by omega), Lib.hid (fun _ => Rar.refl _ _ _), HP, Lib.hid (Below.refl _ _)⟩
  case round =>
    obtain ⟨i, τ, rfl, hai, hi201, HE, HS, HR, HPr, HB⟩ := hrel
    by_cases h : i < b
    · have h' : (i : Int) < (b : Int) := by omega
      have HI0 := Lib.hid (ins_start (Nat.le_of_lt hai) HS.out (HR.out (by omega)) (fun p q h1 h2 h3 => HInc.out p q h1 h2 (by omega)))
      go_wp2_with fail
      go_loopw [9] (fun y wr => ∃ (j : Nat) (τ : Nat → Nat), y = .int .i64 j ∧ a ≤ j ∧ j ≤ i ∧ Hid (Ins r σ τ a i j) ∧ Hid (Prs wr P N r τ) ∧ Hid (Below P w wr)) (fun y _ => (intOf y).toNat)
      case atStart => exact ⟨i, τ, rfl, by omega, Nat.le_refl _, HI0, HPr, HB⟩
      case round =>
        clear HE HS HR HPr HB HI0
        rename_i wr0
        obtain ⟨j, ρ, rfl, haj, hji, HI, HPr, HB⟩ := hrel
        by_cases hj : a < j
        · have hj' : (a : Int) < (j : Int) := by omega
          obtain ⟨B, hB⟩ : ∃ B : Nat, B = j - 1 := ⟨_, rfl⟩
          have hB1 : (B : Int) < (N : Int) := by omega
          have hj1 : (j : Int) < (N : Int) := by omega
          have hwb : IntKind.i64.wrap ((j : Int) - 1) = (B : Int) := by simp only [IntKind.wrap_i64]; omega
          have hsb : (j : Int) - 1 = (B : Int) := by omega
          have hwB : IntKind.i64.wrap (B : Int) = (B : Int) := by simp only [IntKind.wrap_i64]; omega
          have HC0 := Lib.hid (fun W => lfCmp_any (ρ j) (r (ρ j)) (ρ B) (r (ρ B)) W)
          by_cases hlt : r (ρ B) < r (ρ j)
          · have hv : cmpI (r (ρ B)) (r (ρ j)) < 0 := cmpI_neg.2 hlt
            have HI2 := Lib.hid (show Ins r σ (swp ρ j B) a i B by rw [hB]; exact ins_step HI.out hj (by rw [← hB]; exact hlt))
            have HC := HC0
            generalize cmpI (r (ρ B)) (r (ρ j)) = v at *
            clear HC0 hlt hB
            go_wp2_with fail
            have l0 := cell_regrown (HPr.out.c0 j (by omega))
            have l1 := cell_regrown (HPr.out.c1 j (by omega))
            have l2 := cell_regrown (HPr.out.c0 B (by omega))
            have l3 := cell_regrown (HPr.out.c1 B (by omega))
            have cC : ∀ dd os, Calls Try.prog 76 #[.agg #[.int .i64 (ρ j), .int .i64 (r (ρ j))], .agg #[.int .i64 (ρ B), .int .i64 (r (ρ B))]] (grow (redrawn wr dd) os) fun e w'' => e = .returned (.int .i64 v) ∧ ∃ p : Regrown, w'' = grow (redrawn wr p.d) p.os := fun dd os => Calls.regrown_of (HC.out _)
            refine wp_region_quiet_below (l := _) (by kernel_rfl) (by kernel_rfl) ?_
            repeat (first | go_big_quiet_step (first | (go_at_call 76; exact cC _ _)))
            refine wpQuiet_nil ?_
            intro w2 hw'
            obtain ⟨⟨dq2, osq2⟩, hw''⟩ := hw'
            have hb2 := below_regrown wr dq2 osq2
            rw [← hw''] at hb2
            clear hw'' cC l0 l1 l2 l3
            have HB := Lib.hid (HB.out.trans (hb2.mono (Nat.le_of_lt HPr.out.lt)))
            have HPr := Lib.hid (HPr.out.below hb2 HPr.out.lt (Nat.le_refl _))
            clear hb2
            go_wp2_with fail
            have HSS := Lib.hid (show w2.drew.cell? ⟨P, j * 2, none⟩ = some (.int .i64 (ρ j)) ∧ w2.drew.cell? ⟨P, j * 2 + 1, none⟩ = some (.int .i64 (r (ρ j))) ∧ w2.drew.cell? ⟨P, B * 2, none⟩ = some (.int .i64 (ρ B)) ∧ w2.drew.cell? ⟨P, B * 2 + 1, none⟩ = some (.int .i64 (r (ρ B))) from ⟨HPr.out.c0 _ (by omega), HPr.out.c1 _ (by omega), HPr.out.c0 _ (by omega), HPr.out.c1 _ (by omega)⟩)
            have hf0 : w2.frozen? ⟨P, j * 2, none⟩ = false := HPr.out.f0 _ (by omega)
            have hg0 : w2.cell? ⟨P, j * 2, none⟩ = some (.int .i64 (ρ j)) := HPr.out.c0 _ (by omega)
            have hf1 : w2.frozen? ⟨P, j * 2 + 1, none⟩ = false := HPr.out.f1 _ (by omega)
            have hg1 : w2.cell? ⟨P, j * 2 + 1, none⟩ = some (.int .i64 (r (ρ j))) := HPr.out.c1 _ (by omega)
            have hf2 : w2.frozen? ⟨P, B * 2, none⟩ = false := HPr.out.f0 _ (by omega)
            have hg2 : w2.cell? ⟨P, B * 2, none⟩ = some (.int .i64 (ρ B)) := HPr.out.c0 _ (by omega)
            have hf3 : w2.frozen? ⟨P, B * 2 + 1, none⟩ = false := HPr.out.f1 _ (by omega)
            have hg3 : w2.cell? ⟨P, B * 2 + 1, none⟩ = some (.int .i64 (r (ρ B))) := HPr.out.c1 _ (by omega)
            have HP2 := Lib.hid (HPr.out.set2 j (ρ B) (by omega))
            have hk0 := HP2.out.c0 B (by omega)
            have hk1 := HP2.out.c1 B (by omega)
            have hk2 := HP2.out.f0 B (by omega)
            have hk3 := HP2.out.f1 B (by omega)
            refine gk_region (fun x => x.cell? ⟨P, j * 2, none⟩ = some (.int .i64 (ρ j)) ∧ x.cell? ⟨P, j * 2 + 1, none⟩ = some (.int .i64 (r (ρ j))) ∧ x.cell? ⟨P, B * 2, none⟩ = some (.int .i64 (ρ B)) ∧ x.cell? ⟨P, B * 2 + 1, none⟩ = some (.int .i64 (r (ρ B)))) (fun j => j != 9 && j != 13) (by kernel_rfl) ?_
            refine gk_pure (i := 0) (v := ?_) rfl (by kernel_rfl) rfl (by kernel_rfl) (by kernel_rfl) (fun _ _ _ h => h) (Or.inl ⟨by kernel_rfl, ?_⟩) ?_
            rotate_left
            · ((intro x; go_simp) <;> with_reducible rfl)
            try simp only [Act.put, List.setIfInBounds_toArray, List.set_cons_zero, List.set_cons_succ]
            try simp only [hwb, hwB, hsb]
            refine gk_pure (i := 1) (v := ?_) rfl (by kernel_rfl) rfl (by kernel_rfl) (by kernel_rfl) (fun _ _ _ h => h) (Or.inl ⟨by kernel_rfl, ?_⟩) ?_
            rotate_left
            · ((intro x; go_simp) <;> with_reducible rfl)
            try simp only [Act.put, List.setIfInBounds_toArray, List.set_cons_zero, List.set_cons_succ]
            try simp only [hwb, hwB, hsb]
            refine gk_pure (i := 2) (v := ?_) rfl (by kernel_rfl) rfl (by kernel_rfl) (by kernel_rfl) (fun _ _ _ h => h) (Or.inl ⟨by kernel_rfl, ?_⟩) ?_
            rotate_left
            · ((intro x; go_simp) <;> with_reducible rfl)
            try simp only [Act.put, List.setIfInBounds_toArray, List.set_cons_zero, List.set_cons_succ]
            try simp only [hwb, hwB, hsb]
            refine gk_pure (i := 3) (v := ?_) rfl (by kernel_rfl) rfl (by kernel_rfl) (by kernel_rfl) (fun _ _ _ h => h) (Or.inl ⟨by kernel_rfl, ?_⟩) ?_
            rotate_left
            · ((intro x; go_simp) <;> with_reducible rfl)
            try simp only [Act.put, List.setIfInBounds_toArray, List.set_cons_zero, List.set_cons_succ]
            try simp only [hwb, hwB, hsb]
            refine gk_pure (i := 4) (v := ?_) rfl (by kernel_rfl) rfl (by kernel_rfl) (by kernel_rfl) (fun _ _ _ h => h) (Or.inl ⟨by kernel_rfl, ?_⟩) ?_
            rotate_left
            · ((intro x; go_simp) <;> with_reducible rfl)
            try simp only [Act.put, List.setIfInBounds_toArray, List.set_cons_zero, List.set_cons_succ]
            try simp only [hwb, hwB, hsb]
            refine gk_pure (i := 5) (v := ?_) rfl (by kernel_rfl) rfl (by kernel_rfl) (by kernel_rfl) (fun _ _ _ h => h) (Or.inl ⟨by kernel_rfl, ?_⟩) ?_
            rotate_left
            · ((intro x; go_simp) <;> with_reducible rfl)
            try simp only [Act.put, List.setIfInBounds_toArray, List.set_cons_zero, List.set_cons_succ]
            try simp only [hwb, hwB, hsb]
            refine gk_pure (i := 6) (v := ?_) rfl (by kernel_rfl) rfl (by kernel_rfl) (by kernel_rfl) (fun _ _ _ h => h) (Or.inl ⟨by kernel_rfl, ?_⟩) ?_
            rotate_left
            · ((intro x; go_simp) <;> with_reducible rfl)
            try simp only [Act.put, List.setIfInBounds_toArray, List.set_cons_zero, List.set_cons_succ]
            try simp only [hwb, hwB, hsb]
            refine gk_pure (i := 7) (v := ?_) rfl (by kernel_rfl) rfl (by kernel_rfl) (by kernel_rfl) (fun _ _ _ h => h) (Or.inl ⟨by kernel_rfl, ?_⟩) ?_
            rotate_left
            · ((intro x; go_simp) <;> with_reducible rfl)
            try simp only [Act.put, List.setIfInBounds_toArray, List.set_cons_zero, List.set_cons_succ]
            try simp only [hwb, hwB, hsb]
            refine gk_pure (i := 8) (v := ?_) rfl (by kernel_rfl) rfl (by kernel_rfl) (by kernel_rfl) (fun _ _ _ h => h) (Or.inl ⟨by kernel_rfl, ?_⟩) ?_
            rotate_left
            · ((intro x; go_simp) <;> with_reducible rfl)
            try simp only [Act.put, List.setIfInBounds_toArray, List.set_cons_zero, List.set_cons_succ]
            try simp only [hwb, hwB, hsb]
            refine gk_pure (i := 10) (v := ?_) rfl (by kernel_rfl) rfl (by kernel_rfl) (by kernel_rfl) (fun _ _ _ h => h) (Or.inl ⟨by kernel_rfl, ?_⟩) ?_
            rotate_left
            · ((intro x; go_simp) <;> with_reducible rfl)
            try simp only [Act.put, List.setIfInBounds_toArray, List.set_cons_zero, List.set_cons_succ]
            try simp only [hwb, hwB, hsb]
            refine gk_pure (i := 11) (v := ?_) rfl (by kernel_rfl) rfl (by kernel_rfl) (by kernel_rfl) (fun _ _ _ h => h) (Or.inl ⟨by kernel_rfl, ?_⟩) ?_
            rotate_left
            · ((intro x; go_simp) <;> with_reducible rfl)
            try simp only [Act.put, List.setIfInBounds_toArray, List.set_cons_zero, List.set_cons_succ]
            try simp only [hwb, hwB, hsb]
            refine gk_pure (i := 12) (v := ?_) rfl (by kernel_rfl) rfl (by kernel_rfl) (by kernel_rfl) (fun _ _ _ h => h) (Or.inl ⟨by kernel_rfl, ?_⟩) ?_
            rotate_left
            · ((intro x; go_simp) <;> with_reducible rfl)
            try simp only [Act.put, List.setIfInBounds_toArray, List.set_cons_zero, List.set_cons_succ]
            try simp only [hwb, hwB, hsb]
            refine gk_take (i := 9) (v := ?_) rfl (by kernel_rfl) (by kernel_rfl) (by kernel_rfl) (by kernel_rfl) (fun _ _ _ h => h) (Or.inl ⟨by kernel_rfl, ?_⟩) HSS.out ?_
            rotate_left
            · ((intro x hx; obtain ⟨hx0, hx1, hx2, hx3⟩ := hx; go_simp) <;> with_reducible rfl)
            try simp only [Act.put, List.setIfInBounds_toArray, List.set_cons_zero, List.set_cons_succ]
            refine gk_take (i := 13) (v := ?_) rfl (by kernel_rfl) (by kernel_rfl) (by kernel_rfl) (by kernel_rfl) (fun _ _ _ h => h) (Or.inl ⟨by kernel_rfl, ?_⟩) HSS.out ?_
            rotate_left
            · ((intro x hx; obtain ⟨hx0, hx1, hx2, hx3⟩ := hx; go_simp) <;> with_reducible rfl)
            try simp only [Act.put, List.setIfInBounds_toArray, List.set_cons_zero, List.set_cons_succ]
            refine gk_pure (i := 14) (v := ?_) rfl (by kernel_rfl) rfl (by kernel_rfl) (by kernel_rfl) (fun _ _ _ h => h) (Or.inl ⟨by kernel_rfl, ?_⟩) ?_
            rotate_left
            · ((intro x; go_simp) <;> with_reducible rfl)
            try simp only [Act.put, List.setIfInBounds_toArray, List.set_cons_zero, List.set_cons_succ]
            try simp only [hwb, hwB, hsb]
            refine gk_one (i := 15) rfl (by kernel_rfl) (fun K hK => ?_)
            go_simp
            refine hK _ _ (fun h => by cases h) ?_
            clear hK K
            try simp only [Act.put, List.setIfInBounds_toArray, List.set_cons_zero, List.set_cons_succ]
            refine gk_pure (i := 16) (v := ?_) rfl (by kernel_rfl) rfl (by kernel_rfl) (by kernel_rfl) (fun _ _ _ h => h) (Or.inl ⟨by kernel_rfl, ?_⟩) ?_
            rotate_left
            · ((intro x; go_simp) <;> with_reducible rfl)
            try simp only [Act.put, List.setIfInBounds_toArray, List.set_cons_zero, List.set_cons_succ]
            try simp only [hwb, hwB, hsb]
            refine gk_one (i := 17) rfl (by kernel_rfl) (fun K hK => ?_)
            go_simp
            refine hK _ _ (fun h => by cases h) ?_
            clear hK K
            try simp only [Act.put, List.setIfInBounds_toArray, List.set_cons_zero, List.set_cons_succ]
            refine gk_done (by kernel_rfl) ?_ _
            try simp only [Act.put, List.setIfInBounds_toArray, List.set_cons_zero, List.set_cons_succ]
            try go_simp
            have HNw := Lib.hid (HPr.out.swap j B (by omega) (by omega))
            have HBw := Lib.hid ((((HB.out.setCell (p := ⟨P, j * 2, none⟩) (Nat.le_refl _) (.int .i64 (ρ B))).setCell (p := ⟨P, j * 2 + 1, none⟩) (Nat.le_refl _) (.int .i64 (r (ρ B)))).setCell (p := ⟨P, B * 2, none⟩) (Nat.le_refl _) (.int .i64 (ρ j))).setCell (p := ⟨P, B * 2 + 1, none⟩) (Nat.le_refl _) (.int .i64 (r (ρ j))))
            clear hk0 hk1 hk2 hk3 hf0 hf1 hf2 hf3 hg0 hg1 hg2 hg3 HP2 HSS HPr HB
            generalize (((w2.setCell ⟨P, j * 2, none⟩ (.int .i64 (ρ B))).setCell ⟨P, j * 2 + 1, none⟩ (.int .i64 (r (ρ B)))).setCell ⟨P, B * 2, none⟩ (.int .i64 (ρ j))).setCell ⟨P, B * 2 + 1, none⟩ (.int .i64 (r (ρ j))) = W2 at *
            have HN3 := Lib.hid (HNw.out.below ((Below.refl W2.heap.size W2).drew) HNw.out.lt (Nat.le_refl _))
            have HB3 := Lib.hid (HBw.out.drew)
            clear HNw HBw
            generalize W2.drew = W3 at *
            go_wp2
            go_roundw
            case rel => exact ⟨B, _, by first | rfl | (congr 1), by omega, by omega, HI2, HN3, HB3⟩
            case measure => simp [intOf]; omega
          · have hv : ¬ cmpI (r (ρ B)) (r (ρ j)) < 0 := fun q => hlt (cmpI_neg.1 q)
            have HS2 := Lib.hid (ins_end HI.out (.inr (by rw [← hB]; exact hlt)))
            have HC := HC0
            generalize cmpI (r (ρ B)) (r (ρ j)) = v at *
            clear HC0 hlt hB
            go_wp2_with fail
            have l0 := cell_regrown (HPr.out.c0 j (by omega))
            have l1 := cell_regrown (HPr.out.c1 j (by omega))
            have l2 := cell_regrown (HPr.out.c0 B (by omega))
            have l3 := cell_regrown (HPr.out.c1 B (by omega))
            have cC : ∀ dd os, Calls Try.prog 76 #[.agg #[.int .i64 (ρ j), .int .i64 (r (ρ j))], .agg #[.int .i64 (ρ B), .int .i64 (r (ρ B))]] (grow (redrawn wr dd) os) fun e w'' => e = .returned (.int .i64 v) ∧ ∃ p : Regrown, w'' = grow (redrawn wr p.d) p.os := fun dd os => Calls.regrown_of (HC.out _)
            refine wp_region_quiet_below (l := _) (by kernel_rfl) (by kernel_rfl) ?_
            repeat (first | go_big_quiet_step (first | (go_at_call 76; exact cC _ _)))
            refine wpQuiet_nil ?_
            intro w2 hw'
            obtain ⟨⟨dq2, osq2⟩, hw''⟩ := hw'
            have hb2 := below_regrown wr dq2 osq2
            rw [← hw''] at hb2
            clear hw'' cC l0 l1 l2 l3
            have HB := Lib.hid (HB.out.trans (hb2.mono (Nat.le_of_lt HPr.out.lt)))
            have HPr := Lib.hid (HPr.out.below hb2 HPr.out.lt (Nat.le_refl _))
            clear hb2
            go_wp2
            go_roundw
            case rel => exact ⟨i + 1, ρ, by go_num, by omega, by omega, Lib.hid (.inl (by omega)), HS2, Lib.hid (fun _ => HI.out.rar), HPr, HB⟩
            case measure => simp [intOf]; omega
        · have hj' : decide ((a : Int) < (j : Int)) = false := by simp; omega
          have HS2 := Lib.hid (ins_end HI.out (.inl (by omega)))
          go_wp2_with fail
          go_quiet (fail)
          have HPr := Lib.hid (HPr.out.below (below_drewN (Below.refl wr.heap.size wr) nq) HPr.out.lt (Nat.le_refl _))
          have HB := Lib.hid (below_drewN HB.out nq)
          generalize wr.drewN nq = w2 at *
          go_wp2
          go_roundw
          case rel => exact ⟨i + 1, ρ, by go_num, by omega, by omega, Lib.hid (.inl (by omega)), HS2, Lib.hid (fun _ => HI.out.rar), HPr, HB⟩
          case measure => simp [intOf]; omega
    · have h' : ¬ (i : Int) < (b : Int) := by omega
      go_wp2
      go_end0
      refine ⟨rfl, τ, ?_, fun p q h1 h2 h3 => HS.out p q h1 h2 (by omega), HPr.out, HB.out⟩
      rcases HE.out with q | q
      · obtain rfl : i = b := by omega
        exact HR.out (Nat.le_refl _)
      · rw [q]; exact Rar.refl _ _ _
end Go.Proofs.Ytmehihfdfpnfjaa
