/- What the comparison of remainders returns, and what swapRangeCmpFunc of package slices does. -/
import Derived.Test.YtmehihfdfpnfjaaSpC
namespace Go.Proofs.Ytmehihfdfpnfjaa
open Go.RowKit Go.Sort
set_option linter.unusedVariables false
set_option linter.unusedSimpArgs false

/-- the function that is handed to the sort. -/
abbrev cmpV : Value := .func (.func 76) #[] #[]
set_option maxRecDepth 100000 in
set_option maxHeartbeats 4000000 in
theorem swapRange_any (P N c : Nat) (r : Nat → Int) (σ : Nat → Nat) (a b n : Nat) (w : World) (hN : N ≤ 200) (hc : N ≤ c) (hab : a + n ≤ b) (hbn : b + n ≤ N) (hp : Prs w P N r σ) :
    Calls Try.prog 82 #[.slice (some ⟨P, 0, none⟩) N c, .int .i64 a, .int .i64 b, .int .i64 n, cmpV] w fun e w' => e = .returned (.tuple #[]) ∧ Prs w' P N r (swR σ a b n) ∧ Below P w w' := by
  have HP := Lib.hid hp
  clear hp
  go_enter Try.func82, Try.ntmps82
  go_wp2
  go_loopw [10] (fun i wr => ∃ k : Nat, k ≤ n ∧ i = .int .i64 k ∧ Hid (Prs wr P N r (swR σ a b k)) ∧ Hid (Below P w wr)) (fun i _ => n - (intOf i).toNat)
  case atStart => exact ⟨0, Nat.zero_le _, rfl, Lib.hid (by rw [swR_zero]; exact HP.out), Lib.hid (Below.refl _ _)⟩
  case round =>
    obtain ⟨k, hk, rfl, HPr, HB⟩ := hrel
    by_cases h : k < n
    · have h' : (k : Int) < (n : Int) := by omega
      have HST := Lib.hid (swR_step σ a b k (by omega))
      generalize swR σ a b k = τ at *
      obtain ⟨A, hA⟩ : ∃ A, A = a + k := ⟨_, rfl⟩
      obtain ⟨B, hB⟩ : ∃ B, B = b + k := ⟨_, rfl⟩
      have hA1 : A < N := by omega
      have hB1 : B < N := by omega
      have hA2 : (A : Int) < (N : Int) := by omega
      have hB2 : (B : Int) < (N : Int) := by omega
      have hwa : IntKind.i64.wrap ((a : Int) + (k : Int)) = (A : Int) := by simp only [IntKind.wrap_i64, wrap64]; omega
      have hwb : IntKind.i64.wrap ((b : Int) + (k : Int)) = (B : Int) := by simp only [IntKind.wrap_i64, wrap64]; omega
      rw [← hA, ← hB] at HST
      clear hA hB
      go_wp2_with fail
      have HSS := Lib.hid (show wr.drew.cell? ⟨P, A * 2, none⟩ = some (.int .i64 (τ A)) ∧ wr.drew.cell? ⟨P, A * 2 + 1, none⟩ = some (.int .i64 (r (τ A))) ∧ wr.drew.cell? ⟨P, B * 2, none⟩ = some (.int .i64 (τ B)) ∧ wr.drew.cell? ⟨P, B * 2 + 1, none⟩ = some (.int .i64 (r (τ B))) from ⟨HPr.out.c0 _ (by omega), HPr.out.c1 _ (by omega), HPr.out.c0 _ (by omega), HPr.out.c1 _ (by omega)⟩)
      have hf0 : wr.frozen? ⟨P, A * 2, none⟩ = false := HPr.out.f0 _ (by omega)
      have hg0 : wr.cell? ⟨P, A * 2, none⟩ = some (.int .i64 (τ A)) := HPr.out.c0 _ (by omega)
      have hf1 : wr.frozen? ⟨P, A * 2 + 1, none⟩ = false := HPr.out.f1 _ (by omega)
      have hg1 : wr.cell? ⟨P, A * 2 + 1, none⟩ = some (.int .i64 (r (τ A))) := HPr.out.c1 _ (by omega)
      have hf2 : wr.frozen? ⟨P, B * 2, none⟩ = false := HPr.out.f0 _ (by omega)
      have hg2 : wr.cell? ⟨P, B * 2, none⟩ = some (.int .i64 (τ B)) := HPr.out.c0 _ (by omega)
      have hf3 : wr.frozen? ⟨P, B * 2 + 1, none⟩ = false := HPr.out.f1 _ (by omega)
      have hg3 : wr.cell? ⟨P, B * 2 + 1, none⟩ = some (.int .i64 (r (τ B))) := HPr.out.c1 _ (by omega)
      have HP2 := Lib.hid (HPr.out.set2 A (τ B) (by omega))
      have hk0 := HP2.out.c0 B (by omega)
      have hk1 := HP2.out.c1 B (by omega)
      have hk2 := HP2.out.f0 B (by omega)
      have hk3 := HP2.out.f1 B (by omega)
      refine gk_region (fun x => x.cell? ⟨P, A * 2, none⟩ = some (.int .i64 (τ A)) ∧ x.cell? ⟨P, A * 2 + 1, none⟩ = some (.int .i64 (r (τ A))) ∧ x.cell? ⟨P, B * 2, none⟩ = some (.int .i64 (τ B)) ∧ x.cell? ⟨P, B * 2 + 1, none⟩ = some (.int .i64 (r (τ B)))) (fun j => j != 13 && j != 19) (by kernel_rfl) ?_
      refine gk_pure (i := 0) (v := ?_) rfl (by kernel_rfl) rfl (by kernel_rfl) (by kernel_rfl) (fun _ _ _ h => h) (Or.inl ⟨by kernel_rfl, ?_⟩) ?_
      rotate_left
      · ((intro x; go_simp) <;> with_reducible rfl)
      try simp only [Act.put, List.setIfInBounds_toArray, List.set_cons_zero, List.set_cons_succ]
      try simp only [hwa, hwb]
      refine gk_pure (i := 1) (v := ?_) rfl (by kernel_rfl) rfl (by kernel_rfl) (by kernel_rfl) (fun _ _ _ h => h) (Or.inl ⟨by kernel_rfl, ?_⟩) ?_
      rotate_left
      · ((intro x; go_simp) <;> with_reducible rfl)
      try simp only [Act.put, List.setIfInBounds_toArray, List.set_cons_zero, List.set_cons_succ]
      try simp only [hwa, hwb]
      refine gk_pure (i := 2) (v := ?_) rfl (by kernel_rfl) rfl (by kernel_rfl) (by kernel_rfl) (fun _ _ _ h => h) (Or.inl ⟨by kernel_rfl, ?_⟩) ?_
      rotate_left
      · ((intro x; go_simp) <;> with_reducible rfl)
      try simp only [Act.put, List.setIfInBounds_toArray, List.set_cons_zero, List.set_cons_succ]
      try simp only [hwa, hwb]
      refine gk_pure (i := 3) (v := ?_) rfl (by kernel_rfl) rfl (by kernel_rfl) (by kernel_rfl) (fun _ _ _ h => h) (Or.inl ⟨by kernel_rfl, ?_⟩) ?_
      rotate_left
      · ((intro x; go_simp) <;> with_reducible rfl)
      try simp only [Act.put, List.setIfInBounds_toArray, List.set_cons_zero, List.set_cons_succ]
      try simp only [hwa, hwb]
      refine gk_pure (i := 4) (v := ?_) rfl (by kernel_rfl) rfl (by kernel_rfl) (by kernel_rfl) (fun _ _ _ h => h) (Or.inl ⟨by kernel_rfl, ?_⟩) ?_
      rotate_left
      · ((intro x; go_simp) <;> with_reducible rfl)
      try simp only [Act.put, List.setIfInBounds_toArray, List.set_cons_zero, List.set_cons_succ]
      try simp only [hwa, hwb]
      refine gk_pure (i := 5) (v := ?_) rfl (by kernel_rfl) rfl (by kernel_rfl) (by kernel_rfl) (fun _ _ _ h => h) (Or.inl ⟨by kernel_rfl, ?_⟩) ?_
      rotate_left
      · ((intro x; go_simp) <;> with_reducible rfl)
      try simp only [Act.put, List.setIfInBounds_toArray, List.set_cons_zero, List.set_cons_succ]
      try simp only [hwa, hwb]
      refine gk_pure (i := 6) (v := ?_) rfl (by kernel_rfl) rfl (by kernel_rfl) (by kernel_rfl) (fun _ _ _ h => h) (Or.inl ⟨by kernel_rfl, ?_⟩) ?_
      rotate_left
      · ((intro x; go_simp) <;> with_reducible rfl)
      try simp only [Act.put, List.setIfInBounds_toArray, List.set_cons_zero, List.set_cons_succ]
      try simp only [hwa, hwb]
      refine gk_pure (i := 7) (v := ?_) rfl (by kernel_rfl) rfl (by kernel_rfl) (by kernel_rfl) (fun _ _ _ h => h) (Or.inl ⟨by kernel_rfl, ?_⟩) ?_
      rotate_left
      · ((intro x; go_simp) <;> with_reducible rfl)
      try simp only [Act.put, List.setIfInBounds_toArray, List.set_cons_zero, List.set_cons_succ]
      try simp only [hwa, hwb]
      refine gk_pure (i := 8) (v := ?_) rfl (by kernel_rfl) rfl (by kernel_rfl) (by kernel_rfl) (fun _ _ _ h => h) (Or.inl ⟨by kernel_rfl, ?_⟩) ?_
      rotate_left
      · ((intro x; go_simp) <;> with_reducible rfl)
      try simp only [Act.put, List.setIfInBounds_toArray, List.set_cons_zero, List.set_cons_succ]
      try simp only [hwa, hwb]
      refine gk_pure (i := 9) (v := ?_) rfl (by kernel_rfl) rfl (by kernel_rfl) (by kernel_rfl) (fun _ _ _ h => h) (Or.inl ⟨by kernel_rfl, ?_⟩) ?_
      rotate_left
      · ((intro x; go_simp) <;> with_reducible rfl)
      try simp only [Act.put, List.setIfInBounds_toArray, List.set_cons_zero, List.set_cons_succ]
      try simp only [hwa, hwb]
      refine gk_pure (i := 10) (v := ?_) rfl (by kernel_rfl) rfl (by kernel_rfl) (by kernel_rfl) (fun _ _ _ h => h) (Or.inl ⟨by kernel_rfl, ?_⟩) ?_
      rotate_left
      · ((intro x; go_simp) <;> with_reducible rfl)
      try simp only [Act.put, List.setIfInBounds_toArray, List.set_cons_zero, List.set_cons_succ]
      try simp only [hwa, hwb]
      refine gk_pure (i := 11) (v := ?_) rfl (by kernel_rfl) rfl (by kernel_rfl) (by kernel_rfl) (fun _ _ _ h => h) (Or.inl ⟨by kernel_rfl, ?_⟩) ?_
      rotate_left
      · ((intro x; go_simp) <;> with_reducible rfl)
      try simp only [Act.put, List.setIfInBounds_toArray, List.set_cons_zero, List.set_cons_succ]
      try simp only [hwa, hwb]
      refine gk_pure (i := 12) (v := ?_) rfl (by kernel_rfl) rfl (by kernel_rfl) (by kernel_rfl) (fun _ _ _ h => h) (Or.inl ⟨by kernel_rfl, ?_⟩) ?_
      rotate_left
      · ((intro x; go_simp) <;> with_reducible rfl)
      try simp only [Act.put, List.setIfInBounds_toArray, List.set_cons_zero, List.set_cons_succ]
      try simp only [hwa, hwb]
      refine gk_pure (i := 14) (v := ?_) rfl (by kernel_rfl) rfl (by kernel_rfl) (by kernel_rfl) (fun _ _ _ h => h) (Or.inl ⟨by kernel_rfl, ?_⟩) ?_
      rotate_left
      · ((intro x; go_simp) <;> with_reducible rfl)
      try simp only [Act.put, List.setIfInBounds_toArray, List.set_cons_zero, List.set_cons_succ]
      try simp only [hwa, hwb]
      refine gk_pure (i := 15) (v := ?_) rfl (by kernel_rfl) rfl (by kernel_rfl) (by kernel_rfl) (fun _ _ _ h => h) (Or.inl ⟨by kernel_rfl, ?_⟩) ?_
      rotate_left
      · ((intro x; go_simp) <;> with_reducible rfl)
      try simp only [Act.put, List.setIfInBounds_toArray, List.set_cons_zero, List.set_cons_succ]
      try simp only [hwa, hwb]
      refine gk_pure (i := 16) (v := ?_) rfl (by kernel_rfl) rfl (by kernel_rfl) (by kernel_rfl) (fun _ _ _ h => h) (Or.inl ⟨by kernel_rfl, ?_⟩) ?_
      rotate_left
      · ((intro x; go_simp) <;> with_reducible rfl)
      try simp only [Act.put, List.setIfInBounds_toArray, List.set_cons_zero, List.set_cons_succ]
      try simp only [hwa, hwb]
      refine gk_pure (i := 17) (v := ?_) rfl (by kernel_rfl) rfl (by kernel_rfl) (by kernel_rfl) (fun _ _ _ h => h) (Or.inl ⟨by kernel_rfl, ?_⟩) ?_
      rotate_left
      · ((intro x; go_simp) <;> with_reducible rfl)
      try simp only [Act.put, List.setIfInBounds_toArray, List.set_cons_zero, List.set_cons_succ]
      try simp only [hwa, hwb]
      refine gk_pure (i := 18) (v := ?_) rfl (by kernel_rfl) rfl (by kernel_rfl) (by kernel_rfl) (fun _ _ _ h => h) (Or.inl ⟨by kernel_rfl, ?_⟩) ?_
      rotate_left
      · ((intro x; go_simp) <;> with_reducible rfl)
      try simp only [Act.put, List.setIfInBounds_toArray, List.set_cons_zero, List.set_cons_succ]
      try simp only [hwa, hwb]
      refine gk_take (i := 13) (v := ?_) rfl (by kernel_rfl) (by kernel_rfl) (by kernel_rfl) (by kernel_rfl) (fun _ _ _ h => h) (Or.inl ⟨by kernel_rfl, ?_⟩) HSS.out ?_
      rotate_left
      · ((intro x hx; obtain ⟨hx0, hx1, hx2, hx3⟩ := hx; go_simp) <;> with_reducible rfl)
      try simp only [Act.put, List.setIfInBounds_toArray, List.set_cons_zero, List.set_cons_succ]
      refine gk_take (i := 19) (v := ?_) rfl (by kernel_rfl) (by kernel_rfl) (by kernel_rfl) (by kernel_rfl) (fun _ _ _ h => h) (Or.inl ⟨by kernel_rfl, ?_⟩) HSS.out ?_
      rotate_left
      · ((intro x hx; obtain ⟨hx0, hx1, hx2, hx3⟩ := hx; go_simp) <;> with_reducible rfl)
      try simp only [Act.put, List.setIfInBounds_toArray, List.set_cons_zero, List.set_cons_succ]
      refine gk_pure (i := 20) (v := ?_) rfl (by kernel_rfl) rfl (by kernel_rfl) (by kernel_rfl) (fun _ _ _ h => h) (Or.inl ⟨by kernel_rfl, ?_⟩) ?_
      rotate_left
      · ((intro x; go_simp) <;> with_reducible rfl)
      try simp only [Act.put, List.setIfInBounds_toArray, List.set_cons_zero, List.set_cons_succ]
      try simp only [hwa, hwb]
      refine gk_one (i := 21) rfl (by kernel_rfl) (fun K hK => ?_)
      go_simp
      refine hK _ _ (fun h => by cases h) ?_
      clear hK K
      try simp only [Act.put, List.setIfInBounds_toArray, List.set_cons_zero, List.set_cons_succ]
      refine gk_pure (i := 22) (v := ?_) rfl (by kernel_rfl) rfl (by kernel_rfl) (by kernel_rfl) (fun _ _ _ h => h) (Or.inl ⟨by kernel_rfl, ?_⟩) ?_
      rotate_left
      · ((intro x; go_simp) <;> with_reducible rfl)
      try simp only [Act.put, List.setIfInBounds_toArray, List.set_cons_zero, List.set_cons_succ]
      try simp only [hwa, hwb]
      refine gk_one (i := 23) rfl (by kernel_rfl) (fun K hK => ?_)
      go_simp
      refine hK _ _ (fun h => by cases h) ?_
      clear hK K
      try simp only [Act.put, List.setIfInBounds_toArray, List.set_cons_zero, List.set_cons_succ]
      refine gk_done (by kernel_rfl) ?_ _
      try simp only [Act.put, List.setIfInBounds_toArray, List.set_cons_zero, List.set_cons_succ]
      try go_simp
      have HNw := Lib.hid (HPr.out.swap A B hA1 hB1)
      have HBw := Lib.hid ((((HB.out.setCell (p := ⟨P, A * 2, none⟩) (Nat.le_refl _) (.int .i64 (τ B))).setCell (p := ⟨P, A * 2 + 1, none⟩) (Nat.le_refl _) (.int .i64 (r (τ B)))).setCell (p := ⟨P, B * 2, none⟩) (Nat.le_refl _) (.int .i64 (τ A))).setCell (p := ⟨P, B * 2 + 1, none⟩) (Nat.le_refl _) (.int .i64 (r (τ A))))
      clear hk0 hk1 hk2 hk3 hf0 hf1 hf2 hf3 hg0 hg1 hg2 hg3 HP2 HSS HPr HB
      generalize (((wr.setCell ⟨P, A * 2, none⟩ (.int .i64 (τ B))).setCell ⟨P, A * 2 + 1, none⟩ (.int .i64 (r (τ B)))).setCell ⟨P, B * 2, none⟩ (.int .i64 (τ A))).setCell ⟨P, B * 2 + 1, none⟩ (.int .i64 (r (τ A))) = W2 at *
      have HN3 := Lib.hid (HNw.out.below ((Below.refl W2.heap.size W2).drew) HNw.out.lt (Nat.le_refl _))
      have HB3 := Lib.hid (HBw.out.drew)
      clear HNw HBw
      generalize W2.drew = W3 at *
      go_wp2
      go_roundw
      case rel => exact ⟨k + 1, by omega, by go_num, Lib.hid (by rw [← HST.out]; exact HN3.out), HB3⟩
      case measure => simp [intOf]; omega
    · have h' : ¬ (k : Int) < (n : Int) := by omega
      obtain rfl : k = n := by omega
      go_wp2
      go_end0
      exact ⟨rfl, HPr.out, HB.out⟩
end Go.Proofs.Ytmehihfdfpnfjaa
