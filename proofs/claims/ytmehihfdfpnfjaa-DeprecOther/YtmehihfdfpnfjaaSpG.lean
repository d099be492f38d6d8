/- What symMergeCmpFunc of package slices does. -/
import Derived.Test.YtmehihfdfpnfjaaSpF
namespace Go.Proofs.Ytmehihfdfpnfjaa
open Go.RowKit Go.Sort
set_option linter.unusedVariables false
set_option linter.unusedSimpArgs false

/-- the places a to b come to lie in order. -/
def SortP (P N : Nat) (r : Nat → Int) (σ : Nat → Nat) (a b : Nat) (w : World) (e : Ending) (w' : World) : Prop := e = .returned (.tuple #[]) ∧ ∃ σ', Rar a b σ σ' ∧ Srt r σ' a b ∧ Prs w' P N r σ' ∧ Below P w w'
/-- the search of the first case. -/
structure Se1 (r : Nat → Int) (σ : Nat → Nat) (a m b i j : Nat) : Prop where
  le : m ≤ i ∧ i ≤ j ∧ j ≤ b
  lo : ∀ q, m ≤ q → q < i → Bef r (σ q) (σ a)
  hi : ∀ q, j ≤ q → q < b → Bef r (σ a) (σ q)
theorem Se1.more {r : Nat → Int} {σ : Nat → Nat} {a m b i j z : Nat} (h : Se1 r σ a m b i j) (t : Twp r σ a m b) (ham : a < m) (h1 : i ≤ z) (h2 : z < j) (hc : r (σ a) < r (σ z)) : Se1 r σ a m b (z + 1) j := by
  have := h.le
  refine ⟨by omega, fun q q1 q2 => ?_, h.hi⟩
  by_cases e : q = z
  · rw [e]; exact bef_more hc
  · exact (t.u q z q1 (by omega) (by omega)).trans (bef_more hc)
theorem Se1.less {r : Nat → Int} {σ : Nat → Nat} {a m b i j z : Nat} (h : Se1 r σ a m b i j) (t : Twp r σ a m b) (ham : a < m) (h1 : i ≤ z) (h2 : z < j) (hc : ¬ r (σ a) < r (σ z)) : Se1 r σ a m b i z := by
  have := h.le
  have hz : Bef r (σ a) (σ z) := bef_rest hc (t.x a z (Nat.le_refl _) ham (by omega) (by omega))
  refine ⟨by omega, h.lo, fun q q1 q2 => ?_⟩
  by_cases e : q = z
  · rw [e]; exact hz
  · exact hz.trans (t.u z q (by omega) (by omega) q2)
/-- the search of the second case. -/
structure Se2 (r : Nat → Int) (σ : Nat → Nat) (a m i j : Nat) : Prop where
  le : a ≤ i ∧ i ≤ j ∧ j ≤ m
  lo : ∀ q, a ≤ q → q < i → Bef r (σ q) (σ m)
  hi : ∀ q, j ≤ q → q < m → Bef r (σ m) (σ q)
theorem Se2.more {r : Nat → Int} {σ : Nat → Nat} {a m i j z : Nat} (h : Se2 r σ a m i j) (t : Twp r σ a m (m + 1)) (h1 : i ≤ z) (h2 : z < j) (hc : ¬ r (σ z) < r (σ m)) : Se2 r σ a m (z + 1) j := by
  have := h.le
  have hz : Bef r (σ z) (σ m) := bef_rest hc (t.x z m (by omega) (by omega) (Nat.le_refl _) (by omega))
  refine ⟨by omega, fun q q1 q2 => ?_, h.hi⟩
  by_cases e : q = z
  · rw [e]; exact hz
  · exact (t.l q z q1 (by omega) (by omega)).trans hz
theorem Se2.less {r : Nat → Int} {σ : Nat → Nat} {a m i j z : Nat} (h : Se2 r σ a m i j) (t : Twp r σ a m (m + 1)) (h1 : i ≤ z) (h2 : z < j) (hc : r (σ z) < r (σ m)) : Se2 r σ a m i z := by
  have := h.le
  refine ⟨by omega, h.lo, fun q q1 q2 => ?_⟩
  by_cases e : q = z
  · rw [e]; exact bef_more hc
  · exact (bef_more hc).trans (t.l z q (by omega) (by omega) q2)
/-- the search of the third case: n = m + mid. -/
structure Se3 (r : Nat → Int) (σ : Nat → Nat) (a m b n s0 r0 s e : Nat) : Prop where
  le : s0 ≤ s ∧ s ≤ e ∧ e ≤ r0
  rg : a ≤ s0 ∧ r0 ≤ m ∧ n ≤ s0 + b ∧ m + r0 ≤ n
  lo : ∀ c, s0 ≤ c → c < s → Bef r (σ c) (σ (n - 1 - c))
  hi : ∀ c, e ≤ c → c < r0 → Bef r (σ (n - 1 - c)) (σ c)
theorem Se3.more {r : Nat → Int} {σ : Nat → Nat} {a m b n s0 r0 s e z : Nat} (h : Se3 r σ a m b n s0 r0 s e) (t : Twp r σ a m b) (h1 : s ≤ z) (h2 : z < e) (hc : ¬ r (σ z) < r (σ (n - 1 - z))) : Se3 r σ a m b n s0 r0 (z + 1) e := by
  have := h.le
  have := h.rg
  have hz : Bef r (σ z) (σ (n - 1 - z)) := bef_rest hc (t.x z (n - 1 - z) (by omega) (by omega) (by omega) (by omega))
  refine ⟨by omega, h.rg, fun q q1 q2 => ?_, h.hi⟩
  by_cases e : q = z
  · rw [e]; exact hz
  · exact ((t.l q z (by omega) (by omega) (by omega)).trans hz).trans (t.u (n - 1 - z) (n - 1 - q) (by omega) (by omega) (by omega))
theorem Se3.less {r : Nat → Int} {σ : Nat → Nat} {a m b n s0 r0 s e z : Nat} (h : Se3 r σ a m b n s0 r0 s e) (t : Twp r σ a m b) (h1 : s ≤ z) (h2 : z < e) (hc : r (σ z) < r (σ (n - 1 - z))) : Se3 r σ a m b n s0 r0 s z := by
  have := h.le
  have := h.rg
  have hz : Bef r (σ (n - 1 - z)) (σ z) := bef_more hc
  refine ⟨by omega, h.rg, h.lo, fun q q1 q2 => ?_⟩
  by_cases e : q = z
  · rw [e]; exact hz
  · exact ((t.u (n - 1 - q) (n - 1 - z) (by omega) (by omega) (by omega)).trans hz).trans (t.l z q (by omega) (by omega) (by omega))
theorem Se3.cut {r : Nat → Int} {σ : Nat → Nat} {a m b mid s0 r0 s : Nat} (h : Se3 r σ a m b (m + mid) s0 r0 s s) (ham : a < m) (hmb : m < b) (h1 : a ≤ mid) (h2 : mid ≤ b) (hr : (m > mid ∧ s0 + b = m + mid ∧ r0 = mid) ∨ (m ≤ mid ∧ s0 = a ∧ r0 = m)) : Cut r σ a m b mid s := by
  have := h.le
  have := h.rg
  refine ⟨⟨ham, hmb, h1, h2⟩, by omega, fun x1 x2 => ?_, fun x1 x2 => ?_⟩
  · have := h.lo (s - 1) (by omega) (by omega)
    rwa [show m + mid - 1 - (s - 1) = m + mid - s by omega] at this
  · have := h.hi s (Nat.le_refl _) (by omega)
    rwa [show m + mid - 1 - s = m + mid - s - 1 by omega] at this
theorem rot_id (σ : Nat → Nat) {s m e : Nat} (h : s = m ∨ m = e) (hs : s ≤ m) (he : m ≤ e) : rot σ s m e = σ := by
  funext p
  unfold rot
  repeat' split
  all_goals first | rfl | (congr 1; omega)
set_option maxRecDepth 100000 in
set_option maxHeartbeats 8000000 in
theorem merge_a (P N c : Nat) (r : Nat → Int) (σ : Nat → Nat) (a m b : Nat) (w : World) (hN : N ≤ 200) (hc : N ≤ c) (ham : a < m) (hmb : m < b) (hbN : b ≤ N) (hm : m = a + 1) (ht : Twp r σ a m b) (hp : Prs w P N r σ) :
    Calls Try.prog 80 #[.slice (some ⟨P, 0, none⟩) N c, .int .i64 a, .int .i64 m, .int .i64 b, cmpV] w (SortP P N r σ a b w) := by
  have HP := Lib.hid hp
  have HT := Lib.hid ht
  clear hp ht
  have hm1 : ((m : Int) - (a : Int) == 1) = true := by simp; omega
  have HM := Lib.hid hm
  clear hm
  go_enter Try.func80, Try.ntmps80
  go_wp2_with fail
  go_loopw [10, 11] (fun x y wr => ∃ i j : Nat, x = .int .i64 i ∧ y = .int .i64 j ∧ i ≤ j ∧ j ≤ b ∧ m ≤ i ∧ Hid (Se1 r σ a m b i j) ∧ Hid (Prs wr P N r σ) ∧ Hid (Below P w wr)) (fun x y _ => (intOf y - intOf x).toNat)
  case atStart => exact ⟨m, b, rfl, rfl, by omega, Nat.le_refl _, Nat.le_refl _, Lib.hid ⟨by omega, fun q h1 h2 => by omega, fun q h1 h2 => by omega⟩, HP, Lib.hid (Below.refl _ _)⟩
  case round =>
    obtain ⟨i, j, rfl, rfl, hij, hjb, hmi, HS, HPr, HB⟩ := hrel
    by_cases h : i < j
    · have h' : (i : Int) < (j : Int) := by omega
      obtain ⟨z, hz, z1, z2⟩ : ∃ z : Nat, ((i : Int) + (j : Int)) / 2 = (z : Int) ∧ i ≤ z ∧ z < j := ⟨(i + j) / 2, by omega, by omega, by omega⟩
      have hzN : (z : Int) < (N : Int) := by omega
      have haN : (a : Int) < (N : Int) := by omega
      have HC := Lib.hid (fun W => lfCmp_any (σ z) (r (σ z)) (σ a) (r (σ a)) W)
      by_cases hlt : r (σ a) < r (σ z)
      · have hv : cmpI (r (σ a)) (r (σ z)) < 0 := cmpI_neg.2 hlt
        have HS2 := Lib.hid (HS.out.more HT.out ham z1 z2 hlt)
        generalize cmpI (r (σ a)) (r (σ z)) = v at *
        clear hlt
        go_wp2_with fail
        have l0 := cell_regrown (HPr.out.c0 z (by omega))
        have l1 := cell_regrown (HPr.out.c1 z (by omega))
        have l2 := cell_regrown (HPr.out.c0 a (by omega))
        have l3 := cell_regrown (HPr.out.c1 a (by omega))
        have cC : ∀ dd os, Calls Try.prog 76 #[.agg #[.int .i64 (σ z), .int .i64 (r (σ z))], .agg #[.int .i64 (σ a), .int .i64 (r (σ a))]] (grow (redrawn wr dd) os) fun e w'' => e = .returned (.int .i64 v) ∧ ∃ p : Regrown, w'' = grow (redrawn wr p.d) p.os := fun dd os => Calls.regrown_of (HC.out _)
        refine wp_region_quiet_below (l := _) (by kernel_rfl) (by kernel_rfl) ?_
        repeat (first | go_big_quiet_step (first | (go_at_call 76; exact cC _ _)))
        refine wpQuiet_nil ?_
        intro w2 hw'
        obtain ⟨⟨dq2, osq2⟩, hw''⟩ := hw'
        have hb2 := below_regrown wr dq2 osq2
        rw [← hw''] at hb2
        clear hw'' cC l0 l1 l2 l3
        have HB := Lib.hid (HB.out.trans (hb2.mono (Nat.le_of_lt HPr.out.lt)))
        have HPr := Lib.hid (HPr.out.below hb2 HPr.out.lt (Nat.le_refl _))
        clear hb2
        go_wp2
        go_roundw
        case rel => exact ⟨z + 1, j, by go_num, rfl, by omega, hjb, by omega, HS2, HPr, HB⟩
        case measure => simp [intOf]; omega
      · have hv : ¬ cmpI (r (σ a)) (r (σ z)) < 0 := fun q => hlt (cmpI_neg.1 q)
        have HS2 := Lib.hid (HS.out.less HT.out ham z1 z2 hlt)
        generalize cmpI (r (σ a)) (r (σ z)) = v at *
        clear hlt
        go_wp2_with fail
        have l0 := cell_regrown (HPr.out.c0 z (by omega))
        have l1 := cell_regrown (HPr.out.c1 z (by omega))
        have l2 := cell_regrown (HPr.out.c0 a (by omega))
        have l3 := cell_regrown (HPr.out.c1 a (by omega))
        have cC : ∀ dd os, Calls Try.prog 76 #[.agg #[.int .i64 (σ z), .int .i64 (r (σ z))], .agg #[.int .i64 (σ a), .int .i64 (r (σ a))]] (grow (redrawn wr dd) os) fun e w'' => e = .returned (.int .i64 v) ∧ ∃ p : Regrown, w'' = grow (redrawn wr p.d) p.os := fun dd os => Calls.regrown_of (HC.out _)
        refine wp_region_quiet_below (l := _) (by kernel_rfl) (by kernel_rfl) ?_
        repeat (first | go_big_quiet_step (first | (go_at_call 76; exact cC _ _)))
        refine wpQuiet_nil ?_
        intro w2 hw'
        obtain ⟨⟨dq2, osq2⟩, hw''⟩ := hw'
        have hb2 := below_regrown wr dq2 osq2
        rw [← hw''] at hb2
        clear hw'' cC l0 l1 l2 l3
        have HB := Lib.hid (HB.out.trans (hb2.mono (Nat.le_of_lt HPr.out.lt)))
        have HPr := Lib.hid (HPr.out.below hb2 HPr.out.lt (Nat.le_refl _))
        clear hb2
        go_wp2
        go_roundw
        case rel => exact ⟨i, z, rfl, rfl, by omega, by omega, hmi, HS2, HPr, HB⟩
        case measure => simp [intOf]; omega
    · have h' : ¬ (i : Int) < (j : Int) := by omega
      obtain rfl : i = j := by omega
      obtain ⟨i1, hi1, hi2⟩ : ∃ i1 : Nat, (i : Int) - 1 = (i1 : Int) ∧ i1 = i - 1 := ⟨i - 1, by omega, rfl⟩
      go_wp2_with fail
      go_loopw [13] (fun x wr => ∃ k : Nat, x = .int .i64 k ∧ a ≤ k ∧ k ≤ i1 ∧ Hid (Prs wr P N r (mvU σ a k)) ∧ Hid (Below P w wr)) (fun x _ => i1 - (intOf x).toNat)
      case atStart => exact ⟨a, rfl, Nat.le_refl _, by omega, Lib.hid (by rw [mvU_zero]; exact HPr.out), HB⟩
      case round =>
        clear HPr HB
        obtain ⟨k, rfl, hak, hki, HPr, HB⟩ := hrel
        by_cases hk : k < i1
        · have hk' : (k : Int) < (i1 : Int) := by omega
          have HST := Lib.hid (mvU_step σ a k hak)
          generalize mvU σ a k = ρ at *
          obtain ⟨B, hB, hB2⟩ : ∃ B : Nat, (k : Int) + 1 = (B : Int) ∧ B = k + 1 := ⟨k + 1, by omega, rfl⟩
          rw [← hB2] at HST
          have hkN : (k : Int) < (N : Int) := by omega
          have hBN : (B : Int) < (N : Int) := by omega
          have hBN2 : B < N := by omega
          have hwb : IntKind.i64.wrap ((k : Int) + 1) = (B : Int) := by simp only [IntKind.wrap_i64]; omega
          have hwB : IntKind.i64.wrap (B : Int) = (B : Int) := by simp only [IntKind.wrap_i64]; omega
          clear hB2
          go_wp2_with fail
          have HSS := Lib.hid (show wr.drew.cell? ⟨P, k * 2, none⟩ = some (.int .i64 (ρ k)) ∧ wr.drew.cell? ⟨P, k * 2 + 1, none⟩ = some (.int .i64 (r (ρ k))) ∧ wr.drew.cell? ⟨P, B * 2, none⟩ = some (.int .i64 (ρ B)) ∧ wr.drew.cell? ⟨P, B * 2 + 1, none⟩ = some (.int .i64 (r (ρ B))) from ⟨HPr.out.c0 _ (by omega), HPr.out.c1 _ (by omega), HPr.out.c0 _ (by omega), HPr.out.c1 _ (by omega)⟩)
          have hf0 : wr.frozen? ⟨P, k * 2, none⟩ = false := HPr.out.f0 _ (by omega)
          have hg0 : wr.cell? ⟨P, k * 2, none⟩ = some (.int .i64 (ρ k)) := HPr.out.c0 _ (by omega)
          have hf1 : wr.frozen? ⟨P, k * 2 + 1, none⟩ = false := HPr.out.f1 _ (by omega)
          have hg1 : wr.cell? ⟨P, k * 2 + 1, none⟩ = some (.int .i64 (r (ρ k))) := HPr.out.c1 _ (by omega)
          have hf2 : wr.frozen? ⟨P, B * 2, none⟩ = false := HPr.out.f0 _ (by omega)
          have hg2 : wr.cell? ⟨P, B * 2, none⟩ = some (.int .i64 (ρ B)) := HPr.out.c0 _ (by omega)
          have hf3 : wr.frozen? ⟨P, B * 2 + 1, none⟩ = false := HPr.out.f1 _ (by omega)
          have hg3 : wr.cell? ⟨P, B * 2 + 1, none⟩ = some (.int .i64 (r (ρ B))) := HPr.out.c1 _ (by omega)
          have HP2 := Lib.hid (HPr.out.set2 k (ρ B) (by omega))
          have hk0 := HP2.out.c0 B (by omega)
          have hk1 := HP2.out.c1 B (by omega)
          have hk2 := HP2.out.f0 B (by omega)
          have hk3 := HP2.out.f1 B (by omega)
          refine gk_region (fun x => x.cell? ⟨P, k * 2, none⟩ = some (.int .i64 (ρ k)) ∧ x.cell? ⟨P, k * 2 + 1, none⟩ = some (.int .i64 (r (ρ k))) ∧ x.cell? ⟨P, B * 2, none⟩ = some (.int .i64 (ρ B)) ∧ x.cell? ⟨P, B * 2 + 1, none⟩ = some (.int .i64 (r (ρ B)))) (fun j => j != 9 && j != 13) (by kernel_rfl) ?_
          refine gk_pure (i := 0) (v := ?_) rfl (by kernel_rfl) rfl (by kernel_rfl) (by kernel_rfl) (fun _ _ _ h => h) (Or.inl ⟨by kernel_rfl, ?_⟩) ?_
          rotate_left
          · ((intro x; go_simp) <;> with_reducible rfl)
          try simp only [Act.put, List.setIfInBounds_toArray, List.set_cons_zero, List.set_cons_succ]
          try simp only [hwb, hwB, hB]
          refine gk_pure (i := 1) (v := ?_) rfl (by kernel_rfl) rfl (by kernel_rfl) (by kernel_rfl) (fun _ _ _ h => h) (Or.inl ⟨by kernel_rfl, ?_⟩) ?_
          rotate_left
          · ((intro x; go_simp) <;> with_reducible rfl)
          try simp only [Act.put, List.setIfInBounds_toArray, List.set_cons_zero, List.set_cons_succ]
          try simp only [hwb, hwB, hB]
          refine gk_pure (i := 2) (v := ?_) rfl (by kernel_rfl) rfl (by kernel_rfl) (by kernel_rfl) (fun _ _ _ h => h) (Or.inl ⟨by kernel_rfl, ?_⟩) ?_
          rotate_left
          · ((intro x; go_simp) <;> with_reducible rfl)
          try simp only [Act.put, List.setIfInBounds_toArray, List.set_cons_zero, List.set_cons_succ]
          try simp only [hwb, hwB, hB]
          refine gk_pure (i := 3) (v := ?_) rfl (by kernel_rfl) rfl (by kernel_rfl) (by kernel_rfl) (fun _ _ _ h => h) (Or.inl ⟨by kernel_rfl, ?_⟩) ?_
          rotate_left
          · ((intro x; go_simp) <;> with_reducible rfl)
          try simp only [Act.put, List.setIfInBounds_toArray, List.set_cons_zero, List.set_cons_succ]
          try simp only [hwb, hwB, hB]
          refine gk_pure (i := 4) (v := ?_) rfl (by kernel_rfl) rfl (by kernel_rfl) (by kernel_rfl) (fun _ _ _ h => h) (Or.inl ⟨by kernel_rfl, ?_⟩) ?_
          rotate_left
          · ((intro x; go_simp) <;> with_reducible rfl)
          try simp only [Act.put, List.setIfInBounds_toArray, List.set_cons_zero, List.set_cons_succ]
          try simp only [hwb, hwB, hB]
          refine gk_pure (i := 5) (v := ?_) rfl (by kernel_rfl) rfl (by kernel_rfl) (by kernel_rfl) (fun _ _ _ h => h) (Or.inl ⟨by kernel_rfl, ?_⟩) ?_
          rotate_left
          · ((intro x; go_simp) <;> with_reducible rfl)
          try simp only [Act.put, List.setIfInBounds_toArray, List.set_cons_zero, List.set_cons_succ]
          try simp only [hwb, hwB, hB]
          refine gk_pure (i := 6) (v := ?_) rfl (by kernel_rfl) rfl (by kernel_rfl) (by kernel_rfl) (fun _ _ _ h => h) (Or.inl ⟨by kernel_rfl, ?_⟩) ?_
          rotate_left
          · ((intro x; go_simp) <;> with_reducible rfl)
          try simp only [Act.put, List.setIfInBounds_toArray, List.set_cons_zero, List.set_cons_succ]
          try simp only [hwb, hwB, hB]
          refine gk_pure (i := 7) (v := ?_) rfl (by kernel_rfl) rfl (by kernel_rfl) (by kernel_rfl) (fun _ _ _ h => h) (Or.inl ⟨by kernel_rfl, ?_⟩) ?_
          rotate_left
          · ((intro x; go_simp) <;> with_reducible rfl)
          try simp only [Act.put, List.setIfInBounds_toArray, List.set_cons_zero, List.set_cons_succ]
          try simp only [hwb, hwB, hB]
          refine gk_pure (i := 8) (v := ?_) rfl (by kernel_rfl) rfl (by kernel_rfl) (by kernel_rfl) (fun _ _ _ h => h) (Or.inl ⟨by kernel_rfl, ?_⟩) ?_
          rotate_left
          · ((intro x; go_simp) <;> with_reducible rfl)
          try simp only [Act.put, List.setIfInBounds_toArray, List.set_cons_zero, List.set_cons_succ]
          try simp only [hwb, hwB, hB]
          refine gk_pure (i := 10) (v := ?_) rfl (by kernel_rfl) rfl (by kernel_rfl) (by kernel_rfl) (fun _ _ _ h => h) (Or.inl ⟨by kernel_rfl, ?_⟩) ?_
          rotate_left
          · ((intro x; go_simp) <;> with_reducible rfl)
          try simp only [Act.put, List.setIfInBounds_toArray, List.set_cons_zero, List.set_cons_succ]
          try simp only [hwb, hwB, hB]
          refine gk_pure (i := 11) (v := ?_) rfl (by kernel_rfl) rfl (by kernel_rfl) (by kernel_rfl) (fun _ _ _ h => h) (Or.inl ⟨by kernel_rfl, ?_⟩) ?_
          rotate_left
          · ((intro x; go_simp) <;> with_reducible rfl)
          try simp only [Act.put, List.setIfInBounds_toArray, List.set_cons_zero, List.set_cons_succ]
          try simp only [hwb, hwB, hB]
          refine gk_pure (i := 12) (v := ?_) rfl (by kernel_rfl) rfl (by kernel_rfl) (by kernel_rfl) (fun _ _ _ h => h) (Or.inl ⟨by kernel_rfl, ?_⟩) ?_
          rotate_left
          · ((intro x; go_simp) <;> with_reducible rfl)
          try simp only [Act.put, List.setIfInBounds_toArray, List.set_cons_zero, List.set_cons_succ]
          try simp only [hwb, hwB, hB]
          refine gk_take (i := 9) (v := ?_) rfl (by kernel_rfl) (by kernel_rfl) (by kernel_rfl) (by kernel_rfl) (fun _ _ _ h => h) (Or.inl ⟨by kernel_rfl, ?_⟩) HSS.out ?_
          rotate_left
          · ((intro x hx; obtain ⟨hx0, hx1, hx2, hx3⟩ := hx; go_simp) <;> with_reducible rfl)
          try simp only [Act.put, List.setIfInBounds_toArray, List.set_cons_zero, List.set_cons_succ]
          refine gk_take (i := 13) (v := ?_) rfl (by kernel_rfl) (by kernel_rfl) (by kernel_rfl) (by kernel_rfl) (fun _ _ _ h => h) (Or.inl ⟨by kernel_rfl, ?_⟩) HSS.out ?_
          rotate_left
          · ((intro x hx; obtain ⟨hx0, hx1, hx2, hx3⟩ := hx; go_simp) <;> with_reducible rfl)
          try simp only [Act.put, List.setIfInBounds_toArray, List.set_cons_zero, List.set_cons_succ]
          refine gk_pure (i := 14) (v := ?_) rfl (by kernel_rfl) rfl (by kernel_rfl) (by kernel_rfl) (fun _ _ _ h => h) (Or.inl ⟨by kernel_rfl, ?_⟩) ?_
          rotate_left
          · ((intro x; go_simp) <;> with_reducible rfl)
          try simp only [Act.put, List.setIfInBounds_toArray, List.set_cons_zero, List.set_cons_succ]
          try simp only [hwb, hwB, hB]
          refine gk_one (i := 15) rfl (by kernel_rfl) (fun K hK => ?_)
          go_simp
          refine hK _ _ (fun h => by cases h) ?_
          clear hK K
          try simp only [Act.put, List.setIfInBounds_toArray, List.set_cons_zero, List.set_cons_succ]
          refine gk_pure (i := 16) (v := ?_) rfl (by kernel_rfl) rfl (by kernel_rfl) (by kernel_rfl) (fun _ _ _ h => h) (Or.inl ⟨by kernel_rfl, ?_⟩) ?_
          rotate_left
          · ((intro x; go_simp) <;> with_reducible rfl)
          try simp only [Act.put, List.setIfInBounds_toArray, List.set_cons_zero, List.set_cons_succ]
          try simp only [hwb, hwB, hB]
          refine gk_one (i := 17) rfl (by kernel_rfl) (fun K hK => ?_)
          go_simp
          refine hK _ _ (fun h => by cases h) ?_
          clear hK K
          try simp only [Act.put, List.setIfInBounds_toArray, List.set_cons_zero, List.set_cons_succ]
          refine gk_done (by kernel_rfl) ?_ _
          try simp only [Act.put, List.setIfInBounds_toArray, List.set_cons_zero, List.set_cons_succ]
          try go_simp
          have HNw := Lib.hid (HPr.out.swap k B (by omega) (by omega))
          have HBw := Lib.hid ((((HB.out.setCell (p := ⟨P, k * 2, none⟩) (Nat.le_refl _) (.int .i64 (ρ B))).setCell (p := ⟨P, k * 2 + 1, none⟩) (Nat.le_refl _) (.int .i64 (r (ρ B)))).setCell (p := ⟨P, B * 2, none⟩) (Nat.le_refl _) (.int .i64 (ρ k))).setCell (p := ⟨P, B * 2 + 1, none⟩) (Nat.le_refl _) (.int .i64 (r (ρ k))))
          clear hk0 hk1 hk2 hk3 hf0 hf1 hf2 hf3 hg0 hg1 hg2 hg3 HP2 HSS HPr HB
          generalize (((wr.setCell ⟨P, k * 2, none⟩ (.int .i64 (ρ B))).setCell ⟨P, k * 2 + 1, none⟩ (.int .i64 (r (ρ B)))).setCell ⟨P, B * 2, none⟩ (.int .i64 (ρ k))).setCell ⟨P, B * 2 + 1, none⟩ (.int .i64 (r (ρ k))) = W2 at *
          have HN3 := Lib.hid (HNw.out.below ((Below.refl W2.heap.size W2).drew) HNw.out.lt (Nat.le_refl _))
          have HB3 := Lib.hid (HBw.out.drew)
          clear HNw HBw
          generalize W2.drew = W3 at *
          go_wp2
          go_roundw
          case rel => exact ⟨B, by first | rfl | (congr 1), by omega, by omega, Lib.hid (by rw [← HST.out]; exact HN3.out), HB3⟩
          case measure => simp [intOf]; omega
        · have hk' : ¬ (k : Int) < (i1 : Int) := by omega
          obtain rfl : k = i1 := by omega
          go_wp2
          first | go_end0 | go_ret
          have hm := HM.out
          subst hm
          exact ⟨rfl, mvU σ a k, mvU_rar σ hak (by omega), by rw [hi2]; exact two_up HT.out hmi (by omega) HS.out.lo HS.out.hi, HPr.out, HB.out⟩
set_option maxRecDepth 100000 in
set_option maxHeartbeats 8000000 in
theorem merge_b (P N c : Nat) (r : Nat → Int) (σ : Nat → Nat) (a m b : Nat) (w : World) (hN : N ≤ 200) (hc : N ≤ c) (ham : a < m) (hmb : m < b) (hbN : b ≤ N) (hm : ¬ m = a + 1) (hb : b = m + 1) (ht : Twp r σ a m b) (hp : Prs w P N r σ) :
    Calls Try.prog 80 #[.slice (some ⟨P, 0, none⟩) N c, .int .i64 a, .int .i64 m, .int .i64 b, cmpV] w (SortP P N r σ a b w) := by
  have HP := Lib.hid hp
  have HT := Lib.hid ht
  clear hp ht
  have hm1 : ((m : Int) - (a : Int) == 1) = false := by simp; omega
  have hb1 : ((b : Int) - (m : Int) == 1) = true := by simp; omega
  have HM := Lib.hid hb
  clear hm hb
  go_enter Try.func80, Try.ntmps80
  go_wp2_with fail
  go_loopw [14, 15] (fun x y wr => ∃ i j : Nat, x = .int .i64 i ∧ y = .int .i64 j ∧ i ≤ j ∧ j ≤ m ∧ a ≤ i ∧ Hid (Se2 r σ a m i j) ∧ Hid (Prs wr P N r σ) ∧ Hid (Below P w wr)) (fun x y _ => (intOf y - intOf x).toNat)
  case atStart => exact ⟨a, m, rfl, rfl, by omega, Nat.le_refl _, Nat.le_refl _, Lib.hid ⟨by omega, fun q h1 h2 => by omega, fun q h1 h2 => by omega⟩, HP, Lib.hid (Below.refl _ _)⟩
  case round =>
    obtain ⟨i, j, rfl, rfl, hij, hjb, hmi, HS, HPr, HB⟩ := hrel
    by_cases h : i < j
    · have h' : (i : Int) < (j : Int) := by omega
      obtain ⟨z, hz, z1, z2⟩ : ∃ z : Nat, ((i : Int) + (j : Int)) / 2 = (z : Int) ∧ i ≤ z ∧ z < j := ⟨(i + j) / 2, by omega, by omega, by omega⟩
      have hzN : (z : Int) < (N : Int) := by omega
      have haN : (m : Int) < (N : Int) := by omega
      have HC := Lib.hid (fun W => lfCmp_any (σ m) (r (σ m)) (σ z) (r (σ z)) W)
      have HT2 := Lib.hid (HM.out ▸ HT.out)
      by_cases hlt : r (σ z) < r (σ m)
      · have hv : decide (cmpI (r (σ z)) (r (σ m)) < 0) = true := decide_eq_true (cmpI_neg.2 hlt)
        have HS2 := Lib.hid (HS.out.less HT2.out z1 z2 hlt)
        generalize cmpI (r (σ z)) (r (σ m)) = v at *
        clear hlt
        go_wp2_with fail
        have l0 := cell_regrown (HPr.out.c0 m (by omega))
        have l1 := cell_regrown (HPr.out.c1 m (by omega))
        have l2 := cell_regrown (HPr.out.c0 z (by omega))
        have l3 := cell_regrown (HPr.out.c1 z (by omega))
        have cC : ∀ dd os, Calls Try.prog 76 #[.agg #[.int .i64 (σ m), .int .i64 (r (σ m))], .agg #[.int .i64 (σ z), .int .i64 (r (σ z))]] (grow (redrawn wr dd) os) fun e w'' => e = .returned (.int .i64 v) ∧ ∃ p : Regrown, w'' = grow (redrawn wr p.d) p.os := fun dd os => Calls.regrown_of (HC.out _)
        refine wp_region_quiet_below (l := _) (by kernel_rfl) (by kernel_rfl) ?_
        repeat (first | go_big_quiet_step (first | (go_at_call 76; exact cC _ _)))
        refine wpQuiet_nil ?_
        intro w2 hw'
        obtain ⟨⟨dq2, osq2⟩, hw''⟩ := hw'
        have hb2 := below_regrown wr dq2 osq2
        rw [← hw''] at hb2
        clear hw'' cC l0 l1 l2 l3
        have HB := Lib.hid (HB.out.trans (hb2.mono (Nat.le_of_lt HPr.out.lt)))
        have HPr := Lib.hid (HPr.out.below hb2 HPr.out.lt (Nat.le_refl _))
        clear hb2
        go_wp2
        go_roundw
        case rel => exact ⟨i, z, rfl, rfl, by omega, by omega, hmi, HS2, HPr, HB⟩
        case measure => simp [intOf]; omega
      · have hv : decide (cmpI (r (σ z)) (r (σ m)) < 0) = false := decide_eq_false (fun q => hlt (cmpI_neg.1 q))
        have HS2 := Lib.hid (HS.out.more HT2.out z1 z2 hlt)
        generalize cmpI (r (σ z)) (r (σ m)) = v at *
        clear hlt
        go_wp2_with fail
        have l0 := cell_regrown (HPr.out.c0 m (by omega))
        have l1 := cell_regrown (HPr.out.c1 m (by omega))
        have l2 := cell_regrown (HPr.out.c0 z (by omega))
        have l3 := cell_regrown (HPr.out.c1 z (by omega))
        have cC : ∀ dd os, Calls Try.prog 76 #[.agg #[.int .i64 (σ m), .int .i64 (r (σ m))], .agg #[.int .i64 (σ z), .int .i64 (r (σ z))]] (grow (redrawn wr dd) os) fun e w'' => e = .returned (.int .i64 v) ∧ ∃ p : Regrown, w'' = grow (redrawn wr p.d) p.os := fun dd os => Calls.regrown_of (HC.out _)
        refine wp_region_quiet_below (l := _) (by kernel_rfl) (by kernel_rfl) ?_
        repeat (first | go_big_quiet_step (first | (go_at_call 76; exact cC _ _)))
        refine wpQuiet_nil ?_
        intro w2 hw'
        obtain ⟨⟨dq2, osq2⟩, hw''⟩ := hw'
        have hb2 := below_regrown wr dq2 osq2
        rw [← hw''] at hb2
        clear hw'' cC l0 l1 l2 l3
        have HB := Lib.hid (HB.out.trans (hb2.mono (Nat.le_of_lt HPr.out.lt)))
        have HPr := Lib.hid (HPr.out.below hb2 HPr.out.lt (Nat.le_refl _))
        clear hb2
        go_wp2
        go_roundw
        case rel => exact ⟨z + 1, j, by go_num, rfl, by omega, hjb, by omega, HS2, HPr, HB⟩
        case measure => simp [intOf]; omega
    · have h' : ¬ (i : Int) < (j : Int) := by omega
      obtain rfl : i = j := by omega
      go_wp2_with fail
      go_loopw [17] (fun x wr => ∃ k : Nat, x = .int .i64 k ∧ i ≤ k ∧ k ≤ m ∧ Hid (Prs wr P N r (mvD σ m k)) ∧ Hid (Below P w wr)) (fun x _ => (intOf x).toNat)
      case atStart => exact ⟨m, rfl, by omega, Nat.le_refl _, Lib.hid (by rw [mvD_zero]; exact HPr.out), HB⟩
      case round =>
        clear HPr HB
        obtain ⟨k, rfl, hak, hki, HPr, HB⟩ := hrel
        by_cases hk : i < k
        · have hk' : (i : Int) < (k : Int) := by omega
          have HST := Lib.hid (mvD_step σ m k hki (by omega))
          generalize mvD σ m k = ρ at *
          obtain ⟨B, hB, hB2⟩ : ∃ B : Nat, (k : Int) - 1 = (B : Int) ∧ B = k - 1 := ⟨k - 1, by omega, rfl⟩
          rw [← hB2] at HST
          have hkN : (k : Int) < (N : Int) := by omega
          have hBN : (B : Int) < (N : Int) := by omega
          have hBN2 : B < N := by omega
          have hwb : IntKind.i64.wrap ((k : Int) - 1) = (B : Int) := by simp only [IntKind.wrap_i64]; omega
          have hwB : IntKind.i64.wrap (B : Int) = (B : Int) := by simp only [IntKind.wrap_i64]; omega
          clear hB2
          go_wp2_with fail
          have HSS := Lib.hid (show wr.drew.cell? ⟨P, k * 2, none⟩ = some (.int .i64 (ρ k)) ∧ wr.drew.cell? ⟨P, k * 2 + 1, none⟩ = some (.int .i64 (r (ρ k))) ∧ wr.drew.cell? ⟨P, B * 2, none⟩ = some (.int .i64 (ρ B)) ∧ wr.drew.cell? ⟨P, B * 2 + 1, none⟩ = some (.int .i64 (r (ρ B))) from ⟨HPr.out.c0 _ (by omega), HPr.out.c1 _ (by omega), HPr.out.c0 _ (by omega), HPr.out.c1 _ (by omega)⟩)
          have hf0 : wr.frozen? ⟨P, k * 2, none⟩ = false := HPr.out.f0 _ (by omega)
          have hg0 : wr.cell? ⟨P, k * 2, none⟩ = some (.int .i64 (ρ k)) := HPr.out.c0 _ (by omega)
          have hf1 : wr.frozen? ⟨P, k * 2 + 1, none⟩ = false := HPr.out.f1 _ (by omega)
          have hg1 : wr.cell? ⟨P, k * 2 + 1, none⟩ = some (.int .i64 (r (ρ k))) := HPr.out.c1 _ (by omega)
          have hf2 : wr.frozen? ⟨P, B * 2, none⟩ = false := HPr.out.f0 _ (by omega)
          have hg2 : wr.cell? ⟨P, B * 2, none⟩ = some (.int .i64 (ρ B)) := HPr.out.c0 _ (by omega)
          have hf3 : wr.frozen? ⟨P, B * 2 + 1, none⟩ = false := HPr.out.f1 _ (by omega)
          have hg3 : wr.cell? ⟨P, B * 2 + 1, none⟩ = some (.int .i64 (r (ρ B))) := HPr.out.c1 _ (by omega)
          have HP2 := Lib.hid (HPr.out.set2 k (ρ B) (by omega))
          have hk0 := HP2.out.c0 B (by omega)
          have hk1 := HP2.out.c1 B (by omega)
          have hk2 := HP2.out.f0 B (by omega)
          have hk3 := HP2.out.f1 B (by omega)
          refine gk_region (fun x => x.cell? ⟨P, k * 2, none⟩ = some (.int .i64 (ρ k)) ∧ x.cell? ⟨P, k * 2 + 1, none⟩ = some (.int .i64 (r (ρ k))) ∧ x.cell? ⟨P, B * 2, none⟩ = some (.int .i64 (ρ B)) ∧ x.cell? ⟨P, B * 2 + 1, none⟩ = some (.int .i64 (r (ρ B)))) (fun j => j != 9 && j != 13) (by kernel_rfl) ?_
          refine gk_pure (i := 0) (v := ?_) rfl (by kernel_rfl) rfl (by kernel_rfl) (by kernel_rfl) (fun _ _ _ h => h) (Or.inl ⟨by kernel_rfl, ?_⟩) ?_
          rotate_left
          · ((intro x; go_simp) <;> with_reducible rfl)
          try simp only [Act.put, List.setIfInBounds_toArray, List.set_cons_zero, List.set_cons_succ]
          try simp only [hwb, hwB, hB]
          refine gk_pure (i := 1) (v := ?_) rfl (by kernel_rfl) rfl (by kernel_rfl) (by kernel_rfl) (fun _ _ _ h => h) (Or.inl ⟨by kernel_rfl, ?_⟩) ?_
          rotate_left
          · ((intro x; go_simp) <;> with_reducible rfl)
          try simp only [Act.put, List.setIfInBounds_toArray, List.set_cons_zero, List.set_cons_succ]
          try simp only [hwb, hwB, hB]
          refine gk_pure (i := 2) (v := ?_) rfl (by kernel_rfl) rfl (by kernel_rfl) (by kernel_rfl) (fun _ _ _ h => h) (Or.inl ⟨by kernel_rfl, ?_⟩) ?_
          rotate_left
          · ((intro x; go_simp) <;> with_reducible rfl)
          try simp only [Act.put, List.setIfInBounds_toArray, List.set_cons_zero, List.set_cons_succ]
          try simp only [hwb, hwB, hB]
          refine gk_pure (i := 3) (v := ?_) rfl (by kernel_rfl) rfl (by kernel_rfl) (by kernel_rfl) (fun _ _ _ h => h) (Or.inl ⟨by kernel_rfl, ?_⟩) ?_
          rotate_left
          · ((intro x; go_simp) <;> with_reducible rfl)
          try simp only [Act.put, List.setIfInBounds_toArray, List.set_cons_zero, List.set_cons_succ]
          try simp only [hwb, hwB, hB]
          refine gk_pure (i := 4) (v := ?_) rfl (by kernel_rfl) rfl (by kernel_rfl) (by kernel_rfl) (fun _ _ _ h => h) (Or.inl ⟨by kernel_rfl, ?_⟩) ?_
          rotate_left
          · ((intro x; go_simp) <;> with_reducible rfl)
          try simp only [Act.put, List.setIfInBounds_toArray, List.set_cons_zero, List.set_cons_succ]
          try simp only [hwb, hwB, hB]
          refine gk_pure (i := 5) (v := ?_) rfl (by kernel_rfl) rfl (by kernel_rfl) (by kernel_rfl) (fun _ _ _ h => h) (Or.inl ⟨by kernel_rfl, ?_⟩) ?_
          rotate_left
          · ((intro x; go_simp) <;> with_reducible rfl)
          try simp only [Act.put, List.setIfInBounds_toArray, List.set_cons_zero, List.set_cons_succ]
          try simp only [hwb, hwB, hB]
          refine gk_pure (i := 6) (v := ?_) rfl (by kernel_rfl) rfl (by kernel_rfl) (by kernel_rfl) (fun _ _ _ h => h) (Or.inl ⟨by kernel_rfl, ?_⟩) ?_
          rotate_left
          · ((intro x; go_simp) <;> with_reducible rfl)
          try simp only [Act.put, List.setIfInBounds_toArray, List.set_cons_zero, List.set_cons_succ]
          try simp only [hwb, hwB, hB]
          refine gk_pure (i := 7) (v := ?_) rfl (by kernel_rfl) rfl (by kernel_rfl) (by kernel_rfl) (fun _ _ _ h => h) (Or.inl ⟨by kernel_rfl, ?_⟩) ?_
          rotate_left
          · ((intro x; go_simp) <;> with_reducible rfl)
          try simp only [Act.put, List.setIfInBounds_toArray, List.set_cons_zero, List.set_cons_succ]
          try simp only [hwb, hwB, hB]
          refine gk_pure (i := 8) (v := ?_) rfl (by kernel_rfl) rfl (by kernel_rfl) (by kernel_rfl) (fun _ _ _ h => h) (Or.inl ⟨by kernel_rfl, ?_⟩) ?_
          rotate_left
          · ((intro x; go_simp) <;> with_reducible rfl)
          try simp only [Act.put, List.setIfInBounds_toArray, List.set_cons_zero, List.set_cons_succ]
          try simp only [hwb, hwB, hB]
          refine gk_pure (i := 10) (v := ?_) rfl (by kernel_rfl) rfl (by kernel_rfl) (by kernel_rfl) (fun _ _ _ h => h) (Or.inl ⟨by kernel_rfl, ?_⟩) ?_
          rotate_left
          · ((intro x; go_simp) <;> with_reducible rfl)
          try simp only [Act.put, List.setIfInBounds_toArray, List.set_cons_zero, List.set_cons_succ]
          try simp only [hwb, hwB, hB]
          refine gk_pure (i := 11) (v := ?_) rfl (by kernel_rfl) rfl (by kernel_rfl) (by kernel_rfl) (fun _ _ _ h => h) (Or.inl ⟨by kernel_rfl, ?_⟩) ?_
          rotate_left
          · ((intro x; go_simp) <;> with_reducible rfl)
          try simp only [Act.put, List.setIfInBounds_toArray, List.set_cons_zero, List.set_cons_succ]
          try simp only [hwb, hwB, hB]
          refine gk_pure (i := 12) (v := ?_) rfl (by kernel_rfl) rfl (by kernel_rfl) (by kernel_rfl) (fun _ _ _ h => h) (Or.inl ⟨by kernel_rfl, ?_⟩) ?_
          rotate_left
          · ((intro x; go_simp) <;> with_reducible rfl)
          try simp only [Act.put, List.setIfInBounds_toArray, List.set_cons_zero, List.set_cons_succ]
          try simp only [hwb, hwB, hB]
          refine gk_take (i := 9) (v := ?_) rfl (by kernel_rfl) (by kernel_rfl) (by kernel_rfl) (by kernel_rfl) (fun _ _ _ h => h) (Or.inl ⟨by kernel_rfl, ?_⟩) HSS.out ?_
          rotate_left
          · ((intro x hx; obtain ⟨hx0, hx1, hx2, hx3⟩ := hx; go_simp) <;> with_reducible rfl)
          try simp only [Act.put, List.setIfInBounds_toArray, List.set_cons_zero, List.set_cons_succ]
          refine gk_take (i := 13) (v := ?_) rfl (by kernel_rfl) (by kernel_rfl) (by kernel_rfl) (by kernel_rfl) (fun _ _ _ h => h) (Or.inl ⟨by kernel_rfl, ?_⟩) HSS.out ?_
          rotate_left
          · ((intro x hx; obtain ⟨hx0, hx1, hx2, hx3⟩ := hx; go_simp) <;> with_reducible rfl)
          try simp only [Act.put, List.setIfInBounds_toArray, List.set_cons_zero, List.set_cons_succ]
          refine gk_pure (i := 14) (v := ?_) rfl (by kernel_rfl) rfl (by kernel_rfl) (by kernel_rfl) (fun _ _ _ h => h) (Or.inl ⟨by kernel_rfl, ?_⟩) ?_
          rotate_left
          · ((intro x; go_simp) <;> with_reducible rfl)
          try simp only [Act.put, List.setIfInBounds_toArray, List.set_cons_zero, List.set_cons_succ]
          try simp only [hwb, hwB, hB]
          refine gk_one (i := 15) rfl (by kernel_rfl) (fun K hK => ?_)
          go_simp
          refine hK _ _ (fun h => by cases h) ?_
          clear hK K
          try simp only [Act.put, List.setIfInBounds_toArray, List.set_cons_zero, List.set_cons_succ]
          refine gk_pure (i := 16) (v := ?_) rfl (by kernel_rfl) rfl (by kernel_rfl) (by kernel_rfl) (fun _ _ _ h => h) (Or.inl ⟨by kernel_rfl, ?_⟩) ?_
          rotate_left
          · ((intro x; go_simp) <;> with_reducible rfl)
          try simp only [Act.put, List.setIfInBounds_toArray, List.set_cons_zero, List.set_cons_succ]
          try simp only [hwb, hwB, hB]
          refine gk_one (i := 17) rfl (by kernel_rfl) (fun K hK => ?_)
          go_simp
          refine hK _ _ (fun h => by cases h) ?_
          clear hK K
          try simp only [Act.put, List.setIfInBounds_toArray, List.set_cons_zero, List.set_cons_succ]
          refine gk_done (by kernel_rfl) ?_ _
          try simp only [Act.put, List.setIfInBounds_toArray, List.set_cons_zero, List.set_cons_succ]
          try go_simp
          have HNw := Lib.hid (HPr.out.swap k B (by omega) (by omega))
          have HBw := Lib.hid ((((HB.out.setCell (p := ⟨P, k * 2, none⟩) (Nat.le_refl _) (.int .i64 (ρ B))).setCell (p := ⟨P, k * 2 + 1, none⟩) (Nat.le_refl _) (.int .i64 (r (ρ B)))).setCell (p := ⟨P, B * 2, none⟩) (Nat.le_refl _) (.int .i64 (ρ k))).setCell (p := ⟨P, B * 2 + 1, none⟩) (Nat.le_refl _) (.int .i64 (r (ρ k))))
          clear hk0 hk1 hk2 hk3 hf0 hf1 hf2 hf3 hg0 hg1 hg2 hg3 HP2 HSS HPr HB
          generalize (((wr.setCell ⟨P, k * 2, none⟩ (.int .i64 (ρ B))).setCell ⟨P, k * 2 + 1, none⟩ (.int .i64 (r (ρ B)))).setCell ⟨P, B * 2, none⟩ (.int .i64 (ρ k))).setCell ⟨P, B * 2 + 1, none⟩ (.int .i64 (r (ρ k))) = W2 at *
          have HN3 := Lib.hid (HNw.out.below ((Below.refl W2.heap.size W2).drew) HNw.out.lt (Nat.le_refl _))
          have HB3 := Lib.hid (HBw.out.drew)
          clear HNw HBw
          generalize W2.drew = W3 at *
          go_wp2
          go_roundw
          case rel => exact ⟨B, by first | rfl | (congr 1), by omega, by omega, Lib.hid (by rw [← HST.out]; exact HN3.out), HB3⟩
          case measure => simp [intOf]; omega
        · have hk' : ¬ (i : Int) < (k : Int) := by omega
          obtain rfl : k = i := by omega
          go_wp2
          first | go_end0 | go_ret
          have hm := HM.out
          subst hm
          exact ⟨rfl, mvD σ m k, mvD_rar σ hki hmi, two_down HT.out hmi hki HS.out.lo HS.out.hi, HPr.out, HB.out⟩
end Go.Proofs.Ytmehihfdfpnfjaa
