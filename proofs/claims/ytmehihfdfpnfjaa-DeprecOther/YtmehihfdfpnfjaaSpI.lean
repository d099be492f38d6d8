/- What symMergeCmpFunc of package slices does, the third case, the larger half below. -/
import Derived.Test.YtmehihfdfpnfjaaSpH
namespace Go.Proofs.Ytmehihfdfpnfjaa
open Go.RowKit Go.Sort
set_option linter.unusedVariables false
set_option linter.unusedSimpArgs false

set_option maxRecDepth 100000 in
set_option maxHeartbeats 16000000 in
theorem merge_c1 (P N c : Nat) (r : Nat → Int) (σ : Nat → Nat) (a m b mid n : Nat) (w : World) (hN : N ≤ 200) (hc : N ≤ c) (ham : a < m) (hmb : m < b) (hbN : b ≤ N) (hm : ¬ m = a + 1) (hb : ¬ b = m + 1) (hmid : ((a : Int) + (b : Int)) / 2 = (mid : Int)) (hn : (mid : Int) + (m : Int) = (n : Int)) (hmm : (mid : Int) < (m : Int)) (s0 : Nat) (hs : (n : Int) - (b : Int) = (s0 : Int)) (ht : Twp r σ a m b) (hp : Prs w P N r σ) (hrec : RecH P N c r (b - a)) :
    Calls Try.prog 80 #[.slice (some ⟨P, 0, none⟩) N c, .int .i64 a, .int .i64 m, .int .i64 b, cmpV] w (SortP P N r σ a b w) := by
  have HP := Lib.hid hp
  have HT := Lib.hid ht
  have HREC := Lib.hid hrec
  clear hp ht hrec
  have hm1 : ((m : Int) - (a : Int) == 1) = false := by simp; omega
  have hb1 : ((b : Int) - (m : Int) == 1) = false := by simp; omega
  have q1 : a < mid := by omega
  have q2 : mid < b := by omega
  have HNn := Lib.hid (show n = m + mid by omega)
  obtain ⟨p, hp, hp2⟩ : ∃ p : Nat, (n : Int) - 1 = (p : Int) ∧ p = n - 1 := ⟨n - 1, by omega, rfl⟩
  clear hp2
  have HS0 := Lib.hid (show Se3 r σ a m b n s0 mid s0 mid from ⟨by omega, by omega, fun q h1 h2 => by omega, fun q h1 h2 => by omega⟩)
  go_enter Try.func80, Try.ntmps80
  go_wp2_with fail
  go_loopw [20, 21] (fun x y wr => ∃ s e : Nat, x = .int .i64 s ∧ y = .int .i64 e ∧ s ≤ e ∧ e ≤ mid ∧ s0 ≤ s ∧ Hid (Se3 r σ a m b n s0 mid s e) ∧ Hid (Prs wr P N r σ) ∧ Hid (Below P w wr)) (fun x y _ => (intOf y - intOf x).toNat)
  case atStart => exact ⟨s0, mid, rfl, rfl, by omega, Nat.le_refl _, Nat.le_refl _, HS0, HP, Lib.hid (Below.refl _ _)⟩
  case round =>
    obtain ⟨s, e, rfl, rfl, hse, he, hs0, HS, HPr, HB⟩ := hrel
    by_cases h : s < e
    · have h' : (s : Int) < (e : Int) := by omega
      obtain ⟨z, hz, z1, z2⟩ : ∃ z : Nat, ((s : Int) + (e : Int)) / 2 = (z : Int) ∧ s ≤ z ∧ z < e := ⟨(s + e) / 2, by omega, by omega, by omega⟩
      have hrg := HS.out.rg
      obtain ⟨X, hX, hX2⟩ : ∃ X : Nat, (p : Int) - (z : Int) = (X : Int) ∧ X = n - 1 - z := ⟨n - 1 - z, by omega, rfl⟩
      have hzN : (z : Int) < (N : Int) := by omega
      have hXN : (X : Int) < (N : Int) := by omega
      have HC := Lib.hid (fun W => lfCmp_any (σ X) (r (σ X)) (σ z) (r (σ z)) W)
      by_cases hlt : r (σ z) < r (σ X)
      · have hv : decide (cmpI (r (σ z)) (r (σ X)) < 0) = true := decide_eq_true (cmpI_neg.2 hlt)
        have HS2 := Lib.hid (HS.out.less HT.out z1 z2 (by rw [← hX2]; exact hlt))
        generalize cmpI (r (σ z)) (r (σ X)) = v at *
        clear hlt hX2 hrg
        go_wp2_with fail
        have l0 := cell_regrown (HPr.out.c0 X (by omega))
        have l1 := cell_regrown (HPr.out.c1 X (by omega))
        have l2 := cell_regrown (HPr.out.c0 z (by omega))
        have l3 := cell_regrown (HPr.out.c1 z (by omega))
        have cC : ∀ dd os, Calls Try.prog 76 #[.agg #[.int .i64 (σ X), .int .i64 (r (σ X))], .agg #[.int .i64 (σ z), .int .i64 (r (σ z))]] (grow (redrawn wr dd) os) fun e w'' => e = .returned (.int .i64 v) ∧ ∃ p : Regrown, w'' = grow (redrawn wr p.d) p.os := fun dd os => Calls.regrown_of (HC.out _)
        refine wp_region_quiet_below (l := _) (by kernel_rfl) (by kernel_rfl) ?_
        repeat (first | go_big_quiet_step (first | (go_at_call 76; exact cC _ _)))
        refine wpQuiet_nil ?_
        intro w2 hw'
        obtain ⟨⟨dq2, osq2⟩, hw''⟩ := hw'
        have hb2 := below_regrown wr dq2 osq2
        rw [← hw''] at hb2
        clear hw'' cC l0 l1 l2 l3
        have HB := Lib.hid (HB.out.trans (hb2.mono (Nat.le_of_lt HPr.out.lt)))
        have HPr := Lib.hid (HPr.out.below hb2 HPr.out.lt (Nat.le_refl _))
        clear hb2
        go_wp2
        go_roundw
        case rel => exact ⟨s, z, rfl, rfl, by omega, by omega, hs0, HS2, HPr, HB⟩
        case measure => simp [intOf]; omega
      · have hv : decide (cmpI (r (σ z)) (r (σ X)) < 0) = false := decide_eq_false (fun q => hlt (cmpI_neg.1 q))
        have HS2 := Lib.hid (HS.out.more HT.out z1 z2 (by rw [← hX2]; exact hlt))
        generalize cmpI (r (σ z)) (r (σ X)) = v at *
        clear hlt hX2 hrg
        go_wp2_with fail
        have l0 := cell_regrown (HPr.out.c0 X (by omega))
        have l1 := cell_regrown (HPr.out.c1 X (by omega))
        have l2 := cell_regrown (HPr.out.c0 z (by omega))
        have l3 := cell_regrown (HPr.out.c1 z (by omega))
        have cC : ∀ dd os, Calls Try.prog 76 #[.agg #[.int .i64 (σ X), .int .i64 (r (σ X))], .agg #[.int .i64 (σ z), .int .i64 (r (σ z))]] (grow (redrawn wr dd) os) fun e w'' => e = .returned (.int .i64 v) ∧ ∃ p : Regrown, w'' = grow (redrawn wr p.d) p.os := fun dd os => Calls.regrown_of (HC.out _)
        refine wp_region_quiet_below (l := _) (by kernel_rfl) (by kernel_rfl) ?_
        repeat (first | go_big_quiet_step (first | (go_at_call 76; exact cC _ _)))
        refine wpQuiet_nil ?_
        intro w2 hw'
        obtain ⟨⟨dq2, osq2⟩, hw''⟩ := hw'
        have hb2 := below_regrown wr dq2 osq2
        rw [← hw''] at hb2
        clear hw'' cC l0 l1 l2 l3
        have HB := Lib.hid (HB.out.trans (hb2.mono (Nat.le_of_lt HPr.out.lt)))
        have HPr := Lib.hid (HPr.out.below hb2 HPr.out.lt (Nat.le_refl _))
        clear hb2
        go_wp2
        go_roundw
        case rel => exact ⟨z + 1, e, by go_num, rfl, by omega, he, by omega, HS2, HPr, HB⟩
        case measure => simp [intOf]; omega
    · have h' : ¬ (s : Int) < (e : Int) := by omega
      obtain rfl : s = e := by omega
      have HCut := Lib.hid ((HNn.out ▸ HS.out : Se3 r σ a m b (m + mid) s0 mid s s).cut ham hmb (by omega) (by omega) (.inl ⟨by omega, by omega, rfl⟩))
      obtain ⟨E, hE, hE2⟩ : ∃ E : Nat, (n : Int) - (s : Int) = (E : Int) ∧ E = m + mid - s := ⟨m + mid - s, by omega, rfl⟩
      have HCt := HCut.out.parts HT.out
      rw [← hE2] at HCt
      clear hE2
      have hcs := HCut.out.s1
      have HTa := Lib.hid HCt.1
      have HTb := Lib.hid HCt.2.1
      have HX := Lib.hid HCt.2.2
      clear HCt HCut
      by_cases al : s < m
      · by_cases be : s < mid
        · by_cases ga : a < s
          · by_cases de : E < b
            · skip
              have t1 : (s : Int) < (m : Int) := by omega
              have t2 : (m : Int) < (E : Int) := by omega
              have t3 : (a : Int) < (s : Int) := by omega
              have t4 : (s : Int) < (mid : Int) := by omega
              have t5 : (mid : Int) < (E : Int) := by omega
              have t6 : (E : Int) < (b : Int) := by omega
              have HQ := Lib.hid (rot_rar σ (a := s) (m := m) (b := E) (by omega) (by omega))
              have HRo := Lib.hid (rotate_any P N c r σ s m E wr hN hc (by omega) (by omega) (by omega) HPr.out)
              generalize rot σ s m E = τ at *
              clear HPr HS
              go_wp2_with fail
              refine HRo.out.mono ?_
              rintro e w2 ⟨rfl, hp2, hb2⟩
              have HPt := Lib.hid hp2
              have HB2 := Lib.hid (HB.out.trans hb2)
              clear hp2 hb2 HRo HB
              have HLe := Lib.hid (HREC.out τ a s mid w2 (by omega) (by omega) (by omega) (by omega) HTa.out HPt.out)
              go_wp2_with fail
              refine HLe.out.mono ?_
              rintro e w3 ⟨rfl, ρ, hr3, hs3, hp3, hb3⟩
              have HPt := Lib.hid hp3
              have HRa := Lib.hid hr3
              have HSa := Lib.hid hs3
              have HB2 := Lib.hid (HB2.out.trans hb3)
              have HTb := Lib.hid (HTb.out.same (σ' := ρ) (fun k k1 k2 => hr3.out (by omega)) (by omega))
              clear hp3 hr3 hs3 hb3 HLe
              have HRi := Lib.hid (HREC.out ρ mid E b w3 (by omega) (by omega) (by omega) (by omega) HTb.out HPt.out)
              go_wp2_with fail
              refine HRi.out.mono ?_
              rintro e w4 ⟨rfl, π, hr4, hs4, hp4, hb4⟩
              have HE := Lib.hid (merge_end HQ.out (by omega) HX.out HRa.out HSa.out hr4 hs4)
              have HP4 := Lib.hid hp4
              have HB4 := Lib.hid (HB2.out.trans hb4)
              clear hr4 hs4 hp4 hb4
              go_wp2
              go_end0
              exact ⟨rfl, π, HE.out.1, HE.out.2, HP4.out, HB4.out⟩
            · skip
              have t1 : (s : Int) < (m : Int) := by omega
              have t2 : (m : Int) < (E : Int) := by omega
              have t3 : (a : Int) < (s : Int) := by omega
              have t4 : (s : Int) < (mid : Int) := by omega
              have t5 : (mid : Int) < (E : Int) := by omega
              have t6 : ¬ (E : Int) < (b : Int) := by omega
              have HQ := Lib.hid (rot_rar σ (a := s) (m := m) (b := E) (by omega) (by omega))
              have HRo := Lib.hid (rotate_any P N c r σ s m E wr hN hc (by omega) (by omega) (by omega) HPr.out)
              generalize rot σ s m E = τ at *
              clear HPr HS
              go_wp2_with fail
              refine HRo.out.mono ?_
              rintro e w2 ⟨rfl, hp2, hb2⟩
              have HPt := Lib.hid hp2
              have HB2 := Lib.hid (HB.out.trans hb2)
              clear hp2 hb2 HRo HB
              have HLe := Lib.hid (HREC.out τ a s mid w2 (by omega) (by omega) (by omega) (by omega) HTa.out HPt.out)
              go_wp2_with fail
              refine HLe.out.mono ?_
              rintro e w3 ⟨rfl, ρ, hr3, hs3, hp3, hb3⟩
              have HPt := Lib.hid hp3
              have HRa := Lib.hid hr3
              have HSa := Lib.hid hs3
              have HB2 := Lib.hid (HB2.out.trans hb3)
              have HTb := Lib.hid (HTb.out.same (σ' := ρ) (fun k k1 k2 => hr3.out (by omega)) (by omega))
              clear hp3 hr3 hs3 hb3 HLe
              have HSb := Lib.hid (show Srt r ρ mid b from fun p q p1 p2 p3 => HTb.out.l p q p1 p2 (by omega))
              have HE := Lib.hid (merge_end HQ.out (by omega) HX.out HRa.out HSa.out (Rar.refl mid b ρ) HSb.out)
              go_wp2
              go_end0
              exact ⟨rfl, ρ, HE.out.1, HE.out.2, HPt.out, HB2.out⟩
          · by_cases de : E < b
            · skip
              have t1 : (s : Int) < (m : Int) := by omega
              have t2 : (m : Int) < (E : Int) := by omega
              have t3 : ¬ (a : Int) < (s : Int) := by omega
              have t4 : (s : Int) < (mid : Int) := by omega
              have t5 : (mid : Int) < (E : Int) := by omega
              have t6 : (E : Int) < (b : Int) := by omega
              have HQ := Lib.hid (rot_rar σ (a := s) (m := m) (b := E) (by omega) (by omega))
              have HRo := Lib.hid (rotate_any P N c r σ s m E wr hN hc (by omega) (by omega) (by omega) HPr.out)
              generalize rot σ s m E = τ at *
              clear HPr HS
              go_wp2_with fail
              refine HRo.out.mono ?_
              rintro e w2 ⟨rfl, hp2, hb2⟩
              have HPt := Lib.hid hp2
              have HB2 := Lib.hid (HB.out.trans hb2)
              clear hp2 hb2 HRo HB
              have HRa := Lib.hid (Rar.refl a mid τ)
              have HSa := Lib.hid (show Srt r τ a mid from fun p q p1 p2 p3 => HTa.out.u p q (by omega) p2 p3)
              have HRi := Lib.hid (HREC.out τ mid E b w2 (by omega) (by omega) (by omega) (by omega) HTb.out HPt.out)
              go_wp2_with fail
              refine HRi.out.mono ?_
              rintro e w4 ⟨rfl, π, hr4, hs4, hp4, hb4⟩
              have HE := Lib.hid (merge_end HQ.out (by omega) HX.out HRa.out HSa.out hr4 hs4)
              have HP4 := Lib.hid hp4
              have HB4 := Lib.hid (HB2.out.trans hb4)
              clear hr4 hs4 hp4 hb4
              go_wp2
              go_end0
              exact ⟨rfl, π, HE.out.1, HE.out.2, HP4.out, HB4.out⟩
            · skip
              have t1 : (s : Int) < (m : Int) := by omega
              have t2 : (m : Int) < (E : Int) := by omega
              have t3 : ¬ (a : Int) < (s : Int) := by omega
              have t4 : (s : Int) < (mid : Int) := by omega
              have t5 : (mid : Int) < (E : Int) := by omega
              have t6 : ¬ (E : Int) < (b : Int) := by omega
              have HQ := Lib.hid (rot_rar σ (a := s) (m := m) (b := E) (by omega) (by omega))
              have HRo := Lib.hid (rotate_any P N c r σ s m E wr hN hc (by omega) (by omega) (by omega) HPr.out)
              generalize rot σ s m E = τ at *
              clear HPr HS
              go_wp2_with fail
              refine HRo.out.mono ?_
              rintro e w2 ⟨rfl, hp2, hb2⟩
              have HPt := Lib.hid hp2
              have HB2 := Lib.hid (HB.out.trans hb2)
              clear hp2 hb2 HRo HB
              have HRa := Lib.hid (Rar.refl a mid τ)
              have HSa := Lib.hid (show Srt r τ a mid from fun p q p1 p2 p3 => HTa.out.u p q (by omega) p2 p3)
              have HSb := Lib.hid (show Srt r τ mid b from fun p q p1 p2 p3 => HTb.out.l p q p1 p2 (by omega))
              have HE := Lib.hid (merge_end HQ.out (by omega) HX.out HRa.out HSa.out (Rar.refl mid b τ) HSb.out)
              go_wp2
              go_end0
              exact ⟨rfl, τ, HE.out.1, HE.out.2, HPt.out, HB2.out⟩
        · have ga : a < s := by omega
          by_cases de : E < b
          · skip
            have t1 : (s : Int) < (m : Int) := by omega
            have t2 : ¬ (m : Int) < (E : Int) := by omega
            have t3 : (a : Int) < (s : Int) := by omega
            have t4 : ¬ (s : Int) < (mid : Int) := by omega
            have t5 : (mid : Int) < (E : Int) := by omega
            have t6 : (E : Int) < (b : Int) := by omega
            have HQ := Lib.hid (rot_rar σ (a := s) (m := m) (b := E) (by omega) (by omega))
            have HPt := Lib.hid (show Prs wr P N r (rot σ s m E) by rw [rot_id σ (by omega) (by omega) (by omega)]; exact HPr.out)
            generalize rot σ s m E = τ at *
            clear HPr HS
            have HB2 := HB
            clear HB
            have HRa := Lib.hid (Rar.refl a mid τ)
            have HSa := Lib.hid (show Srt r τ a mid from fun p q p1 p2 p3 => HTa.out.l p q p1 p2 (by omega))
            have HRi := Lib.hid (HREC.out τ mid E b wr (by omega) (by omega) (by omega) (by omega) HTb.out HPt.out)
            go_wp2_with fail
            refine HRi.out.mono ?_
            rintro e w4 ⟨rfl, π, hr4, hs4, hp4, hb4⟩
            have HE := Lib.hid (merge_end HQ.out (by omega) HX.out HRa.out HSa.out hr4 hs4)
            have HP4 := Lib.hid hp4
            have HB4 := Lib.hid (HB2.out.trans hb4)
            clear hr4 hs4 hp4 hb4
            go_wp2
            go_end0
            exact ⟨rfl, π, HE.out.1, HE.out.2, HP4.out, HB4.out⟩
          · skip
            have t1 : (s : Int) < (m : Int) := by omega
            have t2 : ¬ (m : Int) < (E : Int) := by omega
            have t3 : (a : Int) < (s : Int) := by omega
            have t4 : ¬ (s : Int) < (mid : Int) := by omega
            have t5 : (mid : Int) < (E : Int) := by omega
            have t6 : ¬ (E : Int) < (b : Int) := by omega
            have HQ := Lib.hid (rot_rar σ (a := s) (m := m) (b := E) (by omega) (by omega))
            have HPt := Lib.hid (show Prs wr P N r (rot σ s m E) by rw [rot_id σ (by omega) (by omega) (by omega)]; exact HPr.out)
            generalize rot σ s m E = τ at *
            clear HPr HS
            have HB2 := HB
            clear HB
            have HRa := Lib.hid (Rar.refl a mid τ)
            have HSa := Lib.hid (show Srt r τ a mid from fun p q p1 p2 p3 => HTa.out.l p q p1 p2 (by omega))
            have HSb := Lib.hid (show Srt r τ mid b from fun p q p1 p2 p3 => HTb.out.l p q p1 p2 (by omega))
            have HE := Lib.hid (merge_end HQ.out (by omega) HX.out HRa.out HSa.out (Rar.refl mid b τ) HSb.out)
            go_wp2
            go_end0
            exact ⟨rfl, τ, HE.out.1, HE.out.2, HPt.out, HB2.out⟩
      · exfalso; omega
end Go.Proofs.Ytmehihfdfpnfjaa
