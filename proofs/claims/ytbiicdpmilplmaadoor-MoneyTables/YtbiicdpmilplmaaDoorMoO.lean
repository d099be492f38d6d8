/- What Right of package accountingref07 returns. -/
import Derived.Test.YtbiicdpmilplmaaDoorMoN
namespace Go.Proofs.YtbiicdpmilplmaaDoor
open Go.RowKit Go.Sort
set_option linter.unusedVariables false

set_option maxHeartbeats 4000000 in
theorem rRight_any (A : Option Addr) (n c : Nat) (C : Nat → ByteArray) (D : Nat → Int) (w : World) (hR : RowC w A n C D) (hn : n ≤ 1000) :
    Calls Tryd.prog 15 #[.slice A n c] w fun e w' => RtIs n C D e ∧ Below w.heap.size w w' := by
  by_cases h40 : 40 < n
  · have hli : (40 : Int) < (n : Int) := by omega
    have HN := Lib.hid (show ¬ GoodC n C D from fun x => by have := x.1; omega)
    go_enter Tryd.func15, Tryd.ntmps15
    go_wp2
    go_ret
    exact ⟨.inr ⟨HN.out, rfl⟩, Below.refl _ _⟩
  have hli : ¬ (40 : Int) < (n : Int) := by omega
  go_enter Tryd.func15, Tryd.ntmps15
  go_wp2
  go_loopw [3] (fun i wr => ∃ k : Nat, k ≤ n ∧ i = .int .i64 (k : Int) ∧ Below w.heap.size w wr ∧ Hid (∀ j, j < k → okC C D j)) (fun i _ => n - (intOf i).toNat)
  case atStart => exact ⟨0, by omega, rfl, Below.refl _ _, Lib.hid (fun j h => by omega)⟩
  case round =>
    obtain ⟨k, hk, rfl, hb, HK⟩ := hrel
    by_cases hlt : k < n
    · obtain ⟨z1, b, off, rfl, hlb, c0, c1⟩ := (hR.below hb) k hlt
      have hlt2 : (k : Int) < (n : Int) := by omega
      have H1 := Lib.hid (fun w => rCode_any (C k) w z1)
      have HB := Lib.hid hb
      clear hb
      obtain ⟨S, hS⟩ : ∃ S, C k = S := ⟨_, rfl⟩
      obtain ⟨E, hE⟩ : ∃ E, D k = E := ⟨_, rfl⟩
      rw [hS] at c0 H1
      rw [hE] at c1
      have HS := Lib.hid hS
      have HE := Lib.hid hE
      clear hS hE
      have l1 := cell_regrown c0
      have l2 := cell_regrown c1
      cases hcode : codeB S
      · have HN := Lib.hid (good_no hlt (show ¬ okC C D k from fun x => by have := x.1; rw [HS.out, hcode] at this; cases this))
        rw [hcode] at H1
        have cR : ∀ dd os, Calls Tryd.prog 13 #[.string S] (grow (redrawn wr dd) os) fun e w'' => e = .returned (.bool false) ∧ ∃ p : Regrown, w'' = grow (redrawn wr p.d) p.os := fun dd os => Calls.regrown_of ((H1.out _).mono fun _ _ h => ⟨h.1, h.2 ▸ Below.refl _ _⟩)
        clear hcode
        go_wp2_with fail
        refine wp_region_quiet_below (l := _) (by kernel_rfl) (by kernel_rfl) ?_
        repeat (first | go_big_quiet_step (first | (go_at_call 13; exact cR _ _)))
        refine wpQuiet_nil ?_
        intro w2 hw'
        obtain ⟨⟨dq2, osq2⟩, hw''⟩ := hw'
        have hb2 := below_regrown wr dq2 osq2
        rw [← hw''] at hb2
        clear hw''
        go_wp2
        go_ret
        exact ⟨.inr ⟨HN.out, rfl⟩, HB.out.trans (hb2.mono HB.out.size)⟩
      rw [hcode] at H1
      have cR : ∀ dd os, Calls Tryd.prog 13 #[.string S] (grow (redrawn wr dd) os) fun e w'' => e = .returned (.bool true) ∧ ∃ p : Regrown, w'' = grow (redrawn wr p.d) p.os := fun dd os => Calls.regrown_of ((H1.out _).mono fun _ _ h => ⟨h.1, h.2 ▸ Below.refl _ _⟩)
      by_cases e1 : E < 0
      · have HN := Lib.hid (good_no hlt (show ¬ okC C D k from fun x => by have := x.2.1; rw [HE.out] at this; unfold digO at this; omega))
        have e1' : decide (E < 0) = true := decide_eq_true e1
        clear hcode
        go_wp2_with fail
        refine wp_region_quiet_below (l := _) (by kernel_rfl) (by kernel_rfl) ?_
        repeat (first | go_big_quiet_step (first | (go_at_call 13; exact cR _ _)))
        refine wpQuiet_nil ?_
        intro w2 hw'
        obtain ⟨⟨dq2, osq2⟩, hw''⟩ := hw'
        have hb2 := below_regrown wr dq2 osq2
        rw [← hw''] at hb2
        clear hw''
        go_wp2
        go_ret
        exact ⟨.inr ⟨HN.out, rfl⟩, HB.out.trans (hb2.mono HB.out.size)⟩
      have e1' : decide (E < 0) = false := decide_eq_false e1
      by_cases e2 : 4 < E
      · have HN := Lib.hid (good_no hlt (show ¬ okC C D k from fun x => by have := x.2.1; rw [HE.out] at this; unfold digO at this; omega))
        have e2' : decide (4 < E) = true := decide_eq_true e2
        clear hcode
        go_wp2_with fail
        refine wp_region_quiet_below (l := _) (by kernel_rfl) (by kernel_rfl) ?_
        repeat (first | go_big_quiet_step (first | (go_at_call 13; exact cR _ _)))
        refine wpQuiet_nil ?_
        intro w2 hw'
        obtain ⟨⟨dq2, osq2⟩, hw''⟩ := hw'
        have hb2 := below_regrown wr dq2 osq2
        rw [← hw''] at hb2
        clear hw''
        go_wp2
        go_ret
        exact ⟨.inr ⟨HN.out, rfl⟩, HB.out.trans (hb2.mono HB.out.size)⟩
      have e2' : decide (4 < E) = false := decide_eq_false e2
      by_cases k0 : 0 < k
      · have k1 : (0 : Int) < (k : Int) := by omega
        have k1' : decide ((0 : Int) < (k : Int)) = true := decide_eq_true k1
        obtain ⟨y1, b', off', e', _, p0, _⟩ := (hR.below HB.out) (k - 1) (by omega)
        injection e' with e'
        injection e' with e3 e4
        subst e3
        subst e4
        obtain ⟨P, hP⟩ : ∃ P, C (k - 1) = P := ⟨_, rfl⟩
        rw [hP] at p0
        have HP := Lib.hid hP
        clear hP y1
        have l0 := cell_regrown p0
        have k2 : ((k : Int) - 1).toNat = k - 1 := by omega
        have k3 : (k : Int) - 1 < (n : Int) := by omega
        cases hlss : Op.bytesLess P.toList S.toList
        · have HN := Lib.hid (good_no hlt (show ¬ okC C D k from fun x => by have := x.2.2 k0; rw [HS.out, HP.out, hlss] at this; cases this))
          clear hcode
          go_wp2_with fail
          refine wp_region_quiet_below (l := _) (by kernel_rfl) (by kernel_rfl) ?_
          repeat (first | go_big_quiet_step (first | (go_at_call 13; exact cR _ _)))
          refine wpQuiet_nil ?_
          intro w2 hw'
          obtain ⟨⟨dq2, osq2⟩, hw''⟩ := hw'
          have hb2 := below_regrown wr dq2 osq2
          rw [← hw''] at hb2
          clear hw''
          go_wp2
          go_ret
          exact ⟨.inr ⟨HN.out, rfl⟩, HB.out.trans (hb2.mono HB.out.size)⟩
        · have HK2 := Lib.hid (show ∀ j, j < k + 1 → okC C D j from fun j hj => by
            rcases Nat.lt_or_ge j k with x | x
            · exact HK.out j x
            · obtain rfl : j = k := by omega
              exact ⟨by rw [HS.out]; exact hcode, by rw [HE.out]; exact ⟨by omega, by omega⟩, fun _ => by rw [HS.out, HP.out]; exact hlss⟩)
          clear hcode
          go_wp2_with fail
          refine wp_region_quiet_below (l := _) (by kernel_rfl) (by kernel_rfl) ?_
          repeat (first | go_big_quiet_step (first | (go_at_call 13; exact cR _ _)))
          refine wpQuiet_nil ?_
          intro w2 hw'
          obtain ⟨⟨dq2, osq2⟩, hw''⟩ := hw'
          have hb2 := below_regrown wr dq2 osq2
          rw [← hw''] at hb2
          clear hw''
          go_wp2
          go_roundw
          case rel => exact ⟨k + 1, by omega, by go_num, HB.out.trans (hb2.mono HB.out.size), HK2⟩
          case measure => simp [intOf]; omega
      · obtain rfl : k = 0 := by omega
        have HK2 := Lib.hid (show ∀ j, j < 0 + 1 → okC C D j from fun j hj => by
          obtain rfl : j = 0 := by omega
          exact ⟨by rw [HS.out]; exact hcode, by rw [HE.out]; exact ⟨by omega, by omega⟩, fun x => absurd x (by omega)⟩)
        have c0' : wr.cell? ⟨b, off, none⟩ = some (.string S) := by simpa using c0
        have c1' : wr.cell? ⟨b, off + 1, none⟩ = some (.int .i64 E) := by simpa using c1
        have l1' := cell_regrown c0'
        have l2' := cell_regrown c1'
        clear hcode l1 l2
        go_wp2_with fail
        refine wp_region_quiet_below (l := _) (by kernel_rfl) (by kernel_rfl) ?_
        repeat (first | go_big_quiet_step (first | (go_at_call 13; exact cR _ _)))
        refine wpQuiet_nil ?_
        intro w2 hw'
        obtain ⟨⟨dq2, osq2⟩, hw''⟩ := hw'
        have hb2 := below_regrown wr dq2 osq2
        rw [← hw''] at hb2
        clear hw''
        go_wp2
        go_roundw
        case rel => exact ⟨0 + 1, by omega, by go_num, HB.out.trans (hb2.mono HB.out.size), HK2⟩
        case measure => simp [intOf]; omega
    · have hlt2 : ¬ (k : Int) < (n : Int) := by omega
      have HY := Lib.hid (show GoodC n C D from ⟨by omega, fun i hi => HK.out i (by omega)⟩)
      have HB := Lib.hid hb
      clear hb
      go_wp2
      go_ret
      exact ⟨.inl ⟨HY.out, rfl⟩, HB.out⟩
end Go.Proofs.YtbiicdpmilplmaaDoor
