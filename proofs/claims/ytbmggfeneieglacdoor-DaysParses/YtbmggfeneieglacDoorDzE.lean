/- What Parse of package accountingref04 returns; the statement DaysParses. -/
import Derived.Test.YtbmggfeneieglacDoorDyY
import Derived.Deep.RegionWith
namespace Go.Proofs.YtbmggfeneieglacDoor
open Go.RowKit Go.Sort
set_option linter.unusedVariables false

theorem digs_rd {s : ByteArray} (h : 0 < s.size) : digs s.toList = rdO s := by
  unfold digs rdO
  have : s.toList.isEmpty = false := by
    rw [List.isEmpty_eq_false_iff]
    intro hc
    have := bytes_len s
    rw [hc] at this; simp at this; omega
  rw [this]; rfl
theorem rdV_dec {s : ByteArray} (h : rdO s = true) : (dec s.toList : Int) = rdV s := by unfold rdV; rw [if_pos h]

set_option maxHeartbeats 4000000 in
theorem rDayParse_any (s : ByteArray) (w : World) (hs : s.size ≤ maxLen) :
    Calls Tryd.prog 29 #[.string s] w fun e w' => e = .returned (.tuple #[.int .i64 (pdV s), .int .i64 (pdE s)]) ∧ Below w.heap.size w w' := by
  unfold maxLen at hs
  have NO := Lib.hid (show ¬ pdO s → pdV s = 0 ∧ pdE s = 5 from fun h => ⟨if_neg h, if_neg h⟩)
  by_cases h1 : s.size = 10
  · have hl : (s.size : Int) = 10 := by omega
    have z1 : (s.extract 0 4).size = 4 := by rw [ByteArray.size_extract]; omega
    have z2 : (s.extract 5 7).size = 2 := by rw [ByteArray.size_extract]; omega
    have z3 : (s.extract 8 10).size = 2 := by rw [ByteArray.size_extract]; omega
    have D1 := Lib.hid (fun w => rDigits_any (s.extract 0 4) w (by unfold maxLen; omega))
    have D2 := Lib.hid (fun w => rDigits_any (s.extract 5 7) w (by unfold maxLen; omega))
    have D3 := Lib.hid (fun w => rDigits_any (s.extract 8 10) w (by unfold maxLen; omega))
    rw [digs_rd (by omega)] at D1 D2 D3
    have HP := Lib.hid (show pdO s ↔ (s[4] = 45 ∧ s[7] = 45 ∧ rdO (s.extract 0 4) = true ∧ rdO (s.extract 5 7) = true ∧ rdO (s.extract 8 10) = true) by
      unfold pdO
      rw [at_get (by omega), at_get (by omega)]
      simp [h1])
    by_cases r1 : rdO (s.extract 0 4) = true
    · rw [r1] at D1
      by_cases h2 : s[4] = 45
      · have b2 : (s[4].toNat : Int) = 45 := by rw [h2]; rfl
        by_cases r2 : rdO (s.extract 5 7) = true
        · rw [r2] at D2
          by_cases h3 : s[7] = 45
          · have b3 : (s[7].toNat : Int) = 45 := by rw [h3]; rfl
            by_cases r3 : rdO (s.extract 8 10) = true
            · rw [r3] at D3
              have hp := HP.out.2 ⟨h2, h3, r1, r2, r3⟩
              have HV := Lib.hid (show pdV s = ofV (rdV (s.extract 0 4)) (rdV (s.extract 5 7)) (rdV (s.extract 8 10)) ∧ pdE s = ofE (rdV (s.extract 0 4)) (rdV (s.extract 5 7)) (rdV (s.extract 8 10)) from ⟨if_pos hp, if_pos hp⟩)
              have V1 := Lib.hid (fun w => rValue_any (s.extract 0 4) w (by omega) r1)
              have V2 := Lib.hid (fun w => rValue_any (s.extract 5 7) w (by omega) r2)
              have V3 := Lib.hid (fun w => rValue_any (s.extract 8 10) w (by omega) r3)
              rw [rdV_dec r1] at V1
              rw [rdV_dec r2] at V2
              rw [rdV_dec r3] at V3
              have B1 := rdV_b (s := s.extract 0 4) (by omega)
              have B2 := rdV_b (s := s.extract 5 7) (by omega)
              have B3 := rdV_b (s := s.extract 8 10) (by omega)
              have HO := Lib.hid (fun w => rOf_any (rdV (s.extract 0 4)) (rdV (s.extract 5 7)) (rdV (s.extract 8 10)) w (by omega) (by omega) (by omega) (by omega) (by omega) (by omega))
              clear HP hp r1 r2 r3 NO
              generalize rdV (s.extract 0 4) = v1 at *
              generalize rdV (s.extract 5 7) = v2 at *
              generalize rdV (s.extract 8 10) = v3 at *
              go_enter Tryd.func29, Tryd.ntmps29
              go_wp2_with fail
              refine (D1.out _).mono ?_
              rintro e w1 ⟨rfl, rfl⟩
              go_wp2_with fail
              refine (D2.out _).mono ?_
              rintro e w1 ⟨rfl, rfl⟩
              go_wp2_with fail
              refine (D3.out _).mono ?_
              rintro e w1 ⟨rfl, rfl⟩
              go_wp2_with fail
              have cV : ∀ (a : ByteArray) (v : Int), (∀ w, Calls Tryd.prog 43 #[.string a] w fun e w' => e = .returned (.int .i64 v) ∧ w = w') → ∀ dd os, Calls Tryd.prog 43 #[.string a] (grow (redrawn w dd) os) fun e w'' => e = .returned (.int .i64 v) ∧ ∃ p : Regrown, w'' = grow (redrawn w p.d) p.os := fun a v h dd os => Calls.regrown_of ((h _).mono fun _ _ h => ⟨h.1, h.2 ▸ Below.refl _ _⟩)
              have CV1 := Lib.hid (cV _ _ V1.out)
              have CV2 := Lib.hid (cV _ _ V2.out)
              have CV3 := Lib.hid (cV _ _ V3.out)
              have CO := Lib.hid (show ∀ dd os, Calls Tryd.prog 12 #[.agg #[.int .i64 v1, .int .i64 v2, .int .i64 v3]] (grow (redrawn w dd) os) fun e w'' => e = .returned (.tuple #[.int .i64 (ofV v1 v2 v3), .int .i64 (ofE v1 v2 v3)]) ∧ ∃ p : Regrown, w'' = grow (redrawn w p.d) p.os from fun dd os => Calls.regrown_of (HO.out _))
              clear cV
              have i1 : (4 : Int) ≤ (s.size : Int) := by omega
              have i2 : (7 : Int) ≤ (s.size : Int) := by omega
              have i3 : (8 : Int) ≤ (s.size : Int) := by omega
              refine wp_region_quiet_below (l := _) (by kernel_rfl) (by kernel_rfl) ?_
              repeat (first | go_big_quiet_step (first | (go_at_call 12; exact CO.out _ _) | (go_at_call_of 43 (s.extract 0 4); exact CV1.out _ _) | (go_at_call_of 43 (s.extract 5 7); exact CV2.out _ _) | (go_at_call_of 43 (s.extract 8 10); exact CV3.out _ _)))
              refine wpQuiet_nil ?_
              intro w2 hw'
              obtain ⟨⟨dq2, osq2⟩, hw''⟩ := hw'
              have hb := below_regrown w dq2 osq2
              rw [← hw''] at hb
              clear hw''
              go_wp2
              go_ret2
              exact ⟨by rw [HV.out.1, HV.out.2]; rfl, hb⟩
            · have HN := Lib.hid (NO.out (fun h => r3 (HP.out.1 h).2.2.2.2))
              rw [Bool.eq_false_iff.2 r3] at D3
              clear HP r1 r2 r3 NO
              go_enter Tryd.func29, Tryd.ntmps29
              go_wp2_with fail
              refine (D1.out _).mono ?_
              rintro e w1 ⟨rfl, rfl⟩
              go_wp2_with fail
              refine (D2.out _).mono ?_
              rintro e w1 ⟨rfl, rfl⟩
              go_wp2_with fail
              refine (D3.out _).mono ?_
              rintro e w1 ⟨rfl, rfl⟩
              go_wp2
              go_ret2
              exact ⟨by rw [HN.out.1, HN.out.2]; rfl, Below.refl _ _⟩
          · have HN := Lib.hid (NO.out (fun h => h3 (HP.out.1 h).2.1))
            have b3 : ¬ (s[7].toNat : Int) = 45 := fun h => h3 (byte45.1 h)
            clear HP r1 r2 NO h3
            go_enter Tryd.func29, Tryd.ntmps29
            go_wp2_with fail
            refine (D1.out _).mono ?_
            rintro e w1 ⟨rfl, rfl⟩
            go_wp2_with fail
            refine (D2.out _).mono ?_
            rintro e w1 ⟨rfl, rfl⟩
            go_wp2
            go_ret2
            exact ⟨by rw [HN.out.1, HN.out.2]; rfl, Below.refl _ _⟩
        · have HN := Lib.hid (NO.out (fun h => r2 (HP.out.1 h).2.2.2.1))
          rw [Bool.eq_false_iff.2 r2] at D2
          clear HP r1 r2 NO
          go_enter Tryd.func29, Tryd.ntmps29
          go_wp2_with fail
          refine (D1.out _).mono ?_
          rintro e w1 ⟨rfl, rfl⟩
          go_wp2_with fail
          refine (D2.out _).mono ?_
          rintro e w1 ⟨rfl, rfl⟩
          go_wp2
          go_ret2
          exact ⟨by rw [HN.out.1, HN.out.2]; rfl, Below.refl _ _⟩
      · have HN := Lib.hid (NO.out (fun h => h2 (HP.out.1 h).1))
        have b2 : ¬ (s[4].toNat : Int) = 45 := fun h => h2 (byte45.1 h)
        clear HP r1 NO h2
        go_enter Tryd.func29, Tryd.ntmps29
        go_wp2_with fail
        refine (D1.out _).mono ?_
        rintro e w1 ⟨rfl, rfl⟩
        go_wp2
        go_ret2
        exact ⟨by rw [HN.out.1, HN.out.2]; rfl, Below.refl _ _⟩
    · have HN := Lib.hid (NO.out (fun h => r1 (HP.out.1 h).2.2.1))
      rw [Bool.eq_false_iff.2 r1] at D1
      clear HP r1 NO
      go_enter Tryd.func29, Tryd.ntmps29
      go_wp2_with fail
      refine (D1.out _).mono ?_
      rintro e w1 ⟨rfl, rfl⟩
      go_wp2
      go_ret2
      exact ⟨by rw [HN.out.1, HN.out.2]; rfl, Below.refl _ _⟩
  · have HN := Lib.hid (NO.out (by unfold pdO; simp [h1]))
    have hl : ¬ (s.size : Int) = 10 := by omega
    go_enter Tryd.func29, Tryd.ntmps29
    go_wp2
    go_ret2
    exact ⟨by rw [HN.out.1, HN.out.2]; rfl, Below.refl _ _⟩

set_option maxHeartbeats 4000000 in
theorem daysParses_walk (s : ByteArray) (w : World) (ht : Tab w) (hs : s.size ≤ maxLen) :
    Calls Tryd.prog 10 #[.string s] w fun e w' => e = .returned (.bool true) ∧ Below w.heap.size w w' := by
  have H1 := Lib.hid (fun w ht => dayParse_any s w ht hs)
  have H2 := Lib.hid (fun w => rDayParse_any s w hs)
  have H7 := Lib.hid (fun w ht => lives_any w ht)
  unfold maxLen at hs
  generalize pdV s = x at *
  generalize pdE s = y at *
  by_cases h : (400 : Int) < (s.size : Int)
  · go_enter Tryd.func10, Tryd.ntmps10
    go_wp2
    go_ret
    exact ⟨rfl, Below.refl _ _⟩
  · go_enter Tryd.func10, Tryd.ntmps10
    go_wp2_with fail
    refine (H1.out _ ht).mono ?_
    rintro e w1 ⟨rfl, hb⟩
    have HB1 := Lib.hid hb
    clear hb
    go_wp2_with fail
    refine (H2.out _).mono ?_
    rintro e w2 ⟨rfl, hb⟩
    have HB2 := Lib.hid (HB1.out.trans (hb.mono HB1.out.size))
    clear hb
    go_wp2_with fail
    refine (H7.out _ (ht.below HB2.out)).mono ?_
    rintro e w3 ⟨rfl, hb⟩
    go_wp2
    go_ret
    exact ⟨rfl, HB2.out.trans (hb.mono HB2.out.size)⟩
end Go.Proofs.YtbmggfeneieglacDoor
