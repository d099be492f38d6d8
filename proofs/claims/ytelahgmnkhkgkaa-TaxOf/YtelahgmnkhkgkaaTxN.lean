/- What Codes of package accountingref25 returns. Written by wip/mk_txn.py. -/
import Derived.Test.YtelahgmnkhkgkaaTxM
import Derived.Lib.QuietBelow
import Derived.BigQuiet
namespace Go.Proofs.Ytelahgmnkhkgkaa
open Go.RowKit Go.Sort
set_option linter.unusedVariables false
set_option linter.unusedSimpArgs false

set_option maxRecDepth 100000 in
set_option maxHeartbeats 4000000 in
theorem rCodes_any (A : Option Addr) (c : Nat) (L : List Cd) (w : World) (hR : RowC w A L) (hBd : BdC L) (hn : L.length ≤ 1000) :
    Calls Try.prog 16 #[.slice A L.length c] w fun e w' => e = .returned (.bool (codesB L)) ∧ Below w.heap.size w w' := by
  have HR := Lib.hid hR
  have HBd := Lib.hid hBd
  clear hR hBd
  by_cases h6 : 200 < L.length
  · have h6' : (200 : Int) < (L.length : Int) := by omega
    have HE := Lib.hid (codes_long h6)
    go_enter Try.func16, Try.ntmps16
    go_wp2
    go_ret
    exact ⟨ret_bool (by rw [HE.out]), Below.refl _ _⟩
  have h6' : ¬ (200 : Int) < (L.length : Int) := by omega
  go_enter Try.func16, Try.ntmps16
  go_wp2
  go_loopw [3] (fun x wr => ∃ k : Nat, k ≤ L.length ∧ x = .int .i64 k ∧ Hid (∀ i, i < k → okC L i = true) ∧ Hid (Below w.heap.size w wr)) (fun x _ => L.length - (intOf x).toNat)
  case atStart => exact ⟨0, Nat.zero_le _, rfl, Lib.hid (fun i hi => by omega), Lib.hid (Below.refl _ _)⟩
  case round =>
    obtain ⟨k, hk, rfl, HK, HB⟩ := hrel
    by_cases h : k < L.length
    · have h' : (k : Int) < (L.length : Int) := by omega
      have HRr := Lib.hid (HR.out.below HB.out)
      obtain ⟨b, off, rfl, hl, hc⟩ := HRr.out (by omega)
      obtain ⟨c0, c1, c2, c3⟩ := hc k h
      obtain ⟨⟨s0, s1⟩, ⟨n1, n2⟩, ⟨d1, d2⟩⟩ := HBd.out L[k] (List.getElem_mem h)
      have HOk := Lib.hid (show okC L k = ((codB L[k].1 && (codB L[k].2.1 && rateB L[k].2.2.1 L[k].2.2.2)) && (k == 0 || ltS (L.getD (k - 1) nC).1 L[k].1)) by unfold okC ok1; rw [getC h])
      have HK2 := Lib.hid (show okC L k = true → ∀ i, i < k + 1 → okC L i = true from fun q i hi => by
        by_cases e : i = k
        · subst e; exact q
        · exact HK.out i (by omega))
      have HBad := Lib.hid (fun q => codes_bad (L := L) h q)
      obtain ⟨S, hS⟩ : ∃ S, L[k].1 = S := ⟨_, rfl⟩
      obtain ⟨T, hT⟩ : ∃ T, L[k].2.1 = T := ⟨_, rfl⟩
      obtain ⟨fn, hfn⟩ : ∃ fn, L[k].2.2.1 = fn := ⟨_, rfl⟩
      obtain ⟨fd, hfd⟩ : ∃ fd, L[k].2.2.2 = fd := ⟨_, rfl⟩
      rw [hS] at c0 HOk s0
      rw [hT] at c1 HOk s1
      rw [hfn] at c2 HOk n1 n2
      rw [hfd] at c3 HOk d1 d2
      have H1 := Lib.hid (fun W => rCode_any S W s0)
      have H2 := Lib.hid (fun W => rCode_any T W s1)
      have H3 := Lib.hid (fun W => rate_any fn fd W n1 n2 d1 d2)
      have HR2 := Lib.hid HRr.out
      clear hS hT hfn hfd hc HR HRr HBd s0 s1 n1 n2 d1 d2
      cases q1 : codB S
      · rw [q1] at H1 HOk
        have HF := Lib.hid (HBad.out (by rw [HOk.out]; rfl))
        clear HOk HK2 HBad HK
        have m0 := cell_regrown c0
        have m1 := cell_regrown c1
        have m2 := cell_regrown c2
        have m3 := cell_regrown c3
        have K1 : ∀ dd os, Calls Try.prog 29 #[.string S] (grow (redrawn wr dd) os) fun e w'' => e = .returned (.bool false) ∧ ∃ p : Regrown, w'' = grow (redrawn wr p.d) p.os := fun dd os => Calls.regrown_of ((H1.out _).mono (fun e w' h => ⟨h.1, h.2 ▸ Below.refl _ _⟩))
        have K2 : ∀ dd os, Calls Try.prog 29 #[.string T] (grow (redrawn wr dd) os) fun e w'' => e = .returned (.bool (codB T)) ∧ ∃ p : Regrown, w'' = grow (redrawn wr p.d) p.os := fun dd os => Calls.regrown_of ((H2.out _).mono (fun e w' h => ⟨h.1, h.2 ▸ Below.refl _ _⟩))
        have K3 : ∀ dd os, Calls Try.prog 30 #[.agg #[.int .i64 fn, .int .i64 fd]] (grow (redrawn wr dd) os) fun e w'' => e = .returned (.bool (rateB fn fd)) ∧ ∃ p : Regrown, w'' = grow (redrawn wr p.d) p.os := fun dd os => Calls.regrown_of (H3.out _)
        go_wp2_with fail
        refine wp_region_quiet_below (l := _) (by kernel_rfl) (by kernel_rfl) ?_
        repeat (first | go_big_quiet_step (first | (go_at_call 29; first | with_reducible exact K1 _ _ | with_reducible exact K2 _ _) | (go_at_call 30; with_reducible exact K3 _ _)))
        refine wpQuiet_nil ?_
        intro w5 hw'
        obtain ⟨⟨dq2, osq2⟩, hw''⟩ := hw'
        have hb := below_regrown wr dq2 osq2
        rw [← hw''] at hb
        have HB4 := Lib.hid (HB.out.trans (hb.mono HB.out.size))
        clear hw'' hb K1 K2 K3 m0 m1 m2 m3
        go_wp2
        go_ret
        exact ⟨ret_bool (by rw [HF.out]), HB4.out⟩
      · rw [q1] at H1 HOk
        cases q2 : codB T
        · rw [q2] at H2 HOk
          have HF := Lib.hid (HBad.out (by rw [HOk.out]; rfl))
          clear HOk HK2 HBad HK
          have m0 := cell_regrown c0
          have m1 := cell_regrown c1
          have m2 := cell_regrown c2
          have m3 := cell_regrown c3
          have K1 : ∀ dd os, Calls Try.prog 29 #[.string S] (grow (redrawn wr dd) os) fun e w'' => e = .returned (.bool true) ∧ ∃ p : Regrown, w'' = grow (redrawn wr p.d) p.os := fun dd os => Calls.regrown_of ((H1.out _).mono (fun e w' h => ⟨h.1, h.2 ▸ Below.refl _ _⟩))
          have K2 : ∀ dd os, Calls Try.prog 29 #[.string T] (grow (redrawn wr dd) os) fun e w'' => e = .returned (.bool false) ∧ ∃ p : Regrown, w'' = grow (redrawn wr p.d) p.os := fun dd os => Calls.regrown_of ((H2.out _).mono (fun e w' h => ⟨h.1, h.2 ▸ Below.refl _ _⟩))
          have K3 : ∀ dd os, Calls Try.prog 30 #[.agg #[.int .i64 fn, .int .i64 fd]] (grow (redrawn wr dd) os) fun e w'' => e = .returned (.bool (rateB fn fd)) ∧ ∃ p : Regrown, w'' = grow (redrawn wr p.d) p.os := fun dd os => Calls.regrown_of (H3.out _)
          go_wp2_with fail
          refine wp_region_quiet_below (l := _) (by kernel_rfl) (by kernel_rfl) ?_
          repeat (first | go_big_quiet_step (first | (go_at_call 29; first | with_reducible exact K1 _ _ | with_reducible exact K2 _ _) | (go_at_call 30; with_reducible exact K3 _ _)))
          refine wpQuiet_nil ?_
          intro w5 hw'
          obtain ⟨⟨dq2, osq2⟩, hw''⟩ := hw'
          have hb := below_regrown wr dq2 osq2
          rw [← hw''] at hb
          have HB4 := Lib.hid (HB.out.trans (hb.mono HB.out.size))
          clear hw'' hb K1 K2 K3 m0 m1 m2 m3
          go_wp2
          go_ret
          exact ⟨ret_bool (by rw [HF.out]), HB4.out⟩
        · rw [q2] at H2 HOk
          cases q3 : rateB fn fd
          · rw [q3] at H3 HOk
            have HF := Lib.hid (HBad.out (by rw [HOk.out]; rfl))
            clear HOk HK2 HBad HK
            have m0 := cell_regrown c0
            have m1 := cell_regrown c1
            have m2 := cell_regrown c2
            have m3 := cell_regrown c3
            have K1 : ∀ dd os, Calls Try.prog 29 #[.string S] (grow (redrawn wr dd) os) fun e w'' => e = .returned (.bool true) ∧ ∃ p : Regrown, w'' = grow (redrawn wr p.d) p.os := fun dd os => Calls.regrown_of ((H1.out _).mono (fun e w' h => ⟨h.1, h.2 ▸ Below.refl _ _⟩))
            have K2 : ∀ dd os, Calls Try.prog 29 #[.string T] (grow (redrawn wr dd) os) fun e w'' => e = .returned (.bool true) ∧ ∃ p : Regrown, w'' = grow (redrawn wr p.d) p.os := fun dd os => Calls.regrown_of ((H2.out _).mono (fun e w' h => ⟨h.1, h.2 ▸ Below.refl _ _⟩))
            have K3 : ∀ dd os, Calls Try.prog 30 #[.agg #[.int .i64 fn, .int .i64 fd]] (grow (redrawn wr dd) os) fun e w'' => e = .returned (.bool false) ∧ ∃ p : Regrown, w'' = grow (redrawn wr p.d) p.os := fun dd os => Calls.regrown_of (H3.out _)
            go_wp2_with fail
            refine wp_region_quiet_below (l := _) (by kernel_rfl) (by kernel_rfl) ?_
            repeat (first | go_big_quiet_step (first | (go_at_call 29; first | with_reducible exact K1 _ _ | with_reducible exact K2 _ _) | (go_at_call 30; with_reducible exact K3 _ _)))
            refine wpQuiet_nil ?_
            intro w5 hw'
            obtain ⟨⟨dq2, osq2⟩, hw''⟩ := hw'
            have hb := below_regrown wr dq2 osq2
            rw [← hw''] at hb
            have HB4 := Lib.hid (HB.out.trans (hb.mono HB.out.size))
            clear hw'' hb K1 K2 K3 m0 m1 m2 m3
            go_wp2
            go_ret
            exact ⟨ret_bool (by rw [HF.out]), HB4.out⟩
          · rw [q3] at H3 HOk
            by_cases k0 : k = 0
            · have k0' : ¬ (0 : Int) < (k : Int) := by omega
              have k0'' : decide ((0 : Int) < (k : Int)) = false := decide_eq_false k0'
              have k0n : decide (0 < k) = false := decide_eq_false (by omega)
              have HG := Lib.hid (HK2.out (by rw [HOk.out, k0]; rfl))
              clear HOk HK2 HBad HK k0
              have m0 := cell_regrown c0
              have m1 := cell_regrown c1
              have m2 := cell_regrown c2
              have m3 := cell_regrown c3
              have K1 : ∀ dd os, Calls Try.prog 29 #[.string S] (grow (redrawn wr dd) os) fun e w'' => e = .returned (.bool true) ∧ ∃ p : Regrown, w'' = grow (redrawn wr p.d) p.os := fun dd os => Calls.regrown_of ((H1.out _).mono (fun e w' h => ⟨h.1, h.2 ▸ Below.refl _ _⟩))
              have K2 : ∀ dd os, Calls Try.prog 29 #[.string T] (grow (redrawn wr dd) os) fun e w'' => e = .returned (.bool true) ∧ ∃ p : Regrown, w'' = grow (redrawn wr p.d) p.os := fun dd os => Calls.regrown_of ((H2.out _).mono (fun e w' h => ⟨h.1, h.2 ▸ Below.refl _ _⟩))
              have K3 : ∀ dd os, Calls Try.prog 30 #[.agg #[.int .i64 fn, .int .i64 fd]] (grow (redrawn wr dd) os) fun e w'' => e = .returned (.bool true) ∧ ∃ p : Regrown, w'' = grow (redrawn wr p.d) p.os := fun dd os => Calls.regrown_of (H3.out _)
              go_wp2_with fail
              refine wp_region_quiet_below (l := _) (by kernel_rfl) (by kernel_rfl) ?_
              repeat (first | go_big_quiet_step (first | (go_at_call 29; first | with_reducible exact K1 _ _ | with_reducible exact K2 _ _) | (go_at_call 30; with_reducible exact K3 _ _)))
              refine wpQuiet_nil ?_
              intro w5 hw'
              obtain ⟨⟨dq2, osq2⟩, hw''⟩ := hw'
              have hb := below_regrown wr dq2 osq2
              rw [← hw''] at hb
              have HB4 := Lib.hid (HB.out.trans (hb.mono HB.out.size))
              clear hw'' hb K1 K2 K3 m0 m1 m2 m3
              go_wp2
              go_roundw
              case rel => exact ⟨k + 1, by omega, by go_num, HG, HB4⟩
              case measure => simp [intOf]; omega
            · have k0' : (0 : Int) < (k : Int) := by omega
              have k0'' : decide ((0 : Int) < (k : Int)) = true := decide_eq_true k0'
              have k0n : decide (0 < k) = true := decide_eq_true (by omega)
              obtain ⟨j, hj⟩ : ∃ j, k = j + 1 := ⟨k - 1, by omega⟩
              have hjx : (k : Int) - 1 = (j : Int) := by omega
              have hjl : j < L.length := by omega
              have hjl' : (j : Int) < (L.length : Int) := by omega
              have HOk := Lib.hid (show okC L k = ltS L[j].1 S by rw [HOk.out, hj, Nat.add_sub_cancel, getC hjl]; rfl)
              obtain ⟨b', off', eb, hl2, hc⟩ := HR2.out (by omega)
              injection eb with eb
              injection eb with eb1 eb2 _
              subst eb1; subst eb2
              obtain ⟨e0, _⟩ := hc j hjl
              obtain ⟨P, hP⟩ : ∃ P, L[j].1 = P := ⟨_, rfl⟩
              rw [hP] at e0 HOk
              unfold ltS at HOk
              have hle := bytes_le S.toList P.toList
              clear hc hP hj k0
              have e1 := cell_regrown e0
              cases q : Op.bytesLess P.toList S.toList
              · rw [q] at HOk hle
                have HF := Lib.hid (HBad.out HOk.out)
                clear HOk HK2 HBad HK
                have m0 := cell_regrown c0
                have m1 := cell_regrown c1
                have m2 := cell_regrown c2
                have m3 := cell_regrown c3
                have K1 : ∀ dd os, Calls Try.prog 29 #[.string S] (grow (redrawn wr dd) os) fun e w'' => e = .returned (.bool true) ∧ ∃ p : Regrown, w'' = grow (redrawn wr p.d) p.os := fun dd os => Calls.regrown_of ((H1.out _).mono (fun e w' h => ⟨h.1, h.2 ▸ Below.refl _ _⟩))
                have K2 : ∀ dd os, Calls Try.prog 29 #[.string T] (grow (redrawn wr dd) os) fun e w'' => e = .returned (.bool true) ∧ ∃ p : Regrown, w'' = grow (redrawn wr p.d) p.os := fun dd os => Calls.regrown_of ((H2.out _).mono (fun e w' h => ⟨h.1, h.2 ▸ Below.refl _ _⟩))
                have K3 : ∀ dd os, Calls Try.prog 30 #[.agg #[.int .i64 fn, .int .i64 fd]] (grow (redrawn wr dd) os) fun e w'' => e = .returned (.bool true) ∧ ∃ p : Regrown, w'' = grow (redrawn wr p.d) p.os := fun dd os => Calls.regrown_of (H3.out _)
                go_wp2_with fail
                refine wp_region_quiet_below (l := _) (by kernel_rfl) (by kernel_rfl) ?_
                repeat (first | go_big_quiet_step (first | (go_at_call 29; first | with_reducible exact K1 _ _ | with_reducible exact K2 _ _) | (go_at_call 30; with_reducible exact K3 _ _)))
                refine wpQuiet_nil ?_
                intro w5 hw'
                obtain ⟨⟨dq2, osq2⟩, hw''⟩ := hw'
                have hb := below_regrown wr dq2 osq2
                rw [← hw''] at hb
                have HB4 := Lib.hid (HB.out.trans (hb.mono HB.out.size))
                clear hw'' hb K1 K2 K3 m0 m1 m2 m3
                go_wp2
                go_ret
                exact ⟨ret_bool (by rw [HF.out]), HB4.out⟩
              · rw [q] at HOk hle
                have HG := Lib.hid (HK2.out HOk.out)
                clear HOk HK2 HBad HK
                have m0 := cell_regrown c0
                have m1 := cell_regrown c1
                have m2 := cell_regrown c2
                have m3 := cell_regrown c3
                have K1 : ∀ dd os, Calls Try.prog 29 #[.string S] (grow (redrawn wr dd) os) fun e w'' => e = .returned (.bool true) ∧ ∃ p : Regrown, w'' = grow (redrawn wr p.d) p.os := fun dd os => Calls.regrown_of ((H1.out _).mono (fun e w' h => ⟨h.1, h.2 ▸ Below.refl _ _⟩))
                have K2 : ∀ dd os, Calls Try.prog 29 #[.string T] (grow (redrawn wr dd) os) fun e w'' => e = .returned (.bool true) ∧ ∃ p : Regrown, w'' = grow (redrawn wr p.d) p.os := fun dd os => Calls.regrown_of ((H2.out _).mono (fun e w' h => ⟨h.1, h.2 ▸ Below.refl _ _⟩))
                have K3 : ∀ dd os, Calls Try.prog 30 #[.agg #[.int .i64 fn, .int .i64 fd]] (grow (redrawn wr dd) os) fun e w'' => e = .returned (.bool true) ∧ ∃ p : Regrown, w'' = grow (redrawn wr p.d) p.os := fun dd os => Calls.regrown_of (H3.out _)
                go_wp2_with fail
                refine wp_region_quiet_below (l := _) (by kernel_rfl) (by kernel_rfl) ?_
                repeat (first | go_big_quiet_step (first | (go_at_call 29; first | with_reducible exact K1 _ _ | with_reducible exact K2 _ _) | (go_at_call 30; with_reducible exact K3 _ _)))
                refine wpQuiet_nil ?_
                intro w5 hw'
                obtain ⟨⟨dq2, osq2⟩, hw''⟩ := hw'
                have hb := below_regrown wr dq2 osq2
                rw [← hw''] at hb
                have HB4 := Lib.hid (HB.out.trans (hb.mono HB.out.size))
                clear hw'' hb K1 K2 K3 m0 m1 m2 m3
                go_wp2
                go_roundw
                case rel => exact ⟨k + 1, by omega, by go_num, HG, HB4⟩
                case measure => simp [intOf]; omega
    · have h' : ¬ (k : Int) < (L.length : Int) := by omega
      have HE := Lib.hid (show codesB L = true by rw [codes_end (fun i hi => HK.out i (by omega))]; exact decide_eq_true (by omega))
      go_wp2
      go_ret
      exact ⟨ret_bool (by rw [HE.out]), HB.out⟩
end Go.Proofs.Ytelahgmnkhkgkaa
