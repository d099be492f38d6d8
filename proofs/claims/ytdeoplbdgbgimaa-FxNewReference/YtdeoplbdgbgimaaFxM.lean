/- The walk of FxNewReference. Written by wip/mk_fxm.py. -/
import Derived.Test.YtdeoplbdgbgimaaFxL
namespace Go.Proofs.Ytdeoplbdgbgimaa
open Go.RowKit Go.Sort
set_option linter.unusedVariables false
set_option linter.unusedSimpArgs false

set_option maxRecDepth 100000 in
set_option maxHeartbeats 4000000 in
theorem fxNewReference_walk (base : ByteArray) (A : Option Addr) (len cap : Nat) (L : List Rt) (w : World) (hs : base.size ≤ maxLen) (h : OkA w A len L) :
    Calls Try.prog 3 #[.string base, .slice A len cap] w fun e w' => e = .returned (.bool true) ∧ Below w.heap.size w w' := by
  obtain ⟨rfl, hR, hBd, hm⟩ := h
  have hm' := hm
  unfold maxLen at hm'
  have HLg := Lib.hid (fun W => large_any A L.length cap W hm)
  have HLi := Lib.hid lives_any
  by_cases g1 : 60 < L.length ∧ L.length ≤ 2000
  · rw [decide_eq_true g1.1] at HLg
    have g2 : (L.length : Int) ≤ 2000 := by omega
    go_enter Try.func3, Try.ntmps3
    go_wp2_with fail
    refine (HLg.out _).mono ?_
    rintro e w_ ⟨rfl, rfl⟩
    go_wp2_with fail
    refine (HLi.out _).mono ?_
    rintro e w1 ⟨rfl, hb⟩
    have HBw1 := Lib.hid hb
    clear hb
    go_wp2
    go_ret
    exact ⟨rfl, HBw1.out⟩
  by_cases g2 : 2010 < L.length
  · rw [decide_eq_true (by omega)] at HLg
    have g3 : ¬ (L.length : Int) ≤ 2000 := by omega
    have g4 : (2010 : Int) < (L.length : Int) := by omega
    go_enter Try.func3, Try.ntmps3
    go_wp2_with fail
    refine (HLg.out _).mono ?_
    rintro e w_ ⟨rfl, rfl⟩
    go_wp2_with fail
    refine (HLi.out _).mono ?_
    rintro e w1 ⟨rfl, hb⟩
    have HBw1 := Lib.hid hb
    clear hb
    go_wp2
    go_ret
    exact ⟨rfl, HBw1.out⟩
  have g4 : ¬ (2010 : Int) < (L.length : Int) := by omega
  have HR := Lib.hid hR
  have H2 := Lib.hid (fun W hr => rCheck_any base A cap L W hs hr hBd hm)
  by_cases hc : (chk base L).2 = 0
  · have H1 := Lib.hid (fun W hr => new_ok base A cap L W hs hr hBd hm hc)
    have HC := chk_zero hc
    rw [HC] at H2
    have hok := chk_ok.1 hc
    have hl2 := hok.2.1
    have hcl : L.length ≤ 60 := by omega
    rw [decide_eq_false (by omega)] at HLg
    clear HC hok hc hBd hR
    go_enter Try.func3, Try.ntmps3
    go_wp2_with fail
    refine (HLg.out _).mono ?_
    rintro e w_ ⟨rfl, rfl⟩
    go_wp2_with fail
    refine (H1.out _ HR.out).mono ?_
    rintro e w1 ⟨B, rfl, hT, hb⟩
    have HB1 := Lib.hid hb
    have HR1 := Lib.hid (HR.out.below hb)
    have HT1 := Lib.hid hT
    clear hb hT
    go_wp2_with fail
    refine (H2.out _ HR1.out).mono ?_
    rintro e w2 ⟨rfl, hb⟩
    have HBw2 := Lib.hid (HB1.out.trans (hb.mono HB1.out.size))
    have HT2 := Lib.hid (HT1.out.below hb)
    clear hb
    obtain ⟨_, M, hq, _⟩ := HT2.out
    have HBs := Lib.hid (base_any B _ _ _ base rfl w2 hq)
    have HLn := Lib.hid (len_any B _ _ _ (L.length : Int) rfl w2 hq)
    clear hq
    have hbb : (base.toList == base.toList) = true := by simp
    go_wp2_with fail
    refine (HBs.out).mono ?_
    rintro e w_ ⟨rfl, rfl⟩
    go_wp2_with fail
    refine (HLn.out).mono ?_
    rintro e w_ ⟨rfl, rfl⟩
    go_wp2_with fail
    refine (HLi.out _).mono ?_
    rintro e w3 ⟨rfl, hb⟩
    have HBw3 := Lib.hid (HBw2.out.trans (hb.mono HBw2.out.size))
    clear hb
    go_wp2
    go_ret
    exact ⟨rfl, HBw3.out⟩
  · have H1 := Lib.hid (fun W hr => new_bad base A cap L W hs hr hBd hm hc)
    have hne : ((chk base L).2 == 0) = false := by simpa using hc
    have HN1 := Lib.hid (fun W => base_nil W)
    have HN2 := Lib.hid (fun W => len_nil W)
    obtain ⟨ci, hci⟩ : ∃ ci, (chk base L).1 = ci := ⟨_, rfl⟩
    obtain ⟨ce, hce⟩ : ∃ ce, (chk base L).2 = ce := ⟨_, rfl⟩
    rw [hci, hce] at H1 H2
    rw [hce] at hne
    clear hc hBd hR hci hce
    by_cases g5 : 60 < L.length
    · rw [decide_eq_true g5] at HLg
      have g6 : ¬ (L.length : Int) ≤ 2000 := by omega
      go_enter Try.func3, Try.ntmps3
      go_wp2_with fail
      refine (HLg.out _).mono ?_
      rintro e w_ ⟨rfl, rfl⟩
      go_wp2_with fail
      refine (H1.out _ HR.out).mono ?_
      rintro e w1 ⟨rfl, hb⟩
      have HBw1 := Lib.hid hb
      have HR1 := Lib.hid (HR.out.below hb)
      clear hb
      go_wp2_with fail
      refine (H2.out _ HR1.out).mono ?_
      rintro e w2 ⟨rfl, hb⟩
      have HBw2 := Lib.hid (HBw1.out.trans (hb.mono HBw1.out.size))
      clear hb
      go_wp2_with fail
      refine (HN1.out _).mono ?_
      rintro e w_ ⟨rfl, rfl⟩
      go_wp2_with fail
      refine (HN2.out _).mono ?_
      rintro e w_ ⟨rfl, rfl⟩
      go_wp2_with fail
      refine (HLi.out _).mono ?_
      rintro e w3 ⟨rfl, hb⟩
      have HBw3 := Lib.hid (HBw2.out.trans (hb.mono HBw2.out.size))
      clear hb
      go_wp2
      go_ret
      exact ⟨rfl, HBw3.out⟩
    · rw [decide_eq_false g5] at HLg
      go_enter Try.func3, Try.ntmps3
      go_wp2_with fail
      refine (HLg.out _).mono ?_
      rintro e w_ ⟨rfl, rfl⟩
      go_wp2_with fail
      refine (H1.out _ HR.out).mono ?_
      rintro e w1 ⟨rfl, hb⟩
      have HBw1 := Lib.hid hb
      have HR1 := Lib.hid (HR.out.below hb)
      clear hb
      go_wp2_with fail
      refine (H2.out _ HR1.out).mono ?_
      rintro e w2 ⟨rfl, hb⟩
      have HBw2 := Lib.hid (HBw1.out.trans (hb.mono HBw1.out.size))
      clear hb
      go_wp2_with fail
      refine (HN1.out _).mono ?_
      rintro e w_ ⟨rfl, rfl⟩
      go_wp2_with fail
      refine (HN2.out _).mono ?_
      rintro e w_ ⟨rfl, rfl⟩
      go_wp2_with fail
      refine (HLi.out _).mono ?_
      rintro e w3 ⟨rfl, hb⟩
      have HBw3 := Lib.hid (HBw2.out.trans (hb.mono HBw2.out.size))
      clear hb
      go_wp2
      go_ret
      exact ⟨rfl, HBw3.out⟩
end Go.Proofs.Ytdeoplbdgbgimaa
