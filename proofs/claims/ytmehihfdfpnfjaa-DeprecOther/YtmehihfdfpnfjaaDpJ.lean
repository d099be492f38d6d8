/- After of the packages deprec and accountingref30. Written by wip/mk_dpg.py. -/
import Derived.Test.YtmehihfdfpnfjaaDpI
namespace Go.Proofs.Ytmehihfdfpnfjaa
open Go.RowKit Go.Sort
set_option linter.unusedVariables false
set_option linter.unusedSimpArgs false

def afE (m c s p a b : Int) (us : List Int) (j : Int) : Int := if ckE m c s p a b us = 0 then (if 0 ≤ j ∧ j ≤ p then 0 else 3) else ckE m c s p a b us
def afB (m c s p a b : Int) (us : List Int) (j : Int) : Int := if ckE m c s p a b us = 0 then (if 0 ≤ j ∧ j ≤ p then c - ((scL m c s p a b us).take j.toNat).sum else 0) else 0
theorem row_take {w : World} {A : Option Addr} {l : List Int} (h : Row w A l) (k : Nat) : Row w A (l.take k) := by
  refine ⟨fun h0 => ?_, fun z hz => h.2 z (List.mem_of_mem_take hz)⟩
  have h0' : 0 < l.length := by rw [List.length_take] at h0; omega
  obtain ⟨b, off, e, hl, hc⟩ := h.1 h0'
  refine ⟨b, off, e, hl, fun i hi => ?_⟩
  have hi' : i < l.length := by rw [List.length_take] at hi; omega
  rw [hc i hi', List.getElem_take]
theorem ScF.fit {c s p : Int} {l : List Int} (h : ScF c s p l) (h0 : s ≤ c) (h1 : c - s ≤ 1000000000000) (k : Nat) : fit (l.take k).sum = (l.take k).sum ∧ fits (l.take k).sum = true := by
  have := h.le k
  have hf : fits (l.take k).sum = true := fits_of (by omega) (by omega)
  exact ⟨by unfold Proofs.Ytmehihfdfpnfjaa.fit; rw [hf]; rfl, hf⟩
theorem schedule_good (m c s p a b : Int) (A : Option Addr) (uc : Nat) (us : List Int) (w : World) (h : PlF w m c s p a b A us) (hn : us.length ≤ 250) (hk : ckE m c s p a b us = 0) :
    Calls Try.prog 12 #[.agg #[.int .i64 m, .int .i64 c, .int .i64 s, .int .i64 p, .int .i64 a, .int .i64 b, .slice A us.length uc]] w fun e w' => OrdS m c s p us ∧ ∃ A, e = .returned (.tuple #[.slice A (scL m c s p a b us).length (scL m c s p a b us).length, .int .i64 0]) ∧ Row w' A (scL m c s p a b us) ∧ Below w.heap.size w w' := by
  refine (schedule_any m c s p a b A uc us w h hn).mono ?_
  rintro e w' ⟨h1, A2, rfl, h2, h3⟩
  exact ⟨h1 hk, A2, by rw [hk], h2, h3⟩
/-- what After returns. -/
def AfQ (m c s p a b : Int) (us : List Int) (j : Int) (w : World) (e : Ending) (w' : World) : Prop :=
  (ckE m c s p a b us = 0 → OrdS m c s p us) ∧ e = .returned (.tuple #[.int .i64 (afB m c s p a b us j), .int .i64 (afE m c s p a b us j)]) ∧ Below w.heap.size w w'
def RfQ (m c s p a b : Int) (us : List Int) (j : Int) (w : World) (e : Ending) (w' : World) : Prop :=
  e = .returned (.tuple #[.int .i64 (afB m c s p a b us j), .int .i64 (afE m c s p a b us j)]) ∧ Below w.heap.size w w'
set_option maxRecDepth 100000 in
set_option maxHeartbeats 2000000 in
theorem after_any (m c s p a b : Int) (A : Option Addr) (uc : Nat) (us : List Int) (j : Int) (w : World) (h : PlF w m c s p a b A us) (hn : us.length ≤ 250) (hj : r64 j) :
    Calls Try.prog 15 #[.agg #[.int .i64 m, .int .i64 c, .int .i64 s, .int .i64 p, .int .i64 a, .int .i64 b, .slice A us.length uc], .int .i64 j] w (AfQ m c s p a b us j w) := by
  have HP := Lib.hid (Q7.alloc w (.int .i64 m) (.int .i64 c) (.int .i64 s) (.int .i64 p) (.int .i64 a) (.int .i64 b) (.slice A us.length uc) 26)
  have HB0 := Lib.hid ((Below.refl w.heap.size w).alloc (Nat.le_refl _) (Obj.cells #[.int .i64 m, .int .i64 c, .int .i64 s, .int .i64 p, .int .i64 a, .int .i64 b, .slice A us.length uc] 26))
  have HC := Lib.hid (schedule_any m c s p a b A uc us _ (h.below ((Below.refl w.heap.size w).alloc (Nat.le_refl _) (Obj.cells #[.int .i64 m, .int .i64 c, .int .i64 s, .int .i64 p, .int .i64 a, .int .i64 b, .slice A us.length uc] 26))) hn)
  have HPl := Lib.hid (h.below ((Below.refl w.heap.size w).alloc (Nat.le_refl _) (Obj.cells #[.int .i64 m, .int .i64 c, .int .i64 s, .int .i64 p, .int .i64 a, .int .i64 b, .slice A us.length uc] 26)))
  clear h
  by_cases hk : ckE m c s p a b us = 0
  case neg =>
    have HS := Lib.hid (scL_bad hk)
    have HV := Lib.hid (show afB m c s p a b us j = 0 ∧ afE m c s p a b us j = ckE m c s p a b us by unfold afB afE; rw [if_neg hk, if_neg hk]; exact ⟨rfl, rfl⟩)
    have HK := Lib.hid hk
    have hk' : (ckE m c s p a b us != 0) = true := by simpa using hk
    unfold ScQ at HC
    rw [HS.out] at HC
    unfold AfQ
    rw [HV.out.1, HV.out.2]
    generalize ckE m c s p a b us = er at *
    clear hk
    go_enter Try.func15, Try.ntmps15
    have x0 := HP.out.c0
    have x1 := HP.out.c1
    have x2 := HP.out.c2
    have x3 := HP.out.c3
    have x4 := HP.out.c4
    have x5 := HP.out.c5
    have x6 := HP.out.c6
    go_wp2_with fail
    refine HC.out.mono ?_
    rintro e w1 ⟨ho, A2, rfl, h1, h2⟩
    clear x0 x1 x2 x3 x4 x5 x6
    have HB1 := Lib.hid (HB0.out.trans (h2.mono HB0.out.size))
    clear h1 h2 HP HB0 HC ho
    go_wp2
    go_ret2
    exact ⟨fun q => absurd q HK.out, rfl, HB1.out⟩
  have g := good_of hk
  have g1 := g.sc; have g2 := g.c2; have g3 := g.s0; have g4 := g.p1; have g5 := g.p2; have g6 := g.c1
  have HK := Lib.hid hk
  have HC := Lib.hid (schedule_good m c s p a b A uc us _ HPl.out hn hk)
  by_cases hr : 0 ≤ j ∧ j ≤ p
  case neg =>
    have HV := Lib.hid (show afB m c s p a b us j = 0 ∧ afE m c s p a b us j = 3 by unfold afB afE; rw [if_pos hk, if_pos hk, if_neg hr, if_neg hr]; exact ⟨rfl, rfl⟩)
    skip
    unfold AfQ
    rw [HV.out.1, HV.out.2]
    have HI := Lib.hid (fun W => isWithin_any j 0 p W)
    rw [show inB j 0 p = false by unfold inB; simp; omega] at HI
    · skip
      clear hk g
      go_enter Try.func15, Try.ntmps15
      have x0 := HP.out.c0
      have x1 := HP.out.c1
      have x2 := HP.out.c2
      have x3 := HP.out.c3
      have x4 := HP.out.c4
      have x5 := HP.out.c5
      have x6 := HP.out.c6
      go_wp2_with fail
      refine HC.out.mono ?_
      rintro e w1 ⟨ho, A2, rfl, h1, h2⟩
      clear x0 x1 x2 x3 x4 x5 x6
      have HP1 := Lib.hid (HP.out.below h2)
      have HB1 := Lib.hid (HB0.out.trans (h2.mono HB0.out.size))
      have HO := Lib.hid ho
      clear h1 h2 HP HB0 HC ho
      have x0 := HP1.out.c0
      have x1 := HP1.out.c1
      have x2 := HP1.out.c2
      have x3 := HP1.out.c3
      have x4 := HP1.out.c4
      have x5 := HP1.out.c5
      have x6 := HP1.out.c6
      go_wp2_with fail
      refine (HI.out _).mono ?_
      rintro e w_ ⟨rfl, rfl⟩
      go_wp2
      go_ret2
      exact ⟨fun _ => HO.out, rfl, HB1.out⟩
  obtain ⟨k, rfl⟩ : ∃ k : Nat, j = k := ⟨j.toNat, by omega⟩
  have hkp : (k : Int) ≤ p := hr.2
  have HV := Lib.hid (show afB m c s p a b us k = c - ((scL m c s p a b us).take k).sum ∧ afE m c s p a b us k = 0 by unfold afB afE; rw [if_pos hk, if_pos hk, if_pos hr, if_pos hr]; exact ⟨rfl, rfl⟩)
  have HI := Lib.hid (fun W => isWithin_any (k : Int) 0 p W)
  rw [in_yes hr.1 hr.2] at HI
  have HSc := Lib.hid (fun ho => scF_of hk ho)
  unfold AfQ
  rw [HV.out.1, HV.out.2]
  generalize scL m c s p a b us = l at *
  clear hk g hr
  go_enter Try.func15, Try.ntmps15
  have x0 := HP.out.c0
  have x1 := HP.out.c1
  have x2 := HP.out.c2
  have x3 := HP.out.c3
  have x4 := HP.out.c4
  have x5 := HP.out.c5
  have x6 := HP.out.c6
  go_wp2_with fail
  refine HC.out.mono ?_
  rintro e w1 ⟨ho, A2, rfl, h1, h2⟩
  clear x0 x1 x2 x3 x4 x5 x6
  have HP1 := Lib.hid (HP.out.below h2)
  have HB1 := Lib.hid (HB0.out.trans (h2.mono HB0.out.size))
  have HO := Lib.hid ho
  have hf := HSc.out HO.out
  have hl := hf.len
  have hle := hf.le k
  obtain ⟨hft1, hft2⟩ := hf.fit g1 (by omega) k
  obtain ⟨bA, oA, rfl, hbl, hcl⟩ := h1.1 (by omega)
  have hkl : k ≤ l.length := by omega
  have hkl2 : (k : Int) ≤ (l.length : Int) := by omega
  have HS := Lib.hid (sum_any (some ⟨bA, oA, none⟩) l.length (l.take k) w1 (row_take h1 k) (by rw [List.length_take]; omega))
  rw [hft1, hft2, show (l.take k).length = k by rw [List.length_take]; omega] at HS
  obtain ⟨sm, hsm⟩ : ∃ x, (l.take k).sum = x := ⟨_, rfl⟩
  have HSm := Lib.hid hsm
  rw [hsm] at HS hle
  clear hsm
  obtain ⟨hle1, hle2⟩ := hle
  clear h1 h2 HP HB0 HC ho hf hft1 hft2 hcl hbl HSc hl
  have x0 := HP1.out.c0
  have x1 := HP1.out.c1
  have x2 := HP1.out.c2
  have x3 := HP1.out.c3
  have x4 := HP1.out.c4
  have x5 := HP1.out.c5
  have x6 := HP1.out.c6
  go_wp2_with fail
  refine (HI.out _).mono ?_
  rintro e w_ ⟨rfl, rfl⟩
  go_wp2_with fail
  refine HS.out.mono ?_
  rintro e w_ ⟨rfl, rfl⟩
  go_wp2
  go_ret2
  exact ⟨fun _ => HO.out, by rw [HSm.out]; rfl, HB1.out⟩
set_option maxRecDepth 100000 in
set_option maxHeartbeats 2000000 in
theorem rAfter_any (m c s p a b : Int) (A : Option Addr) (uc : Nat) (us : List Int) (j : Int) (w : World) (h : PlF w m c s p a b A us) (hn : us.length ≤ 250) (hj : r64 j) (ho : ckE m c s p a b us = 0 → OrdS m c s p us) :
    Calls Try.prog 16 #[.agg #[.int .i64 m, .int .i64 c, .int .i64 s, .int .i64 p, .int .i64 a, .int .i64 b, .slice A us.length uc], .int .i64 j] w (RfQ m c s p a b us j w) := by
  have HP := Lib.hid (Q7.alloc w (.int .i64 m) (.int .i64 c) (.int .i64 s) (.int .i64 p) (.int .i64 a) (.int .i64 b) (.slice A us.length uc) 26)
  have HB0 := Lib.hid ((Below.refl w.heap.size w).alloc (Nat.le_refl _) (Obj.cells #[.int .i64 m, .int .i64 c, .int .i64 s, .int .i64 p, .int .i64 a, .int .i64 b, .slice A us.length uc] 26))
  have HC := Lib.hid (rSchedule_any m c s p a b A uc us _ (h.below ((Below.refl w.heap.size w).alloc (Nat.le_refl _) (Obj.cells #[.int .i64 m, .int .i64 c, .int .i64 s, .int .i64 p, .int .i64 a, .int .i64 b, .slice A us.length uc] 26))) hn ho)
  clear h
  by_cases hk : ckE m c s p a b us = 0
  case neg =>
    have HS := Lib.hid (scL_bad hk)
    have HV := Lib.hid (show afB m c s p a b us j = 0 ∧ afE m c s p a b us j = ckE m c s p a b us by unfold afB afE; rw [if_neg hk, if_neg hk]; exact ⟨rfl, rfl⟩)
    have HK := Lib.hid hk
    have hk' : (ckE m c s p a b us != 0) = true := by simpa using hk
    unfold RcQ at HC
    rw [HS.out] at HC
    unfold RfQ
    rw [HV.out.1, HV.out.2]
    generalize ckE m c s p a b us = er at *
    clear hk ho
    go_enter Try.func16, Try.ntmps16
    have x0 := HP.out.c0
    have x1 := HP.out.c1
    have x2 := HP.out.c2
    have x3 := HP.out.c3
    have x4 := HP.out.c4
    have x5 := HP.out.c5
    have x6 := HP.out.c6
    go_wp2_with fail
    refine HC.out.mono ?_
    rintro e w1 ⟨A2, k2, rfl, h1, h2⟩
    clear x0 x1 x2 x3 x4 x5 x6
    have HB1 := Lib.hid (HB0.out.trans (h2.mono HB0.out.size))
    clear h1 h2 HP HB0 HC
    go_wp2
    go_ret2
    exact ⟨rfl, HB1.out⟩
  have g := good_of hk
  have g1 := g.sc; have g2 := g.c2; have g3 := g.s0; have g4 := g.p1; have g5 := g.p2; have g6 := g.c1
  have HK := Lib.hid hk
  by_cases hr : 0 ≤ j ∧ j ≤ p
  case neg =>
    have HV := Lib.hid (show afB m c s p a b us j = 0 ∧ afE m c s p a b us j = 3 by unfold afB afE; rw [if_pos hk, if_pos hk, if_neg hr, if_neg hr]; exact ⟨rfl, rfl⟩)
    unfold RcQ at HC; rw [hk] at HC
    unfold RfQ
    rw [HV.out.1, HV.out.2]
    rcases (show j < 0 ∨ (¬ j < 0 ∧ p < j) by omega) with hr | ⟨hr, hr2⟩
    · have q1 : decide (j < 0) = true := decide_eq_true hr
      clear hk g ho
      go_enter Try.func16, Try.ntmps16
      have x0 := HP.out.c0
      have x1 := HP.out.c1
      have x2 := HP.out.c2
      have x3 := HP.out.c3
      have x4 := HP.out.c4
      have x5 := HP.out.c5
      have x6 := HP.out.c6
      go_wp2_with fail
      refine HC.out.mono ?_
      rintro e w1 ⟨A2, k2, rfl, h1, h2⟩
      clear x0 x1 x2 x3 x4 x5 x6
      have HP1 := Lib.hid (HP.out.below h2)
      have HB1 := Lib.hid (HB0.out.trans (h2.mono HB0.out.size))
      
      clear h1 h2 HP HB0 HC
      have x0 := HP1.out.c0
      have x1 := HP1.out.c1
      have x2 := HP1.out.c2
      have x3 := HP1.out.c3
      have x4 := HP1.out.c4
      have x5 := HP1.out.c5
      have x6 := HP1.out.c6
      go_wp2
      go_ret2
      exact ⟨rfl, HB1.out⟩
    · have q1 : decide (j < 0) = false := decide_eq_false hr
      have q2 : decide (p < j) = true := decide_eq_true hr2
      clear hk g ho
      go_enter Try.func16, Try.ntmps16
      have x0 := HP.out.c0
      have x1 := HP.out.c1
      have x2 := HP.out.c2
      have x3 := HP.out.c3
      have x4 := HP.out.c4
      have x5 := HP.out.c5
      have x6 := HP.out.c6
      go_wp2_with fail
      refine HC.out.mono ?_
      rintro e w1 ⟨A2, k2, rfl, h1, h2⟩
      clear x0 x1 x2 x3 x4 x5 x6
      have HP1 := Lib.hid (HP.out.below h2)
      have HB1 := Lib.hid (HB0.out.trans (h2.mono HB0.out.size))
      
      clear h1 h2 HP HB0 HC
      have x0 := HP1.out.c0
      have x1 := HP1.out.c1
      have x2 := HP1.out.c2
      have x3 := HP1.out.c3
      have x4 := HP1.out.c4
      have x5 := HP1.out.c5
      have x6 := HP1.out.c6
      go_wp2
      go_ret2
      exact ⟨rfl, HB1.out⟩
  obtain ⟨k, rfl⟩ : ∃ k : Nat, j = k := ⟨j.toNat, by omega⟩
  have hkp : (k : Int) ≤ p := hr.2
  have HV := Lib.hid (show afB m c s p a b us k = c - ((scL m c s p a b us).take k).sum ∧ afE m c s p a b us k = 0 by unfold afB afE; rw [if_pos hk, if_pos hk, if_pos hr, if_pos hr]; exact ⟨rfl, rfl⟩)
  have q1 : decide ((k : Int) < 0) = false := decide_eq_false (by omega)
  have q2 : decide (p < (k : Int)) = false := decide_eq_false (by omega)
  have hf := scF_of hk (ho hk)
  have HF := Lib.hid hf
  unfold RcQ at HC
  rw [hk] at HC
  unfold RfQ
  rw [HV.out.1, HV.out.2]
  generalize scL m c s p a b us = l at *
  have HLe := Lib.hid hf.len
  clear hk g hr ho hf
  go_enter Try.func16, Try.ntmps16
  have x0 := HP.out.c0
  have x1 := HP.out.c1
  have x2 := HP.out.c2
  have x3 := HP.out.c3
  have x4 := HP.out.c4
  have x5 := HP.out.c5
  have x6 := HP.out.c6
  go_wp2_with fail
  refine HC.out.mono ?_
  rintro e w1 ⟨A2, k2, rfl, h1, h2⟩
  clear x0 x1 x2 x3 x4 x5 x6
  have HP1 := Lib.hid (HP.out.below h2)
  have HB1 := Lib.hid (HB0.out.trans (h2.mono HB0.out.size))
  have HR := Lib.hid h1
  clear h1 h2 HP HB0 HC
  have x0 := HP1.out.c0
  have x1 := HP1.out.c1
  have x2 := HP1.out.c2
  have x3 := HP1.out.c3
  have x4 := HP1.out.c4
  have x5 := HP1.out.c5
  have x6 := HP1.out.c6
  go_wp2
  go_loop [8, 9] (fun bk x => ∃ i : Nat, i ≤ k ∧ x = .int .i64 i ∧ bk = .int .i64 (c - (l.take i).sum)) (fun _ x => k - (intOf x).toNat)
  case atStart => exact ⟨0, Nat.zero_le _, rfl, by simp⟩
  case round =>
    obtain ⟨i, hi, rfl, rfl⟩ := hrel
    by_cases hik : i < k
    · have hik' : (i : Int) < (k : Int) := by omega
      have hil : i < l.length := by have := HLe.out; omega
      have hil' : (i : Int) < (l.length : Int) := by omega
      obtain ⟨bA, oA, rfl, hc⟩ := HR.out.at_ hil
      have HSn := Lib.hid (sum_snoc l hil)
      have b0 := HF.out.le i
      have b1 := HF.out.at hil
      have b2 := HF.out.le (i + 1)
      rw [HSn.out] at b2
      generalize (l.take i).sum = sm at *
      generalize l[i] = z at *
      obtain ⟨b01, b02⟩ := b0
      obtain ⟨b11, b12⟩ := b1
      obtain ⟨b21, b22⟩ := b2
      obtain ⟨bk, hbk⟩ : ∃ x, c - sm = x := ⟨_, rfl⟩
      have HBk := Lib.hid (show bk - z = c - (sm + z) by omega)
      rw [hbk]
      have hb1 : 0 ≤ bk := by omega
      have hb2 : bk ≤ 1000000000000 := by omega
      clear hbk
      go_wp2
      go_round
      case rel => exact ⟨i + 1, by omega, by go_num, by rw [HSn.out, ← HBk.out]⟩
      case measure => simp [intOf]; omega
    · have hik' : ¬ (i : Int) < (k : Int) := by omega
      obtain rfl : k = i := by omega
      go_wp2
      go_ret2
      exact ⟨rfl, HB1.out⟩
end Go.Proofs.Ytmehihfdfpnfjaa
