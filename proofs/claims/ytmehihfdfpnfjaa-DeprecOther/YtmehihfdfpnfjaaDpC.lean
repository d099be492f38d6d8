/- The closures that fill a schedule, of package deprec. Written by wip/mk_dpc.py. -/
import Derived.Test.YtmehihfdfpnfjaaDpB
import Derived.Laws.CopyOwn
import Derived.Lib.SliceRun
import Derived.Deep.RegionHeld3
namespace Go.Proofs.Ytmehihfdfpnfjaa
open Go.RowKit Go.Sort
set_option linter.unusedVariables false
set_option linter.unusedSimpArgs false

/-- what is known of numbers of a plan without errors. -/
structure Nums (c s p : Int) : Prop where
  c1 : 1 ≤ c
  c2 : c ≤ 1000000000000
  s0 : 0 ≤ s
  sc : s ≤ c
  p1 : 1 ≤ p
  p2 : p ≤ 200
theorem Good.nums {m c s p a b : Int} {us : List Int} (g : Good m c s p a b us) : Nums c s p := ⟨g.c1, g.c2, g.s0, g.sc, g.p1, g.p2⟩
theorem stG_bd {c s p : Int} (g : Nums c s p) {k : Nat} (hk : (k : Int) ≤ p) : 0 ≤ stG c s p k ∧ stG c s p k ≤ 1000000000000001 := by
  have := (rE_all (D := c - s) (p := p) (by have := g.sc; omega) (by have := g.c2; have := g.s0; omega) g.p1 g.p2 hk).2.2.2
  exact this
theorem stG_call {c s p : Int} (g : Nums c s p) {k : Nat} (hk : (k : Int) + 1 ≤ p) (W : World) :
    Calls Try.prog 45 #[.int .i64 (c - s), .int .i64 ((k : Int) + 1), .int .i64 p, .int .i64 4] W fun e w' => e = .returned (.tuple #[.int .i64 (stG c s p (k + 1)), .int .i64 0]) ∧ Below W.heap.size W w' := by
  have g1 := g.sc; have g2 := g.c2; have g3 := g.s0; have g4 := g.p1; have g5 := g.p2; have g6 := g.c1
  have h := (rE_all (D := c - s) (p := p) (by omega) (by omega) g.p1 g.p2 (k := k + 1) (by omega)).1
  rw [show ((k + 1 : Nat) : Int) = (k : Int) + 1 by omega] at h
  have q := mulDiv_any (c - s) ((k : Int) + 1) p 4 W (by omega) (by omega) (by omega) (by omega) (by omega) (by omega)
  rw [h] at q
  unfold stG
  rw [show ((k + 1 : Nat) : Int) = (k : Int) + 1 by omega]
  exact q
/-- a row of integers that is being filled. -/
def FilI (g : Nat → Int) (k : Nat) (t : Nat) : Value := .int .i64 (if t < k then g (t + 1) - g t else 0)
theorem fil_next {g : Nat → Int} {k t : Nat} (h : t ≠ k) : FilI g (k + 1) t = FilI g k t := by
  unfold FilI
  by_cases z : t < k
  · rw [if_pos z, if_pos (by omega)]
  · rw [if_neg z, if_neg (by omega)]
theorem fil_at (g : Nat → Int) (k : Nat) : FilI g (k + 1) k = .int .i64 (g (k + 1) - g k) := by unfold FilI; rw [if_pos (by omega)]
theorem fil_row {g : Nat → Int} {n : Nat} {w : World} {P : Nat} (h : PaV w P n (FilI g n)) (hb : ∀ i, i < n → -9223372036854775808 ≤ g (i + 1) - g i ∧ g (i + 1) - g i ≤ 9223372036854775807) : Row w (some ⟨P, 0, none⟩) (dfL g n) := by
  refine ⟨fun _ => ⟨P, 0, rfl, h.1, fun k hk => ?_⟩, fun z hz => ?_⟩
  · have hk' : k < n := by rw [dfL_len] at hk; exact hk
    rw [Nat.zero_add, (h.2 k hk').1, dfL_at]
    unfold FilI; rw [if_pos hk']
  · obtain ⟨k, hk, rfl⟩ := List.getElem_of_mem hz
    rw [dfL_at]
    exact hb k (by rw [dfL_len] at hk; exact hk)

set_option maxRecDepth 100000 in
set_option maxHeartbeats 4000000 in
theorem straightC_any (m c s p a b : Int) (A : Option Addr) (ul uc n B P N : Nat) (w : World) (g : Nums c s p) (hn : (n : Int) = p) (hQ : Q7 w B (.int .i64 m) (.int .i64 c) (.int .i64 s) (.int .i64 p) (.int .i64 a) (.int .i64 b) (.slice A ul uc)) (hP : PaV w P n (FilI (stG c s p) 0)) (hne : B ≠ P) (hN : N ≤ P) :
    Calls Try.prog 44 #[.slice (some ⟨P, 0, none⟩) n n, .pointer (some ⟨B, 0, none⟩)] w fun e w' => e = .returned (.tuple #[]) ∧ PaV w' P n (FilI (stG c s p) n) ∧ Below N w w' := by
  have HQ := Lib.hid hQ
  have HP := Lib.hid hP
  have HG := Lib.hid g
  have HNe := Lib.hid hne
  have HZ := Lib.hid (stG_zero (c := c) (s := s) (p := p) g.p1)
  have g1 := g.sc; have g2 := g.c2; have g3 := g.s0; have g4 := g.p1; have g5 := g.p2; have g6 := g.c1
  clear hQ hP hne g
  go_enter Try.func44, Try.ntmps44
  have x0 := HQ.out.c0
  have x1 := HQ.out.c1
  have x2 := HQ.out.c2
  have x3 := HQ.out.c3
  have x4 := HQ.out.c4
  have x5 := HQ.out.c5
  have x6 := HQ.out.c6
  go_wp2
  go_loopw [3, 9] (fun bf x wr => ∃ k : Nat, k ≤ n ∧ x = .int .i64 k ∧ bf = .int .i64 (stG c s p k) ∧ Hid (PaV wr P n (FilI (stG c s p) k)) ∧ Hid (Q7 wr B (.int .i64 m) (.int .i64 c) (.int .i64 s) (.int .i64 p) (.int .i64 a) (.int .i64 b) (.slice A ul uc)) ∧ Hid (Below N w wr)) (fun _ x _ => n - (intOf x).toNat)
  case atStart => exact ⟨0, Nat.zero_le _, rfl, by rw [HZ.out], HP, HQ, Lib.hid (Below.refl _ _)⟩
  case round =>
    clear x0 x1 x2 x3 x4 x5 x6 HQ HP
    obtain ⟨k, hk, rfl, rfl, HP, HQ, HB⟩ := hrel
    by_cases h : k < n
    · have h' : (k : Int) < p := by omega
      have HM := Lib.hid (fun W => stG_call HG.out (k := k) (by omega) W)
      have HX := Lib.hid (fil_at (stG c s p) k)
      have HX2 := Lib.hid (fun t (ht : t ≠ k) => fil_next (g := stG c s p) ht)
      have b0 := stG_bd HG.out (k := k) (by omega)
      have b1 := stG_bd HG.out (k := k + 1) (by omega)
      have HE0 := Lib.hid (rfl : stG c s p (k + 1) = stG c s p (k + 1))
      obtain ⟨r1, e1⟩ : ∃ r, stG c s p (k + 1) = r := ⟨_, rfl⟩
      obtain ⟨r0, e0⟩ : ∃ r, stG c s p k = r := ⟨_, rfl⟩
      have HE1 := Lib.hid e1
      rw [e1] at HM HX b1
      rw [e0] at HX b0
      rw [e0]
      clear e1 e0
      obtain ⟨b01, b02⟩ := b0
      obtain ⟨b11, b12⟩ := b1
      have x0 := HQ.out.c0
      have x1 := HQ.out.c1
      have x2 := HQ.out.c2
      have x3 := HQ.out.c3
      have x4 := HQ.out.c4
      have x5 := HQ.out.c5
      have x6 := HQ.out.c6
      go_wp2_with fail
      refine (HM.out _).mono ?_
      rintro e w1 ⟨rfl, hb⟩
      clear x0 x1 x2 x3 x4 x5 x6
      have HP1 := Lib.hid (HP.out.below hb HP.out.1 (Nat.lt_of_lt_of_le HP.out.1 hb.size))
      have HQ1 := Lib.hid (HQ.out.below hb)
      have HB1 := Lib.hid (HB.out.trans (hb.mono (Nat.le_trans hN (Nat.le_of_lt HP.out.1))))
      clear hb HP HQ HB
      have l0 := (HP1.out.2 k h).1
      have l1 := (HP1.out.2 k h).2
      have HP2 := Lib.hid (show PaV (w1.setCell ⟨P, k, none⟩ (.int .i64 (r1 - r0))) P n (FilI (stG c s p) (k + 1)) by
        have q := HP1.out.set (g := FilI (stG c s p) (k + 1)) k h (fun t ht e => HX2.out t e)
        rwa [HX.out] at q)
      have HQ2 := Lib.hid (HQ1.out.far HNe.out (j := k) (.int .i64 (r1 - r0)))
      have HB2 := Lib.hid (HB1.out.setCell (p := ⟨P, k, none⟩) hN (.int .i64 (r1 - r0)))
      go_wp2
      go_roundw
      case rel => exact ⟨k + 1, by omega, by go_num, by rw [HE1.out], HP2, HQ2, HB2⟩
      case measure => simp [intOf]; omega
    · have h' : ¬ (k : Int) < p := by omega
      obtain rfl : n = k := by omega
      go_wp2
      go_end0
      exact ⟨rfl, HP.out, HB.out⟩

/-! Declining -/
theorem md_bd (a b c m : Int) : -9223372036854775808 ≤ (mdV a b c m).1 ∧ (mdV a b c m).1 ≤ 9223372036854775807 := by
  unfold mdV
  split
  · dsimp only; omega
  · split
    · dsimp only; omega
    · have h0 := absI_nonneg a
      have h1 := absI_nonneg b
      have h2 := absI_nonneg c
      have hq : 0 ≤ absI a * absI b / absI c := Int.ediv_nonneg (Int.mul_nonneg h0 h1) h2
      unfold mdW sgV
      generalize absI a * absI b / absI c = q at *
      generalize upB m (q % 2 != 0) (absI a * absI b % absI c) (absI c) (negB a b c) = u
      generalize negB a b c = n
      cases u <;> cases n <;> simp only [if_true, Bool.false_eq_true, if_false, Bool.true_eq_false, and_false, or_false, and_true, Int.add_zero] <;> (repeat' split) <;> dsimp only <;> omega
theorem ap_bd (a b x m : Int) : -9223372036854775808 ≤ (apV a b x m).1 ∧ (apV a b x m).1 ≤ 9223372036854775807 := by
  unfold apV
  split
  · exact md_bd _ _ _ _
  · dsimp only; omega
theorem dcG_bd {c s p : Int} (g : Nums c s p) (a b : Int) {k : Nat} (hk : (k : Int) ≤ p) : 0 ≤ dcG a b c s p k ∧ dcG a b c s p k ≤ c := by
  have := dB_bd (f := paD a b) (p := p) g.sc k hk
  have := g.s0
  unfold dcG
  omega
set_option maxRecDepth 100000 in
set_option maxHeartbeats 6000000 in
theorem decliningC_any (m c s p a b : Int) (A : Option Addr) (ul uc n B P N : Nat) (w : World) (g : Nums c s p) (ha : r64 a) (hb : r64 b) (hn : (n : Int) = p) (hQ : Q7 w B (.int .i64 m) (.int .i64 c) (.int .i64 s) (.int .i64 p) (.int .i64 a) (.int .i64 b) (.slice A ul uc)) (hP : PaV w P n (FilI (dcG a b c s p) 0)) (hne : B ≠ P) (hN : N ≤ P) :
    Calls Try.prog 46 #[.slice (some ⟨P, 0, none⟩) n n, .pointer (some ⟨B, 0, none⟩)] w fun e w' => e = .returned (.tuple #[]) ∧ PaV w' P n (FilI (dcG a b c s p) n) ∧ Below N w w' := by
  have HQ := Lib.hid hQ
  have HP := Lib.hid hP
  have HG := Lib.hid g
  have HNe := Lib.hid hne
  have HF := Lib.hid (And.intro ha hb)
  have g1 := g.sc; have g2 := g.c2; have g3 := g.s0; have g4 := g.p1; have g5 := g.p2; have g6 := g.c1
  clear hQ hP hne g ha hb
  go_enter Try.func46, Try.ntmps46
  have x0 := HQ.out.c0
  have x1 := HQ.out.c1
  have x2 := HQ.out.c2
  have x3 := HQ.out.c3
  have x4 := HQ.out.c4
  have x5 := HQ.out.c5
  have x6 := HQ.out.c6
  go_wp2
  go_loopw [3, 13] (fun bf x wr => ∃ k : Nat, k ≤ n ∧ x = .int .i64 k ∧ bf = .int .i64 (dB (paD a b) c s p k) ∧ Hid (PaV wr P n (FilI (dcG a b c s p) k)) ∧ Hid (Q7 wr B (.int .i64 m) (.int .i64 c) (.int .i64 s) (.int .i64 p) (.int .i64 a) (.int .i64 b) (.slice A ul uc)) ∧ Hid (Below N w wr)) (fun _ x _ => n - (intOf x).toNat)
  case atStart => exact ⟨0, Nat.zero_le _, rfl, rfl, HP, HQ, Lib.hid (Below.refl _ _)⟩
  case round =>
    clear x0 x1 x2 x3 x4 x5 x6 HQ HP
    obtain ⟨k, hk, rfl, rfl, HP, HQ, HB⟩ := hrel
    by_cases h : k < n
    · have h' : (k : Int) < p := by omega
      have HX := Lib.hid (fil_at (dcG a b c s p) k)
      have HX2 := Lib.hid (fun t (ht : t ≠ k) => fil_next (g := dcG a b c s p) ht)
      have b0 := dB_bd (f := paD a b) (p := p) g1 k (by omega)
      have HD := dcG_next a b c s p k
      have HN1 := (show dB (paD a b) c s p (k + 1) = dB (paD a b) c s p k - dA (paD a b (dB (paD a b) c s p k)) s (dB (paD a b) c s p k) (p - k) from rfl)
      rw [HD] at HX
      clear HD
      have HM := Lib.hid (fun W (hB : -9223372036854775808 ≤ dB (paD a b) c s p k ∧ dB (paD a b) c s p k ≤ 9223372036854775807) => applyF_any a b (dB (paD a b) c s p k) 1 W HF.out.1.1 HF.out.1.2 HF.out.2.1 HF.out.2.2 hB.1 hB.2)
      have hpa := ap_bd a b (dB (paD a b) c s p k) 1
      have epa : (apV a b (dB (paD a b) c s p k) 1).1 = paD a b (dB (paD a b) c s p k) := rfl
      rw [epa] at hpa HM
      generalize (apV a b (dB (paD a b) c s p k) 1).2 = er at HM
      have hda := dA_bd (part := paD a b (dB (paD a b) c s p k)) (s := s) (b := dB (paD a b) c s p k) (r := p - k) b0.1 (by omega)
      unfold dA at HX HN1 hda
      generalize paD a b (dB (paD a b) c s p k) = part at *
      generalize dB (paD a b) c s p k = bk at *
      obtain ⟨b01, b02⟩ := b0
      obtain ⟨hpa1, hpa2⟩ := hpa
      obtain ⟨r, er1⟩ : ∃ r, p - (k : Int) = r := ⟨_, rfl⟩
      obtain ⟨rest, er2⟩ : ∃ r, bk - s = r := ⟨_, rfl⟩
      rw [er1, er2] at HX HN1 hda
      have hr0 : 1 ≤ r := by omega
      have hr1 : r ≤ 200 := by omega
      have hrn : (r == 0) = false := by simp; omega
      have ht0 : 0 ≤ rest := by omega
      have ht1 : rest ≤ 1000000000000 := by omega
      have eq1 : rest.tdiv r = rest / r := Int.tdiv_eq_ediv_of_nonneg ht0
      have hq0 : 0 ≤ rest / r := Int.ediv_nonneg ht0 (by omega)
      have hq1 : rest / r ≤ rest := Int.ediv_le_self _ ht0
      generalize rest / r = q at *
      rcases (show ((part < q ∧ q < rest) ∨ (part < q ∧ ¬ q < rest)) ∨ ((¬ part < q ∧ part < rest) ∨ (¬ part < q ∧ ¬ part < rest)) by omega) with (⟨e1, e2⟩ | ⟨e1, e2⟩) | (⟨e1, e2⟩ | ⟨e1, e2⟩)
      · rw [show max part q = q by omega, show min rest q = q by omega] at HX HN1 hda
        obtain ⟨hda1, hda2⟩ := hda
        have HN1 := Lib.hid HN1
        have HM := Lib.hid (fun W => HM.out W ⟨by omega, by omega⟩)
        have x0 := HQ.out.c0
        have x1 := HQ.out.c1
        have x2 := HQ.out.c2
        have x3 := HQ.out.c3
        have x4 := HQ.out.c4
        have x5 := HQ.out.c5
        have x6 := HQ.out.c6
        go_wp2_with fail
        refine (HM.out _).mono ?_
        rintro e w1 ⟨rfl, hb⟩
        clear x0 x1 x2 x3 x4 x5 x6
        have HP1 := Lib.hid (HP.out.below hb HP.out.1 (Nat.lt_of_lt_of_le HP.out.1 hb.size))
        have HQ1 := Lib.hid (HQ.out.below hb)
        have HB1 := Lib.hid (HB.out.trans (hb.mono (Nat.le_trans hN (Nat.le_of_lt HP.out.1))))
        clear hb HP HQ HB
        have l0 := (HP1.out.2 k h).1
        have l1 := (HP1.out.2 k h).2
        have x0 := HQ1.out.c0
        have x1 := HQ1.out.c1
        have x2 := HQ1.out.c2
        have x3 := HQ1.out.c3
        have x4 := HQ1.out.c4
        have x5 := HQ1.out.c5
        have x6 := HQ1.out.c6
        have HP2 := Lib.hid (show PaV (w1.setCell ⟨P, k, none⟩ (.int .i64 q)) P n (FilI (dcG a b c s p) (k + 1)) by
          have q := HP1.out.set (g := FilI (dcG a b c s p) (k + 1)) k h (fun t ht e => HX2.out t e)
          rwa [HX.out] at q)
        have HQ2 := Lib.hid (HQ1.out.far HNe.out (j := k) (.int .i64 q))
        have HB2 := Lib.hid (HB1.out.setCell (p := ⟨P, k, none⟩) hN (.int .i64 q))
        go_wp2
        go_roundw
        case rel => exact ⟨k + 1, by omega, by go_num, by rw [HN1.out], HP2, HQ2, HB2⟩
        case measure => simp [intOf]; omega
      · rw [show max part q = q by omega, show min rest q = rest by omega] at HX HN1 hda
        obtain ⟨hda1, hda2⟩ := hda
        have HN1 := Lib.hid HN1
        have HM := Lib.hid (fun W => HM.out W ⟨by omega, by omega⟩)
        have x0 := HQ.out.c0
        have x1 := HQ.out.c1
        have x2 := HQ.out.c2
        have x3 := HQ.out.c3
        have x4 := HQ.out.c4
        have x5 := HQ.out.c5
        have x6 := HQ.out.c6
        go_wp2_with fail
        refine (HM.out _).mono ?_
        rintro e w1 ⟨rfl, hb⟩
        clear x0 x1 x2 x3 x4 x5 x6
        have HP1 := Lib.hid (HP.out.below hb HP.out.1 (Nat.lt_of_lt_of_le HP.out.1 hb.size))
        have HQ1 := Lib.hid (HQ.out.below hb)
        have HB1 := Lib.hid (HB.out.trans (hb.mono (Nat.le_trans hN (Nat.le_of_lt HP.out.1))))
        clear hb HP HQ HB
        have l0 := (HP1.out.2 k h).1
        have l1 := (HP1.out.2 k h).2
        have x0 := HQ1.out.c0
        have x1 := HQ1.out.c1
        have x2 := HQ1.out.c2
        have x3 := HQ1.out.c3
        have x4 := HQ1.out.c4
        have x5 := HQ1.out.c5
        have x6 := HQ1.out.c6
        have HP2 := Lib.hid (show PaV (w1.setCell ⟨P, k, none⟩ (.int .i64 rest)) P n (FilI (dcG a b c s p) (k + 1)) by
          have q := HP1.out.set (g := FilI (dcG a b c s p) (k + 1)) k h (fun t ht e => HX2.out t e)
          rwa [HX.out] at q)
        have HQ2 := Lib.hid (HQ1.out.far HNe.out (j := k) (.int .i64 rest))
        have HB2 := Lib.hid (HB1.out.setCell (p := ⟨P, k, none⟩) hN (.int .i64 rest))
        go_wp2
        go_roundw
        case rel => exact ⟨k + 1, by omega, by go_num, by rw [HN1.out], HP2, HQ2, HB2⟩
        case measure => simp [intOf]; omega
      · rw [show max part q = part by omega, show min rest part = part by omega] at HX HN1 hda
        obtain ⟨hda1, hda2⟩ := hda
        have HN1 := Lib.hid HN1
        have HM := Lib.hid (fun W => HM.out W ⟨by omega, by omega⟩)
        have x0 := HQ.out.c0
        have x1 := HQ.out.c1
        have x2 := HQ.out.c2
        have x3 := HQ.out.c3
        have x4 := HQ.out.c4
        have x5 := HQ.out.c5
        have x6 := HQ.out.c6
        go_wp2_with fail
        refine (HM.out _).mono ?_
        rintro e w1 ⟨rfl, hb⟩
        clear x0 x1 x2 x3 x4 x5 x6
        have HP1 := Lib.hid (HP.out.below hb HP.out.1 (Nat.lt_of_lt_of_le HP.out.1 hb.size))
        have HQ1 := Lib.hid (HQ.out.below hb)
        have HB1 := Lib.hid (HB.out.trans (hb.mono (Nat.le_trans hN (Nat.le_of_lt HP.out.1))))
        clear hb HP HQ HB
        have l0 := (HP1.out.2 k h).1
        have l1 := (HP1.out.2 k h).2
        have x0 := HQ1.out.c0
        have x1 := HQ1.out.c1
        have x2 := HQ1.out.c2
        have x3 := HQ1.out.c3
        have x4 := HQ1.out.c4
        have x5 := HQ1.out.c5
        have x6 := HQ1.out.c6
        have HP2 := Lib.hid (show PaV (w1.setCell ⟨P, k, none⟩ (.int .i64 part)) P n (FilI (dcG a b c s p) (k + 1)) by
          have q := HP1.out.set (g := FilI (dcG a b c s p) (k + 1)) k h (fun t ht e => HX2.out t e)
          rwa [HX.out] at q)
        have HQ2 := Lib.hid (HQ1.out.far HNe.out (j := k) (.int .i64 part))
        have HB2 := Lib.hid (HB1.out.setCell (p := ⟨P, k, none⟩) hN (.int .i64 part))
        go_wp2
        go_roundw
        case rel => exact ⟨k + 1, by omega, by go_num, by rw [HN1.out], HP2, HQ2, HB2⟩
        case measure => simp [intOf]; omega
      · rw [show max part q = part by omega, show min rest part = rest by omega] at HX HN1 hda
        obtain ⟨hda1, hda2⟩ := hda
        have HN1 := Lib.hid HN1
        have HM := Lib.hid (fun W => HM.out W ⟨by omega, by omega⟩)
        have x0 := HQ.out.c0
        have x1 := HQ.out.c1
        have x2 := HQ.out.c2
        have x3 := HQ.out.c3
        have x4 := HQ.out.c4
        have x5 := HQ.out.c5
        have x6 := HQ.out.c6
        go_wp2_with fail
        refine (HM.out _).mono ?_
        rintro e w1 ⟨rfl, hb⟩
        clear x0 x1 x2 x3 x4 x5 x6
        have HP1 := Lib.hid (HP.out.below hb HP.out.1 (Nat.lt_of_lt_of_le HP.out.1 hb.size))
        have HQ1 := Lib.hid (HQ.out.below hb)
        have HB1 := Lib.hid (HB.out.trans (hb.mono (Nat.le_trans hN (Nat.le_of_lt HP.out.1))))
        clear hb HP HQ HB
        have l0 := (HP1.out.2 k h).1
        have l1 := (HP1.out.2 k h).2
        have x0 := HQ1.out.c0
        have x1 := HQ1.out.c1
        have x2 := HQ1.out.c2
        have x3 := HQ1.out.c3
        have x4 := HQ1.out.c4
        have x5 := HQ1.out.c5
        have x6 := HQ1.out.c6
        have HP2 := Lib.hid (show PaV (w1.setCell ⟨P, k, none⟩ (.int .i64 rest)) P n (FilI (dcG a b c s p) (k + 1)) by
          have q := HP1.out.set (g := FilI (dcG a b c s p) (k + 1)) k h (fun t ht e => HX2.out t e)
          rwa [HX.out] at q)
        have HQ2 := Lib.hid (HQ1.out.far HNe.out (j := k) (.int .i64 rest))
        have HB2 := Lib.hid (HB1.out.setCell (p := ⟨P, k, none⟩) hN (.int .i64 rest))
        go_wp2
        go_roundw
        case rel => exact ⟨k + 1, by omega, by go_num, by rw [HN1.out], HP2, HQ2, HB2⟩
        case measure => simp [intOf]; omega
    · have h' : ¬ (k : Int) < p := by omega
      obtain rfl : n = k := by omega
      go_wp2
      go_end0
      exact ⟨rfl, HP.out, HB.out⟩

/-! weights: falling, and a copy of them -/
set_option maxRecDepth 100000 in
set_option maxHeartbeats 4000000 in
theorem falling_any (p : Int) (n : Nat) (w : World) (hn : (n : Int) = p) (p1 : 1 ≤ p) (p2 : p ≤ 200) :
    Calls Try.prog 36 #[.int .i64 p] w fun e w' => ∃ P, e = .returned (.slice (some ⟨P, 0, none⟩) n n) ∧ Row w' (some ⟨P, 0, none⟩) (fall p) ∧ Below w.heap.size w w' := by
  obtain ⟨i0, hi, hz0, hz1, hz2⟩ := info_parts inf_int
  subst hn
  have hn2 : n ≤ 200 := by omega
  go_enter Try.func36, Try.ntmps36
  go_wp2_with (at_make; refine wpList_make_full _ rfl _ _ 24 rfl w.heap.size 3 i0 (.int .i64 0) 1 und_ints hi hz0 hz1 _ _ _ _ n rfl rfl rfl rfl ?_ ?_ ?_ ?_)
  · rw [hz2]; omega
  · unfold maxLen; omega
  · exact Nat.le_refl _
  intro w1 hown hgr
  have HL0 := Lib.hid (PaV.made (w := w1) (base := w.heap.size) (P := w.heap.size) (n := n) (T := 3) (z := .int .i64 0) (by rw [Nat.mul_one]; exact hown))
  have HB0 := Lib.hid (show Below w.heap.size w w1 from (Below.refl _ _).grown hgr (Nat.le_refl _) (by simp))
  clear hown hgr
  go_wp2_with fail
  go_loopw [8] (fun x wr => ∃ k : Nat, k ≤ n ∧ x = .int .i64 k ∧ Hid (PaV wr w.heap.size n (fun t => .int .i64 (if t < k then (n : Int) - (t : Int) else 0))) ∧ Hid (Below w.heap.size w wr)) (fun x _ => n - (intOf x).toNat)
  case atStart => exact ⟨0, Nat.zero_le _, rfl, Lib.hid (HL0.out.congr fun t _ => by simp), HB0⟩
  case round =>
    obtain ⟨k, hk, rfl, HL, HB⟩ := hrel
    by_cases h : k < n
    · have h' : (k : Int) < (n : Int) := by omega
      have l0 := (HL.out.2 k h).1
      have l1 := (HL.out.2 k h).2
      have HL2 := Lib.hid (show PaV (wr.setCell ⟨w.heap.size, k, none⟩ (.int .i64 ((n : Int) - (k : Int)))) w.heap.size n (fun t => .int .i64 (if t < k + 1 then (n : Int) - (t : Int) else 0)) by
        have q := HL.out.set (g := fun t => .int .i64 (if t < k + 1 then (n : Int) - (t : Int) else 0)) k h (fun t ht e => by by_cases z : t < k; simp [z, show t < k + 1 by omega]; simp [z, show ¬ t < k + 1 by omega])
        simpa using q)
      have HB2 := Lib.hid (HB.out.setCell (p := ⟨w.heap.size, k, none⟩) (Nat.le_refl _) (.int .i64 ((n : Int) - (k : Int))))
      go_wp2
      go_roundw
      case rel => exact ⟨k + 1, by omega, by go_num, HL2, HB2⟩
      case measure => simp [intOf]; omega
    · have h' : ¬ (k : Int) < (n : Int) := by omega
      obtain rfl : n = k := by omega
      have HL2 := Lib.hid (show Row wr (some ⟨w.heap.size, 0, none⟩) (fall (n : Int)) from ⟨fun _ => ⟨w.heap.size, 0, rfl, HL.out.1, fun j hj => by
        have hj' : j < n := by rw [fall_len] at hj; omega
        rw [Nat.zero_add, (HL.out.2 j hj').1]
        show some (Value.int .i64 (if j < n then _ else _)) = _
        rw [if_pos hj', fall_at]⟩, fun z hz => by have := fall_mem hz; omega⟩)
      go_wp2
      go_ret
      exact ⟨_, rfl, HL2.out, HB.out⟩
theorem row_val {w : World} {A : Option Addr} {zs : List Int} (h : Row w A zs) : RowV w A (zs.map (Value.int .i64)) := by
  intro i x hx
  rw [List.getElem?_map] at hx
  by_cases hi : i < zs.length
  · obtain ⟨b, off, e, hl, hc⟩ := h.1 (by omega)
    rw [List.getElem?_eq_getElem hi] at hx
    exact ⟨b, off, e, hl, by rw [hc i hi]; simpa using hx⟩
  · rw [List.getElem?_eq_none (by omega)] at hx; simp at hx
theorem own_row {w : World} {base : Nat} {ao : Option Addr} {n cap : Nat} {zs : List Int} (h : OwnV w base 3 (.slice ao n cap) (zs.map (Value.int .i64))) (hz : ∀ z ∈ zs, -9223372036854775808 ≤ z ∧ z ≤ 9223372036854775807) : Row w ao zs := by
  have hr := h.row
  refine ⟨fun h0 => ?_, hz⟩
  obtain ⟨b, off, e, hl, _⟩ := hr 0 (.int .i64 zs[0]) (by rw [List.getElem?_map, List.getElem?_eq_getElem h0]; rfl)
  refine ⟨b, off, e, hl, fun k hk => ?_⟩
  obtain ⟨b2, off2, e2, _, c2⟩ := hr k (.int .i64 zs[k]) (by rw [List.getElem?_map, List.getElem?_eq_getElem hk]; rfl)
  rw [e] at e2
  injection e2 with e2
  injection e2 with e3 e4
  subst e3 e4
  exact c2
set_option maxRecDepth 100000 in
set_option maxHeartbeats 2000000 in
theorem clone_any (A : Option Addr) (c : Nat) (zs : List Int) (w : World) (hR : Row w A zs) (h0 : 0 < zs.length) (hl : zs.length ≤ 1000) :
    Calls Try.prog 50 #[.slice A zs.length c] w fun e w' => ∃ A' c', e = .returned (.slice A' zs.length c') ∧ Row w' A' zs ∧ Below w.heap.size w w' := by
  obtain ⟨i0, hi, hz0, hz1, hz2⟩ := info_parts inf_int
  obtain ⟨b, off, rfl, hlt, hc⟩ := hR.1 h0
  have HR := Lib.hid hR
  have HC := Lib.hid hc
  have HO := Lib.hid (World.ownsRow_made (e := 3) (size := 1) (base := w.heap.size) w #[] 0 (Nat.le_refl _) (by decide) rfl)
  have HB0 := Lib.hid ((Below.refl w.heap.size w).alloc (Nat.le_refl _) (Obj.cells #[] 3))
  have qnil : ∀ (w : World) (a : Option Addr) (n c : Nat), (binOp .eql 24 (.slice a n c) (.slice none 0 0)).run Try.prog w = .ok (.bool a.isNone) w := fun w a n c => Lib.run_eql_slice_nil w _ _ a n c 0 0 und_ints
  clear hR hc
  go_enter Try.func50, Try.ntmps50
  go_wp2_with (at_builtin; (refine wpList_append_own_at _ rfl (.tmp 5) (.tmp 6) _ rfl w.heap.size 3 i0 _ 1 8 und_ints hi hz0 hz1 hz2 rfl (by decide) _ 0 [] rfl HO.out ⟨b, off, none⟩ zs.length c (zs.map (Value.int .i64)) rfl (by simp) ?qa ?qb ?qc ?qd ?qe ?qf))
  case qa =>
    intro j u hj
    rw [List.getElem?_map] at hj
    by_cases hjl : j < zs.length
    · rw [List.getElem?_eq_getElem hjl] at hj
      rw [addr_is, World.cell?_alloc_old _ _ _ (by dsimp only; omega)]
      rw [HC.out j hjl]; simpa using hj
    · rw [List.getElem?_eq_none (by omega)] at hj; simp at hj
  case qb => intro u hu; obtain ⟨z, _, rfl⟩ := List.mem_map.1 hu; rfl
  case qc => unfold maxLen; omega
  case qd => omega
  case qe => simp
  intro v' w2 hown hgr _ _
  have hown : OwnV w2 w.heap.size 3 v' (zs.map (Value.int .i64)) := by unfold OwnV; simpa using hown
  obtain ⟨ao, cap, rfl⟩ := hown.shape
  have HRw := Lib.hid (own_row hown HR.out.2)
  have HB := Lib.hid (HB0.out.grown hgr (by simp) (by intro k hk; simp [Value.ownBlock] at hk; omega))
  rw [List.length_map]
  clear hown hgr
  go_wp2
  go_ret
  exact ⟨ao, cap, rfl, HRw.out, HB.out⟩
end Go.Proofs.Ytmehihfdfpnfjaa
