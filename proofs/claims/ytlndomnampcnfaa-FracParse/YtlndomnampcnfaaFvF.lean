/- What Parse of package accountingref03 returns; the law FracParse returns true. Written by wip/mk_fvf.py. -/
import Derived.Test.YtlndomnampcnfaaFvE
import Derived.Test.YtlndomnampcnfaaFuO
namespace Go.Proofs.Ytlndomnampcnfaa
open Go.RowKit Go.Sort
set_option linter.unusedVariables false
set_option linter.unusedSimpArgs false

theorem mk_low {x y : Nat} (hy : 0 < y) (hg : Nat.gcd x y = 1) : (x ≤ 1000000 ∧ y ≤ 1000000 → mkN x y = x ∧ mkD x y = y ∧ mkE x y = 0) ∧ (¬ (x ≤ 1000000 ∧ y ≤ 1000000) → mkN x y = 0 ∧ mkD x y = 0 ∧ mkE x y = 4) := by
  constructor
  · rintro ⟨h1, h2⟩
    exact mk_of ⟨by omega, by omega, by omega, by omega, by simpa using hg⟩ (by omega) rfl
  · intro h
    have ha : mkA (x : Int) y = x := by unfold mkA; simp [hg]
    have hb : mkB (x : Int) y = y := by unfold mkB; simp [hg]
    have hbig : Big (x : Int) y := by unfold Big; rw [ha, hb]; omega
    have hd : ¬ ((y : Int) = 0) := by omega
    refine ⟨by unfold mkN; rw [if_pos (.inr hbig)], by unfold mkD; rw [if_pos (.inr hbig)], by unfold mkE; rw [if_neg hd, if_pos hbig]⟩
theorem gcd_parts {n d : Nat} (hd : 0 < d) : Nat.gcd (n / Nat.gcd n d) (d / Nat.gcd n d) = 1 ∧ 0 < Nat.gcd n d ∧ 0 < d / Nat.gcd n d ∧ n / Nat.gcd n d ≤ n ∧ d / Nat.gcd n d ≤ d := by
  have hg : 0 < Nat.gcd n d := Nat.gcd_pos_of_pos_right _ hd
  refine ⟨by rw [Nat.gcd_div (Nat.gcd_dvd_left n d) (Nat.gcd_dvd_right n d)]; exact Nat.div_self hg, hg, Nat.div_pos (Nat.le_of_dvd hd (Nat.gcd_dvd_right n d)) hg, Nat.div_le_self _ _, Nat.div_le_self _ _⟩
theorem dn_long {n : Nat} (h : 7 < (dn n).length) : 1000000 < n := by
  have hn : n ≠ 0 := fun e => by rw [e, dn_zero] at h; simp at h
  have h1 := dn_ge hn
  have h2 : (10 : Nat) ^ 7 ≤ 10 ^ ((dn n).length - 1) := Nat.pow_le_pow_right (by omega) (by omega)
  have h3 : (10 : Nat) ^ 7 = 10000000 := by decide
  omega
/-- what the rest of Parse makes of n/d. -/
theorem rd_is (n d : Nat) : (n / Nat.gcd n d ≤ 1000000 ∧ d / Nat.gcd n d ≤ 1000000 → rdN n d = (n / Nat.gcd n d : Nat) ∧ rdD n d = (d / Nat.gcd n d : Nat) ∧ rdB n d = true) ∧ (¬ (n / Nat.gcd n d ≤ 1000000 ∧ d / Nat.gcd n d ≤ 1000000) → rdN n d = 0 ∧ rdD n d = 0 ∧ rdB n d = false) :=
  ⟨fun h => rd_some (by unfold rdO; rw [if_pos h]), fun h => rd_none (by unfold rdO; rw [if_neg h])⟩
set_option maxRecDepth 100000 in
set_option maxHeartbeats 3000000 in
theorem rParse_core (ng : Bool) (l : List UInt8) (SL ST : ByteArray) (n d : Nat) (w : World) (R : Int × Int × Int) (hsl : SL.size ≤ 80) (hst : ST.size ≤ 80) (hng : ng = true → 0 < SL.size ∧ SL.extract 1 SL.size = ST ∧ ST.size + 1 = SL.size ∧ ∀ h : 0 < SL.size, SL[0] = 45) (hng2 : ng = false → SL = ST ∧ (0 < SL.size → ∀ h : 0 < SL.size, SL[0] ≠ 45))
    (HS : ∀ W, Calls Try.prog 18 #[.string ST] W fun e w' => e = .returned (.tuple #[.string (bs (dn n)), .string (bs (dn d)), .bool true]) ∧ Below W.heap.size W w')
    (hd : 0 < d) (ln : (dn n).length ≤ 100) (ld : (dn d).length ≤ 100) (hR : R = if ng = true ∧ n = 0 then (0, 0, 5) else if rdB n d = false then (0, 0, 4) else if ng = true then (-rdN n d, rdD n d, 0) else (rdN n d, rdD n d, 0)) :
    Calls Try.prog 7 #[.string SL] w fun e w' => e = .returned (.tuple #[.agg #[.int .i64 R.1, .int .i64 R.2.1], .int .i64 R.2.2]) ∧ Below w.heap.size w w' := by
  have HS := Lib.hid HS
  obtain ⟨SN, hSN⟩ : ∃ T, bs (dn n) = T := ⟨_, rfl⟩
  obtain ⟨SD, hSD⟩ : ∃ T, bs (dn d) = T := ⟨_, rfl⟩
  have tN : Tx SN (dn n) := hSN ▸ tx_bs _
  have fE := tN.emp (b := decide (n = 0)) (decide_eq_decide.2 dn_nil)
  rw [hSN, hSD] at HS
  obtain ⟨g1, g2, g3, g4, g5⟩ := gcd_parts (n := n) hd
  have HC := Lib.hid (fun W => rCommon_any n d W ln ld)
  have hgl : (dn (Nat.gcd n d)).length ≤ 100 := Nat.le_trans (dn_mono (Nat.le_of_dvd hd (Nat.gcd_dvd_right n d))) ld
  have HD1 := Lib.hid (fun W => rDiv3_any (dn n) (Nat.gcd n d) W (dn_all n) ln g2 hgl)
  have HD2 := Lib.hid (fun W => rDiv3_any (dn d) (Nat.gcd n d) W (dn_all d) ld g2 hgl)
  simp only [dec_dn] at HD1 HD2
  have hrd := rd_is n d
  rw [hSN, hSD] at HC
  rw [hSN] at HD1
  rw [hSD] at HD2
  clear hSN hSD tN hgl ln ld
  generalize hge : Nat.gcd n d = g at *
  generalize n / g = x at *
  generalize d / g = y at *
  generalize n % g = m1 at *
  generalize d % g = m2 at *
  have hlow := mk_low g3 g1
  obtain ⟨SG, hSG⟩ : ∃ T, bs (dn g) = T := ⟨_, rfl⟩
  obtain ⟨SX, hSX⟩ : ∃ T, bs (dn x) = T := ⟨_, rfl⟩
  obtain ⟨SY, hSY⟩ : ∃ T, bs (dn y) = T := ⟨_, rfl⟩
  obtain ⟨U1, hU1⟩ : ∃ T, bs (dn m1) = T := ⟨_, rfl⟩
  obtain ⟨U2, hU2⟩ : ∃ T, bs (dn m2) = T := ⟨_, rfl⟩
  rw [hSG] at HC HD1 HD2
  rw [hSX, hU1] at HD1
  rw [hSY, hU2] at HD2
  have sX : SX.size = (dn x).length := by rw [← hSX, bs_size]
  have sY : SY.size = (dn y).length := by rw [← hSY, bs_size]
  have HX := Lib.hid hSX
  have HY := Lib.hid hSY
  clear hSG hSX hSY hU1 hU2 g1 g2 g4 g5 hge
  have HRR := Lib.hid hR
  clear hR
  cases ng with
  | true =>
    obtain ⟨z0, hex, hsz, hb0⟩ := hng rfl
    have z0' : (0 : Int) < (SL.size : Int) := by omega
    have z0'' : decide ((0 : Int) < (SL.size : Int)) = true := decide_eq_true z0'
    have z1' : (1 : Int) ≤ (SL.size : Int) := by omega
    have b45 : ((SL[0].toNat : Int) == 45) = true := by rw [hb0 z0]; rfl
    have hlt : (ST.size : Int) < (SL.size : Int) := by omega
    have hlt' : decide ((ST.size : Int) < (SL.size : Int)) = true := decide_eq_true hlt
    clear hng hng2 hsz hb0
    by_cases hz : n = 0
    · have HR := HRR
      rw [if_pos ⟨rfl, hz⟩] at HR
      rw [decide_eq_true hz] at fE
      clear HRR hlow hrd hz
      go_enter Try.func7, Try.ntmps7
      go_wp2_with fail
      have P0_1 := Lib.hid (show Cell2 (w.alloc (Obj.cells #[(.int .i64 0), (.int .i64 0)] 24)) (w.heap.size) (.int .i64 0) (.int .i64 0) from by simpa using Cell2.alloc w (.int .i64 0) (.int .i64 0) 24)
      have HB1 := Lib.hid ((Below.refl w.heap.size w).alloc (Nat.le_refl _) (Obj.cells #[(.int .i64 0), (.int .i64 0)] 24))
      generalize (w.alloc (Obj.cells #[(.int .i64 0), (.int .i64 0)] 24)) = W1 at *
      refine (HS.out _).mono ?_
      rintro e W2 ⟨rfl, hb2⟩
      have HB2 := Lib.hid (HB1.out.trans ((hb2).mono HB1.out.size))
      have P0_2 := Lib.hid (P0_1.out.below (hb2) P0_1.out.lt)
      clear HB1 P0_1 hb2
      have lP0_2 := P0_2.out.lt
      have cP0_2_0 := P0_2.out.c0
      have cP0_2_1 := P0_2.out.c1
      have fP0_2_0 := P0_2.out.f0
      have fP0_2_1 := P0_2.out.f1
      go_wp2
      refine bodyPost_ret (v := .tuple #[.agg #[(.int .i64 0), (.int .i64 0)], .int .i64 5]) ?_ rfl ⟨by rw [HR.out], ((HB2.out.setCell (p := ⟨w.heap.size, 0, none⟩) (by simp) (.int .i64 0)).setCell (p := ⟨w.heap.size, 1, none⟩) (by simp) (.int .i64 0))⟩
      have u0 := ((P0_2.out.set0 (.int .i64 0)).set1 (.int .i64 0)).c0
      have u1 := ((P0_2.out.set0 (.int .i64 0)).set1 (.int .i64 0)).c1
      rw [results_cell_tmp rfl]
      go_simp
    rw [decide_eq_false hz] at fE
    rw [if_neg (by rintro ⟨_, h⟩; exact hz h)] at HRR
    by_cases hlx : 7 < (dn x).length ∨ 7 < (dn y).length
    · have hbig : ¬ (x ≤ 1000000 ∧ y ≤ 1000000) := by
        rintro ⟨h1, h2⟩
        rcases hlx with h | h
        · have := dn_long h; omega
        · have := dn_long h; omega
      have HR := HRR
      rw [if_pos (hrd.2 hbig).2.2] at HR
      have hcl : (((7 : Int) < (SX.size : Int)) ∧ decide ((7 : Int) < (SX.size : Int)) = true) ∨ ((¬ (7 : Int) < (SX.size : Int)) ∧ decide ((7 : Int) < (SX.size : Int)) = false ∧ ((7 : Int) < (SY.size : Int)) ∧ decide ((7 : Int) < (SY.size : Int)) = true) := by
        by_cases h : 7 < SX.size
        · left; exact ⟨by omega, decide_eq_true (by omega)⟩
        · right; exact ⟨by omega, decide_eq_false (by omega), by omega, decide_eq_true (by omega)⟩
      clear HRR hlow hrd hbig hlx sX sY
      rcases hcl with ⟨l1, l2⟩ | ⟨l1, l2, l3, l4⟩
      · skip
        go_enter Try.func7, Try.ntmps7
        go_wp2_with fail
        have P0_3 := Lib.hid (show Cell2 (w.alloc (Obj.cells #[(.int .i64 0), (.int .i64 0)] 24)) (w.heap.size) (.int .i64 0) (.int .i64 0) from by simpa using Cell2.alloc w (.int .i64 0) (.int .i64 0) 24)
        have HB3 := Lib.hid ((Below.refl w.heap.size w).alloc (Nat.le_refl _) (Obj.cells #[(.int .i64 0), (.int .i64 0)] 24))
        generalize (w.alloc (Obj.cells #[(.int .i64 0), (.int .i64 0)] 24)) = W3 at *
        refine (HS.out _).mono ?_
        rintro e W4 ⟨rfl, hb4⟩
        have HB4 := Lib.hid (HB3.out.trans ((hb4).mono HB3.out.size))
        have P0_4 := Lib.hid (P0_3.out.below (hb4) P0_3.out.lt)
        clear HB3 P0_3 hb4
        go_wp2_with fail
        refine (HC.out _).mono ?_
        rintro e W5 ⟨rfl, hb5⟩
        have HB5 := Lib.hid (HB4.out.trans ((hb5).mono HB4.out.size))
        have P0_5 := Lib.hid (P0_4.out.below (hb5) P0_4.out.lt)
        clear HB4 P0_4 hb5
        go_wp2_with fail
        refine (HD1.out _).mono ?_
        rintro e W6 ⟨rfl, hb6⟩
        have HB6 := Lib.hid (HB5.out.trans ((hb6).mono HB5.out.size))
        have P0_6 := Lib.hid (P0_5.out.below (hb6) P0_5.out.lt)
        clear HB5 P0_5 hb6
        go_wp2_with fail
        refine (HD2.out _).mono ?_
        rintro e W7 ⟨rfl, hb7⟩
        have HB7 := Lib.hid (HB6.out.trans ((hb7).mono HB6.out.size))
        have P0_7 := Lib.hid (P0_6.out.below (hb7) P0_6.out.lt)
        clear HB6 P0_6 hb7
        have lP0_7 := P0_7.out.lt
        have cP0_7_0 := P0_7.out.c0
        have cP0_7_1 := P0_7.out.c1
        have fP0_7_0 := P0_7.out.f0
        have fP0_7_1 := P0_7.out.f1
        go_wp2
        refine bodyPost_ret (v := .tuple #[.agg #[(.int .i64 0), (.int .i64 0)], .int .i64 4]) ?_ rfl ⟨by rw [HR.out], ((HB7.out.setCell (p := ⟨w.heap.size, 0, none⟩) (by simp) (.int .i64 0)).setCell (p := ⟨w.heap.size, 1, none⟩) (by simp) (.int .i64 0))⟩
        have u0 := ((P0_7.out.set0 (.int .i64 0)).set1 (.int .i64 0)).c0
        have u1 := ((P0_7.out.set0 (.int .i64 0)).set1 (.int .i64 0)).c1
        rw [results_cell_tmp rfl]
        go_simp
      · skip
        go_enter Try.func7, Try.ntmps7
        go_wp2_with fail
        have P0_8 := Lib.hid (show Cell2 (w.alloc (Obj.cells #[(.int .i64 0), (.int .i64 0)] 24)) (w.heap.size) (.int .i64 0) (.int .i64 0) from by simpa using Cell2.alloc w (.int .i64 0) (.int .i64 0) 24)
        have HB8 := Lib.hid ((Below.refl w.heap.size w).alloc (Nat.le_refl _) (Obj.cells #[(.int .i64 0), (.int .i64 0)] 24))
        generalize (w.alloc (Obj.cells #[(.int .i64 0), (.int .i64 0)] 24)) = W8 at *
        refine (HS.out _).mono ?_
        rintro e W9 ⟨rfl, hb9⟩
        have HB9 := Lib.hid (HB8.out.trans ((hb9).mono HB8.out.size))
        have P0_9 := Lib.hid (P0_8.out.below (hb9) P0_8.out.lt)
        clear HB8 P0_8 hb9
        go_wp2_with fail
        refine (HC.out _).mono ?_
        rintro e W10 ⟨rfl, hb10⟩
        have HB10 := Lib.hid (HB9.out.trans ((hb10).mono HB9.out.size))
        have P0_10 := Lib.hid (P0_9.out.below (hb10) P0_9.out.lt)
        clear HB9 P0_9 hb10
        go_wp2_with fail
        refine (HD1.out _).mono ?_
        rintro e W11 ⟨rfl, hb11⟩
        have HB11 := Lib.hid (HB10.out.trans ((hb11).mono HB10.out.size))
        have P0_11 := Lib.hid (P0_10.out.below (hb11) P0_10.out.lt)
        clear HB10 P0_10 hb11
        go_wp2_with fail
        refine (HD2.out _).mono ?_
        rintro e W12 ⟨rfl, hb12⟩
        have HB12 := Lib.hid (HB11.out.trans ((hb12).mono HB11.out.size))
        have P0_12 := Lib.hid (P0_11.out.below (hb12) P0_11.out.lt)
        clear HB11 P0_11 hb12
        have lP0_12 := P0_12.out.lt
        have cP0_12_0 := P0_12.out.c0
        have cP0_12_1 := P0_12.out.c1
        have fP0_12_0 := P0_12.out.f0
        have fP0_12_1 := P0_12.out.f1
        go_wp2
        refine bodyPost_ret (v := .tuple #[.agg #[(.int .i64 0), (.int .i64 0)], .int .i64 4]) ?_ rfl ⟨by rw [HR.out], ((HB12.out.setCell (p := ⟨w.heap.size, 0, none⟩) (by simp) (.int .i64 0)).setCell (p := ⟨w.heap.size, 1, none⟩) (by simp) (.int .i64 0))⟩
        have u0 := ((P0_12.out.set0 (.int .i64 0)).set1 (.int .i64 0)).c0
        have u1 := ((P0_12.out.set0 (.int .i64 0)).set1 (.int .i64 0)).c1
        rw [results_cell_tmp rfl]
        go_simp
    have l1 : ¬ (7 : Int) < (SX.size : Int) := by omega
    have l2 : decide ((7 : Int) < (SX.size : Int)) = false := decide_eq_false l1
    have l3 : ¬ (7 : Int) < (SY.size : Int) := by omega
    have l4 : decide ((7 : Int) < (SY.size : Int)) = false := decide_eq_false l3
    have hx7 := dn_lt x
    have hy7 := dn_lt y
    have hx8 : x < 10000000 := Nat.lt_of_lt_of_le hx7 (Nat.le_trans (Nat.pow_le_pow_right (by omega) (show (dn x).length ≤ 7 by omega)) (by decide))
    have hy8 : y < 10000000 := Nat.lt_of_lt_of_le hy7 (Nat.le_trans (Nat.pow_le_pow_right (by omega) (show (dn y).length ≤ 7 by omega)) (by decide))
    have HN1 := Lib.hid (fun W => rNumber3_any (dn x) W (by omega) (dn_all x))
    have HN2 := Lib.hid (fun W => rNumber3_any (dn y) W (by omega) (dn_all y))
    rw [HX.out, dec_dn] at HN1
    rw [HY.out, dec_dn] at HN2
    have HMk := Lib.hid (fun W => rMake_any x y W (by omega) (by omega) (by omega) (by omega))
    clear hx7 hy7 hlx sX sY
    by_cases hbig : x ≤ 1000000 ∧ y ≤ 1000000
    · obtain ⟨k1, k2, k3⟩ := hlow.1 hbig
      obtain ⟨r1, r2, r3⟩ := hrd.1 hbig
      rw [k1, k2, k3] at HMk
      have HR := HRR
      rw [r3, if_neg (by simp), r1, r2] at HR
      rw [if_pos rfl] at HR
      have HNg := Lib.hid (fun W => rNeg_any (x : Int) (y : Int) W (by omega) (by omega))
      clear HRR hlow hrd k1 k2 k3 r1 r2 r3
      go_enter Try.func7, Try.ntmps7
      go_wp2_with fail
      have P0_13 := Lib.hid (show Cell2 (w.alloc (Obj.cells #[(.int .i64 0), (.int .i64 0)] 24)) (w.heap.size) (.int .i64 0) (.int .i64 0) from by simpa using Cell2.alloc w (.int .i64 0) (.int .i64 0) 24)
      have HB13 := Lib.hid ((Below.refl w.heap.size w).alloc (Nat.le_refl _) (Obj.cells #[(.int .i64 0), (.int .i64 0)] 24))
      generalize (w.alloc (Obj.cells #[(.int .i64 0), (.int .i64 0)] 24)) = W13 at *
      refine (HS.out _).mono ?_
      rintro e W14 ⟨rfl, hb14⟩
      have HB14 := Lib.hid (HB13.out.trans ((hb14).mono HB13.out.size))
      have P0_14 := Lib.hid (P0_13.out.below (hb14) P0_13.out.lt)
      clear HB13 P0_13 hb14
      go_wp2_with fail
      refine (HC.out _).mono ?_
      rintro e W15 ⟨rfl, hb15⟩
      have HB15 := Lib.hid (HB14.out.trans ((hb15).mono HB14.out.size))
      have P0_15 := Lib.hid (P0_14.out.below (hb15) P0_14.out.lt)
      clear HB14 P0_14 hb15
      go_wp2_with fail
      refine (HD1.out _).mono ?_
      rintro e W16 ⟨rfl, hb16⟩
      have HB16 := Lib.hid (HB15.out.trans ((hb16).mono HB15.out.size))
      have P0_16 := Lib.hid (P0_15.out.below (hb16) P0_15.out.lt)
      clear HB15 P0_15 hb16
      go_wp2_with fail
      refine (HD2.out _).mono ?_
      rintro e W17 ⟨rfl, hb17⟩
      have HB17 := Lib.hid (HB16.out.trans ((hb17).mono HB16.out.size))
      have P0_17 := Lib.hid (P0_16.out.below (hb17) P0_16.out.lt)
      clear HB16 P0_16 hb17
      go_wp2_with fail
      refine (HN1.out _).mono ?_
      rintro e w_ ⟨rfl, rfl⟩
      go_wp2_with fail
      refine (HN2.out _).mono ?_
      rintro e w_ ⟨rfl, rfl⟩
      go_wp2_with fail
      refine (HMk.out _).mono ?_
      rintro e W18 ⟨rfl, hb18⟩
      have HB18 := Lib.hid (HB17.out.trans ((hb18).mono HB17.out.size))
      have P0_18 := Lib.hid (P0_17.out.below (hb18) P0_17.out.lt)
      clear HB17 P0_17 hb18
      obtain ⟨PA, hPA⟩ : ∃ PA, PA = W18.heap.size := ⟨_, rfl⟩
      have HPA := Lib.hid hPA
      have hlPA : w.heap.size < PA := by rw [hPA]; exact P0_18.out.lt
      clear hPA
      have lP0_18 := P0_18.out.lt
      have cP0_18_0 := P0_18.out.c0
      have cP0_18_1 := P0_18.out.c1
      go_wp2_with fail
      clear lP0_18 cP0_18_0 cP0_18_1
      have P1_19 := Lib.hid (Cell2.alloc W18 (.int .i64 (x : Int)) (.int .i64 (y : Int)) 24)
      have HB19 := Lib.hid (HB18.out.trans (((Below.refl W18.heap.size W18).alloc (Nat.le_refl _) (Obj.cells #[(.int .i64 (x : Int)), (.int .i64 (y : Int))] 24)).mono HB18.out.size))
      have P0_19 := Lib.hid (P0_18.out.below ((Below.refl W18.heap.size W18).alloc (Nat.le_refl _) (Obj.cells #[(.int .i64 (x : Int)), (.int .i64 (y : Int))] 24)) P0_18.out.lt)
      clear HB18 P0_18
      generalize W18.alloc (Obj.cells #[(.int .i64 (x : Int)), (.int .i64 (y : Int))] 24) = W19 at *
      refine (HNg.out _).mono ?_
      rintro e W20 ⟨rfl, hb20⟩
      have HB20 := Lib.hid (HB19.out.trans ((hb20).mono HB19.out.size))
      have P0_20 := Lib.hid (P0_19.out.below (hb20) P0_19.out.lt)
      have P1_20 := Lib.hid (P1_19.out.below (hb20) P1_19.out.lt)
      clear HB19 P0_19 P1_19 hb20
      have lP0_20 := P0_20.out.lt
      have cP0_20_0 := P0_20.out.c0
      have cP0_20_1 := P0_20.out.c1
      have lP1_20 := P1_20.out.lt
      have cP1_20_0 := P1_20.out.c0
      have cP1_20_1 := P1_20.out.c1
      have fP0_20_0 := P0_20.out.f0
      have fP0_20_1 := P0_20.out.f1
      have fP1_20_0 := P1_20.out.f0
      have fP1_20_1 := P1_20.out.f1
      have hbl := ((((HB20.out.setCell (p := ⟨PA, 0, none⟩) (Nat.le_of_lt hlPA) (.int .i64 (-(x : Int)))).setCell (p := ⟨PA, 1, none⟩) (Nat.le_of_lt hlPA) (.int .i64 (y : Int))).setCell (p := ⟨w.heap.size, 0, none⟩) (Nat.le_refl _) (.int .i64 (-(x : Int)))).setCell (p := ⟨w.heap.size, 1, none⟩) (Nat.le_refl _) (.int .i64 (y : Int)))
      have hce := (((P0_20.out.far (B' := PA) (by omega) 0 (.int .i64 (-(x : Int)))).far (B' := PA) (by omega) 1 (.int .i64 (y : Int))).set0 (.int .i64 (-(x : Int)))).set1 (.int .i64 (y : Int))
      have q1 := (P0_20.out.far (B' := PA) (by omega) 0 (.int .i64 (-(x : Int)))).far (B' := PA) (by omega) 1 (.int .i64 (y : Int))
      have q2 := q1.set0 (.int .i64 (-(x : Int)))
      have hPA := HPA.out
      subst hPA
      have qa := q1.c0
      have qb := q1.c1
      have qc := q1.f0
      have qd := q1.f1
      have qe := q2.c1
      have qf := q2.f1
      have HBL := Lib.hid hbl
      have HCE := Lib.hid hce
      clear hbl hce q1 q2 HPA
      go_wp2
      refine bodyPost_ret (v := .tuple #[.agg #[.int .i64 (-(x : Int)), .int .i64 (y : Int)], .int .i64 0]) ?_ rfl ⟨by rw [HR.out], HBL.out⟩
      have u0 := HCE.out.c0
      have u1 := HCE.out.c1
      rw [results_cell_tmp rfl]
      go_simp
    · obtain ⟨k1, k2, k3⟩ := hlow.2 hbig
      obtain ⟨r1, r2, r3⟩ := hrd.2 hbig
      rw [k1, k2, k3] at HMk
      have HR := HRR
      rw [if_pos r3] at HR
      have HNg := Lib.hid (fun W => rNeg_any 0 0 W (by omega) (by omega))
      rw [show (-0 : Int) = 0 from rfl] at HNg
      clear HRR hlow hrd k1 k2 k3 r1 r2 r3
      go_enter Try.func7, Try.ntmps7
      go_wp2_with fail
      have P0_21 := Lib.hid (show Cell2 (w.alloc (Obj.cells #[(.int .i64 0), (.int .i64 0)] 24)) (w.heap.size) (.int .i64 0) (.int .i64 0) from by simpa using Cell2.alloc w (.int .i64 0) (.int .i64 0) 24)
      have HB21 := Lib.hid ((Below.refl w.heap.size w).alloc (Nat.le_refl _) (Obj.cells #[(.int .i64 0), (.int .i64 0)] 24))
      generalize (w.alloc (Obj.cells #[(.int .i64 0), (.int .i64 0)] 24)) = W21 at *
      refine (HS.out _).mono ?_
      rintro e W22 ⟨rfl, hb22⟩
      have HB22 := Lib.hid (HB21.out.trans ((hb22).mono HB21.out.size))
      have P0_22 := Lib.hid (P0_21.out.below (hb22) P0_21.out.lt)
      clear HB21 P0_21 hb22
      go_wp2_with fail
      refine (HC.out _).mono ?_
      rintro e W23 ⟨rfl, hb23⟩
      have HB23 := Lib.hid (HB22.out.trans ((hb23).mono HB22.out.size))
      have P0_23 := Lib.hid (P0_22.out.below (hb23) P0_22.out.lt)
      clear HB22 P0_22 hb23
      go_wp2_with fail
      refine (HD1.out _).mono ?_
      rintro e W24 ⟨rfl, hb24⟩
      have HB24 := Lib.hid (HB23.out.trans ((hb24).mono HB23.out.size))
      have P0_24 := Lib.hid (P0_23.out.below (hb24) P0_23.out.lt)
      clear HB23 P0_23 hb24
      go_wp2_with fail
      refine (HD2.out _).mono ?_
      rintro e W25 ⟨rfl, hb25⟩
      have HB25 := Lib.hid (HB24.out.trans ((hb25).mono HB24.out.size))
      have P0_25 := Lib.hid (P0_24.out.below (hb25) P0_24.out.lt)
      clear HB24 P0_24 hb25
      go_wp2_with fail
      refine (HN1.out _).mono ?_
      rintro e w_ ⟨rfl, rfl⟩
      go_wp2_with fail
      refine (HN2.out _).mono ?_
      rintro e w_ ⟨rfl, rfl⟩
      go_wp2_with fail
      refine (HMk.out _).mono ?_
      rintro e W26 ⟨rfl, hb26⟩
      have HB26 := Lib.hid (HB25.out.trans ((hb26).mono HB25.out.size))
      have P0_26 := Lib.hid (P0_25.out.below (hb26) P0_25.out.lt)
      clear HB25 P0_25 hb26
      obtain ⟨PA, hPA⟩ : ∃ PA, PA = W26.heap.size := ⟨_, rfl⟩
      have HPA := Lib.hid hPA
      have hlPA : w.heap.size < PA := by rw [hPA]; exact P0_26.out.lt
      clear hPA
      have lP0_26 := P0_26.out.lt
      have cP0_26_0 := P0_26.out.c0
      have cP0_26_1 := P0_26.out.c1
      go_wp2_with fail
      clear lP0_26 cP0_26_0 cP0_26_1
      have P1_27 := Lib.hid (Cell2.alloc W26 (.int .i64 0) (.int .i64 0) 24)
      have HB27 := Lib.hid (HB26.out.trans (((Below.refl W26.heap.size W26).alloc (Nat.le_refl _) (Obj.cells #[(.int .i64 0), (.int .i64 0)] 24)).mono HB26.out.size))
      have P0_27 := Lib.hid (P0_26.out.below ((Below.refl W26.heap.size W26).alloc (Nat.le_refl _) (Obj.cells #[(.int .i64 0), (.int .i64 0)] 24)) P0_26.out.lt)
      clear HB26 P0_26
      generalize W26.alloc (Obj.cells #[(.int .i64 0), (.int .i64 0)] 24) = W27 at *
      refine (HNg.out _).mono ?_
      rintro e W28 ⟨rfl, hb28⟩
      have HB28 := Lib.hid (HB27.out.trans ((hb28).mono HB27.out.size))
      have P0_28 := Lib.hid (P0_27.out.below (hb28) P0_27.out.lt)
      have P1_28 := Lib.hid (P1_27.out.below (hb28) P1_27.out.lt)
      clear HB27 P0_27 P1_27 hb28
      have lP0_28 := P0_28.out.lt
      have cP0_28_0 := P0_28.out.c0
      have cP0_28_1 := P0_28.out.c1
      have lP1_28 := P1_28.out.lt
      have cP1_28_0 := P1_28.out.c0
      have cP1_28_1 := P1_28.out.c1
      have fP0_28_0 := P0_28.out.f0
      have fP0_28_1 := P0_28.out.f1
      have fP1_28_0 := P1_28.out.f0
      have fP1_28_1 := P1_28.out.f1
      have hbl := ((((HB28.out.setCell (p := ⟨PA, 0, none⟩) (Nat.le_of_lt hlPA) (.int .i64 0)).setCell (p := ⟨PA, 1, none⟩) (Nat.le_of_lt hlPA) (.int .i64 0)).setCell (p := ⟨w.heap.size, 0, none⟩) (Nat.le_refl _) (.int .i64 0)).setCell (p := ⟨w.heap.size, 1, none⟩) (Nat.le_refl _) (.int .i64 0))
      have hce := (((P0_28.out.far (B' := PA) (by omega) 0 (.int .i64 0)).far (B' := PA) (by omega) 1 (.int .i64 0)).set0 (.int .i64 0)).set1 (.int .i64 0)
      have q1 := (P0_28.out.far (B' := PA) (by omega) 0 (.int .i64 0)).far (B' := PA) (by omega) 1 (.int .i64 0)
      have q2 := q1.set0 (.int .i64 0)
      have hPA := HPA.out
      subst hPA
      have qa := q1.c0
      have qb := q1.c1
      have qc := q1.f0
      have qd := q1.f1
      have qe := q2.c1
      have qf := q2.f1
      have HBL := Lib.hid hbl
      have HCE := Lib.hid hce
      clear hbl hce q1 q2 HPA
      go_wp2
      refine bodyPost_ret (v := .tuple #[.agg #[.int .i64 0, .int .i64 0], .int .i64 4]) ?_ rfl ⟨by rw [HR.out], HBL.out⟩
      have u0 := HCE.out.c0
      have u1 := HCE.out.c1
      rw [results_cell_tmp rfl]
      go_simp
  | false =>
    obtain ⟨rfl, hb0⟩ := hng2 rfl
    have hcs : (0 < SL.size ∧ ((0 : Int) < (SL.size : Int)) ∧ decide ((0 : Int) < (SL.size : Int)) = true ∧ ∀ h : 0 < SL.size, ((SL[0].toNat : Int) == 45) = false) ∨ ((¬ (0 : Int) < (SL.size : Int)) ∧ decide ((0 : Int) < (SL.size : Int)) = false) := by
      by_cases h : 0 < SL.size
      · left; exact ⟨h, by omega, decide_eq_true (by omega), fun h' => by rw [show ((SL[0].toNat : Int) == 45) = decide (SL[0] = 45) from byte_int (n := 45) (by omega)]; exact decide_eq_false (hb0 h h')⟩
      · right; exact ⟨by omega, decide_eq_false (by omega)⟩
    clear hng hng2 hb0 hst
    rw [if_neg (by rintro ⟨h, _⟩; cases h)] at HRR
    clear fE
    by_cases hlx : 7 < (dn x).length ∨ 7 < (dn y).length
    · have hbig : ¬ (x ≤ 1000000 ∧ y ≤ 1000000) := by
        rintro ⟨h1, h2⟩
        rcases hlx with h | h
        · have := dn_long h; omega
        · have := dn_long h; omega
      have HR := HRR
      rw [if_pos (hrd.2 hbig).2.2] at HR
      have hcl : (((7 : Int) < (SX.size : Int)) ∧ decide ((7 : Int) < (SX.size : Int)) = true) ∨ ((¬ (7 : Int) < (SX.size : Int)) ∧ decide ((7 : Int) < (SX.size : Int)) = false ∧ ((7 : Int) < (SY.size : Int)) ∧ decide ((7 : Int) < (SY.size : Int)) = true) := by
        by_cases h : 7 < SX.size
        · left; exact ⟨by omega, decide_eq_true (by omega)⟩
        · right; exact ⟨by omega, decide_eq_false (by omega), by omega, decide_eq_true (by omega)⟩
      clear HRR hlow hrd hbig hlx sX sY
      rcases hcl with ⟨l1, l2⟩ | ⟨l1, l2, l3, l4⟩
      · skip
        rcases hcs with ⟨z0, z0', z0'', b45⟩ | ⟨z0', z0''⟩
        · have b45 := b45 z0
          go_enter Try.func7, Try.ntmps7
          go_wp2_with fail
          have P0_29 := Lib.hid (show Cell2 (w.alloc (Obj.cells #[(.int .i64 0), (.int .i64 0)] 24)) (w.heap.size) (.int .i64 0) (.int .i64 0) from by simpa using Cell2.alloc w (.int .i64 0) (.int .i64 0) 24)
          have HB29 := Lib.hid ((Below.refl w.heap.size w).alloc (Nat.le_refl _) (Obj.cells #[(.int .i64 0), (.int .i64 0)] 24))
          generalize (w.alloc (Obj.cells #[(.int .i64 0), (.int .i64 0)] 24)) = W29 at *
          refine (HS.out _).mono ?_
          rintro e W30 ⟨rfl, hb30⟩
          have HB30 := Lib.hid (HB29.out.trans ((hb30).mono HB29.out.size))
          have P0_30 := Lib.hid (P0_29.out.below (hb30) P0_29.out.lt)
          clear HB29 P0_29 hb30
          go_wp2_with fail
          refine (HC.out _).mono ?_
          rintro e W31 ⟨rfl, hb31⟩
          have HB31 := Lib.hid (HB30.out.trans ((hb31).mono HB30.out.size))
          have P0_31 := Lib.hid (P0_30.out.below (hb31) P0_30.out.lt)
          clear HB30 P0_30 hb31
          go_wp2_with fail
          refine (HD1.out _).mono ?_
          rintro e W32 ⟨rfl, hb32⟩
          have HB32 := Lib.hid (HB31.out.trans ((hb32).mono HB31.out.size))
          have P0_32 := Lib.hid (P0_31.out.below (hb32) P0_31.out.lt)
          clear HB31 P0_31 hb32
          go_wp2_with fail
          refine (HD2.out _).mono ?_
          rintro e W33 ⟨rfl, hb33⟩
          have HB33 := Lib.hid (HB32.out.trans ((hb33).mono HB32.out.size))
          have P0_33 := Lib.hid (P0_32.out.below (hb33) P0_32.out.lt)
          clear HB32 P0_32 hb33
          have lP0_33 := P0_33.out.lt
          have cP0_33_0 := P0_33.out.c0
          have cP0_33_1 := P0_33.out.c1
          have fP0_33_0 := P0_33.out.f0
          have fP0_33_1 := P0_33.out.f1
          go_wp2
          refine bodyPost_ret (v := .tuple #[.agg #[(.int .i64 0), (.int .i64 0)], .int .i64 4]) ?_ rfl ⟨by rw [HR.out], ((HB33.out.setCell (p := ⟨w.heap.size, 0, none⟩) (by simp) (.int .i64 0)).setCell (p := ⟨w.heap.size, 1, none⟩) (by simp) (.int .i64 0))⟩
          have u0 := ((P0_33.out.set0 (.int .i64 0)).set1 (.int .i64 0)).c0
          have u1 := ((P0_33.out.set0 (.int .i64 0)).set1 (.int .i64 0)).c1
          rw [results_cell_tmp rfl]
          go_simp
        · skip
          go_enter Try.func7, Try.ntmps7
          go_wp2_with fail
          have P0_34 := Lib.hid (show Cell2 (w.alloc (Obj.cells #[(.int .i64 0), (.int .i64 0)] 24)) (w.heap.size) (.int .i64 0) (.int .i64 0) from by simpa using Cell2.alloc w (.int .i64 0) (.int .i64 0) 24)
          have HB34 := Lib.hid ((Below.refl w.heap.size w).alloc (Nat.le_refl _) (Obj.cells #[(.int .i64 0), (.int .i64 0)] 24))
          generalize (w.alloc (Obj.cells #[(.int .i64 0), (.int .i64 0)] 24)) = W34 at *
          refine (HS.out _).mono ?_
          rintro e W35 ⟨rfl, hb35⟩
          have HB35 := Lib.hid (HB34.out.trans ((hb35).mono HB34.out.size))
          have P0_35 := Lib.hid (P0_34.out.below (hb35) P0_34.out.lt)
          clear HB34 P0_34 hb35
          go_wp2_with fail
          refine (HC.out _).mono ?_
          rintro e W36 ⟨rfl, hb36⟩
          have HB36 := Lib.hid (HB35.out.trans ((hb36).mono HB35.out.size))
          have P0_36 := Lib.hid (P0_35.out.below (hb36) P0_35.out.lt)
          clear HB35 P0_35 hb36
          go_wp2_with fail
          refine (HD1.out _).mono ?_
          rintro e W37 ⟨rfl, hb37⟩
          have HB37 := Lib.hid (HB36.out.trans ((hb37).mono HB36.out.size))
          have P0_37 := Lib.hid (P0_36.out.below (hb37) P0_36.out.lt)
          clear HB36 P0_36 hb37
          go_wp2_with fail
          refine (HD2.out _).mono ?_
          rintro e W38 ⟨rfl, hb38⟩
          have HB38 := Lib.hid (HB37.out.trans ((hb38).mono HB37.out.size))
          have P0_38 := Lib.hid (P0_37.out.below (hb38) P0_37.out.lt)
          clear HB37 P0_37 hb38
          have lP0_38 := P0_38.out.lt
          have cP0_38_0 := P0_38.out.c0
          have cP0_38_1 := P0_38.out.c1
          have fP0_38_0 := P0_38.out.f0
          have fP0_38_1 := P0_38.out.f1
          go_wp2
          refine bodyPost_ret (v := .tuple #[.agg #[(.int .i64 0), (.int .i64 0)], .int .i64 4]) ?_ rfl ⟨by rw [HR.out], ((HB38.out.setCell (p := ⟨w.heap.size, 0, none⟩) (by simp) (.int .i64 0)).setCell (p := ⟨w.heap.size, 1, none⟩) (by simp) (.int .i64 0))⟩
          have u0 := ((P0_38.out.set0 (.int .i64 0)).set1 (.int .i64 0)).c0
          have u1 := ((P0_38.out.set0 (.int .i64 0)).set1 (.int .i64 0)).c1
          rw [results_cell_tmp rfl]
          go_simp
      · skip
        rcases hcs with ⟨z0, z0', z0'', b45⟩ | ⟨z0', z0''⟩
        · have b45 := b45 z0
          go_enter Try.func7, Try.ntmps7
          go_wp2_with fail
          have P0_39 := Lib.hid (show Cell2 (w.alloc (Obj.cells #[(.int .i64 0), (.int .i64 0)] 24)) (w.heap.size) (.int .i64 0) (.int .i64 0) from by simpa using Cell2.alloc w (.int .i64 0) (.int .i64 0) 24)
          have HB39 := Lib.hid ((Below.refl w.heap.size w).alloc (Nat.le_refl _) (Obj.cells #[(.int .i64 0), (.int .i64 0)] 24))
          generalize (w.alloc (Obj.cells #[(.int .i64 0), (.int .i64 0)] 24)) = W39 at *
          refine (HS.out _).mono ?_
          rintro e W40 ⟨rfl, hb40⟩
          have HB40 := Lib.hid (HB39.out.trans ((hb40).mono HB39.out.size))
          have P0_40 := Lib.hid (P0_39.out.below (hb40) P0_39.out.lt)
          clear HB39 P0_39 hb40
          go_wp2_with fail
          refine (HC.out _).mono ?_
          rintro e W41 ⟨rfl, hb41⟩
          have HB41 := Lib.hid (HB40.out.trans ((hb41).mono HB40.out.size))
          have P0_41 := Lib.hid (P0_40.out.below (hb41) P0_40.out.lt)
          clear HB40 P0_40 hb41
          go_wp2_with fail
          refine (HD1.out _).mono ?_
          rintro e W42 ⟨rfl, hb42⟩
          have HB42 := Lib.hid (HB41.out.trans ((hb42).mono HB41.out.size))
          have P0_42 := Lib.hid (P0_41.out.below (hb42) P0_41.out.lt)
          clear HB41 P0_41 hb42
          go_wp2_with fail
          refine (HD2.out _).mono ?_
          rintro e W43 ⟨rfl, hb43⟩
          have HB43 := Lib.hid (HB42.out.trans ((hb43).mono HB42.out.size))
          have P0_43 := Lib.hid (P0_42.out.below (hb43) P0_42.out.lt)
          clear HB42 P0_42 hb43
          have lP0_43 := P0_43.out.lt
          have cP0_43_0 := P0_43.out.c0
          have cP0_43_1 := P0_43.out.c1
          have fP0_43_0 := P0_43.out.f0
          have fP0_43_1 := P0_43.out.f1
          go_wp2
          refine bodyPost_ret (v := .tuple #[.agg #[(.int .i64 0), (.int .i64 0)], .int .i64 4]) ?_ rfl ⟨by rw [HR.out], ((HB43.out.setCell (p := ⟨w.heap.size, 0, none⟩) (by simp) (.int .i64 0)).setCell (p := ⟨w.heap.size, 1, none⟩) (by simp) (.int .i64 0))⟩
          have u0 := ((P0_43.out.set0 (.int .i64 0)).set1 (.int .i64 0)).c0
          have u1 := ((P0_43.out.set0 (.int .i64 0)).set1 (.int .i64 0)).c1
          rw [results_cell_tmp rfl]
          go_simp
        · skip
          go_enter Try.func7, Try.ntmps7
          go_wp2_with fail
          have P0_44 := Lib.hid (show Cell2 (w.alloc (Obj.cells #[(.int .i64 0), (.int .i64 0)] 24)) (w.heap.size) (.int .i64 0) (.int .i64 0) from by simpa using Cell2.alloc w (.int .i64 0) (.int .i64 0) 24)
          have HB44 := Lib.hid ((Below.refl w.heap.size w).alloc (Nat.le_refl _) (Obj.cells #[(.int .i64 0), (.int .i64 0)] 24))
          generalize (w.alloc (Obj.cells #[(.int .i64 0), (.int .i64 0)] 24)) = W44 at *
          refine (HS.out _).mono ?_
          rintro e W45 ⟨rfl, hb45⟩
          have HB45 := Lib.hid (HB44.out.trans ((hb45).mono HB44.out.size))
          have P0_45 := Lib.hid (P0_44.out.below (hb45) P0_44.out.lt)
          clear HB44 P0_44 hb45
          go_wp2_with fail
          refine (HC.out _).mono ?_
          rintro e W46 ⟨rfl, hb46⟩
          have HB46 := Lib.hid (HB45.out.trans ((hb46).mono HB45.out.size))
          have P0_46 := Lib.hid (P0_45.out.below (hb46) P0_45.out.lt)
          clear HB45 P0_45 hb46
          go_wp2_with fail
          refine (HD1.out _).mono ?_
          rintro e W47 ⟨rfl, hb47⟩
          have HB47 := Lib.hid (HB46.out.trans ((hb47).mono HB46.out.size))
          have P0_47 := Lib.hid (P0_46.out.below (hb47) P0_46.out.lt)
          clear HB46 P0_46 hb47
          go_wp2_with fail
          refine (HD2.out _).mono ?_
          rintro e W48 ⟨rfl, hb48⟩
          have HB48 := Lib.hid (HB47.out.trans ((hb48).mono HB47.out.size))
          have P0_48 := Lib.hid (P0_47.out.below (hb48) P0_47.out.lt)
          clear HB47 P0_47 hb48
          have lP0_48 := P0_48.out.lt
          have cP0_48_0 := P0_48.out.c0
          have cP0_48_1 := P0_48.out.c1
          have fP0_48_0 := P0_48.out.f0
          have fP0_48_1 := P0_48.out.f1
          go_wp2
          refine bodyPost_ret (v := .tuple #[.agg #[(.int .i64 0), (.int .i64 0)], .int .i64 4]) ?_ rfl ⟨by rw [HR.out], ((HB48.out.setCell (p := ⟨w.heap.size, 0, none⟩) (by simp) (.int .i64 0)).setCell (p := ⟨w.heap.size, 1, none⟩) (by simp) (.int .i64 0))⟩
          have u0 := ((P0_48.out.set0 (.int .i64 0)).set1 (.int .i64 0)).c0
          have u1 := ((P0_48.out.set0 (.int .i64 0)).set1 (.int .i64 0)).c1
          rw [results_cell_tmp rfl]
          go_simp
    have l1 : ¬ (7 : Int) < (SX.size : Int) := by omega
    have l2 : decide ((7 : Int) < (SX.size : Int)) = false := decide_eq_false l1
    have l3 : ¬ (7 : Int) < (SY.size : Int) := by omega
    have l4 : decide ((7 : Int) < (SY.size : Int)) = false := decide_eq_false l3
    have hx7 := dn_lt x
    have hy7 := dn_lt y
    have hx8 : x < 10000000 := Nat.lt_of_lt_of_le hx7 (Nat.le_trans (Nat.pow_le_pow_right (by omega) (show (dn x).length ≤ 7 by omega)) (by decide))
    have hy8 : y < 10000000 := Nat.lt_of_lt_of_le hy7 (Nat.le_trans (Nat.pow_le_pow_right (by omega) (show (dn y).length ≤ 7 by omega)) (by decide))
    have HN1 := Lib.hid (fun W => rNumber3_any (dn x) W (by omega) (dn_all x))
    have HN2 := Lib.hid (fun W => rNumber3_any (dn y) W (by omega) (dn_all y))
    rw [HX.out, dec_dn] at HN1
    rw [HY.out, dec_dn] at HN2
    have HMk := Lib.hid (fun W => rMake_any x y W (by omega) (by omega) (by omega) (by omega))
    clear hx7 hy7 hlx sX sY
    by_cases hbig : x ≤ 1000000 ∧ y ≤ 1000000
    · obtain ⟨k1, k2, k3⟩ := hlow.1 hbig
      obtain ⟨r1, r2, r3⟩ := hrd.1 hbig
      rw [k1, k2, k3] at HMk
      have HR := HRR
      rw [r3, if_neg (by simp), r1, r2] at HR
      rw [if_neg (by intro h; cases h)] at HR
      clear HRR hlow hrd k1 k2 k3 r1 r2 r3
      rcases hcs with ⟨z0, z0', z0'', b45⟩ | ⟨z0', z0''⟩
      · have b45 := b45 z0
        go_enter Try.func7, Try.ntmps7
        go_wp2_with fail
        have P0_49 := Lib.hid (show Cell2 (w.alloc (Obj.cells #[(.int .i64 0), (.int .i64 0)] 24)) (w.heap.size) (.int .i64 0) (.int .i64 0) from by simpa using Cell2.alloc w (.int .i64 0) (.int .i64 0) 24)
        have HB49 := Lib.hid ((Below.refl w.heap.size w).alloc (Nat.le_refl _) (Obj.cells #[(.int .i64 0), (.int .i64 0)] 24))
        generalize (w.alloc (Obj.cells #[(.int .i64 0), (.int .i64 0)] 24)) = W49 at *
        refine (HS.out _).mono ?_
        rintro e W50 ⟨rfl, hb50⟩
        have HB50 := Lib.hid (HB49.out.trans ((hb50).mono HB49.out.size))
        have P0_50 := Lib.hid (P0_49.out.below (hb50) P0_49.out.lt)
        clear HB49 P0_49 hb50
        go_wp2_with fail
        refine (HC.out _).mono ?_
        rintro e W51 ⟨rfl, hb51⟩
        have HB51 := Lib.hid (HB50.out.trans ((hb51).mono HB50.out.size))
        have P0_51 := Lib.hid (P0_50.out.below (hb51) P0_50.out.lt)
        clear HB50 P0_50 hb51
        go_wp2_with fail
        refine (HD1.out _).mono ?_
        rintro e W52 ⟨rfl, hb52⟩
        have HB52 := Lib.hid (HB51.out.trans ((hb52).mono HB51.out.size))
        have P0_52 := Lib.hid (P0_51.out.below (hb52) P0_51.out.lt)
        clear HB51 P0_51 hb52
        go_wp2_with fail
        refine (HD2.out _).mono ?_
        rintro e W53 ⟨rfl, hb53⟩
        have HB53 := Lib.hid (HB52.out.trans ((hb53).mono HB52.out.size))
        have P0_53 := Lib.hid (P0_52.out.below (hb53) P0_52.out.lt)
        clear HB52 P0_52 hb53
        go_wp2_with fail
        refine (HN1.out _).mono ?_
        rintro e w_ ⟨rfl, rfl⟩
        go_wp2_with fail
        refine (HN2.out _).mono ?_
        rintro e w_ ⟨rfl, rfl⟩
        go_wp2_with fail
        refine (HMk.out _).mono ?_
        rintro e W54 ⟨rfl, hb54⟩
        have HB54 := Lib.hid (HB53.out.trans ((hb54).mono HB53.out.size))
        have P0_54 := Lib.hid (P0_53.out.below (hb54) P0_53.out.lt)
        clear HB53 P0_53 hb54
        have lP0_54 := P0_54.out.lt
        have cP0_54_0 := P0_54.out.c0
        have cP0_54_1 := P0_54.out.c1
        have fP0_54_0 := P0_54.out.f0
        have fP0_54_1 := P0_54.out.f1
        go_wp2
        refine bodyPost_ret (v := .tuple #[.agg #[(.int .i64 (x : Int)), (.int .i64 (y : Int))], .int .i64 0]) ?_ rfl ⟨by rw [HR.out], (((HB54.out.setCell (p := ⟨w.heap.size, 0, none⟩) (by simp) (.int .i64 (x : Int))).setCell (p := ⟨w.heap.size, 1, none⟩) (by simp) (.int .i64 (y : Int))).alloc (by have := HB54.out.size; simp <;> omega) (Obj.cells #[(.int .i64 (x : Int)), (.int .i64 (y : Int))] 24))⟩
        have u0 := ((P0_54.out.set0 (.int .i64 (x : Int))).set1 (.int .i64 (y : Int))).c0
        have u1 := ((P0_54.out.set0 (.int .i64 (x : Int))).set1 (.int .i64 (y : Int))).c1
        rw [results_cell_tmp rfl]
        go_simp
      · skip
        go_enter Try.func7, Try.ntmps7
        go_wp2_with fail
        have P0_55 := Lib.hid (show Cell2 (w.alloc (Obj.cells #[(.int .i64 0), (.int .i64 0)] 24)) (w.heap.size) (.int .i64 0) (.int .i64 0) from by simpa using Cell2.alloc w (.int .i64 0) (.int .i64 0) 24)
        have HB55 := Lib.hid ((Below.refl w.heap.size w).alloc (Nat.le_refl _) (Obj.cells #[(.int .i64 0), (.int .i64 0)] 24))
        generalize (w.alloc (Obj.cells #[(.int .i64 0), (.int .i64 0)] 24)) = W55 at *
        refine (HS.out _).mono ?_
        rintro e W56 ⟨rfl, hb56⟩
        have HB56 := Lib.hid (HB55.out.trans ((hb56).mono HB55.out.size))
        have P0_56 := Lib.hid (P0_55.out.below (hb56) P0_55.out.lt)
        clear HB55 P0_55 hb56
        go_wp2_with fail
        refine (HC.out _).mono ?_
        rintro e W57 ⟨rfl, hb57⟩
        have HB57 := Lib.hid (HB56.out.trans ((hb57).mono HB56.out.size))
        have P0_57 := Lib.hid (P0_56.out.below (hb57) P0_56.out.lt)
        clear HB56 P0_56 hb57
        go_wp2_with fail
        refine (HD1.out _).mono ?_
        rintro e W58 ⟨rfl, hb58⟩
        have HB58 := Lib.hid (HB57.out.trans ((hb58).mono HB57.out.size))
        have P0_58 := Lib.hid (P0_57.out.below (hb58) P0_57.out.lt)
        clear HB57 P0_57 hb58
        go_wp2_with fail
        refine (HD2.out _).mono ?_
        rintro e W59 ⟨rfl, hb59⟩
        have HB59 := Lib.hid (HB58.out.trans ((hb59).mono HB58.out.size))
        have P0_59 := Lib.hid (P0_58.out.below (hb59) P0_58.out.lt)
        clear HB58 P0_58 hb59
        go_wp2_with fail
        refine (HN1.out _).mono ?_
        rintro e w_ ⟨rfl, rfl⟩
        go_wp2_with fail
        refine (HN2.out _).mono ?_
        rintro e w_ ⟨rfl, rfl⟩
        go_wp2_with fail
        refine (HMk.out _).mono ?_
        rintro e W60 ⟨rfl, hb60⟩
        have HB60 := Lib.hid (HB59.out.trans ((hb60).mono HB59.out.size))
        have P0_60 := Lib.hid (P0_59.out.below (hb60) P0_59.out.lt)
        clear HB59 P0_59 hb60
        have lP0_60 := P0_60.out.lt
        have cP0_60_0 := P0_60.out.c0
        have cP0_60_1 := P0_60.out.c1
        have fP0_60_0 := P0_60.out.f0
        have fP0_60_1 := P0_60.out.f1
        go_wp2
        refine bodyPost_ret (v := .tuple #[.agg #[(.int .i64 (x : Int)), (.int .i64 (y : Int))], .int .i64 0]) ?_ rfl ⟨by rw [HR.out], (((HB60.out.setCell (p := ⟨w.heap.size, 0, none⟩) (by simp) (.int .i64 (x : Int))).setCell (p := ⟨w.heap.size, 1, none⟩) (by simp) (.int .i64 (y : Int))).alloc (by have := HB60.out.size; simp <;> omega) (Obj.cells #[(.int .i64 (x : Int)), (.int .i64 (y : Int))] 24))⟩
        have u0 := ((P0_60.out.set0 (.int .i64 (x : Int))).set1 (.int .i64 (y : Int))).c0
        have u1 := ((P0_60.out.set0 (.int .i64 (x : Int))).set1 (.int .i64 (y : Int))).c1
        rw [results_cell_tmp rfl]
        go_simp
    · obtain ⟨k1, k2, k3⟩ := hlow.2 hbig
      obtain ⟨r1, r2, r3⟩ := hrd.2 hbig
      rw [k1, k2, k3] at HMk
      have HR := HRR
      rw [if_pos r3] at HR
      clear HRR hlow hrd k1 k2 k3 r1 r2 r3
      rcases hcs with ⟨z0, z0', z0'', b45⟩ | ⟨z0', z0''⟩
      · have b45 := b45 z0
        go_enter Try.func7, Try.ntmps7
        go_wp2_with fail
        have P0_61 := Lib.hid (show Cell2 (w.alloc (Obj.cells #[(.int .i64 0), (.int .i64 0)] 24)) (w.heap.size) (.int .i64 0) (.int .i64 0) from by simpa using Cell2.alloc w (.int .i64 0) (.int .i64 0) 24)
        have HB61 := Lib.hid ((Below.refl w.heap.size w).alloc (Nat.le_refl _) (Obj.cells #[(.int .i64 0), (.int .i64 0)] 24))
        generalize (w.alloc (Obj.cells #[(.int .i64 0), (.int .i64 0)] 24)) = W61 at *
        refine (HS.out _).mono ?_
        rintro e W62 ⟨rfl, hb62⟩
        have HB62 := Lib.hid (HB61.out.trans ((hb62).mono HB61.out.size))
        have P0_62 := Lib.hid (P0_61.out.below (hb62) P0_61.out.lt)
        clear HB61 P0_61 hb62
        go_wp2_with fail
        refine (HC.out _).mono ?_
        rintro e W63 ⟨rfl, hb63⟩
        have HB63 := Lib.hid (HB62.out.trans ((hb63).mono HB62.out.size))
        have P0_63 := Lib.hid (P0_62.out.below (hb63) P0_62.out.lt)
        clear HB62 P0_62 hb63
        go_wp2_with fail
        refine (HD1.out _).mono ?_
        rintro e W64 ⟨rfl, hb64⟩
        have HB64 := Lib.hid (HB63.out.trans ((hb64).mono HB63.out.size))
        have P0_64 := Lib.hid (P0_63.out.below (hb64) P0_63.out.lt)
        clear HB63 P0_63 hb64
        go_wp2_with fail
        refine (HD2.out _).mono ?_
        rintro e W65 ⟨rfl, hb65⟩
        have HB65 := Lib.hid (HB64.out.trans ((hb65).mono HB64.out.size))
        have P0_65 := Lib.hid (P0_64.out.below (hb65) P0_64.out.lt)
        clear HB64 P0_64 hb65
        go_wp2_with fail
        refine (HN1.out _).mono ?_
        rintro e w_ ⟨rfl, rfl⟩
        go_wp2_with fail
        refine (HN2.out _).mono ?_
        rintro e w_ ⟨rfl, rfl⟩
        go_wp2_with fail
        refine (HMk.out _).mono ?_
        rintro e W66 ⟨rfl, hb66⟩
        have HB66 := Lib.hid (HB65.out.trans ((hb66).mono HB65.out.size))
        have P0_66 := Lib.hid (P0_65.out.below (hb66) P0_65.out.lt)
        clear HB65 P0_65 hb66
        have lP0_66 := P0_66.out.lt
        have cP0_66_0 := P0_66.out.c0
        have cP0_66_1 := P0_66.out.c1
        have fP0_66_0 := P0_66.out.f0
        have fP0_66_1 := P0_66.out.f1
        go_wp2
        refine bodyPost_ret (v := .tuple #[.agg #[(.int .i64 0), (.int .i64 0)], .int .i64 4]) ?_ rfl ⟨by rw [HR.out], (((HB66.out.setCell (p := ⟨w.heap.size, 0, none⟩) (by simp) (.int .i64 0)).setCell (p := ⟨w.heap.size, 1, none⟩) (by simp) (.int .i64 0)).alloc (by have := HB66.out.size; simp <;> omega) (Obj.cells #[(.int .i64 0), (.int .i64 0)] 24))⟩
        have u0 := ((P0_66.out.set0 (.int .i64 0)).set1 (.int .i64 0)).c0
        have u1 := ((P0_66.out.set0 (.int .i64 0)).set1 (.int .i64 0)).c1
        rw [results_cell_tmp rfl]
        go_simp
      · skip
        go_enter Try.func7, Try.ntmps7
        go_wp2_with fail
        have P0_67 := Lib.hid (show Cell2 (w.alloc (Obj.cells #[(.int .i64 0), (.int .i64 0)] 24)) (w.heap.size) (.int .i64 0) (.int .i64 0) from by simpa using Cell2.alloc w (.int .i64 0) (.int .i64 0) 24)
        have HB67 := Lib.hid ((Below.refl w.heap.size w).alloc (Nat.le_refl _) (Obj.cells #[(.int .i64 0), (.int .i64 0)] 24))
        generalize (w.alloc (Obj.cells #[(.int .i64 0), (.int .i64 0)] 24)) = W67 at *
        refine (HS.out _).mono ?_
        rintro e W68 ⟨rfl, hb68⟩
        have HB68 := Lib.hid (HB67.out.trans ((hb68).mono HB67.out.size))
        have P0_68 := Lib.hid (P0_67.out.below (hb68) P0_67.out.lt)
        clear HB67 P0_67 hb68
        go_wp2_with fail
        refine (HC.out _).mono ?_
        rintro e W69 ⟨rfl, hb69⟩
        have HB69 := Lib.hid (HB68.out.trans ((hb69).mono HB68.out.size))
        have P0_69 := Lib.hid (P0_68.out.below (hb69) P0_68.out.lt)
        clear HB68 P0_68 hb69
        go_wp2_with fail
        refine (HD1.out _).mono ?_
        rintro e W70 ⟨rfl, hb70⟩
        have HB70 := Lib.hid (HB69.out.trans ((hb70).mono HB69.out.size))
        have P0_70 := Lib.hid (P0_69.out.below (hb70) P0_69.out.lt)
        clear HB69 P0_69 hb70
        go_wp2_with fail
        refine (HD2.out _).mono ?_
        rintro e W71 ⟨rfl, hb71⟩
        have HB71 := Lib.hid (HB70.out.trans ((hb71).mono HB70.out.size))
        have P0_71 := Lib.hid (P0_70.out.below (hb71) P0_70.out.lt)
        clear HB70 P0_70 hb71
        go_wp2_with fail
        refine (HN1.out _).mono ?_
        rintro e w_ ⟨rfl, rfl⟩
        go_wp2_with fail
        refine (HN2.out _).mono ?_
        rintro e w_ ⟨rfl, rfl⟩
        go_wp2_with fail
        refine (HMk.out _).mono ?_
        rintro e W72 ⟨rfl, hb72⟩
        have HB72 := Lib.hid (HB71.out.trans ((hb72).mono HB71.out.size))
        have P0_72 := Lib.hid (P0_71.out.below (hb72) P0_71.out.lt)
        clear HB71 P0_71 hb72
        have lP0_72 := P0_72.out.lt
        have cP0_72_0 := P0_72.out.c0
        have cP0_72_1 := P0_72.out.c1
        have fP0_72_0 := P0_72.out.f0
        have fP0_72_1 := P0_72.out.f1
        go_wp2
        refine bodyPost_ret (v := .tuple #[.agg #[(.int .i64 0), (.int .i64 0)], .int .i64 4]) ?_ rfl ⟨by rw [HR.out], (((HB72.out.setCell (p := ⟨w.heap.size, 0, none⟩) (by simp) (.int .i64 0)).setCell (p := ⟨w.heap.size, 1, none⟩) (by simp) (.int .i64 0)).alloc (by have := HB72.out.size; simp <;> omega) (Obj.cells #[(.int .i64 0), (.int .i64 0)] 24))⟩
        have u0 := ((P0_72.out.set0 (.int .i64 0)).set1 (.int .i64 0)).c0
        have u1 := ((P0_72.out.set0 (.int .i64 0)).set1 (.int .i64 0)).c1
        rw [results_cell_tmp rfl]
        go_simp
set_option maxRecDepth 100000 in
set_option maxHeartbeats 4000000 in
theorem rParse_none (ng : Bool) (SL ST : ByteArray) (w : World) (R : Int × Int × Int) (hsl : SL.size ≤ 80) (hst : ST.size ≤ 80) (hng : ng = true → 0 < SL.size ∧ SL.extract 1 SL.size = ST ∧ ST.size + 1 = SL.size ∧ ∀ h : 0 < SL.size, SL[0] = 45) (hng2 : ng = false → SL = ST ∧ (0 < SL.size → ∀ h : 0 < SL.size, SL[0] ≠ 45))
    (HS : ∀ W, Calls Try.prog 18 #[.string ST] W fun e w' => ∃ s1 s2, e = .returned (.tuple #[.string s1, .string s2, .bool false]) ∧ Below W.heap.size W w') (hR : R = (0, 0, 5)) :
    Calls Try.prog 7 #[.string SL] w fun e w' => e = .returned (.tuple #[.agg #[.int .i64 R.1, .int .i64 R.2.1], .int .i64 R.2.2]) ∧ Below w.heap.size w w' := by
  have HS := Lib.hid HS
  have HR := Lib.hid hR
  clear hR
  cases ng with
  | true =>
    obtain ⟨z0, hex, hsz, hb0⟩ := hng rfl
    have z0' : (0 : Int) < (SL.size : Int) := by omega
    have z0'' : decide ((0 : Int) < (SL.size : Int)) = true := decide_eq_true z0'
    have z1' : (1 : Int) ≤ (SL.size : Int) := by omega
    have b45 : ((SL[0].toNat : Int) == 45) = true := by rw [hb0 z0]; rfl
    have hlt : (ST.size : Int) < (SL.size : Int) := by omega
    have hlt' : decide ((ST.size : Int) < (SL.size : Int)) = true := decide_eq_true hlt
    clear hng hng2 hsz hb0
    go_enter Try.func7, Try.ntmps7
    go_wp2_with fail
    have P0_73 := Lib.hid (show Cell2 (w.alloc (Obj.cells #[(.int .i64 0), (.int .i64 0)] 24)) (w.heap.size) (.int .i64 0) (.int .i64 0) from by simpa using Cell2.alloc w (.int .i64 0) (.int .i64 0) 24)
    have HB73 := Lib.hid ((Below.refl w.heap.size w).alloc (Nat.le_refl _) (Obj.cells #[(.int .i64 0), (.int .i64 0)] 24))
    generalize (w.alloc (Obj.cells #[(.int .i64 0), (.int .i64 0)] 24)) = W73 at *
    refine (HS.out _).mono ?_
    rintro e w9 ⟨s1, s2, rfl, hb9⟩
    have HB74 := Lib.hid (HB73.out.trans ((hb9).mono HB73.out.size))
    have P0_74 := Lib.hid (P0_73.out.below (hb9) P0_73.out.lt)
    clear HB73 P0_73 hb9
    have lP0_74 := P0_74.out.lt
    have cP0_74_0 := P0_74.out.c0
    have cP0_74_1 := P0_74.out.c1
    have fP0_74_0 := P0_74.out.f0
    have fP0_74_1 := P0_74.out.f1
    go_wp2
    refine bodyPost_ret (v := .tuple #[.agg #[(.int .i64 0), (.int .i64 0)], .int .i64 5]) ?_ rfl ⟨by rw [HR.out], ((HB74.out.setCell (p := ⟨w.heap.size, 0, none⟩) (by simp) (.int .i64 0)).setCell (p := ⟨w.heap.size, 1, none⟩) (by simp) (.int .i64 0))⟩
    have u0 := ((P0_74.out.set0 (.int .i64 0)).set1 (.int .i64 0)).c0
    have u1 := ((P0_74.out.set0 (.int .i64 0)).set1 (.int .i64 0)).c1
    rw [results_cell_tmp rfl]
    go_simp
  | false =>
    obtain ⟨rfl, hb0⟩ := hng2 rfl
    have hcs : (0 < SL.size ∧ ((0 : Int) < (SL.size : Int)) ∧ decide ((0 : Int) < (SL.size : Int)) = true ∧ ∀ h : 0 < SL.size, ((SL[0].toNat : Int) == 45) = false) ∨ ((¬ (0 : Int) < (SL.size : Int)) ∧ decide ((0 : Int) < (SL.size : Int)) = false) := by
      by_cases h : 0 < SL.size
      · left; exact ⟨h, by omega, decide_eq_true (by omega), fun h' => by rw [show ((SL[0].toNat : Int) == 45) = decide (SL[0] = 45) from byte_int (n := 45) (by omega)]; exact decide_eq_false (hb0 h h')⟩
      · right; exact ⟨by omega, decide_eq_false (by omega)⟩
    clear hng hng2 hb0 hst
    rcases hcs with ⟨z0, z0', z0'', b45⟩ | ⟨z0', z0''⟩
    · have b45 := b45 z0
      go_enter Try.func7, Try.ntmps7
      go_wp2_with fail
      have P0_75 := Lib.hid (show Cell2 (w.alloc (Obj.cells #[(.int .i64 0), (.int .i64 0)] 24)) (w.heap.size) (.int .i64 0) (.int .i64 0) from by simpa using Cell2.alloc w (.int .i64 0) (.int .i64 0) 24)
      have HB75 := Lib.hid ((Below.refl w.heap.size w).alloc (Nat.le_refl _) (Obj.cells #[(.int .i64 0), (.int .i64 0)] 24))
      generalize (w.alloc (Obj.cells #[(.int .i64 0), (.int .i64 0)] 24)) = W75 at *
      refine (HS.out _).mono ?_
      rintro e w9 ⟨s1, s2, rfl, hb9⟩
      have HB76 := Lib.hid (HB75.out.trans ((hb9).mono HB75.out.size))
      have P0_76 := Lib.hid (P0_75.out.below (hb9) P0_75.out.lt)
      clear HB75 P0_75 hb9
      have lP0_76 := P0_76.out.lt
      have cP0_76_0 := P0_76.out.c0
      have cP0_76_1 := P0_76.out.c1
      have fP0_76_0 := P0_76.out.f0
      have fP0_76_1 := P0_76.out.f1
      go_wp2
      refine bodyPost_ret (v := .tuple #[.agg #[(.int .i64 0), (.int .i64 0)], .int .i64 5]) ?_ rfl ⟨by rw [HR.out], ((HB76.out.setCell (p := ⟨w.heap.size, 0, none⟩) (by simp) (.int .i64 0)).setCell (p := ⟨w.heap.size, 1, none⟩) (by simp) (.int .i64 0))⟩
      have u0 := ((P0_76.out.set0 (.int .i64 0)).set1 (.int .i64 0)).c0
      have u1 := ((P0_76.out.set0 (.int .i64 0)).set1 (.int .i64 0)).c1
      rw [results_cell_tmp rfl]
      go_simp
    · skip
      go_enter Try.func7, Try.ntmps7
      go_wp2_with fail
      have P0_77 := Lib.hid (show Cell2 (w.alloc (Obj.cells #[(.int .i64 0), (.int .i64 0)] 24)) (w.heap.size) (.int .i64 0) (.int .i64 0) from by simpa using Cell2.alloc w (.int .i64 0) (.int .i64 0) 24)
      have HB77 := Lib.hid ((Below.refl w.heap.size w).alloc (Nat.le_refl _) (Obj.cells #[(.int .i64 0), (.int .i64 0)] 24))
      generalize (w.alloc (Obj.cells #[(.int .i64 0), (.int .i64 0)] 24)) = W77 at *
      refine (HS.out _).mono ?_
      rintro e w9 ⟨s1, s2, rfl, hb9⟩
      have HB78 := Lib.hid (HB77.out.trans ((hb9).mono HB77.out.size))
      have P0_78 := Lib.hid (P0_77.out.below (hb9) P0_77.out.lt)
      clear HB77 P0_77 hb9
      have lP0_78 := P0_78.out.lt
      have cP0_78_0 := P0_78.out.c0
      have cP0_78_1 := P0_78.out.c1
      have fP0_78_0 := P0_78.out.f0
      have fP0_78_1 := P0_78.out.f1
      go_wp2
      refine bodyPost_ret (v := .tuple #[.agg #[(.int .i64 0), (.int .i64 0)], .int .i64 5]) ?_ rfl ⟨by rw [HR.out], ((HB78.out.setCell (p := ⟨w.heap.size, 0, none⟩) (by simp) (.int .i64 0)).setCell (p := ⟨w.heap.size, 1, none⟩) (by simp) (.int .i64 0))⟩
      have u0 := ((P0_78.out.set0 (.int .i64 0)).set1 (.int .i64 0)).c0
      have u1 := ((P0_78.out.set0 (.int .i64 0)).set1 (.int .i64 0)).c1
      rw [results_cell_tmp rfl]
      go_simp
end Go.Proofs.Ytlndomnampcnfaa
