/- What divisor, Cross and Convert of package accountingref11 return. Written by wip/mk_fxj.py. -/
import Derived.Test.YtdeoplbdgbgimaaFxI
namespace Go.Proofs.Ytdeoplbdgbgimaa
open Go.RowKit Go.Sort
set_option linter.unusedVariables false
set_option linter.unusedSimpArgs false

set_option maxHeartbeats 2000000 in
theorem rGcd_any (a b : Nat) (w : World) (ha : a ≤ 1000000000000) (hb : b ≤ 1000000000000) :
    Calls Try.prog 35 #[.int .i64 a, .int .i64 b] w fun e w' => e = .returned (.int .i64 (Nat.gcd a b : Int)) ∧ Below w.heap.size w w' := by
  go_enter Try.func35, Try.ntmps35
  go_wp2
  go_loopw [0, 1] (fun x y wr => ∃ m n : Nat, x = .int .i64 m ∧ y = .int .i64 n ∧ m ≤ 1000000000000 ∧ n ≤ 1000000000000 ∧ Hid (Nat.gcd m n = Nat.gcd a b) ∧ Hid (Below w.heap.size w wr)) (fun _ y _ => (intOf y).toNat)
  case atStart => exact ⟨a, b, rfl, rfl, ha, hb, Lib.hid rfl, Lib.hid (Below.refl _ _)⟩
  case round =>
    obtain ⟨m, n, rfl, rfl, hm, hn, HG, HB⟩ := hrel
    by_cases h : 0 < n
    · have h' : (0 : Int) < (n : Int) := by omega
      have hne : ((n : Int) == 0) = false := by simp; omega
      have hmod : (m : Int).tmod (n : Int) = ((m % n : Nat) : Int) := by
        rw [Int.tmod_eq_emod_of_nonneg (by omega)]; rfl
      have hlt := Nat.mod_lt m h
      have HG2 := Lib.hid (show Nat.gcd n (m % n) = Nat.gcd a b by rw [← HG.out, Nat.gcd_comm m n, Nat.gcd_rec n m, Nat.gcd_comm])
      clear HG
      generalize m % n = q at *
      go_wp2_with fail
      go_quiet (fail)
      have HB3 := Lib.hid (below_drewN HB.out nq)
      go_wp2
      go_roundw
      case rel => exact ⟨n, q, rfl, rfl, hn, by omega, HG2, HB3⟩
      case measure => simp [intOf]; omega
    · have h' : ¬ (0 : Int) < (n : Int) := by omega
      obtain rfl : n = 0 := by omega
      have HE := Lib.hid (show m = Nat.gcd a b by rw [← HG.out, Nat.gcd_zero_right])
      go_wp2
      go_ret
      exact ⟨ret_int (by rw [← HE.out]), HB.out⟩
theorem cross_ref {a b c d : Int} (h1 : Fr1 a b) (h2 : Fr1 c d) : ∃ x y : Nat, a * d = (x : Int) ∧ b * c = (y : Int) ∧ 0 < x ∧ 0 < y ∧ x ≤ 1000000000000 ∧ y ≤ 1000000000000 ∧ ((x / Nat.gcd x y : Nat) : Int) = crN a b c d ∧ ((y / Nat.gcd x y : Nat) : Int) = crD a b c d := by
  obtain ⟨A, B, rfl, rfl, ha, hb, ha2, hb2, g1⟩ := h1.nat
  obtain ⟨C, D, rfl, rfl, hc, hd, hc2, hd2, g2⟩ := h2.nat
  obtain ⟨e1, e2⟩ := cross_nat ha hb hc hd g1 g2
  refine ⟨A * D, B * C, by rw [Int.natCast_mul], by rw [Int.natCast_mul], Nat.mul_pos ha hd, Nat.mul_pos hb hc, Nat.mul_le_mul ha2 hd2, Nat.mul_le_mul hb2 hc2, ?_, ?_⟩
  · rw [e1]; unfold crN; simp only [Int.natAbs_natCast]
  · rw [e2]; unfold crD; simp only [Int.natAbs_natCast]
set_option maxRecDepth 100000 in
set_option maxHeartbeats 4000000 in
theorem rCross_any (base : ByteArray) (A : Option Addr) (cp : Nat) (L : List Rt) (c c2 : ByteArray) (k d : Int) (w : World) (hb0 : base.size ≤ maxLen) (hR : RowR w A L) (hBd : BdR L) (hO : OkR base L) (hs : c.size ≤ maxLen) (hs2 : c2.size ≤ maxLen) (hk : r64 k) (hd : r64 d) :
    Calls Try.prog 20 #[.string base, .slice A L.length cp, .string c, .string c2, .int .i64 k, .int .i64 d] w fun e w' => e = .returned (.tuple #[.int .i64 (crs base L c c2 k d).1, .int .i64 (crs base L c c2 k d).2.1, .int .i64 (crs base L c c2 k d).2.2]) ∧ Below w.heap.size w w' := by
  have H1 := Lib.hid (fun W hR => rFind_any base A cp L c k d W hb0 hR hBd hO.2.1 hs hk hd)
  have H2 := Lib.hid (fun W hR => rFind_any base A cp L c2 k d W hb0 hR hBd hO.2.1 hs2 hk hd)
  have HR0 := Lib.hid hR
  have HCr := Lib.hid (show crs base L c c2 k d = if (fnd base L c k d).2.2 ≠ 0 then (0, 0, (fnd base L c k d).2.2) else if (fnd base L c2 k d).2.2 ≠ 0 then (0, 0, (fnd base L c2 k d).2.2) else (crN (fnd base L c k d).1 (fnd base L c k d).2.1 (fnd base L c2 k d).1 (fnd base L c2 k d).2.1, crD (fnd base L c k d).1 (fnd base L c k d).2.1 (fnd base L c2 k d).1 (fnd base L c2 k d).2.1, 0) from rfl)
  have F1 := Lib.hid (fun e => fnd_ok hO (c := c) (k := k) (d := d) e)
  have F2 := Lib.hid (fun e => fnd_ok hO (c := c2) (k := k) (d := d) e)
  clear hR hBd hO hk hd
  generalize crs base L c c2 k d = cr at *
  generalize fnd base L c k d = f at *
  generalize fnd base L c2 k d = g at *
  obtain ⟨fn, fd, fe⟩ := f
  obtain ⟨gn, gd, ge⟩ := g
  dsimp only at H1 H2 HCr F1 F2
  go_enter Try.func20, Try.ntmps20
  go_wp2_with fail
  refine (H1.out _ HR0.out).mono ?_
  rintro e w1 ⟨rfl, hb⟩
  have ha : Below w1.heap.size w1 (w1.alloc (Obj.cells #[.int .i64 fn, .int .i64 fd] 37)) := (Below.refl _ _).alloc (Nat.le_refl _) _
  have HB1 := Lib.hid (hb.trans (ha.mono hb.size))
  have HR1 := Lib.hid ((HR0.out.below hb).below ha)
  have HF1 := Lib.hid (Q2.alloc w1 (.int .i64 fn) (.int .i64 fd) 37)
  clear hb ha
  by_cases e1 : fe = 0
  · subst e1
    rw [if_neg (by simp)] at HCr
    have G1 := Lib.hid (F1.out rfl)
    clear F1
    go_wp2_with fail
    refine (H2.out _ HR1.out).mono ?_
    rintro e w2 ⟨rfl, hb⟩
    have ha : Below w2.heap.size w2 (w2.alloc (Obj.cells #[.int .i64 gn, .int .i64 gd] 37)) := (Below.refl _ _).alloc (Nat.le_refl _) _
    have HB2 := Lib.hid ((HB1.out.trans (hb.mono HB1.out.size)).trans (ha.mono (Nat.le_trans HB1.out.size hb.size)))
    have HF2 := Lib.hid ((HF1.out.below hb).below ha)
    have HG2 := Lib.hid (Q2.alloc w2 (.int .i64 gn) (.int .i64 gd) 37)
    clear hb ha
    by_cases e2 : ge = 0
    · subst e2
      rw [if_neg (by simp)] at HCr
      obtain ⟨x, y, ex, ey, hx, hy, hx2, hy2, ev1, ev2⟩ := cross_ref G1.out (F2.out rfl)
      have HV := Lib.hid (show cr = (((x / Nat.gcd x y : Nat) : Int), ((y / Nat.gcd x y : Nat) : Int), 0) by rw [HCr.out, ev1, ev2])
      have hgp : 0 < Nat.gcd x y := Nat.gcd_pos_of_pos_left _ hx
      have hgl : Nat.gcd x y ≤ x := Nat.gcd_le_left _ hx
      have H3 := Lib.hid (fun W => rGcd_any x y W hx2 hy2)
      have t1 : (x : Int).tdiv (Nat.gcd x y : Int) = ((x / Nat.gcd x y : Nat) : Int) := by rw [Int.tdiv_eq_ediv_of_nonneg (by omega)]; rfl
      have t2 : (y : Int).tdiv (Nat.gcd x y : Int) = ((y / Nat.gcd x y : Nat) : Int) := by rw [Int.tdiv_eq_ediv_of_nonneg (by omega)]; rfl
      have t3 : (x : Int) / (Nat.gcd x y : Int) = ((x / Nat.gcd x y : Nat) : Int) := rfl
      have t4 : (y : Int) / (Nat.gcd x y : Int) = ((y / Nat.gcd x y : Nat) : Int) := rfl
      have d1 := Nat.div_le_self x (Nat.gcd x y)
      have d2 := Nat.div_le_self y (Nat.gcd x y)
      have x0 := HF2.out.c0
      have x1 := HF2.out.c1
      have y0 := HG2.out.c0
      have y1 := HG2.out.c1
      have ex1 : gd * fn = (x : Int) := by rw [Int.mul_comm]; exact ex
      have ey1 : gn * fd = (y : Int) := by rw [Int.mul_comm]; exact ey
      clear F2 G1 HCr ev1 ev2
      generalize x / Nat.gcd x y = vx at *
      generalize y / Nat.gcd x y = vy at *
      generalize Nat.gcd x y = gg at *
      have gne : ((gg : Int) == 0) = false := by simp; omega
      have gn0 : ¬ (gg : Int) = 0 := by omega
      go_wp2_with fail
      go_quiet (fail)
      have HB3 := Lib.hid (below_drewN HB2.out nq)
      clear x0 x1 y0 y1 ex ey ex1 ey1
      go_wp2_with fail
      refine (H3.out _).mono ?_
      rintro e w4 ⟨rfl, hb⟩
      have HB4 := Lib.hid (HB3.out.trans (hb.mono HB3.out.size))
      clear hb
      go_wp2_with fail
      go_quiet (fail)
      have HB5 := Lib.hid (below_drewN HB4.out nq)
      go_wp2
      go_ret3
      exact ⟨by rw [HV.out]; rfl, HB5.out⟩
    · rw [if_pos (by simpa using e2)] at HCr
      have e3 : (ge != 0) = true := by simpa using e2
      clear e2 F2 G1
      go_wp2
      go_ret3
      exact ⟨by rw [HCr.out]; rfl, HB2.out⟩
  · rw [if_pos (by simpa using e1)] at HCr
    have e3 : (fe != 0) = true := by simpa using e1
    clear e1 F1 F2
    go_wp2
    go_ret3
    exact ⟨by rw [HCr.out]; rfl, HB1.out⟩
theorem suB_hi {x : Int} (h : 1000000000000000 < x) : suB x = false := by unfold suB; simp; omega
theorem suB_lo {x : Int} (h : x < -1000000000000000) : suB x = false := by unfold suB; simp; omega
theorem suB_in {x : Int} (h1 : ¬ 1000000000000000 < x) (h2 : ¬ x < -1000000000000000) : suB x = true := by unfold suB; simp; omega
set_option maxRecDepth 100000 in
set_option maxHeartbeats 4000000 in
theorem rConvert_any (base : ByteArray) (A : Option Addr) (cp : Nat) (L : List Rt) (x : Int) (c c2 : ByteArray) (k d mode : Int) (w : World) (hb0 : base.size ≤ maxLen) (hR : RowR w A L) (hBd : BdR L) (hO : OkR base L) (hx : r64 x) (hs : c.size ≤ maxLen) (hs2 : c2.size ≤ maxLen) (hk : r64 k) (hd : r64 d) (hm : r64 mode) :
    Calls Try.prog 21 #[.string base, .slice A L.length cp, .int .i64 x, .string c, .string c2, .int .i64 k, .int .i64 d, .int .i64 mode] w fun e w' => e = .returned (.tuple #[.int .i64 (cnv base L x c c2 k d mode).1, .int .i64 (cnv base L x c c2 k d mode).2]) ∧ Below w.heap.size w w' := by
  have H1 := Lib.hid (rCross_any base A cp L c c2 k d w hb0 hR hBd hO hs hs2 hk hd)
  have HK := Lib.hid (fun e => crs_ok hO (c := c) (c2 := c2) (k := k) (d := d) e)
  have HV := Lib.hid (show cnv base L x c c2 k d mode = if mode < 1 ∨ 5 < mode then (0, 10) else if (crs base L c c2 k d).2.2 ≠ 0 then (0, (crs base L c c2 k d).2.2) else if (mdV x (crs base L c c2 k d).1 (crs base L c c2 k d).2.1 mode).2 ≠ 0 ∨ suB x = false ∨ suB (mdV x (crs base L c c2 k d).1 (crs base L c c2 k d).2.1 mode).1 = false then (0, 4) else ((mdV x (crs base L c c2 k d).1 (crs base L c c2 k d).2.1 mode).1, 0) from rfl)
  obtain ⟨x1, x2⟩ := hx
  obtain ⟨m1, m2⟩ := hm
  clear hR hBd hO hk hd hs hs2
  generalize cnv base L x c c2 k d mode = cv at *
  generalize crs base L c c2 k d = cr at *
  obtain ⟨n, m, e⟩ := cr
  dsimp only at H1 HK HV
  by_cases g1 : mode < 1
  · rw [if_pos (Or.inl g1)] at HV
    go_enter Try.func21, Try.ntmps21
    go_wp2
    go_ret2
    exact ⟨by rw [HV.out]; rfl, Below.refl _ _⟩
  by_cases g2 : 5 < mode
  · rw [if_pos (Or.inr g2)] at HV
    go_enter Try.func21, Try.ntmps21
    go_wp2
    go_ret2
    exact ⟨by rw [HV.out]; rfl, Below.refl _ _⟩
  rw [if_neg (by omega)] at HV
  by_cases g3 : e = 0
  · subst g3
    rw [if_neg (by simp)] at HV
    obtain ⟨⟨n1, n2⟩, n3, n4⟩ := HK.out rfl
    have H2 := Lib.hid (fun W => rMulDiv_any x n m mode W x1 x2 (by omega) (by omega) (by omega) (by omega))
    generalize mdV x n m mode = v at *
    obtain ⟨v1, v2⟩ := v
    dsimp only at H2 HV
    clear HK
    by_cases a1 : 1000000000000000 < x
    · rw [if_pos (Or.inr (Or.inl (suB_hi a1)))] at HV
      go_enter Try.func21, Try.ntmps21
      go_wp2_with fail
      refine H1.out.mono ?_
      rintro e w1 ⟨rfl, hb⟩
      have HB := Lib.hid hb
      clear hb
      go_wp2
      go_ret2
      exact ⟨by rw [HV.out]; rfl, HB.out⟩
    by_cases a2 : x < -1000000000000000
    · rw [if_pos (Or.inr (Or.inl (suB_lo a2)))] at HV
      go_enter Try.func21, Try.ntmps21
      go_wp2_with fail
      refine H1.out.mono ?_
      rintro e w1 ⟨rfl, hb⟩
      have HB := Lib.hid hb
      clear hb
      go_wp2
      go_ret2
      exact ⟨by rw [HV.out]; rfl, HB.out⟩
    by_cases g4 : v2 = 0
    · subst g4
      by_cases a3 : 1000000000000000 < v1
      · rw [if_pos (Or.inr (Or.inr (suB_hi a3)))] at HV
        go_enter Try.func21, Try.ntmps21
        go_wp2_with fail
        refine H1.out.mono ?_
        rintro e w1 ⟨rfl, hb⟩
        have HB := Lib.hid hb
        clear hb
        go_wp2_with fail
        refine (H2.out _).mono ?_
        rintro e w_ ⟨rfl, rfl⟩
        go_wp2
        go_ret2
        exact ⟨by rw [HV.out]; rfl, HB.out⟩
      by_cases a4 : v1 < -1000000000000000
      · rw [if_pos (Or.inr (Or.inr (suB_lo a4)))] at HV
        go_enter Try.func21, Try.ntmps21
        go_wp2_with fail
        refine H1.out.mono ?_
        rintro e w1 ⟨rfl, hb⟩
        have HB := Lib.hid hb
        clear hb
        go_wp2_with fail
        refine (H2.out _).mono ?_
        rintro e w_ ⟨rfl, rfl⟩
        go_wp2
        go_ret2
        exact ⟨by rw [HV.out]; rfl, HB.out⟩
      rw [if_neg (by rw [suB_in a1 a2, suB_in a3 a4]; simp)] at HV
      go_enter Try.func21, Try.ntmps21
      go_wp2_with fail
      refine H1.out.mono ?_
      rintro e w1 ⟨rfl, hb⟩
      have HB := Lib.hid hb
      clear hb
      go_wp2_with fail
      refine (H2.out _).mono ?_
      rintro e w_ ⟨rfl, rfl⟩
      go_wp2
      go_ret2
      exact ⟨by rw [HV.out]; rfl, HB.out⟩
    · rw [if_pos (Or.inl (by simpa using g4))] at HV
      have g7 : (v2 != 0) = true := by simpa using g4
      clear g4
      go_enter Try.func21, Try.ntmps21
      go_wp2_with fail
      refine H1.out.mono ?_
      rintro e w1 ⟨rfl, hb⟩
      have HB := Lib.hid hb
      clear hb
      go_wp2_with fail
      refine (H2.out _).mono ?_
      rintro e w_ ⟨rfl, rfl⟩
      go_wp2
      go_ret2
      exact ⟨by rw [HV.out]; rfl, HB.out⟩
  · rw [if_pos (by simpa using g3)] at HV
    have g7 : (e != 0) = true := by simpa using g3
    clear g3 HK
    go_enter Try.func21, Try.ntmps21
    go_wp2_with fail
    refine H1.out.mono ?_
    rintro e w1 ⟨rfl, hb⟩
    have HB := Lib.hid hb
    clear hb
    go_wp2
    go_ret2
    exact ⟨by rw [HV.out]; rfl, HB.out⟩
end Go.Proofs.Ytdeoplbdgbgimaa
