/- Rates in memory; what placeError, rateError, isSum, Base, Len of package fx return, and cmp.Compare at int. Written by wip/mk_fxa.py. -/
import Derived.Test.YtdeoplbdgbgimaaFxN
import Derived.Test.YtdeoplbdgbgimaaQs
namespace Go.Proofs.Ytdeoplbdgbgimaa
open Go.RowKit Go.Sort
set_option linter.unusedVariables false
set_option linter.unusedSimpArgs false

def BdT (r : Rt) : Prop := r.1.size ≤ maxLen ∧ r64 r.2.1 ∧ r64 r.2.2.1 ∧ r64 r.2.2.2.1 ∧ r64 r.2.2.2.2
def BdR (L : List Rt) : Prop := ∀ r ∈ L, BdT r
def RowR (w : World) (A : Option Addr) (L : List Rt) : Prop :=
  0 < L.length → ∃ b off, A = some ⟨b, off, none⟩ ∧ b < w.heap.size ∧ ∀ i, (h : i < L.length) → w.cell? ⟨b, off + i * 5, none⟩ = some (.string L[i].1) ∧ w.cell? ⟨b, off + i * 5 + 1, none⟩ = some (.int .i64 L[i].2.1) ∧ w.cell? ⟨b, off + i * 5 + 2, none⟩ = some (.int .i64 L[i].2.2.1) ∧ w.cell? ⟨b, off + i * 5 + 3, none⟩ = some (.int .i64 L[i].2.2.2.1) ∧ w.cell? ⟨b, off + i * 5 + 4, none⟩ = some (.int .i64 L[i].2.2.2.2)
theorem RowR.below {w w' : World} {A : Option Addr} {L : List Rt} (h : RowR w A L) (hb : Below w.heap.size w w') : RowR w' A L := by
  intro h0
  obtain ⟨b, off, e, hl, hc⟩ := h h0
  exact ⟨b, off, e, Nat.lt_of_lt_of_le hl hb.size, fun i hi => ⟨by rw [hb.cell hl]; exact (hc i hi).1, by rw [hb.cell hl]; exact (hc i hi).2.1, by rw [hb.cell hl]; exact (hc i hi).2.2.1, by rw [hb.cell hl]; exact (hc i hi).2.2.2.1, by rw [hb.cell hl]; exact (hc i hi).2.2.2.2⟩⟩
theorem plE_ne (c : ByteArray) (k d : Int) : r64 (plE c k d) := by
  unfold plE r64
  repeat' split
  all_goals omega
set_option maxHeartbeats 2000000 in
theorem placeE_any (c : ByteArray) (k d : Int) (w : World) (hs : c.size ≤ maxLen) (hk : r64 k) (hd : r64 d) :
    Calls Try.prog 28 #[.string c, .int .i64 k, .int .i64 d] w fun e w' => e = .returned (.int .i64 (plE c k d)) ∧ Below w.heap.size w w' := by
  obtain ⟨k1, k2⟩ := hk
  obtain ⟨d1, d2⟩ := hd
  have H1 := Lib.hid (fun W => curCode_any c W hs)
  have H2 := Lib.hid (fun W => weekday_any d W d1 d2)
  cases q1 : codeB c
  · have HV := Lib.hid (show plE c k d = 13 by unfold plE; rw [q1]; rfl)
    rw [q1] at H1
    go_enter Try.func28, Try.ntmps28
    go_wp2_with fail
    refine (H1.out _).mono ?_
    rintro e w1 ⟨rfl, hb⟩
    have HBw1 := Lib.hid (hb)
    clear hb
    go_wp2
    go_ret
    exact ⟨ret_int (by rw [HV.out]), HBw1.out⟩
  · rw [q1] at H1
    by_cases g1 : k < 1
    · have HV := Lib.hid (show plE c k d = 10 by unfold plE; rw [q1, if_neg (by decide), if_pos (Or.inl g1)])
      go_enter Try.func28, Try.ntmps28
      go_wp2_with fail
      refine (H1.out _).mono ?_
      rintro e w1 ⟨rfl, hb⟩
      have HBw1 := Lib.hid (hb)
      clear hb
      go_wp2
      go_ret
      exact ⟨ret_int (by rw [HV.out]), HBw1.out⟩
    by_cases g2 : 3 < k
    · have HV := Lib.hid (show plE c k d = 10 by unfold plE; rw [q1, if_neg (by decide), if_pos (Or.inr g2)])
      go_enter Try.func28, Try.ntmps28
      go_wp2_with fail
      refine (H1.out _).mono ?_
      rintro e w1 ⟨rfl, hb⟩
      have HBw1 := Lib.hid (hb)
      clear hb
      go_wp2
      go_ret
      exact ⟨ret_int (by rw [HV.out]), HBw1.out⟩
    by_cases g3 : 0 ≤ d ∧ d ≤ 109572
    · have HV := Lib.hid (show plE c k d = 0 by unfold plE; rw [q1, if_neg (by decide), if_neg (by omega), if_neg (by simpa using g3)])
      rw [if_pos g3] at H2
      have g4 : ¬ d % 7 < 0 := by omega
      generalize d % 7 = dd at *
      go_enter Try.func28, Try.ntmps28
      go_wp2_with fail
      refine (H1.out _).mono ?_
      rintro e w1 ⟨rfl, hb⟩
      have HBw1 := Lib.hid (hb)
      clear hb
      go_wp2_with fail
      refine (H2.out _).mono ?_
      rintro e w_ ⟨rfl, rfl⟩
      go_wp2
      go_ret
      exact ⟨ret_int (by rw [HV.out]), HBw1.out⟩
    · have HV := Lib.hid (show plE c k d = 11 by unfold plE; rw [q1, if_neg (by decide), if_neg (by omega), if_pos g3])
      rw [if_neg g3] at H2
      go_enter Try.func28, Try.ntmps28
      go_wp2_with fail
      refine (H1.out _).mono ?_
      rintro e w1 ⟨rfl, hb⟩
      have HBw1 := Lib.hid (hb)
      clear hb
      go_wp2_with fail
      refine (H2.out _).mono ?_
      rintro e w_ ⟨rfl, rfl⟩
      go_wp2
      go_ret
      exact ⟨ret_int (by rw [HV.out]), HBw1.out⟩
set_option maxHeartbeats 2000000 in
theorem rateE_any (base c : ByteArray) (k d n m : Int) (w : World) (hb0 : base.size ≤ maxLen) (hr : BdT (c, k, d, n, m)) :
    Calls Try.prog 24 #[.agg #[.string c, .int .i64 k, .int .i64 d, .int .i64 n, .int .i64 m], .string base] w fun e w' => e = .returned (.int .i64 (raE base (c, k, d, n, m))) ∧ Below w.heap.size w w' := by
  obtain ⟨hs, hk, hd, ⟨n1, n2⟩, m1, m2⟩ := hr
  have H1 := Lib.hid (fun W => placeE_any c k d W hs hk hd)
  have H2 := Lib.hid (fun W => right_any n m W n1 n2 m1 m2)
  have HB0 := Lib.hid ((Below.refl w.heap.size w).alloc (Nat.le_refl _) (Obj.cells #[.string c, .int .i64 k, .int .i64 d, .int .i64 n, .int .i64 m] 51))
  have P0 := Lib.hid (Q5.alloc w (.string c) (.int .i64 k) (.int .i64 d) (.int .i64 n) (.int .i64 m) 51)
  cases q1 : (c.toList == base.toList)
  · have e1 := str_ne.1 q1
    have HPl := Lib.hid (plE_ne c k d)
    by_cases q2 : plE c k d = 0
    · rw [q2] at H1
      cases q3 : rightB n m
      · have HV := Lib.hid (show raE base (c, k, d, n, m) = 2 by unfold raE; rw [if_neg e1, if_neg (by simpa using q2), if_pos (Or.inl q3)])
        rw [q3] at H2
        go_enter Try.func24, Try.ntmps24
        have x0 := P0.out.c0
        have x1 := P0.out.c1
        have x2 := P0.out.c2
        have x3 := P0.out.c3
        have x4 := P0.out.c4
        go_wp2_with fail
        refine (H1.out _).mono ?_
        rintro e w1 ⟨rfl, hb⟩
        have HBw1 := Lib.hid (HB0.out.trans (hb.mono HB0.out.size))
        have P1 := Lib.hid (P0.out.below hb)
        clear hb x0 x1 x2 x3 x4
        have x0 := P1.out.c0
        have x1 := P1.out.c1
        have x2 := P1.out.c2
        have x3 := P1.out.c3
        have x4 := P1.out.c4
        go_wp2_with fail
        refine (H2.out _).mono ?_
        rintro e w2 ⟨rfl, hb⟩
        have HBw2 := Lib.hid (HBw1.out.trans (hb.mono HBw1.out.size))
        have P2 := Lib.hid (P1.out.below hb)
        clear hb x0 x1 x2 x3 x4
        have x0 := P2.out.c0
        have x1 := P2.out.c1
        have x2 := P2.out.c2
        have x3 := P2.out.c3
        have x4 := P2.out.c4
        go_wp2
        go_ret
        exact ⟨ret_int (by rw [HV.out]), HBw2.out⟩
      · rw [q3] at H2
        by_cases q4 : n ≤ 0
        · have HV := Lib.hid (show raE base (c, k, d, n, m) = 2 by unfold raE; rw [if_neg e1, if_neg (by simpa using q2), if_pos (Or.inr q4)])
          go_enter Try.func24, Try.ntmps24
          have x0 := P0.out.c0
          have x1 := P0.out.c1
          have x2 := P0.out.c2
          have x3 := P0.out.c3
          have x4 := P0.out.c4
          go_wp2_with fail
          refine (H1.out _).mono ?_
          rintro e w1 ⟨rfl, hb⟩
          have HBw1 := Lib.hid (HB0.out.trans (hb.mono HB0.out.size))
          have P1 := Lib.hid (P0.out.below hb)
          clear hb x0 x1 x2 x3 x4
          have x0 := P1.out.c0
          have x1 := P1.out.c1
          have x2 := P1.out.c2
          have x3 := P1.out.c3
          have x4 := P1.out.c4
          go_wp2_with fail
          refine (H2.out _).mono ?_
          rintro e w2 ⟨rfl, hb⟩
          have HBw2 := Lib.hid (HBw1.out.trans (hb.mono HBw1.out.size))
          have P2 := Lib.hid (P1.out.below hb)
          clear hb x0 x1 x2 x3 x4
          have x0 := P2.out.c0
          have x1 := P2.out.c1
          have x2 := P2.out.c2
          have x3 := P2.out.c3
          have x4 := P2.out.c4
          go_wp2
          go_ret
          exact ⟨ret_int (by rw [HV.out]), HBw2.out⟩
        · have HV := Lib.hid (show raE base (c, k, d, n, m) = 0 by unfold raE; rw [if_neg e1, if_neg (by simpa using q2), if_neg (fun h => h.elim (fun h => by rw [q3] at h; cases h) (fun h => q4 h))])
          go_enter Try.func24, Try.ntmps24
          have x0 := P0.out.c0
          have x1 := P0.out.c1
          have x2 := P0.out.c2
          have x3 := P0.out.c3
          have x4 := P0.out.c4
          go_wp2_with fail
          refine (H1.out _).mono ?_
          rintro e w1 ⟨rfl, hb⟩
          have HBw1 := Lib.hid (HB0.out.trans (hb.mono HB0.out.size))
          have P1 := Lib.hid (P0.out.below hb)
          clear hb x0 x1 x2 x3 x4
          have x0 := P1.out.c0
          have x1 := P1.out.c1
          have x2 := P1.out.c2
          have x3 := P1.out.c3
          have x4 := P1.out.c4
          go_wp2_with fail
          refine (H2.out _).mono ?_
          rintro e w2 ⟨rfl, hb⟩
          have HBw2 := Lib.hid (HBw1.out.trans (hb.mono HBw1.out.size))
          have P2 := Lib.hid (P1.out.below hb)
          clear hb x0 x1 x2 x3 x4
          have x0 := P2.out.c0
          have x1 := P2.out.c1
          have x2 := P2.out.c2
          have x3 := P2.out.c3
          have x4 := P2.out.c4
          go_wp2
          go_ret
          exact ⟨ret_int (by rw [HV.out]), HBw2.out⟩
    · have HV := Lib.hid (show raE base (c, k, d, n, m) = plE c k d by unfold raE; rw [if_neg e1, if_pos (by simpa using q2)])
      have q2' : (plE c k d != 0) = true := by simpa using q2
      generalize plE c k d = pe at *
      go_enter Try.func24, Try.ntmps24
      have x0 := P0.out.c0
      have x1 := P0.out.c1
      have x2 := P0.out.c2
      have x3 := P0.out.c3
      have x4 := P0.out.c4
      go_wp2_with fail
      refine (H1.out _).mono ?_
      rintro e w1 ⟨rfl, hb⟩
      have HBw1 := Lib.hid (HB0.out.trans (hb.mono HB0.out.size))
      have P1 := Lib.hid (P0.out.below hb)
      clear hb x0 x1 x2 x3 x4
      have x0 := P1.out.c0
      have x1 := P1.out.c1
      have x2 := P1.out.c2
      have x3 := P1.out.c3
      have x4 := P1.out.c4
      go_wp2
      go_ret
      exact ⟨ret_int (by rw [HV.out]), HBw1.out⟩
  · have e1 := str_eq.1 q1
    have HV := Lib.hid (show raE base (c, k, d, n, m) = 13 by unfold raE; rw [if_pos e1])
    clear e1
    go_enter Try.func24, Try.ntmps24
    have x0 := P0.out.c0
    have x1 := P0.out.c1
    have x2 := P0.out.c2
    have x3 := P0.out.c3
    have x4 := P0.out.c4
    go_wp2
    go_ret
    exact ⟨ret_int (by rw [HV.out]), HB0.out⟩
def suB (n : Int) : Bool := decide (-1000000000000000 ≤ n) && decide (n ≤ 1000000000000000)
set_option maxHeartbeats 1000000 in
theorem isSum_any (n : Int) (w : World) : Calls Try.prog 33 #[.int .i64 n] w fun e w' => e = .returned (.bool (suB n)) ∧ w = w' := by
  by_cases a : -1000000000000000 ≤ n <;> by_cases b : n ≤ 1000000000000000
  all_goals
    have HE := Lib.hid (show suB n = (decide (-1000000000000000 ≤ n) && decide (n ≤ 1000000000000000)) from rfl)
    simp only [a, b, decide_true, decide_false, Bool.and_true, Bool.and_false, Bool.true_and, Bool.false_and] at HE
    go_enter Try.func33, Try.ntmps33
    go_wp2
    go_ret
    exact ⟨ret_bool (by rw [HE.out] <;> first | rfl | (simp; done) | (simp; omega)), rfl⟩
def cmpZ (a b : Int) : Int := if a < b then -1 else if b < a then 1 else 0
set_option maxHeartbeats 1000000 in
theorem isNaNI_any (a : Int) (w : World) : Calls Try.prog 57 #[.int .i64 a] w fun e w' => e = .returned (.bool false) ∧ w = w' := by
  go_enter Try.func57, Try.ntmps57
  go_wp2
  go_ret
  exact ⟨rfl, rfl⟩
set_option maxHeartbeats 1000000 in
theorem cmpI_any (a b : Int) (w : World) : Calls Try.prog 38 #[.int .i64 a, .int .i64 b] w fun e w' => e = .returned (.int .i64 (cmpZ a b)) ∧ w = w' := by
  have H1 := Lib.hid (fun W => isNaNI_any a W)
  have H2 := Lib.hid (fun W => isNaNI_any b W)
  by_cases g1 : a < b
  · have HE := Lib.hid (show cmpZ a b = -1 by unfold cmpZ; rw [if_pos g1])
    go_enter Try.func38, Try.ntmps38
    go_wp2_with fail
    refine (H1.out _).mono ?_
    rintro e w_ ⟨rfl, rfl⟩
    go_wp2_with fail
    refine (H2.out _).mono ?_
    rintro e w_ ⟨rfl, rfl⟩
    go_wp2
    go_ret
    exact ⟨ret_int (by rw [HE.out]), rfl⟩
  by_cases g2 : b < a
  · have HE := Lib.hid (show cmpZ a b = 1 by unfold cmpZ; rw [if_neg g1, if_pos g2])
    go_enter Try.func38, Try.ntmps38
    go_wp2_with fail
    refine (H1.out _).mono ?_
    rintro e w_ ⟨rfl, rfl⟩
    go_wp2_with fail
    refine (H2.out _).mono ?_
    rintro e w_ ⟨rfl, rfl⟩
    go_wp2
    go_ret
    exact ⟨ret_int (by rw [HE.out]), rfl⟩
  · have HE := Lib.hid (show cmpZ a b = 0 by unfold cmpZ; rw [if_neg g1, if_neg g2])
    go_enter Try.func38, Try.ntmps38
    go_wp2_with fail
    refine (H1.out _).mono ?_
    rintro e w_ ⟨rfl, rfl⟩
    go_wp2_with fail
    refine (H2.out _).mono ?_
    rintro e w_ ⟨rfl, rfl⟩
    go_wp2
    go_ret
    exact ⟨ret_int (by rw [HE.out]), rfl⟩
set_option maxHeartbeats 1000000 in
theorem base_nil (w : World) : Calls Try.prog 14 #[.pointer none] w fun e w' => e = .returned (.string ⟨#[]⟩) ∧ w = w' := by
  go_enter Try.func14, Try.ntmps14
  go_wp2
  go_ret
  exact ⟨rfl, rfl⟩
set_option maxHeartbeats 1000000 in
theorem len_nil (w : World) : Calls Try.prog 15 #[.pointer none] w fun e w' => e = .returned (.int .i64 0) ∧ w = w' := by
  go_enter Try.func15, Try.ntmps15
  go_wp2
  go_ret
  exact ⟨rfl, rfl⟩
set_option maxHeartbeats 1000000 in
theorem base_any (B : Nat) (s a b : Value) (base : ByteArray) (e0 : s = .string base) (w : World) (h : Q3 w B s a b) : Calls Try.prog 14 #[.pointer (some ⟨B, 0, none⟩)] w fun e w' => e = .returned (.string base) ∧ w = w' := by
  subst e0
  have x0 := h.c0
  clear h
  go_enter Try.func14, Try.ntmps14
  go_wp2
  go_ret
  exact ⟨rfl, rfl⟩
set_option maxHeartbeats 1000000 in
theorem len_any (B : Nat) (s a b : Value) (n : Int) (e0 : a = .int .i64 n) (w : World) (h : Q3 w B s a b) : Calls Try.prog 15 #[.pointer (some ⟨B, 0, none⟩)] w fun e w' => e = .returned (.int .i64 n) ∧ w = w' := by
  subst e0
  have x1 := h.c1
  clear h
  go_enter Try.func15, Try.ntmps15
  go_wp2
  go_ret
  exact ⟨rfl, rfl⟩
set_option maxHeartbeats 1000000 in
theorem large_any (A : Option Addr) (n c : Nat) (w : World) (hn : n ≤ maxLen) : Calls Try.prog 10 #[.slice A n c] w fun e w' => e = .returned (.bool (decide (60 < n))) ∧ w = w' := by
  unfold maxLen at hn
  by_cases g : 60 < n
  · have g' : (60 : Int) < (n : Int) := by omega
    have HE := Lib.hid (decide_eq_true g)
    go_enter Try.func10, Try.ntmps10
    go_wp2
    go_ret
    exact ⟨ret_bool (by first | rfl | rw [HE.out]), rfl⟩
  · have g' : ¬ (60 : Int) < (n : Int) := by omega
    have HE := Lib.hid (decide_eq_false g)
    go_enter Try.func10, Try.ntmps10
    go_wp2
    go_ret
    exact ⟨ret_bool (by first | rfl | rw [HE.out]), rfl⟩
end Go.Proofs.Ytdeoplbdgbgimaa
