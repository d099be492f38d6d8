/- What Cross and Convert of package fx return. Written by wip/mk_fxg.py. -/
import Derived.Test.YtdeoplbdgbgimaaFxF
import Derived.Test.YtdeoplbdgbgimaaMdC
namespace Go.Proofs.Ytdeoplbdgbgimaa
open Go.RowKit Go.Sort
set_option linter.unusedVariables false
set_option linter.unusedSimpArgs false

theorem mk_pos {n d : Int} (h1 : 1 ≤ n) (h2 : n ≤ 1000000) (h3 : 1 ≤ d) (h4 : d ≤ 1000000) : mkN n d = ((n.natAbs / Nat.gcd n.natAbs d.natAbs : Nat) : Int) ∧ mkD n d = ((d.natAbs / Nat.gcd n.natAbs d.natAbs : Nat) : Int) ∧ mkE n d = 0 := by
  have hb : ¬ Big n d := by
    unfold Big mkA mkB
    have q1 := Nat.div_le_self n.natAbs (Nat.gcd n.natAbs d.natAbs)
    have q2 := Nat.div_le_self d.natAbs (Nat.gcd n.natAbs d.natAbs)
    omega
  have hd : ¬ d = 0 := by omega
  have hor : ¬ (d = 0 ∨ Big n d) := fun h => h.elim hd hb
  refine ⟨?_, ?_, ?_⟩
  · unfold mkN
    rw [if_neg hor, if_pos (by rw [decide_eq_false (by omega), decide_eq_false (by omega)])]
    rfl
  · unfold mkD; rw [if_neg hor]; rfl
  · unfold mkE; rw [if_neg hd, if_neg hb]
theorem mk_bd {n d : Int} (h1 : 1 ≤ n) (h2 : n ≤ 1000000) (h3 : 1 ≤ d) (h4 : d ≤ 1000000) : (0 ≤ mkN n d ∧ mkN n d ≤ 1000000) ∧ (0 ≤ mkD n d ∧ mkD n d ≤ 1000000) := by
  obtain ⟨e1, e2, _⟩ := mk_pos h1 h2 h3 h4
  rw [e1, e2]
  have q1 := Nat.div_le_self n.natAbs (Nat.gcd n.natAbs d.natAbs)
  have q2 := Nat.div_le_self d.natAbs (Nat.gcd n.natAbs d.natAbs)
  generalize n.natAbs / Nat.gcd n.natAbs d.natAbs = a at *
  generalize d.natAbs / Nat.gcd n.natAbs d.natAbs = b at *
  omega
theorem mk_cr {a b c d : Int} (h1 : Fr1 a b) (h2 : Fr1 c d) : mkN a c * mkN d b = crN a b c d ∧ mkD a c * mkD d b = crD a b c d := by
  obtain ⟨⟨a1, a2⟩, ⟨a3, a4⟩, _⟩ := h1
  obtain ⟨⟨b1, b2⟩, ⟨b3, b4⟩, _⟩ := h2
  obtain ⟨e1, e2, _⟩ := mk_pos a1 a2 b1 b2
  obtain ⟨e3, e4, _⟩ := mk_pos b3 b4 a3 a4
  rw [e1, e2, e3, e4]
  unfold crN crD
  exact ⟨by rw [Int.natCast_mul], by rw [Int.natCast_mul]⟩
theorem r64_0 : r64 0 := by unfold r64; decide
theorem r64_20 : r64 20 := by unfold r64; decide
theorem fnd_r64 {base : ByteArray} {L : List Rt} (h : OkR base L) (c : ByteArray) (k d : Int) : r64 (fnd base L c k d).1 ∧ r64 (fnd base L c k d).2.1 ∧ r64 (fnd base L c k d).2.2 := by
  by_cases e : (fnd base L c k d).2.2 = 0
  · obtain ⟨⟨a1, a2⟩, ⟨a3, a4⟩, _⟩ := fnd_ok h e
    unfold r64; omega
  · unfold fnd at e ⊢
    by_cases h1 : plE c k d = 0
    · rw [if_neg (by simpa using h1)] at e ⊢
      by_cases h2 : c = base
      · rw [if_pos h2] at e; exact absurd rfl e
      · rw [if_neg h2] at e ⊢
        cases q : bst L c k d with
        | none => exact ⟨r64_0, r64_0, r64_20⟩
        | some r => rw [q] at e; exact absurd rfl e
    · rw [if_pos h1]
      exact ⟨r64_0, r64_0, plE_ne c k d⟩
set_option maxHeartbeats 1000000 in
theorem cross_nil (c c2 : ByteArray) (k d : Int) (w : World) :
    Calls Try.prog 17 #[.pointer none, .string c, .string c2, .int .i64 k, .int .i64 d] w fun e w' => e = .returned (.tuple #[.int .i64 0, .int .i64 0, .int .i64 1]) ∧ Below w.heap.size w w' := by
  have H1 := Lib.hid (fun W => find_nil c k d W)
  go_enter Try.func17, Try.ntmps17
  go_wp2_with fail
  refine (H1.out _).mono ?_
  rintro e w1 ⟨rfl, hb⟩
  have HB := Lib.hid (hb.alloc hb.size (Obj.cells #[.int .i64 0, .int .i64 0] 37))
  clear hb
  go_wp2
  go_ret3
  exact ⟨rfl, HB.out⟩
set_option maxRecDepth 100000 in
set_option maxHeartbeats 4000000 in
theorem cross_any (N B : Nat) (base : ByteArray) (L : List Rt) (c c2 : ByteArray) (k d : Int) (w : World) (hT : TabT w N B base L) (hO : OkR base L) (hs : c.size ≤ maxLen) (hs2 : c2.size ≤ maxLen) (hk : r64 k) (hd : r64 d) :
    Calls Try.prog 17 #[.pointer (some ⟨B, 0, none⟩), .string c, .string c2, .int .i64 k, .int .i64 d] w fun e w' => e = .returned (.tuple #[.int .i64 (crs base L c c2 k d).1, .int .i64 (crs base L c c2 k d).2.1, .int .i64 (crs base L c c2 k d).2.2]) ∧ Below w.heap.size w w' := by
  have H1 := Lib.hid (fun W hT => find_any N B base L c k d W hT hO hs hk hd)
  have H2 := Lib.hid (fun W hT => find_any N B base L c2 k d W hT hO hs2 hk hd)
  have HT := Lib.hid hT
  have HCr := Lib.hid (show crs base L c c2 k d = if (fnd base L c k d).2.2 ≠ 0 then (0, 0, (fnd base L c k d).2.2) else if (fnd base L c2 k d).2.2 ≠ 0 then (0, 0, (fnd base L c2 k d).2.2) else (crN (fnd base L c k d).1 (fnd base L c k d).2.1 (fnd base L c2 k d).1 (fnd base L c2 k d).2.1, crD (fnd base L c k d).1 (fnd base L c k d).2.1 (fnd base L c2 k d).1 (fnd base L c2 k d).2.1, 0) from rfl)
  have F1 := Lib.hid (fun e => fnd_ok hO (c := c) (k := k) (d := d) e)
  have F2 := Lib.hid (fun e => fnd_ok hO (c := c2) (k := k) (d := d) e)
  clear hT hO hk hd
  generalize crs base L c c2 k d = cr at *
  generalize fnd base L c k d = f at *
  generalize fnd base L c2 k d = g at *
  obtain ⟨fn, fd, fe⟩ := f
  obtain ⟨gn, gd, ge⟩ := g
  dsimp only at H1 H2 HCr F1 F2
  go_enter Try.func17, Try.ntmps17
  go_wp2_with fail
  refine (H1.out _ HT.out).mono ?_
  rintro e w1 ⟨rfl, hb⟩
  have ha : Below w1.heap.size w1 (w1.alloc (Obj.cells #[.int .i64 fn, .int .i64 fd] 37)) := (Below.refl _ _).alloc (Nat.le_refl _) _
  have HB1 := Lib.hid (hb.trans (ha.mono hb.size))
  have HT1 := Lib.hid ((HT.out.below hb).below ha)
  have HF1 := Lib.hid (Q2.alloc w1 (.int .i64 fn) (.int .i64 fd) 37)
  clear hb ha
  by_cases e1 : fe = 0
  · subst e1
    rw [if_neg (by simp)] at HCr
    have G1 := Lib.hid (F1.out rfl)
    clear F1
    go_wp2_with fail
    refine (H2.out _ HT1.out).mono ?_
    rintro e w2 ⟨rfl, hb⟩
    have ha : Below w2.heap.size w2 (w2.alloc (Obj.cells #[.int .i64 gn, .int .i64 gd] 37)) := (Below.refl _ _).alloc (Nat.le_refl _) _
    have HB2 := Lib.hid ((HB1.out.trans (hb.mono HB1.out.size)).trans (ha.mono (Nat.le_trans HB1.out.size hb.size)))
    have HF2 := Lib.hid ((HF1.out.below hb).below ha)
    have HG2 := Lib.hid (Q2.alloc w2 (.int .i64 gn) (.int .i64 gd) 37)
    clear hb ha
    by_cases e2 : ge = 0
    · subst e2
      rw [if_neg (by simp)] at HCr
      have F1 := G1.out
      clear G1
      have F2 := F2.out rfl
      have hmk := mk_cr F1 F2
      have b1 := mk_bd F1.1.1 F1.1.2 F2.1.1 F2.1.2
      have b2 := mk_bd F2.2.1.1 F2.2.1.2 F1.2.1.1 F1.2.1.2
      have HM1 := Lib.hid (fun W => make_any fn gn W (by have := F1.1.1; omega) (by have := F1.1.2; omega) (by have := F2.1.1; omega) (by have := F2.1.2; omega))
      have HM2 := Lib.hid (fun W => make_any gd fd W (by have := F2.2.1.1; omega) (by have := F2.2.1.2; omega) (by have := F1.2.1.1; omega) (by have := F1.2.1.2; omega))
      rw [(mk_pos F1.1.1 F1.1.2 F2.1.1 F2.1.2).2.2] at HM1
      rw [(mk_pos F2.2.1.1 F2.2.1.2 F1.2.1.1 F1.2.1.2).2.2] at HM2
      have HV := Lib.hid (show cr = (mkN fn gn * mkN gd fd, mkD fn gn * mkD gd fd, 0) by rw [HCr.out, hmk.1, hmk.2])
      clear F1 F2 hmk HCr
      have x0 := HF2.out.c0
      have x1 := HF2.out.c1
      have y0 := HG2.out.c0
      have y1 := HG2.out.c1
      generalize mkN fn gn = p1 at *
      generalize mkD fn gn = p2 at *
      generalize mkN gd fd = q1 at *
      generalize mkD gd fd = q2 at *
      obtain ⟨⟨p1a, p1b⟩, p2a, p2b⟩ := b1
      obtain ⟨⟨q1a, q1b⟩, q2a, q2b⟩ := b2
      have m1 : 0 ≤ p1 * q1 := Int.mul_nonneg p1a q1a
      have m2 : p1 * q1 ≤ 1000000 * 1000000 := Int.mul_le_mul p1b q1b q1a (by omega)
      have m3 : 0 ≤ p2 * q2 := Int.mul_nonneg p2a q2a
      have m4 : p2 * q2 ≤ 1000000 * 1000000 := Int.mul_le_mul p2b q2b q2a (by omega)
      go_wp2_with fail
      refine (HM1.out _).mono ?_
      rintro e w3 ⟨rfl, hb⟩
      have ha : Below w3.heap.size w3 (w3.alloc (Obj.cells #[.int .i64 p1, .int .i64 p2] 37)) := (Below.refl _ _).alloc (Nat.le_refl _) _
      have HB3 := Lib.hid ((HB2.out.trans (hb.mono HB2.out.size)).trans (ha.mono (Nat.le_trans HB2.out.size hb.size)))
      have HF3 := Lib.hid ((HF2.out.below hb).below ha)
      have HG3 := Lib.hid ((HG2.out.below hb).below ha)
      have HP3 := Lib.hid (Q2.alloc w3 (.int .i64 p1) (.int .i64 p2) 37)
      clear hb ha x0 x1 y0 y1 HF2 HG2 HB2
      have x0 := HF3.out.c0
      have x1 := HF3.out.c1
      have y0 := HG3.out.c0
      have y1 := HG3.out.c1
      go_wp2_with fail
      refine (HM2.out _).mono ?_
      rintro e w4 ⟨rfl, hb⟩
      have ha : Below w4.heap.size w4 (w4.alloc (Obj.cells #[.int .i64 q1, .int .i64 q2] 37)) := (Below.refl _ _).alloc (Nat.le_refl _) _
      have HB4 := Lib.hid ((HB3.out.trans (hb.mono HB3.out.size)).trans (ha.mono (Nat.le_trans HB3.out.size hb.size)))
      have hp4 := (HP3.out.below hb).below ha
      have hq4 := Q2.alloc w4 (.int .i64 q1) (.int .i64 q2) 37
      clear hb ha x0 x1 y0 y1 HF3 HG3 HB3
      have x0 := hp4.c0
      have x1 := hp4.c1
      have y0 := hq4.c0
      have y1 := hq4.c1
      clear hp4 hq4 HP3
      go_wp2_with fail
      go_quiet (fail)
      have HB5 := Lib.hid (below_drewN HB4.out nq)
      go_wp2
      go_ret3
      exact ⟨by rw [HV.out]; rfl, HB5.out⟩
    · rw [if_pos (by simpa using e2)] at HCr
      have e3 : (ge != 0) = true := by simpa using e2
      clear e2 F2
      go_wp2
      go_ret3
      exact ⟨by rw [HCr.out]; rfl, HB2.out⟩
  · rw [if_pos (by simpa using e1)] at HCr
    have e3 : (fe != 0) = true := by simpa using e1
    clear e1 F1 F2
    go_wp2
    go_ret3
    exact ⟨by rw [HCr.out]; rfl, HB1.out⟩
/-- what Convert returns. -/
def cnv (base : ByteArray) (L : List Rt) (x : Int) (c c2 : ByteArray) (k d mode : Int) : Int × Int :=
  if mode < 1 ∨ 5 < mode then (0, 10) else if (crs base L c c2 k d).2.2 ≠ 0 then (0, (crs base L c c2 k d).2.2)
  else if (mdV x (crs base L c c2 k d).1 (crs base L c c2 k d).2.1 mode).2 ≠ 0 ∨ suB x = false ∨ suB (mdV x (crs base L c c2 k d).1 (crs base L c c2 k d).2.1 mode).1 = false then (0, 4)
  else ((mdV x (crs base L c c2 k d).1 (crs base L c c2 k d).2.1 mode).1, 0)
set_option maxHeartbeats 1000000 in
theorem convert_nil (x : Int) (c c2 : ByteArray) (k d mode : Int) (w : World) :
    Calls Try.prog 18 #[.pointer none, .int .i64 x, .string c, .string c2, .int .i64 k, .int .i64 d, .int .i64 mode] w fun e w' => e = .returned (.tuple #[.int .i64 0, .int .i64 1]) ∧ w = w' := by
  go_enter Try.func18, Try.ntmps18
  go_wp2
  go_ret2
  exact ⟨rfl, rfl⟩
theorem crs_ok {base : ByteArray} {L : List Rt} (h : OkR base L) {c c2 : ByteArray} {k d : Int} (e : (crs base L c c2 k d).2.2 = 0) : (1 ≤ (crs base L c c2 k d).1 ∧ (crs base L c c2 k d).1 ≤ 1000000000000) ∧ (1 ≤ (crs base L c c2 k d).2.1 ∧ (crs base L c c2 k d).2.1 ≤ 1000000000000) := by
  unfold crs at e ⊢
  by_cases h1 : (fnd base L c k d).2.2 = 0
  · rw [if_neg (by simpa using h1)] at e ⊢
    by_cases h2 : (fnd base L c2 k d).2.2 = 0
    · rw [if_neg (by simpa using h2)] at e ⊢
      exact cr_pos (fnd_ok h h1) (fnd_ok h h2)
    · rw [if_pos h2] at e; exact absurd e h2
  · rw [if_pos h1] at e; exact absurd e h1
set_option maxRecDepth 100000 in
set_option maxHeartbeats 4000000 in
theorem convert_any (N B : Nat) (base : ByteArray) (L : List Rt) (x : Int) (c c2 : ByteArray) (k d mode : Int) (w : World) (hT : TabT w N B base L) (hO : OkR base L) (hx : r64 x) (hs : c.size ≤ maxLen) (hs2 : c2.size ≤ maxLen) (hk : r64 k) (hd : r64 d) (hm : r64 mode) :
    Calls Try.prog 18 #[.pointer (some ⟨B, 0, none⟩), .int .i64 x, .string c, .string c2, .int .i64 k, .int .i64 d, .int .i64 mode] w fun e w' => e = .returned (.tuple #[.int .i64 (cnv base L x c c2 k d mode).1, .int .i64 (cnv base L x c c2 k d mode).2]) ∧ Below w.heap.size w w' := by
  have H1 := Lib.hid (cross_any N B base L c c2 k d w hT hO hs hs2 hk hd)
  have HK := Lib.hid (fun e => crs_ok hO (c := c) (c2 := c2) (k := k) (d := d) e)
  have HV := Lib.hid (show cnv base L x c c2 k d mode = if mode < 1 ∨ 5 < mode then (0, 10) else if (crs base L c c2 k d).2.2 ≠ 0 then (0, (crs base L c c2 k d).2.2) else if (mdV x (crs base L c c2 k d).1 (crs base L c c2 k d).2.1 mode).2 ≠ 0 ∨ suB x = false ∨ suB (mdV x (crs base L c c2 k d).1 (crs base L c c2 k d).2.1 mode).1 = false then (0, 4) else ((mdV x (crs base L c c2 k d).1 (crs base L c c2 k d).2.1 mode).1, 0) from rfl)
  obtain ⟨x1, x2⟩ := hx
  obtain ⟨m1, m2⟩ := hm
  clear hT hO hk hd hs hs2
  generalize cnv base L x c c2 k d mode = cv at *
  generalize crs base L c c2 k d = cr at *
  obtain ⟨n, m, e⟩ := cr
  dsimp only at H1 HK HV
  by_cases g1 : mode < 1
  · rw [if_pos (Or.inl g1)] at HV
    go_enter Try.func18, Try.ntmps18
    go_wp2
    go_ret2
    exact ⟨by rw [HV.out]; rfl, Below.refl _ _⟩
  by_cases g2 : 5 < mode
  · rw [if_pos (Or.inr g2)] at HV
    go_enter Try.func18, Try.ntmps18
    go_wp2
    go_ret2
    exact ⟨by rw [HV.out]; rfl, Below.refl _ _⟩
  rw [if_neg (by omega)] at HV
  by_cases g3 : e = 0
  · subst g3
    rw [if_neg (by simp)] at HV
    obtain ⟨⟨n1, n2⟩, n3, n4⟩ := HK.out rfl
    have H2 := Lib.hid (fun W => mulDiv_any x n m mode W x1 x2 (by omega) (by omega) (by omega) (by omega))
    have H3 := Lib.hid (fun W => isSum_any x W)
    generalize mdV x n m mode = v at *
    obtain ⟨v1, v2⟩ := v
    dsimp only at H2 HV
    have H4 := Lib.hid (fun W => isSum_any v1 W)
    by_cases g4 : v2 = 0
    · subst g4
      cases g5 : suB x
      · rw [g5, if_pos (Or.inr (Or.inl rfl))] at HV
        rw [g5] at H3
        go_enter Try.func18, Try.ntmps18
        go_wp2_with fail
        refine H1.out.mono ?_
        rintro e w1 ⟨rfl, hb⟩
        have HB := Lib.hid hb
        clear hb
        go_wp2_with fail
        refine (H2.out _).mono ?_
        rintro e w2 ⟨rfl, hb⟩
        have HB := Lib.hid (HB.out.trans (hb.mono HB.out.size))
        clear hb
        go_wp2_with fail
        refine (H3.out _).mono ?_
        rintro e w_ ⟨rfl, rfl⟩
        go_wp2
        go_ret2
        exact ⟨by rw [HV.out]; rfl, HB.out⟩
      · rw [g5] at H3
        cases g6 : suB v1
        · rw [g6, if_pos (Or.inr (Or.inr rfl))] at HV
          rw [g6] at H4
          go_enter Try.func18, Try.ntmps18
          go_wp2_with fail
          refine H1.out.mono ?_
          rintro e w1 ⟨rfl, hb⟩
          have HB := Lib.hid hb
          clear hb
          go_wp2_with fail
          refine (H2.out _).mono ?_
          rintro e w2 ⟨rfl, hb⟩
          have HB := Lib.hid (HB.out.trans (hb.mono HB.out.size))
          clear hb
          go_wp2_with fail
          refine (H3.out _).mono ?_
          rintro e w_ ⟨rfl, rfl⟩
          go_wp2_with fail
          refine (H4.out _).mono ?_
          rintro e w_ ⟨rfl, rfl⟩
          go_wp2
          go_ret2
          exact ⟨by rw [HV.out]; rfl, HB.out⟩
        · rw [g5, g6, if_neg (by simp)] at HV
          rw [g6] at H4
          go_enter Try.func18, Try.ntmps18
          go_wp2_with fail
          refine H1.out.mono ?_
          rintro e w1 ⟨rfl, hb⟩
          have HB := Lib.hid hb
          clear hb
          go_wp2_with fail
          refine (H2.out _).mono ?_
          rintro e w2 ⟨rfl, hb⟩
          have HB := Lib.hid (HB.out.trans (hb.mono HB.out.size))
          clear hb
          go_wp2_with fail
          refine (H3.out _).mono ?_
          rintro e w_ ⟨rfl, rfl⟩
          go_wp2_with fail
          refine (H4.out _).mono ?_
          rintro e w_ ⟨rfl, rfl⟩
          go_wp2
          go_ret2
          exact ⟨by rw [HV.out]; rfl, HB.out⟩
    · rw [if_pos (Or.inl (by simpa using g4))] at HV
      have g7 : (v2 != 0) = true := by simpa using g4
      clear g4
      go_enter Try.func18, Try.ntmps18
      go_wp2_with fail
      refine H1.out.mono ?_
      rintro e w1 ⟨rfl, hb⟩
      have HB := Lib.hid hb
      clear hb
      go_wp2_with fail
      refine (H2.out _).mono ?_
      rintro e w2 ⟨rfl, hb⟩
      have HB := Lib.hid (HB.out.trans (hb.mono HB.out.size))
      clear hb
      go_wp2
      go_ret2
      exact ⟨by rw [HV.out]; rfl, HB.out⟩
  · rw [if_pos (by simpa using g3)] at HV
    have g7 : (e != 0) = true := by simpa using g3
    clear g3
    go_enter Try.func18, Try.ntmps18
    go_wp2_with fail
    refine H1.out.mono ?_
    rintro e w1 ⟨rfl, hb⟩
    have HB := Lib.hid hb
    clear hb
    go_wp2
    go_ret2
    exact ⟨by rw [HV.out]; rfl, HB.out⟩
end Go.Proofs.Ytdeoplbdgbgimaa
