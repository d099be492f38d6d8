/- What reduce of package frac returns, for numbers of any size. Written by wip/mk_fug.py. -/
import Derived.Test.YtlndomnampcnfaaFuD
import Derived.Test.YtlndomnampcnfaaOrd
namespace Go.Proofs.Ytlndomnampcnfaa
open Go.RowKit Go.Sort
set_option linter.unusedVariables false
set_option linter.unusedSimpArgs false

def rdN (n d : Nat) : Int := match rdO n d with | some (x, _) => x | none => 0
def rdD (n d : Nat) : Int := match rdO n d with | some (_, y) => y | none => 0
def rdB (n d : Nat) : Bool := (rdO n d).isSome
theorem rd_some {n d x y : Nat} (h : rdO n d = some (x, y)) : rdN n d = x ∧ rdD n d = y ∧ rdB n d = true := by unfold rdN rdD rdB; rw [h]; exact ⟨rfl, rfl, rfl⟩
theorem rd_none {n d : Nat} (h : rdO n d = none) : rdN n d = 0 ∧ rdD n d = 0 ∧ rdB n d = false := by unfold rdN rdD rdB; rw [h]; exact ⟨rfl, rfl, rfl⟩
def cellN (w : World) (B k : Nat) : Nat := match w.cell? ⟨B, k, none⟩ with | some (.int _ z) => z.toNat | _ => 0
def slV (w : World) : Option Value → Nat
  | some (.slice (some a) n _) => lv ((List.range n).map (cellN w a.block))
  | _ => 0
theorem slV_is {S : Nat → Prop} {w : World} {v : Value} {l : List Nat} (h : NatW S w v l) : slV w (some v) = lv l := by
  obtain ⟨_, _, _, ao, c, rfl, _, h6⟩ := h
  rcases Nat.eq_zero_or_pos l.length with h0 | h0
  · rw [lv_nil h0, h0]
    cases ao <;> rfl
  · obtain ⟨B, _, rfl, _, hc⟩ := h6 h0
    show lv ((List.range l.length).map (cellN w B)) = lv l
    congr 1
    apply List.ext_getElem
    · simp
    · intro i h1 h2
      simp only [List.getElem_map, List.getElem_range, cellN]
      rw [hc i h2]
      simp
def redV (w wr : World) : Nat := slV wr (wr.cell? ⟨w.heap.size + 1, 1, none⟩)
/-- where numbers may lie: not in the variables of reduce. -/
def offS (N : Nat) (B : Nat) : Prop := B < N ∨ N + 4 ≤ B
theorem offS_no (N i : Nat) (h : i < 4) : ¬ offS N (N + i) := by unfold offS; omega
theorem pair_set {S : Nat → Prop} {w : World} {v v' : Value} {l l' : List Nat} (h : NatW S w v l ∧ NatW S w v' l') (p : Addr) (hp : ¬ S p.block) (x : Value) : NatW S (w.setCell p x) v l ∧ NatW S (w.setCell p x) v' l' := ⟨h.1.set p hp x, h.2.set p hp x⟩
/-- the variables of reduce. -/
structure RedG (w wr : World) (a b : Value) (p q r t : Nat) : Prop where
  P0 : Cell2 wr w.heap.size (.int .i64 0) (.int .i64 0)
  P1 : Cell2 wr (w.heap.size + 1) a b
  P2 : Cell2 wr (w.heap.size + 2) (.int .i64 (p : Int)) (.int .i64 (q : Int))
  P3 : Cell2 wr (w.heap.size + 3) (.int .i64 (r : Int)) (.int .i64 (t : Int))
  B : Below w.heap.size w wr
set_option maxRecDepth 100000 in
set_option maxHeartbeats 16000000 in
theorem reduce_gen (ax0 bx0 : Option Addr) (na0 ca0 nb0 cb0 : Nat) (a0 b0 : List Nat) (n d : Nat) (w : World) (hn : lv a0 = n) (hd : lv b0 = d) (hd0 : 0 < d) (hA : NatW (fun B => B < w.heap.size) w (.slice ax0 na0 ca0) a0) (hB : NatW (fun B => B < w.heap.size) w (.slice bx0 nb0 cb0) b0) :
    Calls Try.prog 17 #[.slice ax0 na0 ca0, .slice bx0 nb0 cb0] w fun e w' => e = .returned (.tuple #[.agg #[.int .i64 (rdN n d), .int .i64 (rdD n d)], .bool (rdB n d)]) ∧ Below w.heap.size w w' := by
  have HNA := Lib.hid (And.intro (hA.imp (S' := offS w.heap.size) fun B h => .inl h) (hB.imp (S' := offS w.heap.size) fun B h => .inl h))
  have HC0 := Lib.hid (show CfI n d (lv a0) (lv b0) 0 1 1 0 by rw [hn, hd]; exact cf_start n d)
  have HD0 := Lib.hid hd0
  clear hA hB hn hd hd0
  go_enter Try.func17, Try.ntmps17
  go_wp2_with fail
  have P0_1 := Lib.hid (show Cell2 ((((w.alloc (Obj.cells #[(.int .i64 0), (.int .i64 0)] 24)).alloc (Obj.cells #[(.slice ax0 na0 ca0), (.slice bx0 nb0 cb0)] 67)).alloc (Obj.cells #[(.int .i64 0), (.int .i64 1)] 68)).alloc (Obj.cells #[(.int .i64 1), (.int .i64 0)] 68)) (w.heap.size) (.int .i64 0) (.int .i64 0) from by have q := Cell2.alloc w (.int .i64 0) (.int .i64 0) 24; exact q.below (N := w.heap.size + 1) ((((Below.refl _ _).alloc (by simp <;> omega) (Obj.cells #[(.slice ax0 na0 ca0), (.slice bx0 nb0 cb0)] 67)).alloc (by simp <;> omega) (Obj.cells #[(.int .i64 0), (.int .i64 1)] 68)).alloc (by simp <;> omega) (Obj.cells #[(.int .i64 1), (.int .i64 0)] 68)) (by omega))
  have P1_1 := Lib.hid (show Cell2 ((((w.alloc (Obj.cells #[(.int .i64 0), (.int .i64 0)] 24)).alloc (Obj.cells #[(.slice ax0 na0 ca0), (.slice bx0 nb0 cb0)] 67)).alloc (Obj.cells #[(.int .i64 0), (.int .i64 1)] 68)).alloc (Obj.cells #[(.int .i64 1), (.int .i64 0)] 68)) (w.heap.size + 1) (.slice ax0 na0 ca0) (.slice bx0 nb0 cb0) from by have q := Cell2.alloc (w.alloc (Obj.cells #[(.int .i64 0), (.int .i64 0)] 24)) (.slice ax0 na0 ca0) (.slice bx0 nb0 cb0) 67; try simp only [World.size_alloc] at q; exact q.below (N := w.heap.size + 1 + 1) (((Below.refl _ _).alloc (by simp <;> omega) (Obj.cells #[(.int .i64 0), (.int .i64 1)] 68)).alloc (by simp <;> omega) (Obj.cells #[(.int .i64 1), (.int .i64 0)] 68)) (by omega))
  have P2_1 := Lib.hid (show Cell2 ((((w.alloc (Obj.cells #[(.int .i64 0), (.int .i64 0)] 24)).alloc (Obj.cells #[(.slice ax0 na0 ca0), (.slice bx0 nb0 cb0)] 67)).alloc (Obj.cells #[(.int .i64 0), (.int .i64 1)] 68)).alloc (Obj.cells #[(.int .i64 1), (.int .i64 0)] 68)) (w.heap.size + 2) (.int .i64 0) (.int .i64 1) from by have q := Cell2.alloc ((w.alloc (Obj.cells #[(.int .i64 0), (.int .i64 0)] 24)).alloc (Obj.cells #[(.slice ax0 na0 ca0), (.slice bx0 nb0 cb0)] 67)) (.int .i64 0) (.int .i64 1) 68; try simp only [World.size_alloc] at q; exact q.below (N := w.heap.size + 2 + 1) ((Below.refl _ _).alloc (by simp <;> omega) (Obj.cells #[(.int .i64 1), (.int .i64 0)] 68)) (by omega))
  have P3_1 := Lib.hid (show Cell2 ((((w.alloc (Obj.cells #[(.int .i64 0), (.int .i64 0)] 24)).alloc (Obj.cells #[(.slice ax0 na0 ca0), (.slice bx0 nb0 cb0)] 67)).alloc (Obj.cells #[(.int .i64 0), (.int .i64 1)] 68)).alloc (Obj.cells #[(.int .i64 1), (.int .i64 0)] 68)) (w.heap.size + 3) (.int .i64 1) (.int .i64 0) from by simpa using Cell2.alloc (((w.alloc (Obj.cells #[(.int .i64 0), (.int .i64 0)] 24)).alloc (Obj.cells #[(.slice ax0 na0 ca0), (.slice bx0 nb0 cb0)] 67)).alloc (Obj.cells #[(.int .i64 0), (.int .i64 1)] 68)) (.int .i64 1) (.int .i64 0) 68)
  have HB1 := Lib.hid (((((Below.refl w.heap.size w).alloc (Nat.le_refl _) (Obj.cells #[(.int .i64 0), (.int .i64 0)] 24)).alloc (by simp) (Obj.cells #[(.slice ax0 na0 ca0), (.slice bx0 nb0 cb0)] 67)).alloc (by simp; omega) (Obj.cells #[(.int .i64 0), (.int .i64 1)] 68)).alloc (by simp; omega) (Obj.cells #[(.int .i64 1), (.int .i64 0)] 68))
  generalize ((((w.alloc (Obj.cells #[(.int .i64 0), (.int .i64 0)] 24)).alloc (Obj.cells #[(.slice ax0 na0 ca0), (.slice bx0 nb0 cb0)] 67)).alloc (Obj.cells #[(.int .i64 0), (.int .i64 1)] 68)).alloc (Obj.cells #[(.int .i64 1), (.int .i64 0)] 68)) = W1 at *
  have HS0 := Lib.hid (RedG.mk (p := 0) (q := 1) (r := 1) (t := 0) P0_1.out P1_1.out P2_1.out P3_1.out HB1.out)
  have HN0 := Lib.hid (And.intro (HNA.out.1.below HB1.out) (HNA.out.2.below HB1.out))
  go_loopw [] (fun wr => ∃ (ax bx : Option Addr) (na ca nb cb : Nat) (a b : List Nat) (p q r t : Nat), p ≤ 1000000 ∧ q ≤ 1000000 ∧ r ≤ 1000000 ∧ t ≤ 1000000 ∧ Hid (RedG w wr (.slice ax na ca) (.slice bx nb cb) p q r t) ∧ Hid (NatW (offS w.heap.size) wr (.slice ax na ca) a ∧ NatW (offS w.heap.size) wr (.slice bx nb cb) b) ∧ Hid (CfI n d (lv a) (lv b) p q r t)) (fun wr => redV w wr)
  case atStart => exact ⟨ax0, bx0, na0, ca0, nb0, cb0, a0, b0, 0, 1, 1, 0, by omega, by omega, by omega, by omega, HS0, HN0, HC0⟩
  case round =>
    clear HS0 HN0 HC0 HNA
    obtain ⟨ax, bx, na, ca, nb, cb, a, b, p, q, r, t, hp, hq, hr, ht, HS, HN, HC⟩ := hrel
    have P0_0 := Lib.hid HS.out.P0
    have P1_0 := Lib.hid HS.out.P1
    have P2_0 := Lib.hid HS.out.P2
    have P3_0 := Lib.hid HS.out.P3
    have HB_0 := Lib.hid HS.out.B
    have hnbl : nb = b.length := by
      obtain ⟨_, _, _, ao, c, e, _⟩ := HN.out.2
      injection e
    by_cases hb0 : 0 < nb
    · have hb0' : (0 : Int) < (nb : Int) := by omega
      have hbp : 0 < lv b := lv_pos HN.out.2.2.1 (by omega)
      have hlz := HS.out.P3.lt
      have HV := divide_gen (offS w.heap.size) (.slice ax na ca) (.slice bx nb cb) a b wr HN.out.1 HN.out.2 hbp (fun B h => .inr (by omega))
      obtain ⟨D, hD⟩ : ∃ D, min (lv a / lv b) 1000001 = D := ⟨_, rfl⟩
      rw [hD] at HV
      have HV := Lib.hid HV
      have HMb := Lib.hid (show redV w wr = lv b by unfold redV; rw [P1_0.out.c1]; exact slV_is HN.out.2)
      have hD1 : D ≤ 1000001 := by omega
      have hDa : D ≤ lv a / lv b := by omega
      obtain ⟨m1, hm1⟩ : ∃ m1 : Nat, (D : Int) * (r : Int) = (m1 : Int) := ⟨D * r, by simp⟩
      obtain ⟨m2, hm2⟩ : ∃ m2 : Nat, (D : Int) * (t : Int) = (m2 : Int) := ⟨D * t, by simp⟩
      have m1b : m1 ≤ 1000001 * 1000000 := by have : (D : Int) * (r : Int) ≤ 1000001 * 1000000 := Int.mul_le_mul (by omega) (by omega) (by omega) (by omega); omega
      have m2b : m2 ≤ 1000001 * 1000000 := by have : (D : Int) * (t : Int) ≤ 1000001 * 1000000 := Int.mul_le_mul (by omega) (by omega) (by omega) (by omega); omega
      have em1 : m1 = D * r := by apply Int.ofNat.inj; show (m1 : Int) = ((D * r : Nat) : Int); rw [← hm1]; simp
      have em2 : m2 = D * t := by apply Int.ofNat.inj; show (m2 : Int) = ((D * t : Nat) : Int); rw [← hm2]; simp
      obtain ⟨r2, hr2⟩ : ∃ r2 : Nat, (m1 : Int) + (p : Int) = (r2 : Int) := ⟨m1 + p, by simp⟩
      obtain ⟨t2, ht2⟩ : ∃ t2 : Nat, (m2 : Int) + (q : Int) = (t2 : Int) := ⟨m2 + q, by simp⟩
      have HBig := Lib.hid (show 1000000 < r2 ∨ 1000000 < t2 → rdO n d = none from fun h => cf_big HC.out hbp hDa (by rw [← em1, ← em2]; omega))
      have HGo := Lib.hid (show r2 ≤ 1000000 → t2 ≤ 1000000 → lv a / lv b ≤ 1000000 ∧ CfI n d (lv b) (lv a % lv b) r t r2 t2 from fun g1 g2 => by
        have hle : lv a / lv b ≤ 1000000 := by
          apply Classical.byContradiction
          intro hc
          have hD2 : D = 1000001 := by omega
          have := cf_cap HC.out
          rw [hD2] at em1 em2
          omega
        have hDe : D = lv a / lv b := by omega
        have := cf_step HC.out
        rw [← hDe, ← em1, ← em2] at this
        rw [show r2 = m1 + p by omega, show t2 = m2 + q by omega]
        exact ⟨hle, this⟩)
      have HW1 := Lib.hid (show IntKind.i64.wrap (m1 : Int) = m1 by first | go_num | (rw [IntKind.wrap_i64]; omega) | (simp only [IntKind.wrap, IntKind.min, IntKind.max, IntKind.signed, IntKind.bits]; omega))
      have HW2 := Lib.hid (show IntKind.i64.wrap (r2 : Int) = r2 by first | go_num | (rw [IntKind.wrap_i64]; omega) | (simp only [IntKind.wrap, IntKind.min, IntKind.max, IntKind.signed, IntKind.bits]; omega))
      have HW3 := Lib.hid (show IntKind.i64.wrap (m2 : Int) = m2 by first | go_num | (rw [IntKind.wrap_i64]; omega) | (simp only [IntKind.wrap, IntKind.min, IntKind.max, IntKind.signed, IntKind.bits]; omega))
      have HW4 := Lib.hid (show IntKind.i64.wrap (t2 : Int) = t2 by first | go_num | (rw [IntKind.wrap_i64]; omega) | (simp only [IntKind.wrap, IntKind.min, IntKind.max, IntKind.signed, IntKind.bits]; omega))
      have HNb := Lib.hid HN.out.2
      clear HS hD hDa em1 em2 HC HN hnbl
      have lP0_0 := P0_0.out.lt
      have cP0_0_0 := P0_0.out.c0
      have cP0_0_1 := P0_0.out.c1
      have lP1_0 := P1_0.out.lt
      have cP1_0_0 := P1_0.out.c0
      have cP1_0_1 := P1_0.out.c1
      have lP2_0 := P2_0.out.lt
      have cP2_0_0 := P2_0.out.c0
      have cP2_0_1 := P2_0.out.c1
      have lP3_0 := P3_0.out.lt
      have cP3_0_0 := P3_0.out.c0
      have cP3_0_1 := P3_0.out.c1
      go_wp2_with fail
      refine HV.out.mono ?_
      rintro e w2 ⟨v, l, rfl, hv, hvl, hb⟩
      obtain ⟨zx, nz, cz, rfl⟩ : ∃ zx nz cz, v = .slice zx nz cz := by
        obtain ⟨_, _, _, ao, c, e, _⟩ := hv
        exact ⟨ao, _, c, e⟩
      have HN := Lib.hid (And.intro (HNb.out.below hb) hv)
      have HVL := Lib.hid hvl
      clear hv HV hvl HNb
      clear lP0_0 cP0_0_0 cP0_0_1 lP1_0 cP1_0_0 cP1_0_1 lP2_0 cP2_0_0 cP2_0_1 lP3_0 cP3_0_0 cP3_0_1
      have HB2 := Lib.hid (HB_0.out.trans ((hb).mono HB_0.out.size))
      have P0_2 := Lib.hid (P0_0.out.below (hb) P0_0.out.lt)
      have P1_2 := Lib.hid (P1_0.out.below (hb) P1_0.out.lt)
      have P2_2 := Lib.hid (P2_0.out.below (hb) P2_0.out.lt)
      have P3_2 := Lib.hid (P3_0.out.below (hb) P3_0.out.lt)
      clear HB_0 P0_0 P1_0 P2_0 P3_0 hb
      have lP0_2 := P0_2.out.lt
      have cP0_2_0 := P0_2.out.c0
      have cP0_2_1 := P0_2.out.c1
      have lP1_2 := P1_2.out.lt
      have cP1_2_0 := P1_2.out.c0
      have cP1_2_1 := P1_2.out.c1
      have lP2_2 := P2_2.out.lt
      have cP2_2_0 := P2_2.out.c0
      have cP2_2_1 := P2_2.out.c1
      have lP3_2 := P3_2.out.lt
      have cP3_2_0 := P3_2.out.c0
      have cP3_2_1 := P3_2.out.c1
      have fP1_2_0 := P1_2.out.f0
      have fP1_2_1 := P1_2.out.f1
      go_wp2_with fail
      have HN2 := Lib.hid (pair_set (pair_set HN.out ⟨w.heap.size + 1, 0, none⟩ (offS_no _ 1 (by omega)) (.slice bx nb cb)) ⟨w.heap.size + 1, 1, none⟩ (offS_no _ 1 (by omega)) (.slice zx nz cz))
      clear HN
      have P0_3 := Lib.hid (P0_2.out.far (B' := w.heap.size + 1) (by omega) 0 (.slice bx nb cb))
      have P1_3 := Lib.hid (P1_2.out.set0 (.slice bx nb cb))
      have P2_3 := Lib.hid (P2_2.out.far (B' := w.heap.size + 1) (by omega) 0 (.slice bx nb cb))
      have P3_3 := Lib.hid (P3_2.out.far (B' := w.heap.size + 1) (by omega) 0 (.slice bx nb cb))
      have HB3 := Lib.hid (HB2.out.setCell (p := ⟨w.heap.size + 1, 0, none⟩) (by simp <;> omega) (.slice bx nb cb))
      have P0_4 := Lib.hid (P0_3.out.far (B' := w.heap.size + 1) (by omega) 1 (.slice zx nz cz))
      have P1_4 := Lib.hid (P1_3.out.set1 (.slice zx nz cz))
      have P2_4 := Lib.hid (P2_3.out.far (B' := w.heap.size + 1) (by omega) 1 (.slice zx nz cz))
      have P3_4 := Lib.hid (P3_3.out.far (B' := w.heap.size + 1) (by omega) 1 (.slice zx nz cz))
      have HB4 := Lib.hid (HB3.out.setCell (p := ⟨w.heap.size + 1, 1, none⟩) (by simp <;> omega) (.slice zx nz cz))
      clear lP0_2 cP0_2_0 cP0_2_1 lP1_2 cP1_2_0 cP1_2_1 lP2_2 cP2_2_0 cP2_2_1 lP3_2 cP3_2_0 cP3_2_1 fP1_2_0 fP1_2_1
      clear P0_2 P1_2 P2_2 P3_2 HB2 P0_3 P1_3 P2_3 P3_3 HB3
      generalize (w2.setCell ⟨w.heap.size + 1, 0, none⟩ (.slice bx nb cb)).setCell ⟨w.heap.size + 1, 1, none⟩ (.slice zx nz cz) = W5 at *
      have lP0_4 := P0_4.out.lt
      have cP0_4_0 := P0_4.out.c0
      have cP0_4_1 := P0_4.out.c1
      have lP1_4 := P1_4.out.lt
      have cP1_4_0 := P1_4.out.c0
      have cP1_4_1 := P1_4.out.c1
      have lP2_4 := P2_4.out.lt
      have cP2_4_0 := P2_4.out.c0
      have cP2_4_1 := P2_4.out.c1
      have lP3_4 := P3_4.out.lt
      have cP3_4_0 := P3_4.out.c0
      have cP3_4_1 := P3_4.out.c1
      have fP2_4_0 := P2_4.out.f0
      have fP2_4_1 := P2_4.out.f1
      have fP3_4_0 := P3_4.out.f0
      have fP3_4_1 := P3_4.out.f1
      have HSS := Lib.hid (show W5.drew.cell? ⟨w.heap.size + 3, 0, none⟩ = some (.int .i64 (r : Int)) ∧ W5.drew.cell? ⟨w.heap.size + 3, 1, none⟩ = some (.int .i64 (t : Int)) from ⟨P3_4.out.c0, P3_4.out.c1⟩)
      have HST := Lib.hid (show ((W5.setCell ⟨w.heap.size + 2, 0, none⟩ (.int .i64 (r : Int))).setCell ⟨w.heap.size + 2, 1, none⟩ (.int .i64 (t : Int))).drew.cell? ⟨w.heap.size + 3, 0, none⟩ = some (.int .i64 (r : Int)) ∧ ((W5.setCell ⟨w.heap.size + 2, 0, none⟩ (.int .i64 (r : Int))).setCell ⟨w.heap.size + 2, 1, none⟩ (.int .i64 (t : Int))).drew.cell? ⟨w.heap.size + 3, 1, none⟩ = some (.int .i64 (t : Int)) from ⟨((P3_4.out.far (B' := w.heap.size + 2) (by omega) 0 _).far (B' := w.heap.size + 2) (by omega) 1 _).c0, ((P3_4.out.far (B' := w.heap.size + 2) (by omega) 0 _).far (B' := w.heap.size + 2) (by omega) 1 _).c1⟩)
      refine goes_region (fun x => x.cell? ⟨w.heap.size + 3, 0, none⟩ = some (.int .i64 (r : Int)) ∧ x.cell? ⟨w.heap.size + 3, 1, none⟩ = some (.int .i64 (t : Int))) 17 (by kernel_rfl) ?_
      refine goes_take (i := 0) (v := ?_) rfl (by kernel_rfl) (by kernel_rfl) (by decide) (by kernel_rfl) (by kernel_rfl) (fun _ _ _ h => h) (Or.inl ⟨by kernel_rfl, ?_⟩) HSS.out ?_
      rotate_left
      · ((intro x hx; have hx0 := hx.1; have hx1 := hx.2; clear hx; go_simp) <;> with_reducible rfl)
      try simp only [Act.put, List.setIfInBounds_toArray, List.set_cons_zero, List.set_cons_succ]
      refine goes_take (i := 1) (v := ?_) rfl (by kernel_rfl) (by kernel_rfl) (by decide) (by kernel_rfl) (by kernel_rfl) (fun _ _ _ h => h) (Or.inl ⟨by kernel_rfl, ?_⟩) HSS.out ?_
      rotate_left
      · ((intro x hx; have hx0 := hx.1; have hx1 := hx.2; clear hx; go_simp) <;> with_reducible rfl)
      try simp only [Act.put, List.setIfInBounds_toArray, List.set_cons_zero, List.set_cons_succ]
      refine goes_take (i := 2) (v := ?_) rfl (by kernel_rfl) (by kernel_rfl) (by decide) (by kernel_rfl) (by kernel_rfl) (fun _ _ _ h => h) (Or.inl ⟨by kernel_rfl, ?_⟩) HSS.out ?_
      rotate_left
      · ((intro x hx; have hx0 := hx.1; have hx1 := hx.2; clear hx; go_simp) <;> with_reducible rfl)
      try simp only [Act.put, List.setIfInBounds_toArray, List.set_cons_zero, List.set_cons_succ]
      refine goes_take (i := 3) (v := ?_) rfl (by kernel_rfl) (by kernel_rfl) (by decide) (by kernel_rfl) (by kernel_rfl) (fun _ _ _ h => h) (Or.inl ⟨by kernel_rfl, ?_⟩) HSS.out ?_
      rotate_left
      · ((intro x hx; have hx0 := hx.1; have hx1 := hx.2; clear hx; go_simp) <;> with_reducible rfl)
      try simp only [Act.put, List.setIfInBounds_toArray, List.set_cons_zero, List.set_cons_succ]
      refine goes_take (i := 4) (v := ?_) rfl (by kernel_rfl) (by kernel_rfl) (by decide) (by kernel_rfl) (by kernel_rfl) (fun _ _ _ h => h) (Or.inl ⟨by kernel_rfl, ?_⟩) HSS.out ?_
      rotate_left
      · ((intro x hx; have hx0 := hx.1; have hx1 := hx.2; clear hx; go_simp) <;> with_reducible rfl)
      try simp only [Act.put, List.setIfInBounds_toArray, List.set_cons_zero, List.set_cons_succ]
      refine goes_take (i := 5) (v := ?_) rfl (by kernel_rfl) (by kernel_rfl) (by decide) (by kernel_rfl) (by kernel_rfl) (fun _ _ _ h => h) (Or.inl ⟨by kernel_rfl, ?_⟩) HSS.out ?_
      rotate_left
      · ((intro x hx; have hx0 := hx.1; have hx1 := hx.2; clear hx; go_simp) <;> with_reducible rfl)
      try simp only [Act.put, List.setIfInBounds_toArray, List.set_cons_zero, List.set_cons_succ]
      refine goes_take (i := 8) (v := ?_) rfl (by kernel_rfl) (by kernel_rfl) (by decide) (by kernel_rfl) (by kernel_rfl) (fun _ _ _ h => h) (Or.inl ⟨by kernel_rfl, ?_⟩) HSS.out ?_
      rotate_left
      · ((intro x hx; have hx0 := hx.1; have hx1 := hx.2; clear hx; go_simp) <;> with_reducible rfl)
      try simp only [Act.put, List.setIfInBounds_toArray, List.set_cons_zero, List.set_cons_succ]
      refine goes_take (i := 9) (v := ?_) rfl (by kernel_rfl) (by kernel_rfl) (by decide) (by kernel_rfl) (by kernel_rfl) (fun _ _ _ h => h) (Or.inl ⟨by kernel_rfl, ?_⟩) HSS.out ?_
      rotate_left
      · ((intro x hx; have hx0 := hx.1; have hx1 := hx.2; clear hx; go_simp) <;> with_reducible rfl)
      try simp only [Act.put, List.setIfInBounds_toArray, List.set_cons_zero, List.set_cons_succ]
      refine goes_take (i := 10) (v := ?_) rfl (by kernel_rfl) (by kernel_rfl) (by decide) (by kernel_rfl) (by kernel_rfl) (fun _ _ _ h => h) (Or.inl ⟨by kernel_rfl, ?_⟩) HSS.out ?_
      rotate_left
      · ((intro x hx; have hx0 := hx.1; have hx1 := hx.2; clear hx; go_simp) <;> with_reducible rfl)
      try simp only [Act.put, List.setIfInBounds_toArray, List.set_cons_zero, List.set_cons_succ]
      refine goes_take (i := 11) (v := ?_) rfl (by kernel_rfl) (by kernel_rfl) (by decide) (by kernel_rfl) (by kernel_rfl) (fun _ _ _ h => h) (Or.inl ⟨by kernel_rfl, ?_⟩) HSS.out ?_
      rotate_left
      · ((intro x hx; have hx0 := hx.1; have hx1 := hx.2; clear hx; go_simp) <;> with_reducible rfl)
      try simp only [Act.put, List.setIfInBounds_toArray, List.set_cons_zero, List.set_cons_succ]
      refine goes_take (i := 12) (v := ?_) rfl (by kernel_rfl) (by kernel_rfl) (by decide) (by kernel_rfl) (by kernel_rfl) (fun _ _ _ h => h) (Or.inl ⟨by kernel_rfl, ?_⟩) HSS.out ?_
      rotate_left
      · ((intro x hx; have hx0 := hx.1; have hx1 := hx.2; clear hx; go_simp) <;> with_reducible rfl)
      try simp only [Act.put, List.setIfInBounds_toArray, List.set_cons_zero, List.set_cons_succ]
      refine goes_two (i := 6) (j := 13) rfl rfl (by kernel_rfl) (fun K hK => ?_) (fun K hK => ?_)
      · skip
        go_simp
        refine hK _ _ (fun _ => HSS.out) ?_
        clear hK K
        try simp only [Act.put, List.setIfInBounds_toArray, List.set_cons_zero, List.set_cons_succ]
        refine goes_take (i := 7) (v := ?_) rfl (by kernel_rfl) (by kernel_rfl) (by decide) (by kernel_rfl) (by kernel_rfl) (fun _ _ _ h => h) (Or.inl ⟨by kernel_rfl, ?_⟩) HSS.out ?_
        rotate_left
        · ((intro x hx; have hx0 := hx.1; have hx1 := hx.2; clear hx; go_simp) <;> with_reducible rfl)
        try simp only [Act.put, List.setIfInBounds_toArray, List.set_cons_zero, List.set_cons_succ]
        refine goes_one (i := 13) rfl (by kernel_rfl) (fun K hK => ?_)
        go_simp
        refine hK _ _ (fun _ => HSS.out) ?_
        clear hK K
        try simp only [Act.put, List.setIfInBounds_toArray, List.set_cons_zero, List.set_cons_succ]
        refine goes_take (i := 14) (v := ?_) rfl (by kernel_rfl) (by kernel_rfl) (by decide) (by kernel_rfl) (by kernel_rfl) (fun _ _ _ h => h) (Or.inl ⟨by kernel_rfl, ?_⟩) HSS.out ?_
        rotate_left
        · ((intro x hx; have hx0 := hx.1; have hx1 := hx.2; clear hx; go_simp) <;> with_reducible rfl)
        try simp only [Act.put, List.setIfInBounds_toArray, List.set_cons_zero, List.set_cons_succ]
        refine goes_take (i := 15) (v := ?_) rfl (by kernel_rfl) (by kernel_rfl) (by decide) (by kernel_rfl) (by kernel_rfl) (fun _ _ _ h => h) (Or.inl ⟨by kernel_rfl, ?_⟩) HSS.out ?_
        rotate_left
        · ((intro x hx; have hx0 := hx.1; have hx1 := hx.2; clear hx; go_simp) <;> with_reducible rfl)
        try simp only [Act.put, List.setIfInBounds_toArray, List.set_cons_zero, List.set_cons_succ]
        refine goes_one (i := 16) rfl (by kernel_rfl) (fun K hK => ?_)
        go_simp
        refine hK _ _ (fun _ => HST.out) ?_
        clear hK K
        try simp only [Act.put, List.setIfInBounds_toArray, List.set_cons_zero, List.set_cons_succ]
        refine goes_one (i := 17) rfl (by kernel_rfl) (fun K hK => ?_)
        go_simp
        refine hK _ _ (fun h => absurd rfl h) ?_
        clear hK K
        try simp only [Act.put, List.setIfInBounds_toArray, List.set_cons_zero, List.set_cons_succ]
        refine goes_done (by kernel_rfl) ?_ _
        try simp only [Act.put, List.setIfInBounds_toArray, List.set_cons_zero, List.set_cons_succ]
        try go_simp
        simp only [HW1.out, HW3.out, hr2, ht2, HW2.out, HW4.out]
        rw [show (((W5.setCell ⟨w.heap.size + 1 + 1, 0, none⟩ (.int .i64 (r : Int))).setCell ⟨w.heap.size + 1 + 1, 1, none⟩ (.int .i64 (t : Int))).setCell ⟨w.heap.size + 1 + 1 + 1, 0, none⟩ (.int .i64 (r2 : Int))).setCell ⟨w.heap.size + 1 + 1 + 1, 1, none⟩ (.int .i64 (t2 : Int)) = (((W5.setCell ⟨w.heap.size + 2, 0, none⟩ (.int .i64 (r : Int))).setCell ⟨w.heap.size + 2, 1, none⟩ (.int .i64 (t : Int))).setCell ⟨w.heap.size + 3, 0, none⟩ (.int .i64 (r2 : Int))).setCell ⟨w.heap.size + 3, 1, none⟩ (.int .i64 (t2 : Int)) from rfl]
        have HN4 := Lib.hid (pair_set (pair_set (pair_set (pair_set HN2.out ⟨w.heap.size + 2, 0, none⟩ (offS_no _ 2 (by omega)) (.int .i64 (r : Int))) ⟨w.heap.size + 2, 1, none⟩ (offS_no _ 2 (by omega)) (.int .i64 (t : Int))) ⟨w.heap.size + 3, 0, none⟩ (offS_no _ 3 (by omega)) (.int .i64 (r2 : Int))) ⟨w.heap.size + 3, 1, none⟩ (offS_no _ 3 (by omega)) (.int .i64 (t2 : Int)))
        clear HN2 HSS HST
        have P0_6 := Lib.hid (P0_4.out.far (B' := w.heap.size + 2) (by omega) 0 (.int .i64 (r : Int)))
        have P1_6 := Lib.hid (P1_4.out.far (B' := w.heap.size + 2) (by omega) 0 (.int .i64 (r : Int)))
        have P2_6 := Lib.hid (P2_4.out.set0 (.int .i64 (r : Int)))
        have P3_6 := Lib.hid (P3_4.out.far (B' := w.heap.size + 2) (by omega) 0 (.int .i64 (r : Int)))
        have HB6 := Lib.hid (HB4.out.setCell (p := ⟨w.heap.size + 2, 0, none⟩) (by simp <;> omega) (.int .i64 (r : Int)))
        have P0_7 := Lib.hid (P0_6.out.far (B' := w.heap.size + 2) (by omega) 1 (.int .i64 (t : Int)))
        have P1_7 := Lib.hid (P1_6.out.far (B' := w.heap.size + 2) (by omega) 1 (.int .i64 (t : Int)))
        have P2_7 := Lib.hid (P2_6.out.set1 (.int .i64 (t : Int)))
        have P3_7 := Lib.hid (P3_6.out.far (B' := w.heap.size + 2) (by omega) 1 (.int .i64 (t : Int)))
        have HB7 := Lib.hid (HB6.out.setCell (p := ⟨w.heap.size + 2, 1, none⟩) (by simp <;> omega) (.int .i64 (t : Int)))
        have P0_8 := Lib.hid (P0_7.out.far (B' := w.heap.size + 3) (by omega) 0 (.int .i64 (r2 : Int)))
        have P1_8 := Lib.hid (P1_7.out.far (B' := w.heap.size + 3) (by omega) 0 (.int .i64 (r2 : Int)))
        have P2_8 := Lib.hid (P2_7.out.far (B' := w.heap.size + 3) (by omega) 0 (.int .i64 (r2 : Int)))
        have P3_8 := Lib.hid (P3_7.out.set0 (.int .i64 (r2 : Int)))
        have HB8 := Lib.hid (HB7.out.setCell (p := ⟨w.heap.size + 3, 0, none⟩) (by simp <;> omega) (.int .i64 (r2 : Int)))
        have P0_9 := Lib.hid (P0_8.out.far (B' := w.heap.size + 3) (by omega) 1 (.int .i64 (t2 : Int)))
        have P1_9 := Lib.hid (P1_8.out.far (B' := w.heap.size + 3) (by omega) 1 (.int .i64 (t2 : Int)))
        have P2_9 := Lib.hid (P2_8.out.far (B' := w.heap.size + 3) (by omega) 1 (.int .i64 (t2 : Int)))
        have P3_9 := Lib.hid (P3_8.out.set1 (.int .i64 (t2 : Int)))
        have HB9 := Lib.hid (HB8.out.setCell (p := ⟨w.heap.size + 3, 1, none⟩) (by simp <;> omega) (.int .i64 (t2 : Int)))
        clear lP0_4 cP0_4_0 cP0_4_1 lP1_4 cP1_4_0 cP1_4_1 lP2_4 cP2_4_0 cP2_4_1 lP3_4 cP3_4_0 cP3_4_1 fP2_4_0 fP2_4_1 fP3_4_0 fP3_4_1
        clear P0_4 P1_4 P2_4 P3_4 HB4 P0_6 P1_6 P2_6 P3_6 HB6 P0_7 P1_7 P2_7 P3_7 HB7 P0_8 P1_8 P2_8 P3_8 HB8
        generalize (((W5.setCell ⟨w.heap.size + 2, 0, none⟩ (.int .i64 (r : Int))).setCell ⟨w.heap.size + 2, 1, none⟩ (.int .i64 (t : Int))).setCell ⟨w.heap.size + 3, 0, none⟩ (.int .i64 (r2 : Int))).setCell ⟨w.heap.size + 3, 1, none⟩ (.int .i64 (t2 : Int)) = W10 at *
        have hbW : Below W10.heap.size W10 W10.drew := (Below.refl _ _).drew
        have HN5 := Lib.hid (And.intro (HN4.out.1.below hbW) (HN4.out.2.below hbW))
        clear HN4
        generalize W10.drew = WW at *
        have HB11 := Lib.hid (HB9.out.trans ((hbW).mono HB9.out.size))
        have P0_11 := Lib.hid (P0_9.out.below (hbW) P0_9.out.lt)
        have P1_11 := Lib.hid (P1_9.out.below (hbW) P1_9.out.lt)
        have P2_11 := Lib.hid (P2_9.out.below (hbW) P2_9.out.lt)
        have P3_11 := Lib.hid (P3_9.out.below (hbW) P3_9.out.lt)
        clear HB9 P0_9 P1_9 P2_9 P3_9 hbW
        by_cases k1 : 1000000 < r2
        · skip
          have k1' : (1000000 : Int) < (r2 : Int) := by omega
          have k1'' : decide ((1000000 : Int) < (r2 : Int)) = true := decide_eq_true k1'
          have HZ := Lib.hid (rd_none (HBig.out (by omega)))
          have lP0_11 := P0_11.out.lt
          have cP0_11_0 := P0_11.out.c0
          have cP0_11_1 := P0_11.out.c1
          have lP1_11 := P1_11.out.lt
          have cP1_11_0 := P1_11.out.c0
          have cP1_11_1 := P1_11.out.c1
          have lP2_11 := P2_11.out.lt
          have cP2_11_0 := P2_11.out.c0
          have cP2_11_1 := P2_11.out.c1
          have lP3_11 := P3_11.out.lt
          have cP3_11_0 := P3_11.out.c0
          have cP3_11_1 := P3_11.out.c1
          have fP0_11_0 := P0_11.out.f0
          have fP0_11_1 := P0_11.out.f1
          have fP3_11_0 := P3_11.out.f0
          have fP3_11_1 := P3_11.out.f1
          go_wp2
          refine bodyPost_ret (v := .tuple #[.agg #[(.int .i64 0), (.int .i64 0)], .bool false]) ?_ rfl ⟨by rw [HZ.out.1, HZ.out.2.1, HZ.out.2.2], ((HB11.out.setCell (p := ⟨w.heap.size, 0, none⟩) (by simp) (.int .i64 0)).setCell (p := ⟨w.heap.size, 1, none⟩) (by simp) (.int .i64 0))⟩
          have u0 := ((P0_11.out.set0 (.int .i64 0)).set1 (.int .i64 0)).c0
          have u1 := ((P0_11.out.set0 (.int .i64 0)).set1 (.int .i64 0)).c1
          rw [results_cell_tmp rfl]
          go_simp
        have k1'' : decide ((1000000 : Int) < (r2 : Int)) = false := decide_eq_false (by omega)
        by_cases k2 : 1000000 < t2
        · skip
          have k2'' : decide ((1000000 : Int) < (t2 : Int)) = true := decide_eq_true (by omega)
          have HZ := Lib.hid (rd_none (HBig.out (by omega)))
          have lP0_11 := P0_11.out.lt
          have cP0_11_0 := P0_11.out.c0
          have cP0_11_1 := P0_11.out.c1
          have lP1_11 := P1_11.out.lt
          have cP1_11_0 := P1_11.out.c0
          have cP1_11_1 := P1_11.out.c1
          have lP2_11 := P2_11.out.lt
          have cP2_11_0 := P2_11.out.c0
          have cP2_11_1 := P2_11.out.c1
          have lP3_11 := P3_11.out.lt
          have cP3_11_0 := P3_11.out.c0
          have cP3_11_1 := P3_11.out.c1
          have fP0_11_0 := P0_11.out.f0
          have fP0_11_1 := P0_11.out.f1
          have fP3_11_0 := P3_11.out.f0
          have fP3_11_1 := P3_11.out.f1
          go_wp2
          refine bodyPost_ret (v := .tuple #[.agg #[(.int .i64 0), (.int .i64 0)], .bool false]) ?_ rfl ⟨by rw [HZ.out.1, HZ.out.2.1, HZ.out.2.2], ((HB11.out.setCell (p := ⟨w.heap.size, 0, none⟩) (by simp) (.int .i64 0)).setCell (p := ⟨w.heap.size, 1, none⟩) (by simp) (.int .i64 0))⟩
          have u0 := ((P0_11.out.set0 (.int .i64 0)).set1 (.int .i64 0)).c0
          have u1 := ((P0_11.out.set0 (.int .i64 0)).set1 (.int .i64 0)).c1
          rw [results_cell_tmp rfl]
          go_simp
        have k2'' : decide ((1000000 : Int) < (t2 : Int)) = false := decide_eq_false (by omega)
        have HG2 := Lib.hid (HGo.out (by omega) (by omega))
        have HLl := Lib.hid (show lv l = lv a % lv b from HVL.out HG2.out.1)
        have HCf := Lib.hid (show CfI n d (lv b) (lv l) r t r2 t2 by rw [HLl.out]; exact HG2.out.2)
        have lP0_11 := P0_11.out.lt
        have cP0_11_0 := P0_11.out.c0
        have cP0_11_1 := P0_11.out.c1
        have lP1_11 := P1_11.out.lt
        have cP1_11_0 := P1_11.out.c0
        have cP1_11_1 := P1_11.out.c1
        have lP2_11 := P2_11.out.lt
        have cP2_11_0 := P2_11.out.c0
        have cP2_11_1 := P2_11.out.c1
        have lP3_11 := P3_11.out.lt
        have cP3_11_0 := P3_11.out.c0
        have cP3_11_1 := P3_11.out.c1
        go_wp2
        go_roundw
        case rel => exact ⟨bx, zx, nb, cb, nz, cz, b, l, r, t, r2, t2, hr, ht, by omega, by omega, Lib.hid ⟨P0_11.out, P1_11.out, P2_11.out, P3_11.out, HB11.out⟩, HN5, HCf⟩
        case measure =>
          have h1 : redV w WW = lv l := by unfold redV; rw [P1_11.out.c1]; exact slV_is HN5.out.2
          rw [h1, HMb.out, HLl.out]
          exact Nat.mod_lt _ hbp
      · skip
        go_simp
        refine hK _ _ (fun _ => HSS.out) ?_
        clear hK K
        try simp only [Act.put, List.setIfInBounds_toArray, List.set_cons_zero, List.set_cons_succ]
        refine goes_take (i := 14) (v := ?_) rfl (by kernel_rfl) (by kernel_rfl) (by decide) (by kernel_rfl) (by kernel_rfl) (fun _ _ _ h => h) (Or.inl ⟨by kernel_rfl, ?_⟩) HSS.out ?_
        rotate_left
        · ((intro x hx; have hx0 := hx.1; have hx1 := hx.2; clear hx; go_simp) <;> with_reducible rfl)
        try simp only [Act.put, List.setIfInBounds_toArray, List.set_cons_zero, List.set_cons_succ]
        refine goes_one (i := 6) rfl (by kernel_rfl) (fun K hK => ?_)
        go_simp
        refine hK _ _ (fun _ => HSS.out) ?_
        clear hK K
        try simp only [Act.put, List.setIfInBounds_toArray, List.set_cons_zero, List.set_cons_succ]
        refine goes_take (i := 7) (v := ?_) rfl (by kernel_rfl) (by kernel_rfl) (by decide) (by kernel_rfl) (by kernel_rfl) (fun _ _ _ h => h) (Or.inl ⟨by kernel_rfl, ?_⟩) HSS.out ?_
        rotate_left
        · ((intro x hx; have hx0 := hx.1; have hx1 := hx.2; clear hx; go_simp) <;> with_reducible rfl)
        try simp only [Act.put, List.setIfInBounds_toArray, List.set_cons_zero, List.set_cons_succ]
        refine goes_take (i := 15) (v := ?_) rfl (by kernel_rfl) (by kernel_rfl) (by decide) (by kernel_rfl) (by kernel_rfl) (fun _ _ _ h => h) (Or.inl ⟨by kernel_rfl, ?_⟩) HSS.out ?_
        rotate_left
        · ((intro x hx; have hx0 := hx.1; have hx1 := hx.2; clear hx; go_simp) <;> with_reducible rfl)
        try simp only [Act.put, List.setIfInBounds_toArray, List.set_cons_zero, List.set_cons_succ]
        refine goes_one (i := 16) rfl (by kernel_rfl) (fun K hK => ?_)
        go_simp
        refine hK _ _ (fun _ => HST.out) ?_
        clear hK K
        try simp only [Act.put, List.setIfInBounds_toArray, List.set_cons_zero, List.set_cons_succ]
        refine goes_one (i := 17) rfl (by kernel_rfl) (fun K hK => ?_)
        go_simp
        refine hK _ _ (fun h => absurd rfl h) ?_
        clear hK K
        try simp only [Act.put, List.setIfInBounds_toArray, List.set_cons_zero, List.set_cons_succ]
        refine goes_done (by kernel_rfl) ?_ _
        try simp only [Act.put, List.setIfInBounds_toArray, List.set_cons_zero, List.set_cons_succ]
        try go_simp
        simp only [HW1.out, HW3.out, hr2, ht2, HW2.out, HW4.out]
        rw [show (((W5.setCell ⟨w.heap.size + 1 + 1, 0, none⟩ (.int .i64 (r : Int))).setCell ⟨w.heap.size + 1 + 1, 1, none⟩ (.int .i64 (t : Int))).setCell ⟨w.heap.size + 1 + 1 + 1, 0, none⟩ (.int .i64 (r2 : Int))).setCell ⟨w.heap.size + 1 + 1 + 1, 1, none⟩ (.int .i64 (t2 : Int)) = (((W5.setCell ⟨w.heap.size + 2, 0, none⟩ (.int .i64 (r : Int))).setCell ⟨w.heap.size + 2, 1, none⟩ (.int .i64 (t : Int))).setCell ⟨w.heap.size + 3, 0, none⟩ (.int .i64 (r2 : Int))).setCell ⟨w.heap.size + 3, 1, none⟩ (.int .i64 (t2 : Int)) from rfl]
        have HN4 := Lib.hid (pair_set (pair_set (pair_set (pair_set HN2.out ⟨w.heap.size + 2, 0, none⟩ (offS_no _ 2 (by omega)) (.int .i64 (r : Int))) ⟨w.heap.size + 2, 1, none⟩ (offS_no _ 2 (by omega)) (.int .i64 (t : Int))) ⟨w.heap.size + 3, 0, none⟩ (offS_no _ 3 (by omega)) (.int .i64 (r2 : Int))) ⟨w.heap.size + 3, 1, none⟩ (offS_no _ 3 (by omega)) (.int .i64 (t2 : Int)))
        clear HN2 HSS HST
        have P0_12 := Lib.hid (P0_4.out.far (B' := w.heap.size + 2) (by omega) 0 (.int .i64 (r : Int)))
        have P1_12 := Lib.hid (P1_4.out.far (B' := w.heap.size + 2) (by omega) 0 (.int .i64 (r : Int)))
        have P2_12 := Lib.hid (P2_4.out.set0 (.int .i64 (r : Int)))
        have P3_12 := Lib.hid (P3_4.out.far (B' := w.heap.size + 2) (by omega) 0 (.int .i64 (r : Int)))
        have HB12 := Lib.hid (HB4.out.setCell (p := ⟨w.heap.size + 2, 0, none⟩) (by simp <;> omega) (.int .i64 (r : Int)))
        have P0_13 := Lib.hid (P0_12.out.far (B' := w.heap.size + 2) (by omega) 1 (.int .i64 (t : Int)))
        have P1_13 := Lib.hid (P1_12.out.far (B' := w.heap.size + 2) (by omega) 1 (.int .i64 (t : Int)))
        have P2_13 := Lib.hid (P2_12.out.set1 (.int .i64 (t : Int)))
        have P3_13 := Lib.hid (P3_12.out.far (B' := w.heap.size + 2) (by omega) 1 (.int .i64 (t : Int)))
        have HB13 := Lib.hid (HB12.out.setCell (p := ⟨w.heap.size + 2, 1, none⟩) (by simp <;> omega) (.int .i64 (t : Int)))
        have P0_14 := Lib.hid (P0_13.out.far (B' := w.heap.size + 3) (by omega) 0 (.int .i64 (r2 : Int)))
        have P1_14 := Lib.hid (P1_13.out.far (B' := w.heap.size + 3) (by omega) 0 (.int .i64 (r2 : Int)))
        have P2_14 := Lib.hid (P2_13.out.far (B' := w.heap.size + 3) (by omega) 0 (.int .i64 (r2 : Int)))
        have P3_14 := Lib.hid (P3_13.out.set0 (.int .i64 (r2 : Int)))
        have HB14 := Lib.hid (HB13.out.setCell (p := ⟨w.heap.size + 3, 0, none⟩) (by simp <;> omega) (.int .i64 (r2 : Int)))
        have P0_15 := Lib.hid (P0_14.out.far (B' := w.heap.size + 3) (by omega) 1 (.int .i64 (t2 : Int)))
        have P1_15 := Lib.hid (P1_14.out.far (B' := w.heap.size + 3) (by omega) 1 (.int .i64 (t2 : Int)))
        have P2_15 := Lib.hid (P2_14.out.far (B' := w.heap.size + 3) (by omega) 1 (.int .i64 (t2 : Int)))
        have P3_15 := Lib.hid (P3_14.out.set1 (.int .i64 (t2 : Int)))
        have HB15 := Lib.hid (HB14.out.setCell (p := ⟨w.heap.size + 3, 1, none⟩) (by simp <;> omega) (.int .i64 (t2 : Int)))
        clear lP0_4 cP0_4_0 cP0_4_1 lP1_4 cP1_4_0 cP1_4_1 lP2_4 cP2_4_0 cP2_4_1 lP3_4 cP3_4_0 cP3_4_1 fP2_4_0 fP2_4_1 fP3_4_0 fP3_4_1
        clear P0_4 P1_4 P2_4 P3_4 HB4 P0_12 P1_12 P2_12 P3_12 HB12 P0_13 P1_13 P2_13 P3_13 HB13 P0_14 P1_14 P2_14 P3_14 HB14
        generalize (((W5.setCell ⟨w.heap.size + 2, 0, none⟩ (.int .i64 (r : Int))).setCell ⟨w.heap.size + 2, 1, none⟩ (.int .i64 (t : Int))).setCell ⟨w.heap.size + 3, 0, none⟩ (.int .i64 (r2 : Int))).setCell ⟨w.heap.size + 3, 1, none⟩ (.int .i64 (t2 : Int)) = W16 at *
        have hbW : Below W16.heap.size W16 W16.drew := (Below.refl _ _).drew
        have HN5 := Lib.hid (And.intro (HN4.out.1.below hbW) (HN4.out.2.below hbW))
        clear HN4
        generalize W16.drew = WW at *
        have HB17 := Lib.hid (HB15.out.trans ((hbW).mono HB15.out.size))
        have P0_17 := Lib.hid (P0_15.out.below (hbW) P0_15.out.lt)
        have P1_17 := Lib.hid (P1_15.out.below (hbW) P1_15.out.lt)
        have P2_17 := Lib.hid (P2_15.out.below (hbW) P2_15.out.lt)
        have P3_17 := Lib.hid (P3_15.out.below (hbW) P3_15.out.lt)
        clear HB15 P0_15 P1_15 P2_15 P3_15 hbW
        by_cases k1 : 1000000 < r2
        · skip
          have k1' : (1000000 : Int) < (r2 : Int) := by omega
          have k1'' : decide ((1000000 : Int) < (r2 : Int)) = true := decide_eq_true k1'
          have HZ := Lib.hid (rd_none (HBig.out (by omega)))
          have lP0_17 := P0_17.out.lt
          have cP0_17_0 := P0_17.out.c0
          have cP0_17_1 := P0_17.out.c1
          have lP1_17 := P1_17.out.lt
          have cP1_17_0 := P1_17.out.c0
          have cP1_17_1 := P1_17.out.c1
          have lP2_17 := P2_17.out.lt
          have cP2_17_0 := P2_17.out.c0
          have cP2_17_1 := P2_17.out.c1
          have lP3_17 := P3_17.out.lt
          have cP3_17_0 := P3_17.out.c0
          have cP3_17_1 := P3_17.out.c1
          have fP0_17_0 := P0_17.out.f0
          have fP0_17_1 := P0_17.out.f1
          have fP3_17_0 := P3_17.out.f0
          have fP3_17_1 := P3_17.out.f1
          go_wp2
          refine bodyPost_ret (v := .tuple #[.agg #[(.int .i64 0), (.int .i64 0)], .bool false]) ?_ rfl ⟨by rw [HZ.out.1, HZ.out.2.1, HZ.out.2.2], ((HB17.out.setCell (p := ⟨w.heap.size, 0, none⟩) (by simp) (.int .i64 0)).setCell (p := ⟨w.heap.size, 1, none⟩) (by simp) (.int .i64 0))⟩
          have u0 := ((P0_17.out.set0 (.int .i64 0)).set1 (.int .i64 0)).c0
          have u1 := ((P0_17.out.set0 (.int .i64 0)).set1 (.int .i64 0)).c1
          rw [results_cell_tmp rfl]
          go_simp
        have k1'' : decide ((1000000 : Int) < (r2 : Int)) = false := decide_eq_false (by omega)
        by_cases k2 : 1000000 < t2
        · skip
          have k2'' : decide ((1000000 : Int) < (t2 : Int)) = true := decide_eq_true (by omega)
          have HZ := Lib.hid (rd_none (HBig.out (by omega)))
          have lP0_17 := P0_17.out.lt
          have cP0_17_0 := P0_17.out.c0
          have cP0_17_1 := P0_17.out.c1
          have lP1_17 := P1_17.out.lt
          have cP1_17_0 := P1_17.out.c0
          have cP1_17_1 := P1_17.out.c1
          have lP2_17 := P2_17.out.lt
          have cP2_17_0 := P2_17.out.c0
          have cP2_17_1 := P2_17.out.c1
          have lP3_17 := P3_17.out.lt
          have cP3_17_0 := P3_17.out.c0
          have cP3_17_1 := P3_17.out.c1
          have fP0_17_0 := P0_17.out.f0
          have fP0_17_1 := P0_17.out.f1
          have fP3_17_0 := P3_17.out.f0
          have fP3_17_1 := P3_17.out.f1
          go_wp2
          refine bodyPost_ret (v := .tuple #[.agg #[(.int .i64 0), (.int .i64 0)], .bool false]) ?_ rfl ⟨by rw [HZ.out.1, HZ.out.2.1, HZ.out.2.2], ((HB17.out.setCell (p := ⟨w.heap.size, 0, none⟩) (by simp) (.int .i64 0)).setCell (p := ⟨w.heap.size, 1, none⟩) (by simp) (.int .i64 0))⟩
          have u0 := ((P0_17.out.set0 (.int .i64 0)).set1 (.int .i64 0)).c0
          have u1 := ((P0_17.out.set0 (.int .i64 0)).set1 (.int .i64 0)).c1
          rw [results_cell_tmp rfl]
          go_simp
        have k2'' : decide ((1000000 : Int) < (t2 : Int)) = false := decide_eq_false (by omega)
        have HG2 := Lib.hid (HGo.out (by omega) (by omega))
        have HLl := Lib.hid (show lv l = lv a % lv b from HVL.out HG2.out.1)
        have HCf := Lib.hid (show CfI n d (lv b) (lv l) r t r2 t2 by rw [HLl.out]; exact HG2.out.2)
        have lP0_17 := P0_17.out.lt
        have cP0_17_0 := P0_17.out.c0
        have cP0_17_1 := P0_17.out.c1
        have lP1_17 := P1_17.out.lt
        have cP1_17_0 := P1_17.out.c0
        have cP1_17_1 := P1_17.out.c1
        have lP2_17 := P2_17.out.lt
        have cP2_17_0 := P2_17.out.c0
        have cP2_17_1 := P2_17.out.c1
        have lP3_17 := P3_17.out.lt
        have cP3_17_0 := P3_17.out.c0
        have cP3_17_1 := P3_17.out.c1
        go_wp2
        go_roundw
        case rel => exact ⟨bx, zx, nb, cb, nz, cz, b, l, r, t, r2, t2, hr, ht, by omega, by omega, Lib.hid ⟨P0_17.out, P1_17.out, P2_17.out, P3_17.out, HB17.out⟩, HN5, HCf⟩
        case measure =>
          have h1 : redV w WW = lv l := by unfold redV; rw [P1_17.out.c1]; exact slV_is HN5.out.2
          rw [h1, HMb.out, HLl.out]
          exact Nat.mod_lt _ hbp
    · have hb0' : ¬ (0 : Int) < (nb : Int) := by omega
      have HE := Lib.hid (show rdO n d = some (r, t) by
        have hz : lv b = 0 := lv_nil (by omega)
        have hc := HC.out
        rw [hz] at hc
        exact cf_done hc HD0.out hr ht)
      have HZ := Lib.hid (rd_some HE.out)
      clear HS HN HC hnbl
      have lP0_0 := P0_0.out.lt
      have cP0_0_0 := P0_0.out.c0
      have cP0_0_1 := P0_0.out.c1
      have lP1_0 := P1_0.out.lt
      have cP1_0_0 := P1_0.out.c0
      have cP1_0_1 := P1_0.out.c1
      have lP2_0 := P2_0.out.lt
      have cP2_0_0 := P2_0.out.c0
      have cP2_0_1 := P2_0.out.c1
      have lP3_0 := P3_0.out.lt
      have cP3_0_0 := P3_0.out.c0
      have cP3_0_1 := P3_0.out.c1
      have fP0_0_0 := P0_0.out.f0
      have fP0_0_1 := P0_0.out.f1
      go_wp2
      refine bodyPost_ret (v := .tuple #[.agg #[(.int .i64 (r : Int)), (.int .i64 (t : Int))], .bool true]) ?_ rfl ⟨by rw [HZ.out.1, HZ.out.2.1, HZ.out.2.2], ((HB_0.out.setCell (p := ⟨w.heap.size, 0, none⟩) (by simp) (.int .i64 (r : Int))).setCell (p := ⟨w.heap.size, 1, none⟩) (by simp) (.int .i64 (t : Int)))⟩
      have u0 := ((P0_0.out.set0 (.int .i64 (r : Int))).set1 (.int .i64 (t : Int))).c0
      have u1 := ((P0_0.out.set0 (.int .i64 (r : Int))).set1 (.int .i64 (t : Int))).c1
      rw [results_cell_tmp rfl]
      go_simp
end Go.Proofs.Ytlndomnampcnfaa
