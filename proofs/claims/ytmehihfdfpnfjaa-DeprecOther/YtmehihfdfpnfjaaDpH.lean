/- straight, declining and Schedule of package accountingref30. Written by wip/mk_dpg.py. -/
import Derived.Test.YtmehihfdfpnfjaaDpG
namespace Go.Proofs.Ytmehihfdfpnfjaa
open Go.RowKit Go.Sort
set_option linter.unusedVariables false
set_option linter.unusedSimpArgs false

def OwnI (w : World) (base : Nat) (v : Value) (l : List Int) : Prop := OwnV w base 3 v (l.map (Value.int .i64))
theorem wpList_int {w : World} {ops : Array Oper} {rest : List Oper} {o : Oper} {a : Act} {Q : Exit → Act → World → Prop} (hgd : o.guard = none) (s x : Operand)
    (ho : o.op = .call { callee := .builtin .append, args := #[s, x], argTypes := #[24, 24] })
    (base : Nat) (v : Value) (l : List Int) (y : Int) (hs : a.eval s = v) (hown : OwnI w base v l) (ad : Addr) (c : Nat) (hx : a.eval x = .slice (some ad) 1 c) (hc : RowV w (some ad) [.int .i64 y])
    (hl : l.length < 10000) (hbase : base ≤ w.heap.size)
    (h : ∀ v' w', OwnI w' base v' (l ++ [y]) → Below base w w' → wpList Try.prog ops Q rest (a.put o.dst v') w') : wpList Try.prog ops Q (o :: rest) a w := by
  refine wpList_vals und_ints inf_int rfl (by omega) hgd s x ho base v (l.map (Value.int .i64)) [.int .i64 y] hs hown (some ad) c hx (fun e => by cases e) hc ?_ (by simp; omega) hbase ?_
  · intro z hz; simp at hz; subst hz; rfl
  · intro v' w' h1 h2
    exact h v' w' (by unfold OwnI; rw [List.map_append]; exact h1) h2
theorem row_int (w : World) (y : Int) (t : TypeId) : RowV (w.alloc (Obj.cells #[.int .i64 y] t)) (some ⟨w.heap.size, 0, none⟩) [.int .i64 y] :=
  RowV.block (by simp) fun i x hx => by
    match i, hx with
    | 0, hx => rw [World.cell?_alloc_at _ _ _ _ rfl]; simpa using hx
theorem OwnI.below {w w' : World} {base : Nat} {v : Value} {l : List Int} (h : OwnI w base v l) (hb : Below w.heap.size w w') : OwnI w' base v l := OwnV.below h hb
theorem OwnI.end_ {w : World} {base : Nat} {v : Value} {l : List Int} (h : OwnI w base v l) (hz : ∀ z ∈ l, -9223372036854775808 ≤ z ∧ z ≤ 9223372036854775807) : ∃ A k, v = .slice A l.length k ∧ Row w A l := by
  obtain ⟨ao, cap, e⟩ := OwnV.shape h
  rw [List.length_map] at e
  subst e
  exact ⟨ao, cap, rfl, own_row (base := base) (n := l.length) (cap := cap) h hz⟩
theorem df_bd {g : Nat → Int} {n : Nat} (hb : ∀ i, i < n → -9223372036854775808 ≤ g (i + 1) - g i ∧ g (i + 1) - g i ≤ 9223372036854775807) : ∀ z ∈ dfL g n, -9223372036854775808 ≤ z ∧ z ≤ 9223372036854775807 := fun z hz => by
  obtain ⟨k, hk, rfl⟩ := List.getElem_of_mem hz
  rw [dfL_at]
  exact hb k (by rw [dfL_len] at hk; exact hk)
theorem rstG_call {c s p : Int} (g : Nums c s p) {k : Nat} (hk : (k : Int) + 1 ≤ p) (W : World) :
    Calls Try.prog 37 #[.int .i64 (c - s), .int .i64 ((k : Int) + 1), .int .i64 p, .int .i64 4] W fun e w' => e = .returned (.tuple #[.int .i64 (stG c s p (k + 1)), .int .i64 0]) ∧ W = w' := by
  have g1 := g.sc; have g2 := g.c2; have g3 := g.s0; have g4 := g.p1; have g5 := g.p2; have g6 := g.c1
  have h := (rE_all (D := c - s) (p := p) (by omega) (by omega) g.p1 g.p2 (k := k + 1) (by omega)).1
  rw [show ((k + 1 : Nat) : Int) = (k : Int) + 1 by omega] at h
  have q := rMulDiv_any (c - s) ((k : Int) + 1) p 4 W (by omega) (by omega) (by omega) (by omega) (by omega) (by omega)
  rw [h] at q
  unfold stG
  rw [show ((k + 1 : Nat) : Int) = (k : Int) + 1 by omega]
  exact q
/-- how the reference's schedules end. -/
def RdQ (l : List Int) (w : World) (e : Ending) (w' : World) : Prop := ∃ A k, e = .returned (.slice A l.length k) ∧ Row w' A l ∧ Below w.heap.size w w'
set_option maxRecDepth 100000 in
set_option maxHeartbeats 4000000 in
theorem rStraight_any (m c s a b : Int) (n : Nat) (A : Option Addr) (uc : Nat) (us : List Int) (w : World) (g : Nums c s n) :
    Calls Try.prog 23 #[.agg #[.int .i64 m, .int .i64 c, .int .i64 s, .int .i64 (n : Int), .int .i64 a, .int .i64 b, .slice A us.length uc]] w (RdQ (dfL (stG c s n) n) w) := by
  have HP := Lib.hid (Q7.alloc w (.int .i64 m) (.int .i64 c) (.int .i64 s) (.int .i64 (n : Int)) (.int .i64 a) (.int .i64 b) (.slice A us.length uc) 26)
  have HB0 := Lib.hid ((Below.refl w.heap.size w).alloc (Nat.le_refl _) (Obj.cells #[.int .i64 m, .int .i64 c, .int .i64 s, .int .i64 (n : Int), .int .i64 a, .int .i64 b, .slice A us.length uc] 26))
  have HG := Lib.hid g
  have HZ := Lib.hid (stG_zero (c := c) (s := s) (p := (n : Int)) g.p1)
  have HS0 := Lib.hid (show w.heap.size + 1 ≤ (w.alloc (Obj.cells #[.int .i64 m, .int .i64 c, .int .i64 s, .int .i64 (n : Int), .int .i64 a, .int .i64 b, .slice A us.length uc] 26)).heap.size by simp)
  have HBd := Lib.hid (df_bd (g := stG c s n) (n := n) (fun i hi => by have := stG_bd g (k := i) (by omega); have := stG_bd g (k := i + 1) (by omega); omega))
  have g1 := g.sc; have g2 := g.c2; have g3 := g.s0; have g4 := g.p1; have g5 := g.p2; have g6 := g.c1
  clear g
  go_enter Try.func23, Try.ntmps23
  have x0 := HP.out.c0
  have x1 := HP.out.c1
  have x2 := HP.out.c2
  have x3 := HP.out.c3
  have x4 := HP.out.c4
  have x5 := HP.out.c5
  have x6 := HP.out.c6
  go_wp2
  go_loopw [3, 4, 5] (fun l bf x wr => ∃ k : Nat, k ≤ n ∧ x = .int .i64 ((k : Int) + 1) ∧ bf = .int .i64 (stG c s n k) ∧ Hid (OwnI wr (w.heap.size + 1) l (dfL (stG c s n) k)) ∧ Hid (Q7 wr w.heap.size (.int .i64 m) (.int .i64 c) (.int .i64 s) (.int .i64 (n : Int)) (.int .i64 a) (.int .i64 b) (.slice A us.length uc)) ∧ Hid (Below w.heap.size w wr) ∧ Hid (w.heap.size + 1 ≤ wr.heap.size)) (fun _ _ x _ => (n + 1 - (intOf x).toNat))
  case atStart => exact ⟨0, Nat.zero_le _, by simp, by rw [HZ.out], Lib.hid (OwnV.nil _ _ _), HP, HB0, HS0⟩
  case round =>
    clear x0 x1 x2 x3 x4 x5 x6 HP HB0 HS0
    obtain ⟨k, hk, rfl, rfl, HO, HP, HB, HS⟩ := hrel
    by_cases h : k < n
    · have h' : (k : Int) + 1 ≤ (n : Int) := by omega
      have HM := Lib.hid (fun W => rstG_call HG.out (k := k) (by omega) W)
      have HX := Lib.hid (dfL_snoc (stG c s n) k)
      have b0 := stG_bd HG.out (k := k) (by omega)
      have b1 := stG_bd HG.out (k := k + 1) (by omega)
      obtain ⟨r1, e1⟩ : ∃ r, stG c s n (k + 1) = r := ⟨_, rfl⟩
      obtain ⟨r0, e0⟩ : ∃ r, stG c s n k = r := ⟨_, rfl⟩
      have HE1 := Lib.hid e1
      rw [e1] at HM HX b1
      rw [e0] at HX b0
      rw [e0]
      clear e1 e0
      obtain ⟨b01, b02⟩ := b0
      obtain ⟨b11, b12⟩ := b1
      have HLn := Lib.hid (show (dfL (stG c s n) k).length < 10000 by rw [dfL_len]; omega)
      have x0 := HP.out.c0
      have x1 := HP.out.c1
      have x2 := HP.out.c2
      have x3 := HP.out.c3
      have x4 := HP.out.c4
      have x5 := HP.out.c5
      have x6 := HP.out.c6
      go_wp2_with fail
      refine (HM.out _).mono ?_
      rintro e w1 ⟨rfl, rfl⟩
      go_wp2_with (at_builtin; refine wpList_int rfl _ _ rfl (w.heap.size + 1) _ (dfL (stG c s n) k) (r1 - r0) rfl (HO.out.below ((Below.refl _ _).alloc (Nat.le_refl _) _)) ⟨wr.heap.size, 0, none⟩ 1 rfl (row_int wr (r1 - r0) _) HLn.out (by have := HS.out; simp; omega) ?_; intro v' w6 hown hbel)
      clear x0 x1 x2 x3 x4 x5 x6
      have hbA := (Below.refl (w.heap.size + 1) wr).alloc HS.out (Obj.cells #[.int .i64 (r1 - r0)] 3)
      have hbB := hbA.trans hbel
      have HO6 := Lib.hid (show OwnI w6 (w.heap.size + 1) v' (dfL (stG c s n) (k + 1)) by rw [HX.out]; exact hown)
      have HP6 := Lib.hid (HP.out.belowN hbB (Nat.lt_succ_self _) hbB.size)
      have HB6 := Lib.hid (HB.out.trans (hbB.mono (Nat.le_succ _)))
      have HS6 := Lib.hid (Nat.le_trans HS.out hbB.size)
      clear hown hbel hbA hbB HO HP HB HS
      go_wp2
      go_roundw
      case rel => exact ⟨k + 1, by omega, by go_num, by rw [HE1.out], HO6, HP6, HB6, HS6⟩
      case measure => simp [intOf]; omega
    · have h' : ¬ (k : Int) + 1 ≤ (n : Int) := by omega
      obtain rfl : n = k := by omega
      have x0 := HP.out.c0
      have x1 := HP.out.c1
      have x2 := HP.out.c2
      have x3 := HP.out.c3
      have x4 := HP.out.c4
      have x5 := HP.out.c5
      have x6 := HP.out.c6
      obtain ⟨A', k', rfl, hr⟩ := HO.out.end_ HBd.out
      have HR := Lib.hid hr
      clear hr
      rw [dfL_len] at *
      go_wp2
      go_ret
      exact ⟨A', k', by first | (rw [dfL_len]; done) | (rw [dfL_len]; rfl), HR.out, HB.out⟩
set_option maxRecDepth 100000 in
set_option maxHeartbeats 8000000 in
theorem rDeclining_any (m c s a b : Int) (n : Nat) (A : Option Addr) (uc : Nat) (us : List Int) (w : World) (g : Nums c s n) (ha : r64 a) (hb : r64 b) :
    Calls Try.prog 24 #[.agg #[.int .i64 m, .int .i64 c, .int .i64 s, .int .i64 (n : Int), .int .i64 a, .int .i64 b, .slice A us.length uc]] w (RdQ (dfL (dcG a b c s n) n) w) := by
  have HP := Lib.hid (Q7.alloc w (.int .i64 m) (.int .i64 c) (.int .i64 s) (.int .i64 (n : Int)) (.int .i64 a) (.int .i64 b) (.slice A us.length uc) 26)
  have HB0 := Lib.hid ((Below.refl w.heap.size w).alloc (Nat.le_refl _) (Obj.cells #[.int .i64 m, .int .i64 c, .int .i64 s, .int .i64 (n : Int), .int .i64 a, .int .i64 b, .slice A us.length uc] 26))
  have HG := Lib.hid g
  have HF := Lib.hid (And.intro ha hb)
  have HS0 := Lib.hid (show w.heap.size + 1 ≤ (w.alloc (Obj.cells #[.int .i64 m, .int .i64 c, .int .i64 s, .int .i64 (n : Int), .int .i64 a, .int .i64 b, .slice A us.length uc] 26)).heap.size by simp)
  have HBd := Lib.hid (df_bd (g := dcG a b c s n) (n := n) (fun i hi => by have := dcG_bd g a b (k := i) (by omega); have := dcG_bd g a b (k := i + 1) (by omega); have := g.c2; omega))
  have g1 := g.sc; have g2 := g.c2; have g3 := g.s0; have g4 := g.p1; have g5 := g.p2; have g6 := g.c1
  clear g ha hb
  go_enter Try.func24, Try.ntmps24
  have x0 := HP.out.c0
  have x1 := HP.out.c1
  have x2 := HP.out.c2
  have x3 := HP.out.c3
  have x4 := HP.out.c4
  have x5 := HP.out.c5
  have x6 := HP.out.c6
  go_wp2
  go_loopw [3, 4, 5] (fun l bf x wr => ∃ k : Nat, k ≤ n ∧ x = .int .i64 ((n : Int) - (k : Int)) ∧ bf = .int .i64 (dB (paD a b) c s n k) ∧ Hid (OwnI wr (w.heap.size + 1) l (dfL (dcG a b c s n) k)) ∧ Hid (Q7 wr w.heap.size (.int .i64 m) (.int .i64 c) (.int .i64 s) (.int .i64 (n : Int)) (.int .i64 a) (.int .i64 b) (.slice A us.length uc)) ∧ Hid (Below w.heap.size w wr) ∧ Hid (w.heap.size + 1 ≤ wr.heap.size)) (fun _ _ x _ => (intOf x).toNat)
  case atStart => exact ⟨0, Nat.zero_le _, by simp, rfl, Lib.hid (OwnV.nil _ _ _), HP, HB0, HS0⟩
  case round =>
    clear x0 x1 x2 x3 x4 x5 x6 HP HB0 HS0
    obtain ⟨k, hk, rfl, rfl, HO, HP, HB, HS⟩ := hrel
    by_cases h : k < n
    · have HX := dfL_snoc (dcG a b c s n) k
      have b0 := dB_bd (f := paD a b) (p := (n : Int)) g1 k (by omega)
      have HD := dcG_next a b c s n k
      have HN1 := (show dB (paD a b) c s n (k + 1) = dB (paD a b) c s n k - dA (paD a b (dB (paD a b) c s n k)) s (dB (paD a b) c s n k) (n - k) from rfl)
      rw [HD] at HX
      clear HD
      have HM := Lib.hid (fun W (hB : -9223372036854775808 ≤ dB (paD a b) c s n k ∧ dB (paD a b) c s n k ≤ 9223372036854775807) => rApplyF_any a b (dB (paD a b) c s n k) 1 W HF.out.1.1 HF.out.1.2 HF.out.2.1 HF.out.2.2 hB.1 hB.2)
      have hpa := ap_bd a b (dB (paD a b) c s n k) 1
      have epa : (apV a b (dB (paD a b) c s n k) 1).1 = paD a b (dB (paD a b) c s n k) := rfl
      rw [epa] at hpa HM
      generalize (apV a b (dB (paD a b) c s n k) 1).2 = er at HM
      have hda := dA_bd (part := paD a b (dB (paD a b) c s n k)) (s := s) (b := dB (paD a b) c s n k) (r := (n : Int) - k) b0.1 (by omega)
      have HLn := Lib.hid (show (dfL (dcG a b c s n) k).length < 10000 by rw [dfL_len]; omega)
      obtain ⟨r, er1⟩ : ∃ r, (n : Int) - (k : Int) = r := ⟨_, rfl⟩
      have hkn : r - 1 = (n : Int) - ((k + 1 : Nat) : Int) := by omega
      rw [er1] at HX HN1 hda
      rw [er1]
      have hr0 : 1 ≤ r := by omega
      have hr1 : r ≤ 200 := by omega
      have hrk : (k : Int) = (n : Int) - r := by omega
      generalize paD a b (dB (paD a b) c s n k) = part at *
      generalize dB (paD a b) c s n k = bk at *
      obtain ⟨b01, b02⟩ := b0
      obtain ⟨hpa1, hpa2⟩ := hpa
      have HM := Lib.hid (fun W => HM.out W ⟨by omega, by omega⟩)
      have HKn := Lib.hid hkn
      by_cases hone : r = 1
      · subst hone
        rw [dA_one] at HX HN1 hda
        obtain ⟨rest, er2⟩ : ∃ r, bk - s = r := ⟨_, rfl⟩
        rw [er2] at HX HN1 hda
        obtain ⟨hda1, hda2⟩ := hda
        have HN1 := Lib.hid HN1
        have HX := Lib.hid HX
        clear hkn hrk er1
        have x0 := HP.out.c0
        have x1 := HP.out.c1
        have x2 := HP.out.c2
        have x3 := HP.out.c3
        have x4 := HP.out.c4
        have x5 := HP.out.c5
        have x6 := HP.out.c6
        have HO1 := HO
        have HP1 := HP
        have HB1 := HB
        have HS1 := HS
        clear HO HP HB HS
        obtain ⟨w1, hw1⟩ : ∃ W, wr = W := ⟨_, rfl⟩
        subst hw1
        go_wp2_with (at_builtin; refine wpList_int rfl _ _ rfl (w.heap.size + 1) _ (dfL (dcG a b c s n) k) rest rfl (HO1.out.below ((Below.refl _ _).alloc (Nat.le_refl _) _)) ⟨wr.heap.size, 0, none⟩ 1 rfl (row_int wr rest _) HLn.out (by have := HS1.out; simp; omega) ?_; intro v' w6 hown hbel)
        clear x0 x1 x2 x3 x4 x5 x6
        have hbA := (Below.refl (w.heap.size + 1) wr).alloc HS1.out (Obj.cells #[.int .i64 rest] 3)
        have hbB := hbA.trans hbel
        have HO6 := Lib.hid (show OwnI w6 (w.heap.size + 1) v' (dfL (dcG a b c s n) (k + 1)) by rw [HX.out]; exact hown)
        have HP6 := Lib.hid (HP1.out.belowN hbB (Nat.lt_succ_self _) hbB.size)
        have HB6 := Lib.hid (HB1.out.trans (hbB.mono (Nat.le_succ _)))
        have HS6 := Lib.hid (Nat.le_trans HS1.out hbB.size)
        clear hown hbel hbA hbB HO1 HP1 HB1 HS1
        go_wp2
        go_roundw
        case rel => exact ⟨k + 1, by omega, by have hk0 := HKn.out; go_num, by rw [HN1.out], HO6, HP6, HB6, HS6⟩
        case measure => (try simp [intOf]) <;> (try omega)
      · have hone' : 1 < r := by omega
        unfold dA at HX HN1 hda
        obtain ⟨rest, er2⟩ : ∃ r, bk - s = r := ⟨_, rfl⟩
        rw [er2] at HX HN1 hda
        have hrn : (r == 0) = false := by simp; omega
        have ht0 : 0 ≤ rest := by omega
        have ht1 : rest ≤ 1000000000000 := by omega
        have eq1 : rest.tdiv r = rest / r := Int.tdiv_eq_ediv_of_nonneg ht0
        have hq0 : 0 ≤ rest / r := Int.ediv_nonneg ht0 (by omega)
        have hq1 : rest / r ≤ rest := Int.ediv_le_self _ ht0
        generalize rest / r = q at *
        clear hkn hrk er1
        rcases (show ((part < q ∧ q < rest) ∨ (part < q ∧ ¬ q < rest)) ∨ ((¬ part < q ∧ part < rest) ∨ (¬ part < q ∧ ¬ part < rest)) by omega) with (⟨e1, e2⟩ | ⟨e1, e2⟩) | (⟨e1, e2⟩ | ⟨e1, e2⟩)
        · rw [show max part q = q by omega, show min rest q = q by omega] at HX HN1 hda
          obtain ⟨hda1, hda2⟩ := hda
          have HN1 := Lib.hid HN1
          have HX := Lib.hid HX
          have x0 := HP.out.c0
          have x1 := HP.out.c1
          have x2 := HP.out.c2
          have x3 := HP.out.c3
          have x4 := HP.out.c4
          have x5 := HP.out.c5
          have x6 := HP.out.c6
          go_wp2_with fail
          refine (HM.out _).mono ?_
          rintro e w1 ⟨rfl, hb⟩
          clear x0 x1 x2 x3 x4 x5 x6
          have HO1 := Lib.hid (HO.out.below hb)
          have HP1 := Lib.hid (HP.out.below hb)
          have HB1 := Lib.hid (HB.out.trans (hb.mono HB.out.size))
          have HS1 := Lib.hid (Nat.le_trans HS.out hb.size)
          clear hb HO HP HB HS
          have x0 := HP1.out.c0
          have x1 := HP1.out.c1
          have x2 := HP1.out.c2
          have x3 := HP1.out.c3
          have x4 := HP1.out.c4
          have x5 := HP1.out.c5
          have x6 := HP1.out.c6
          go_wp2_with (at_builtin; refine wpList_int rfl _ _ rfl (w.heap.size + 1) _ (dfL (dcG a b c s n) k) q rfl (HO1.out.below ((Below.refl _ _).alloc (Nat.le_refl _) _)) ⟨w1.heap.size, 0, none⟩ 1 rfl (row_int w1 q _) HLn.out (by have := HS1.out; simp; omega) ?_; intro v' w6 hown hbel)
          clear x0 x1 x2 x3 x4 x5 x6
          have hbA := (Below.refl (w.heap.size + 1) w1).alloc HS1.out (Obj.cells #[.int .i64 q] 3)
          have hbB := hbA.trans hbel
          have HO6 := Lib.hid (show OwnI w6 (w.heap.size + 1) v' (dfL (dcG a b c s n) (k + 1)) by rw [HX.out]; exact hown)
          have HP6 := Lib.hid (HP1.out.belowN hbB (Nat.lt_succ_self _) hbB.size)
          have HB6 := Lib.hid (HB1.out.trans (hbB.mono (Nat.le_succ _)))
          have HS6 := Lib.hid (Nat.le_trans HS1.out hbB.size)
          clear hown hbel hbA hbB HO1 HP1 HB1 HS1
          go_wp2
          go_roundw
          case rel => exact ⟨k + 1, by omega, by have hk0 := HKn.out; go_num, by rw [HN1.out], HO6, HP6, HB6, HS6⟩
          case measure => (try simp [intOf]) <;> (try omega)
        · rw [show max part q = q by omega, show min rest q = rest by omega] at HX HN1 hda
          obtain ⟨hda1, hda2⟩ := hda
          have HN1 := Lib.hid HN1
          have HX := Lib.hid HX
          have x0 := HP.out.c0
          have x1 := HP.out.c1
          have x2 := HP.out.c2
          have x3 := HP.out.c3
          have x4 := HP.out.c4
          have x5 := HP.out.c5
          have x6 := HP.out.c6
          go_wp2_with fail
          refine (HM.out _).mono ?_
          rintro e w1 ⟨rfl, hb⟩
          clear x0 x1 x2 x3 x4 x5 x6
          have HO1 := Lib.hid (HO.out.below hb)
          have HP1 := Lib.hid (HP.out.below hb)
          have HB1 := Lib.hid (HB.out.trans (hb.mono HB.out.size))
          have HS1 := Lib.hid (Nat.le_trans HS.out hb.size)
          clear hb HO HP HB HS
          have x0 := HP1.out.c0
          have x1 := HP1.out.c1
          have x2 := HP1.out.c2
          have x3 := HP1.out.c3
          have x4 := HP1.out.c4
          have x5 := HP1.out.c5
          have x6 := HP1.out.c6
          go_wp2_with (at_builtin; refine wpList_int rfl _ _ rfl (w.heap.size + 1) _ (dfL (dcG a b c s n) k) rest rfl (HO1.out.below ((Below.refl _ _).alloc (Nat.le_refl _) _)) ⟨w1.heap.size, 0, none⟩ 1 rfl (row_int w1 rest _) HLn.out (by have := HS1.out; simp; omega) ?_; intro v' w6 hown hbel)
          clear x0 x1 x2 x3 x4 x5 x6
          have hbA := (Below.refl (w.heap.size + 1) w1).alloc HS1.out (Obj.cells #[.int .i64 rest] 3)
          have hbB := hbA.trans hbel
          have HO6 := Lib.hid (show OwnI w6 (w.heap.size + 1) v' (dfL (dcG a b c s n) (k + 1)) by rw [HX.out]; exact hown)
          have HP6 := Lib.hid (HP1.out.belowN hbB (Nat.lt_succ_self _) hbB.size)
          have HB6 := Lib.hid (HB1.out.trans (hbB.mono (Nat.le_succ _)))
          have HS6 := Lib.hid (Nat.le_trans HS1.out hbB.size)
          clear hown hbel hbA hbB HO1 HP1 HB1 HS1
          go_wp2
          go_roundw
          case rel => exact ⟨k + 1, by omega, by have hk0 := HKn.out; go_num, by rw [HN1.out], HO6, HP6, HB6, HS6⟩
          case measure => (try simp [intOf]) <;> (try omega)
        · rw [show max part q = part by omega, show min rest part = part by omega] at HX HN1 hda
          obtain ⟨hda1, hda2⟩ := hda
          have HN1 := Lib.hid HN1
          have HX := Lib.hid HX
          have x0 := HP.out.c0
          have x1 := HP.out.c1
          have x2 := HP.out.c2
          have x3 := HP.out.c3
          have x4 := HP.out.c4
          have x5 := HP.out.c5
          have x6 := HP.out.c6
          go_wp2_with fail
          refine (HM.out _).mono ?_
          rintro e w1 ⟨rfl, hb⟩
          clear x0 x1 x2 x3 x4 x5 x6
          have HO1 := Lib.hid (HO.out.below hb)
          have HP1 := Lib.hid (HP.out.below hb)
          have HB1 := Lib.hid (HB.out.trans (hb.mono HB.out.size))
          have HS1 := Lib.hid (Nat.le_trans HS.out hb.size)
          clear hb HO HP HB HS
          have x0 := HP1.out.c0
          have x1 := HP1.out.c1
          have x2 := HP1.out.c2
          have x3 := HP1.out.c3
          have x4 := HP1.out.c4
          have x5 := HP1.out.c5
          have x6 := HP1.out.c6
          go_wp2_with (at_builtin; refine wpList_int rfl _ _ rfl (w.heap.size + 1) _ (dfL (dcG a b c s n) k) part rfl (HO1.out.below ((Below.refl _ _).alloc (Nat.le_refl _) _)) ⟨w1.heap.size, 0, none⟩ 1 rfl (row_int w1 part _) HLn.out (by have := HS1.out; simp; omega) ?_; intro v' w6 hown hbel)
          clear x0 x1 x2 x3 x4 x5 x6
          have hbA := (Below.refl (w.heap.size + 1) w1).alloc HS1.out (Obj.cells #[.int .i64 part] 3)
          have hbB := hbA.trans hbel
          have HO6 := Lib.hid (show OwnI w6 (w.heap.size + 1) v' (dfL (dcG a b c s n) (k + 1)) by rw [HX.out]; exact hown)
          have HP6 := Lib.hid (HP1.out.belowN hbB (Nat.lt_succ_self _) hbB.size)
          have HB6 := Lib.hid (HB1.out.trans (hbB.mono (Nat.le_succ _)))
          have HS6 := Lib.hid (Nat.le_trans HS1.out hbB.size)
          clear hown hbel hbA hbB HO1 HP1 HB1 HS1
          go_wp2
          go_roundw
          case rel => exact ⟨k + 1, by omega, by have hk0 := HKn.out; go_num, by rw [HN1.out], HO6, HP6, HB6, HS6⟩
          case measure => (try simp [intOf]) <;> (try omega)
        · rw [show max part q = part by omega, show min rest part = rest by omega] at HX HN1 hda
          obtain ⟨hda1, hda2⟩ := hda
          have HN1 := Lib.hid HN1
          have HX := Lib.hid HX
          have x0 := HP.out.c0
          have x1 := HP.out.c1
          have x2 := HP.out.c2
          have x3 := HP.out.c3
          have x4 := HP.out.c4
          have x5 := HP.out.c5
          have x6 := HP.out.c6
          go_wp2_with fail
          refine (HM.out _).mono ?_
          rintro e w1 ⟨rfl, hb⟩
          clear x0 x1 x2 x3 x4 x5 x6
          have HO1 := Lib.hid (HO.out.below hb)
          have HP1 := Lib.hid (HP.out.below hb)
          have HB1 := Lib.hid (HB.out.trans (hb.mono HB.out.size))
          have HS1 := Lib.hid (Nat.le_trans HS.out hb.size)
          clear hb HO HP HB HS
          have x0 := HP1.out.c0
          have x1 := HP1.out.c1
          have x2 := HP1.out.c2
          have x3 := HP1.out.c3
          have x4 := HP1.out.c4
          have x5 := HP1.out.c5
          have x6 := HP1.out.c6
          go_wp2_with (at_builtin; refine wpList_int rfl _ _ rfl (w.heap.size + 1) _ (dfL (dcG a b c s n) k) rest rfl (HO1.out.below ((Below.refl _ _).alloc (Nat.le_refl _) _)) ⟨w1.heap.size, 0, none⟩ 1 rfl (row_int w1 rest _) HLn.out (by have := HS1.out; simp; omega) ?_; intro v' w6 hown hbel)
          clear x0 x1 x2 x3 x4 x5 x6
          have hbA := (Below.refl (w.heap.size + 1) w1).alloc HS1.out (Obj.cells #[.int .i64 rest] 3)
          have hbB := hbA.trans hbel
          have HO6 := Lib.hid (show OwnI w6 (w.heap.size + 1) v' (dfL (dcG a b c s n) (k + 1)) by rw [HX.out]; exact hown)
          have HP6 := Lib.hid (HP1.out.belowN hbB (Nat.lt_succ_self _) hbB.size)
          have HB6 := Lib.hid (HB1.out.trans (hbB.mono (Nat.le_succ _)))
          have HS6 := Lib.hid (Nat.le_trans HS1.out hbB.size)
          clear hown hbel hbA hbB HO1 HP1 HB1 HS1
          go_wp2
          go_roundw
          case rel => exact ⟨k + 1, by omega, by have hk0 := HKn.out; go_num, by rw [HN1.out], HO6, HP6, HB6, HS6⟩
          case measure => (try simp [intOf]) <;> (try omega)
    · obtain rfl : n = k := by omega
      have hz : (n : Int) - (n : Int) = 0 := by omega
      rw [hz]
      have x0 := HP.out.c0
      have x1 := HP.out.c1
      have x2 := HP.out.c2
      have x3 := HP.out.c3
      have x4 := HP.out.c4
      have x5 := HP.out.c5
      have x6 := HP.out.c6
      obtain ⟨A', k', rfl, hr⟩ := HO.out.end_ HBd.out
      have HR := Lib.hid hr
      clear hr
      rw [dfL_len] at *
      go_wp2
      go_ret
      exact ⟨A', k', by first | (rw [dfL_len]; done) | (rw [dfL_len]; rfl), HR.out, HB.out⟩
end Go.Proofs.Ytmehihfdfpnfjaa
