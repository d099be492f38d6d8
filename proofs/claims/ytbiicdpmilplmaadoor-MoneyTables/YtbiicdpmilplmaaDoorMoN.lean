/- What Code of package accountingref07 returns; a table of currencies in memory. -/
import Derived.Test.YtbiicdpmilplmaaDoorMoL
namespace Go.Proofs.YtbiicdpmilplmaaDoor
open Go.RowKit Go.Sort
set_option linter.unusedVariables false

set_option maxHeartbeats 1000000 in
theorem rCode_any (s : ByteArray) (w : World) (hs : s.size ≤ maxLen) :
    Calls Tryd.prog 13 #[.string s] w fun e w' => e = .returned (.bool (codeB s)) ∧ w = w' := by
  unfold maxLen at hs
  by_cases h3 : s.size = 3
  · have hl : (s.size : Int) = 3 := by omega
    go_enter Tryd.func13, Tryd.ntmps13
    go_wp2
    go_loop [3] (fun i => ∃ pos : Nat, pos ≤ 3 ∧ i = .int .i64 (pos : Int) ∧ Hid ((s.toList.take pos).all capB = true)) (fun i => 3 - (intOf i).toNat)
    case atStart => exact ⟨0, by omega, rfl, Lib.hid rfl⟩
    case round =>
      obtain ⟨pos, hp3, rfl, HA⟩ := hrel
      by_cases hp : pos < s.size
      · have hp4 : (pos : Int) < 3 := by omega
        by_cases h1 : (s[pos].toNat : Int) < 65
        · have HC := Lib.hid (cap_bad hp (show capB s[pos] = false by unfold capB; simp; omega))
          go_wp2
          go_ret
          exact ⟨by rw [HC.out]; rfl, rfl⟩
        · by_cases h2 : 90 < (s[pos].toNat : Int)
          · have HC := Lib.hid (cap_bad hp (show capB s[pos] = false by unfold capB; simp; omega))
            go_wp2
            go_ret
            exact ⟨by rw [HC.out]; rfl, rfl⟩
          · have HA2 := Lib.hid (show (s.toList.take (pos + 1)).all capB = true by
              rw [take_snoc s pos hp, List.all_append, HA.out]
              have : capB s[pos] = true := by unfold capB; simp; omega
              simp [this])
            go_wp2
            go_round
            case rel => exact ⟨pos + 1, by omega, by go_num, HA2⟩
            case measure => simp [intOf]; omega
      · have HC := Lib.hid (show codeB s = true by
          have := HA.out
          rw [val_all hp] at this
          unfold codeB; rw [this, h3]; rfl)
        have hp4 : ¬ (pos : Int) < 3 := by omega
        go_wp2
        go_ret
        exact ⟨by rw [HC.out]; rfl, rfl⟩
  · have hl : ¬ (s.size : Int) = 3 := by omega
    have e : codeB s = false := by unfold codeB; simp [h3]
    rw [e]
    go_enter Tryd.func13, Tryd.ntmps13
    go_wp2
    go_ret
    exact ⟨rfl, rfl⟩

/-- a struct of two cells in memory. -/
structure Cell2 (w : World) (B : Nat) (a b : Value) : Prop where
  c0 : w.cell? ⟨B, 0, none⟩ = some a
  c1 : w.cell? ⟨B, 1, none⟩ = some b
theorem Cell2.alloc (w : World) (a b : Value) (t : TypeId) : Cell2 (w.alloc (Obj.cells #[a, b] t)) w.heap.size a b :=
  ⟨World.cell?_alloc_at _ _ _ _ rfl, World.cell?_alloc_at _ _ _ _ rfl⟩
theorem Cell2.below {w w' : World} {B N : Nat} {a b : Value} (h : Cell2 w B a b) (hb : Below N w w') (hB : B < N) : Cell2 w' B a b :=
  ⟨by rw [hb.cell hB]; exact h.c0, by rw [hb.cell hB]; exact h.c1⟩
theorem Cell2.lt {w : World} {B : Nat} {a b : Value} (h : Cell2 w B a b) : B < w.heap.size := by
  rcases Nat.lt_or_ge B w.heap.size with k | k
  · exact k
  · exact absurd h.c0 (by simp [World.cell?, Array.getElem?_eq_none k])
/-- a table of n currencies in memory. -/
def RowC (w : World) (A : Option Addr) (n : Nat) (C : Nat → ByteArray) (D : Nat → Int) : Prop :=
  ∀ i, i < n → (C i).size ≤ maxLen ∧ ∃ b off, A = some ⟨b, off, none⟩ ∧ b < w.heap.size ∧ w.cell? ⟨b, off + i * 2, none⟩ = some (.string (C i)) ∧ w.cell? ⟨b, off + i * 2 + 1, none⟩ = some (.int .i64 (D i))
theorem RowC.below {w w' : World} {A : Option Addr} {n : Nat} {C : Nat → ByteArray} {D : Nat → Int} (h : RowC w A n C D) (hb : Below w.heap.size w w') : RowC w' A n C D := by
  intro i hi
  obtain ⟨s, b, off, e, hl, c0, c1⟩ := h i hi
  exact ⟨s, b, off, e, Nat.lt_of_lt_of_le hl hb.size, by rw [hb.cell hl]; exact c0, by rw [hb.cell hl]; exact c1⟩
/-- the currency number i is valid, and comes behind the one ahead of it. -/
def okC (C : Nat → ByteArray) (D : Nat → Int) (i : Nat) : Prop := codeB (C i) = true ∧ digO (D i) ∧ (0 < i → Op.bytesLess (C (i - 1)).toList (C i).toList = true)
def GoodC (n : Nat) (C : Nat → ByteArray) (D : Nat → Int) : Prop := n ≤ 40 ∧ ∀ i, i < n → okC C D i
def RtIs (n : Nat) (C : Nat → ByteArray) (D : Nat → Int) (e : Ending) : Prop := (GoodC n C D ∧ e = .returned (.bool true)) ∨ (¬ GoodC n C D ∧ e = .returned (.bool false))
theorem good_no {n : Nat} {C : Nat → ByteArray} {D : Nat → Int} {k : Nat} (hk : k < n) (h : ¬ okC C D k) : ¬ GoodC n C D := fun x => h (x.2 k hk)
set_option maxHeartbeats 4000000 in
theorem right_any (A : Option Addr) (n c : Nat) (C : Nat → ByteArray) (D : Nat → Int) (w : World) (hR : RowC w A n C D) (hn : n ≤ 1000) :
    Calls Tryd.prog 14 #[.slice A n c] w fun e w' => RtIs n C D e ∧ Below w.heap.size w w' := by
  by_cases h40 : 40 < n
  · have hli : (40 : Int) < (n : Int) := by omega
    have HN := Lib.hid (show ¬ GoodC n C D from fun x => by have := x.1; omega)
    go_enter Tryd.func14, Tryd.ntmps14
    go_wp2
    go_ret
    exact ⟨.inr ⟨HN.out, rfl⟩, Below.refl _ _⟩
  have hli : ¬ (40 : Int) < (n : Int) := by omega
  go_enter Tryd.func14, Tryd.ntmps14
  go_wp2
  go_loopw [10] (fun i wr => ∃ k : Nat, k ≤ n ∧ i = .int .i64 (k : Int) ∧ Below w.heap.size w wr ∧ Hid (∀ j, j < k → okC C D j)) (fun i _ => n - (intOf i).toNat)
  case atStart => exact ⟨0, by omega, rfl, Below.refl _ _, Lib.hid (fun j h => by omega)⟩
  case round =>
    obtain ⟨k, hk, rfl, hb, HK⟩ := hrel
    by_cases hlt : k < n
    · obtain ⟨z1, b, off, rfl, hlb, c0, c1⟩ := (hR.below hb) k hlt
      have hlt2 : (k : Int) < (n : Int) := by omega
      have H1 := Lib.hid (fun w => code_any (C k) w z1)
      have H2 := Lib.hid (fun w => isDigits_any (D k) w)
      have HB := Lib.hid hb
      clear hb
      obtain ⟨S, hS⟩ : ∃ S, C k = S := ⟨_, rfl⟩
      obtain ⟨E, hE⟩ : ∃ E, D k = E := ⟨_, rfl⟩
      rw [hS] at c0 H1
      rw [hE] at c1 H2
      have HS := Lib.hid hS
      have HE := Lib.hid hE
      clear hS hE
      go_wp2_with fail
      refine (H1.out _).mono ?_
      rintro e W1 ⟨rfl, hb1⟩
      have cc := (Cell2.alloc wr (.string S) (.int .i64 E) 46).below hb1 (by simp)
      have d0 := cc.c0
      have d1 := cc.c1
      have HB1 := Lib.hid (HB.out.trans ((((Below.refl _ _).alloc (Nat.le_refl _) (Obj.cells #[.string S, .int .i64 E] 46)).trans (hb1.mono (by simp))).mono HB.out.size))
      clear cc hb1
      cases hcode : codeB S
      · have HN := Lib.hid (good_no hlt (show ¬ okC C D k from fun x => by have := x.1; rw [HS.out, hcode] at this; cases this))
        clear hcode
        go_wp2
        go_ret
        exact ⟨.inr ⟨HN.out, rfl⟩, HB1.out⟩
      by_cases hdig : digO E
      · rw [decide_eq_true hdig] at H2
        by_cases k0 : 0 < k
        · have k1 : (0 : Int) < (k : Int) := by omega
          obtain ⟨y1, b', off', e', _, p0, _⟩ := (hR.below HB1.out) (k - 1) (by omega)
          injection e' with e'
          injection e' with e1 e2
          subst e1
          subst e2
          obtain ⟨P, hP⟩ : ∃ P, C (k - 1) = P := ⟨_, rfl⟩
          rw [hP] at p0
          have HP := Lib.hid hP
          clear hP y1
          have l0 := cell_regrown p0
          have l1 := cell_regrown d0
          have k2 : ((k : Int) - 1).toNat = k - 1 := by omega
          have k3 : (k : Int) - 1 < (n : Int) := by omega
          cases hlss : Op.bytesLess P.toList S.toList
          · have HN := Lib.hid (good_no hlt (show ¬ okC C D k from fun x => by have := x.2.2 k0; rw [HS.out, HP.out, hlss] at this; cases this))
            clear hcode hdig
            go_wp2_with fail
            refine (H2.out _).mono ?_
            rintro e w_ ⟨rfl, rfl⟩
            go_wp2_with fail
            refine wp_region_quiet_below (l := _) (by kernel_rfl) (by kernel_rfl) ?_
            repeat (first | go_big_quiet_step (fail))
            refine wpQuiet_nil ?_
            intro w2 hw'
            obtain ⟨⟨dq2, osq2⟩, hw''⟩ := hw'
            have hb2 := below_regrown W1 dq2 osq2
            rw [← hw''] at hb2
            clear hw''
            go_wp2
            go_ret
            exact ⟨.inr ⟨HN.out, rfl⟩, HB1.out.trans (hb2.mono HB1.out.size)⟩
          · have HK2 := Lib.hid (show ∀ j, j < k + 1 → okC C D j from fun j hj => by
              rcases Nat.lt_or_ge j k with x | x
              · exact HK.out j x
              · obtain rfl : j = k := by omega
                exact ⟨by rw [HS.out]; exact hcode, by rw [HE.out]; exact hdig, fun _ => by rw [HS.out, HP.out]; exact hlss⟩)
            clear hcode hdig
            go_wp2_with fail
            refine (H2.out _).mono ?_
            rintro e w_ ⟨rfl, rfl⟩
            go_wp2_with fail
            refine wp_region_quiet_below (l := _) (by kernel_rfl) (by kernel_rfl) ?_
            repeat (first | go_big_quiet_step (fail))
            refine wpQuiet_nil ?_
            intro w2 hw'
            obtain ⟨⟨dq2, osq2⟩, hw''⟩ := hw'
            have hb2 := below_regrown W1 dq2 osq2
            rw [← hw''] at hb2
            clear hw''
            go_wp2
            go_roundw
            case rel => exact ⟨k + 1, by omega, by go_num, HB1.out.trans (hb2.mono HB1.out.size), HK2⟩
            case measure => simp [intOf]; omega
        · obtain rfl : k = 0 := by omega
          have HK2 := Lib.hid (show ∀ j, j < 0 + 1 → okC C D j from fun j hj => by
            obtain rfl : j = 0 := by omega
            exact ⟨by rw [HS.out]; exact hcode, by rw [HE.out]; exact hdig, fun x => absurd x (by omega)⟩)
          clear hcode hdig
          have l1 := cell_regrown d0
          go_wp2_with fail
          refine (H2.out _).mono ?_
          rintro e w_ ⟨rfl, rfl⟩
          go_wp2_with fail
          refine wp_region_quiet_below (l := _) (by kernel_rfl) (by kernel_rfl) ?_
          repeat (first | go_big_quiet_step (fail))
          refine wpQuiet_nil ?_
          intro w2 hw'
          obtain ⟨⟨dq2, osq2⟩, hw''⟩ := hw'
          have hb2 := below_regrown W1 dq2 osq2
          rw [← hw''] at hb2
          clear hw''
          go_wp2
          go_roundw
          case rel => exact ⟨0 + 1, by omega, by go_num, HB1.out.trans (hb2.mono HB1.out.size), HK2⟩
          case measure => simp [intOf]; omega
      · rw [decide_eq_false hdig] at H2
        have HN := Lib.hid (good_no hlt (show ¬ okC C D k from fun x => hdig (by have := x.2.1; rw [HE.out] at this; exact this)))
        clear hdig hcode
        go_wp2_with fail
        refine (H2.out _).mono ?_
        rintro e w_ ⟨rfl, rfl⟩
        go_wp2
        go_ret
        exact ⟨.inr ⟨HN.out, rfl⟩, HB1.out⟩
    · have hlt2 : ¬ (k : Int) < (n : Int) := by omega
      have HY := Lib.hid (show GoodC n C D from ⟨by omega, fun i hi => HK.out i (by omega)⟩)
      have HB := Lib.hid hb
      clear hb
      go_wp2
      go_ret
      exact ⟨.inl ⟨HY.out, rfl⟩, HB.out⟩
end Go.Proofs.YtbiicdpmilplmaaDoor
