/- What Parse of package accountingref03 returns for any text; the law FracParse returns true. -/
import Derived.Test.YtlndomnampcnfaaFvF
namespace Go.Proofs.Ytlndomnampcnfaa
open Go.RowKit Go.Sort
set_option linter.unusedVariables false
set_option linter.unusedSimpArgs false

theorem rParse_str (s : ByteArray) (w : World) (hs : s.size ≤ 80) : Calls Try.prog 7 #[.string s] w fun e w' => e = .returned (.tuple #[.agg #[.int .i64 (paR s.toList).1, .int .i64 (paR s.toList).2.1], .int .i64 (paR s.toList).2.2]) ∧ Below w.heap.size w w' := by
  have hl : s.toList.length ≤ 80 := by rw [bytes_len]; exact hs
  obtain ⟨l, hle⟩ : ∃ l, s.toList = l := ⟨_, rfl⟩
  have hsb : s = bs l := by rw [← hle, bs_of]
  rw [hle] at hl ⊢
  have tS : Tx s l := ⟨hle, by rw [← bytes_len, hle]⟩
  have hbl := bdy_len l
  have tT : Tx (bs (bdy l)) (bdy l) := tx_bs _
  have hst : (bs (bdy l)).size ≤ 80 := by rw [bs_size]; omega
  have hng : isNeg l = true → 0 < s.size ∧ s.extract 1 s.size = bs (bdy l) ∧ (bs (bdy l)).size + 1 = s.size ∧ ∀ h : 0 < s.size, s[0] = 45 := by
    intro hn
    have hb : bdy l = l.drop 1 := by unfold bdy; rw [if_pos hn]
    have hl1 : 0 < l.length := by
      cases l with
      | nil => simp [isNeg] at hn
      | cons c t => simp
    have hs0 : 0 < s.size := by rw [tS.size]; exact hl1
    refine ⟨hs0, ?_, by rw [bs_size, hb, List.length_drop, tS.size]; omega, fun h => ?_⟩
    · rw [hsb, bs_size, bs_extract l 1 l.length hl1 (Nat.le_refl _), hb, List.take_of_length_le (by rw [List.length_drop]; omega)]
    · rw [tS.at h hl1]
      unfold isNeg at hn
      rw [head_at hl1] at hn
      simpa using hn
  have hng2 : isNeg l = false → s = bs (bdy l) ∧ (0 < s.size → ∀ h : 0 < s.size, s[0] ≠ 45) := by
    intro hn
    have hb : bdy l = l := by unfold bdy; rw [hn]; rfl
    refine ⟨by rw [hb]; exact hsb, fun _ h e => ?_⟩
    have hl1 : 0 < l.length := by rw [← tS.size]; exact h
    rw [tS.at h hl1] at e
    unfold isNeg at hn
    rw [head_at hl1, e] at hn
    simp at hn
  cases hq : qoO (bdy l) with
  | none =>
    refine rParse_none (isNeg l) s (bs (bdy l)) w (paR l) hs hst hng hng2 (fun W => (rSplit_any (bdy l) W (by omega)).mono fun e w' h => ?_) (by unfold paR; rw [hq])
    rcases h with ⟨⟨_, s1, s2, he⟩ | ⟨X, Y, h2, _⟩, hb⟩
    · exact ⟨s1, s2, he, hb⟩
    · rw [hq] at h2; cases h2
  | some p =>
    obtain ⟨X, Y⟩ := p
    have hk := qo_ok hq
    have k1 := hk.a1
    have k2 := hk.b1
    refine rParse_core (isNeg l) l s (bs (bdy l)) (dec X) (dec Y) w (paR l) hs hst hng hng2 (fun W => (rSplit_any (bdy l) W (by omega)).mono fun e w' h => ?_) hk.b3 (Nat.le_trans (dn_len (dec_lt X hk.a2)) (by omega)) (Nat.le_trans (dn_len (dec_lt Y hk.b2)) (by omega)) (by unfold paR; rw [hq])
    rcases h with ⟨⟨h2, _⟩ | ⟨X', Y', h2, he⟩, hb⟩
    · rw [hq] at h2; cases h2
    · rw [hq] at h2
      injection h2 with h2
      injection h2 with h3 h4
      subst h3 h4
      exact ⟨he, hb⟩
set_option maxRecDepth 100000 in
set_option maxHeartbeats 4000000 in
theorem fracParse_walk (s : ByteArray) (w : World) (ws : s.size ≤ maxLen) :
    Calls Try.prog 3 #[.string s] w fun e w' => e = .returned (.bool true) ∧ Below w.heap.size w w' := by
  unfold maxLen at ws
  have HL := Lib.hid lives3_any
  by_cases h80 : 80 < s.size
  · have h80' : (80 : Int) < (s.size : Int) := by omega
    go_enter Try.func3, Try.ntmps3
    go_wp2_with fail
    refine (HL.out _).mono ?_
    rintro e W1 ⟨rfl, hb1⟩
    have HB1 := Lib.hid (hb1)
    clear hb1
    go_wp2
    go_ret
    exact ⟨rfl, HB1.out⟩
  have h80' : ¬ (80 : Int) < (s.size : Int) := by omega
  have H1 := Lib.hid (fun W => parse_str s W (by omega))
  have H2 := Lib.hid (fun W => rParse_str s W (by omega))
  generalize (paR s.toList).1 = x at *
  generalize (paR s.toList).2.1 = y at *
  generalize (paR s.toList).2.2 = z at *
  go_enter Try.func3, Try.ntmps3
  go_wp2_with fail
  refine (H1.out _).mono ?_
  rintro e W2 ⟨rfl, hb2⟩
  have HB2 := Lib.hid (hb2)
  clear hb2
  go_wp2_with fail
  have P0_3 := Lib.hid (Cell2.alloc W2 (.int .i64 x) (.int .i64 y) 24)
  have HB3 := Lib.hid (HB2.out.trans (((Below.refl W2.heap.size W2).alloc (Nat.le_refl _) (Obj.cells #[(.int .i64 x), (.int .i64 y)] 24)).mono HB2.out.size))
  clear HB2
  generalize W2.alloc (Obj.cells #[(.int .i64 x), (.int .i64 y)] 24) = W3 at *
  refine (H2.out _).mono ?_
  rintro e W4 ⟨rfl, hb4⟩
  have HB4 := Lib.hid (HB3.out.trans ((hb4).mono HB3.out.size))
  have P0_4 := Lib.hid (P0_3.out.below (hb4) P0_3.out.lt)
  clear HB3 P0_3 hb4
  have lP0_4 := P0_4.out.lt
  have cP0_4_0 := P0_4.out.c0
  have cP0_4_1 := P0_4.out.c1
  go_wp2_with fail
  clear lP0_4 cP0_4_0 cP0_4_1
  have P1_5 := Lib.hid (Cell2.alloc W4 (.int .i64 x) (.int .i64 y) 24)
  have HB5 := Lib.hid (HB4.out.trans (((Below.refl W4.heap.size W4).alloc (Nat.le_refl _) (Obj.cells #[(.int .i64 x), (.int .i64 y)] 24)).mono HB4.out.size))
  have P0_5 := Lib.hid (P0_4.out.below ((Below.refl W4.heap.size W4).alloc (Nat.le_refl _) (Obj.cells #[(.int .i64 x), (.int .i64 y)] 24)) P0_4.out.lt)
  clear HB4 P0_4
  generalize W4.alloc (Obj.cells #[(.int .i64 x), (.int .i64 y)] 24) = W5 at *
  refine (HL.out _).mono ?_
  rintro e W6 ⟨rfl, hb6⟩
  have HB6 := Lib.hid (HB5.out.trans ((hb6).mono HB5.out.size))
  have P0_6 := Lib.hid (P0_5.out.below (hb6) P0_5.out.lt)
  have P1_6 := Lib.hid (P1_5.out.below (hb6) P1_5.out.lt)
  clear HB5 P0_5 P1_5 hb6
  go_wp2
  go_ret
  exact ⟨rfl, HB6.out⟩
end Go.Proofs.Ytlndomnampcnfaa
