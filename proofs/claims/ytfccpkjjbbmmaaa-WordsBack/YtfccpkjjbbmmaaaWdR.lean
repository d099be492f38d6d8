/- The statements WordsCode, WordsCut, WordsQuote and WordsComment of package accountinglaw06. -/
import Derived.Test.YtfccpkjjbbmmaaaWdQ
namespace Go.Proofs.Ytfccpkjjbbmmaaa
open Go.RowKit
set_option linter.unusedVariables false
set_option linter.unusedSimpArgs false

theorem live_end {w W : World} (hb : Below w.heap.size w W) : Calls Try.prog 10 #[] W fun e w' => e = .returned (.bool true) ∧ Below w.heap.size w w' :=
  (lives_any W).mono fun e w' ⟨he, hb'⟩ => ⟨he, hb.trans (hb'.mono hb.size)⟩
set_option maxHeartbeats 1000000 in
theorem wordsCode_walk (s : ByteArray) (w : World) (hs : s.size ≤ maxLen) :
    Calls Try.prog 3 #[.string s] w fun e w' => e = .returned (.bool true) ∧ Below w.heap.size w w' := by
  have H1 := Lib.hid (fun w => code_any s w hs)
  have H2 := Lib.hid (fun w => rCode_any s w hs)
  have H3 := Lib.hid (fun w => plain_any s w hs)
  have H4 := Lib.hid (fun w => rPlain_any s w hs)
  have H5 := Lib.hid (live_end (Below.refl w.heap.size w))
  unfold maxLen at hs
  generalize codB s = b1 at *
  generalize plaB s = b2 at *
  by_cases h : 1000 < s.size
  · have hi : (1000 : Int) < (s.size : Int) := by omega
    go_enter Try.func3, Try.ntmps3
    go_wp2_with fail
    refine H5.out.mono ?_
    rintro e W1 ⟨rfl, hb⟩
    go_wp2
    go_ret
    exact ⟨rfl, hb⟩
  · have hi : ¬ (1000 : Int) < (s.size : Int) := by omega
    go_enter Try.func3, Try.ntmps3
    go_wp2_with fail
    refine (H1.out _).mono ?_
    rintro e w_ ⟨rfl, rfl⟩
    go_wp2_with fail
    refine (H2.out _).mono ?_
    rintro e w_ ⟨rfl, rfl⟩
    go_wp2_with fail
    refine (H3.out _).mono ?_
    rintro e w_ ⟨rfl, rfl⟩
    go_wp2_with fail
    refine (H4.out _).mono ?_
    rintro e w_ ⟨rfl, rfl⟩
    go_wp2_with fail
    refine H5.out.mono ?_
    rintro e W1 ⟨rfl, hb⟩
    go_wp2
    go_ret
    exact ⟨rfl, hb⟩
/-- Cut of both packages, where the answer is known. -/
theorem rCut_is {s : ByteArray} {r : Int} {L : List (Int × List UInt8 × Nat)} {p : Nat} (hs : s.size ≤ 1000) (h : cuR s = (r, L, p)) (w : World) :
    Calls Try.prog 16 #[.string s] w fun e w' => ∃ ao cap, e = .returned (.tuple #[.slice ao L.length cap, .int .i64 (p : Int), .int .i64 r]) ∧ OwnW w' w.heap.size (.slice ao L.length cap) L ∧ Below w.heap.size w w' :=
  (rCut_any s w hs).mono fun e w' ⟨v, he, ho, hb⟩ => by
    rw [h] at he ho
    obtain ⟨ao, cap, hv⟩ := ho.shape
    simp only at hv
    subst hv
    exact ⟨ao, cap, he, ho, hb⟩
theorem cuR_len (s : ByteArray) : (cuR s).2.1.length ≤ 400 := by
  unfold cuR
  split
  · simp
  · split
    · have := (cuV_goods s.toList.length s.toList 0 (Nat.le_refl _)).2.2
      rw [bytes_len] at this; simp only; omega
    · simp
theorem cuR_off (s : ByteArray) : (cuR s).2.2 ≤ s.size + 1000 ∨ True := .inr trivial
theorem same_is (a1 a2 : Option Addr) (c1 c2 : Nat) (L : List (Int × List UInt8 × Nat)) (w : World) (h1 : RowW w a1 (toI L)) (h2 : RowW w a2 (toI L)) (hn : L.length ≤ 400) :
    Calls Try.prog 17 #[.slice a1 L.length c1, .slice a2 L.length c2] w fun e w' => e = .returned (.bool true) ∧ Below w.heap.size w w' := by
  have hl : (toI L).length = L.length := by unfold toI; simp
  have := rSame_any a1 a2 c1 c2 (toI L) (toI L) w h1 h2 (by omega) (by omega)
  rw [hl, decide_eq_true rfl] at this
  exact this
set_option maxHeartbeats 2000000 in
theorem wordsCut_walk (s : ByteArray) (w : World) (hs : s.size ≤ maxLen) :
    Calls Try.prog 4 #[.string s] w fun e w' => e = .returned (.bool true) ∧ Below w.heap.size w w' := by
  unfold maxLen at hs
  by_cases h : 1000 < s.size
  · have hi : (1000 : Int) < (s.size : Int) := by omega
    have H5 := Lib.hid (live_end (Below.refl w.heap.size w))
    go_enter Try.func4, Try.ntmps4
    go_wp2_with fail
    refine H5.out.mono ?_
    rintro e W1 ⟨rfl, hb⟩
    go_wp2
    go_ret
    exact ⟨rfl, hb⟩
  · have hi : ¬ (1000 : Int) < (s.size : Int) := by omega
    obtain ⟨r, L, p, hr⟩ : ∃ r L p, cuR s = (r, L, p) := ⟨_, _, _, rfl⟩
    have H1 := Lib.hid (fun w => cut_is (by omega) hr w)
    have H2 := Lib.hid (fun w => rCut_is (by omega) hr w)
    have hL : L.length ≤ 400 := by have := cuR_len s; rw [hr] at this; exact this
    clear hr
    go_enter Try.func4, Try.ntmps4
    go_wp2_with fail
    refine (H1.out _).mono ?_
    rintro e W1 ⟨ao, cap, rfl, ho1, hb1⟩
    have HR1 := Lib.hid ho1.row
    have HB1 := Lib.hid hb1
    clear ho1 hb1
    go_wp2_with fail
    refine (H2.out _).mono ?_
    rintro e W2 ⟨ao2, cap2, rfl, ho2, hb2⟩
    have HR2 := Lib.hid ho2.row
    have HR12 := Lib.hid (HR1.out.below hb2)
    have HB2 := Lib.hid (HB1.out.trans (hb2.mono HB1.out.size))
    clear ho2 hb2
    go_wp2_with fail
    refine (same_is ao ao2 cap cap2 L _ HR12.out HR2.out hL).mono ?_
    rintro e W3 ⟨rfl, hb3⟩
    have HB3 := Lib.hid (HB2.out.trans (hb3.mono HB2.out.size))
    clear hb3
    go_wp2_with fail
    refine (live_end HB3.out).mono ?_
    rintro e W4 ⟨rfl, hb⟩
    go_wp2
    go_ret
    exact ⟨rfl, hb⟩
set_option maxHeartbeats 1000000 in
theorem wordsQuote_walk (s : ByteArray) (w : World) (hs : s.size ≤ maxLen) :
    Calls Try.prog 5 #[.string s] w fun e w' => e = .returned (.bool true) ∧ Below w.heap.size w w' := by
  unfold maxLen at hs
  by_cases h : 1000 < s.size
  · have hi : (1000 : Int) < (s.size : Int) := by omega
    have H5 := Lib.hid (live_end (Below.refl w.heap.size w))
    go_enter Try.func5, Try.ntmps5
    go_wp2_with fail
    refine H5.out.mono ?_
    rintro e W1 ⟨rfl, hb⟩
    go_wp2
    go_ret
    exact ⟨rfl, hb⟩
  · have hi : ¬ (1000 : Int) < (s.size : Int) := by omega
    have H1 := Lib.hid (fun w => quote_any s w (by omega))
    have H2 := Lib.hid (fun w => rQuote_any s w (by omega))
    generalize bs (quV s) = T at *
    generalize quE s = E at *
    go_enter Try.func5, Try.ntmps5
    go_wp2_with fail
    refine (H1.out _).mono ?_
    rintro e W1 ⟨rfl, hb1⟩
    go_wp2_with fail
    refine (H2.out _).mono ?_
    rintro e W2 ⟨rfl, hb2⟩
    have HB2 := Lib.hid (hb1.trans (hb2.mono hb1.size))
    clear hb1 hb2
    go_wp2_with fail
    refine (live_end HB2.out).mono ?_
    rintro e W4 ⟨rfl, hb⟩
    go_wp2
    go_ret
    exact ⟨rfl, hb⟩
theorem app_list (a b : ByteArray) : (a ++ b).toList = a.toList ++ b.toList := by
  rw [ByteArray.toList_eq, ByteArray.toList_eq, ByteArray.toList_eq, ByteArray.data_append]; simp
theorem cuR_comment {s c : ByteArray} {L : List (Int × List UInt8 × Nat)} {p : Nat} (h : cuR s = (0, L, p)) (hs : s.size ≤ 200) (hc : c.size ≤ 100) : cuR (s ++ ⟨#[32, 35]⟩ ++ c) = (0, L, (s ++ ⟨#[32, 35]⟩ ++ c).size) := by
  have hz : (s ++ ⟨#[32, 35]⟩ ++ c).size ≤ 302 := by
    rw [ByteArray.size_append, ByteArray.size_append]
    have : (⟨#[32, 35]⟩ : ByteArray).size = 2 := rfl
    omega
  unfold cuR at h
  rw [if_neg (by omega)] at h
  split at h
  · rename_i h0
    simp only [Prod.mk.injEq, true_and] at h
    have e := cuV_comment c.toList s.toList.length s.toList 0 (Nat.le_refl _) h0
    rw [h.1] at e
    refine cuR_ok (p := 0) (by omega) ?_
    rw [app_list, app_list, show (⟨#[32, 35]⟩ : ByteArray).toList = [32, 35] from bs_list [32, 35], ← e]
    simp
  · rename_i h0
    simp only [Prod.mk.injEq] at h
    exact absurd h.1 h0
theorem cuR_nil {s : ByteArray} {L : List (Int × List UInt8 × Nat)} {p : Nat} {r : Int} (h : cuR s = (r, L, p)) (hr : r ≠ 0) : L = [] := by
  unfold cuR at h
  split at h
  · simp only [Prod.mk.injEq] at h; exact h.2.1.symm
  · split at h
    · simp only [Prod.mk.injEq] at h; exact absurd h.1.symm hr
    · simp only [Prod.mk.injEq] at h; exact h.2.1.symm
set_option maxHeartbeats 4000000 in
theorem wordsComment_walk (s c : ByteArray) (w : World) (hs : s.size ≤ maxLen) (hc : c.size ≤ maxLen) :
    Calls Try.prog 9 #[.string s, .string c] w fun e w' => e = .returned (.bool true) ∧ Below w.heap.size w w' := by
  unfold maxLen at hs hc
  by_cases h : 200 < s.size ∨ 100 < c.size
  · have H5 := Lib.hid (live_end (Below.refl w.heap.size w))
    by_cases h1 : 200 < s.size
    · have hi : (200 : Int) < (s.size : Int) := by omega
      go_enter Try.func9, Try.ntmps9
      go_wp2_with fail
      refine H5.out.mono ?_
      rintro e W1 ⟨rfl, hb⟩
      go_wp2
      go_ret
      exact ⟨rfl, hb⟩
    · have hi : ¬ (200 : Int) < (s.size : Int) := by omega
      have hi2 : (100 : Int) < (c.size : Int) := by omega
      go_enter Try.func9, Try.ntmps9
      go_wp2_with fail
      refine H5.out.mono ?_
      rintro e W1 ⟨rfl, hb⟩
      go_wp2
      go_ret
      exact ⟨rfl, hb⟩
  · have hi : ¬ (200 : Int) < (s.size : Int) := by omega
    have hi2 : ¬ (100 : Int) < (c.size : Int) := by omega
    obtain ⟨r, L, p, hr⟩ : ∃ r L p, cuR s = (r, L, p) := ⟨_, _, _, rfl⟩
    have H1 := Lib.hid (fun w => cut_is (by omega) hr w)
    have hL : L.length ≤ 400 := by have := cuR_len s; rw [hr] at this; exact this
    by_cases h0 : r = 0
    · subst h0
      have hq := cuR_comment hr (by omega) (show c.size ≤ 100 by omega)
      have hz : (s ++ ⟨#[32, 35]⟩ ++ c).size ≤ 302 := by
        rw [ByteArray.size_append, ByteArray.size_append]
        have : (⟨#[32, 35]⟩ : ByteArray).size = 2 := rfl
        omega
      have H2 := Lib.hid (fun w => cut_is (by omega) hq w)
      clear hq hr h
      have hx : s.size + 2 ≤ 9223372036854775807 := by omega
      go_enter Try.func9, Try.ntmps9
      go_wp2_with fail
      refine (H1.out _).mono ?_
      rintro e W1 ⟨ao, cap, rfl, ho1, hb1⟩
      have HR1 := Lib.hid ho1.row
      have HB1 := Lib.hid hb1
      clear ho1 hb1
      go_wp2_with fail
      refine (H2.out _).mono ?_
      rintro e W2 ⟨ao2, cap2, rfl, ho2, hb2⟩
      have HR2 := Lib.hid ho2.row
      have HR12 := Lib.hid (HR1.out.below hb2)
      have HB2 := Lib.hid (HB1.out.trans (hb2.mono HB1.out.size))
      clear ho2 hb2
      go_wp2_with fail
      refine (same_is ao ao2 cap cap2 L _ HR12.out HR2.out hL).mono ?_
      rintro e W3 ⟨rfl, hb3⟩
      have HB3 := Lib.hid (HB2.out.trans (hb3.mono HB2.out.size))
      clear hb3
      go_wp2_with fail
      refine (live_end HB3.out).mono ?_
      rintro e W4 ⟨rfl, hb⟩
      go_wp2
      go_ret
      exact ⟨rfl, hb⟩
    · have q0 : (r != 0) = true := by simp [h0]
      have hLn := cuR_nil hr h0
      subst hLn
      clear hr h h0
      go_enter Try.func9, Try.ntmps9
      go_wp2_with fail
      refine (H1.out _).mono ?_
      rintro e W1 ⟨ao, cap, rfl, ho1, hb1⟩
      have HB1 := Lib.hid hb1
      clear ho1 hb1
      go_wp2_with fail
      refine (live_end HB1.out).mono ?_
      rintro e W4 ⟨rfl, hb⟩
      go_wp2
      go_ret
      exact ⟨rfl, hb⟩
end Go.Proofs.Ytfccpkjjbbmmaaa
