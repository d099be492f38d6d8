/- What Cut of package accountingref06 returns. -/
import Derived.Test.YtfccpkjjbbmmaaaWdI
namespace Go.Proofs.Ytfccpkjjbbmmaaa
open Go.RowKit
set_option linter.unusedVariables false
set_option linter.unusedSimpArgs false

set_option maxHeartbeats 4000000 in
theorem rCut_any (s : ByteArray) (w : World) (hs : s.size ≤ 1000) :
    Calls Try.prog 16 #[.string s] w fun e w' => CuP s w e w' := by
  by_cases h400 : 400 < s.size
  · have hi : (400 : Int) < (s.size : Int) := by omega
    have HP := Lib.hid (show CuP s w (.returned (.tuple #[.slice none 0 0, .int .i64 0, .int .i64 9])) w by
      unfold CuP; rw [cuR_long h400]; exact ⟨_, rfl, OwnW.nil _ _, Below.refl _ _⟩)
    go_enter Try.func16, Try.ntmps16
    go_wp2
    go_ret3
    exact HP.out
  have hi : ¬ (400 : Int) < (s.size : Int) := by omega
  go_enter Try.func16, Try.ntmps16
  go_wp2
  go_loopw [5, 6] (fun v i wr => ∃ (j : Nat) (L : List (Int × List UInt8 × Nat)), j ≤ s.size ∧ i = .int .i64 (j : Int) ∧ Hid (OwnW wr w.heap.size v L) ∧ Hid (Below w.heap.size w wr) ∧ Hid (cuI s j L)) (fun _ i _ => s.size - (intOf i).toNat)
  case atStart => exact ⟨0, [], by omega, by go_num, Lib.hid (OwnW.nil _ _), Lib.hid (Below.refl _ _), Lib.hid (cuI_start s)⟩
  case round =>
    obtain ⟨j, L, hj, rfl, HO, HB, HI⟩ := hrel
    obtain ⟨ao, cap, hv⟩ := HO.out.shape
    subst hv
    have hal : L.length < 1000 := by have := HI.out.2; omega
    by_cases h : j < s.size
    · have hij : (j : Int) < (s.size : Int) := by omega
      by_cases c35 : (s[j].toNat : Int) = 35
      · have q2 : ((s[j].toNat : Int) != 35) = false := by simp [c35]
        have HP := Lib.hid (show CuP s w (.returned (.tuple #[.slice ao L.length cap, .int .i64 (s.size : Int), .int .i64 0])) wr by
          unfold CuP; rw [cuR_ok h400 (cuI_hash HI.out h c35)]; exact ⟨_, rfl, HO.out, HB.out⟩)
        clear c35
        go_wp2
        go_ret3
        exact HP.out
      have q2 : ((s[j].toNat : Int) != 35) = true := by simp [c35]
      by_cases c32 : (s[j].toNat : Int) = 32
      · have q1 : ((s[j].toNat : Int) == 32) = true := by simpa using c32
        have HI2 := Lib.hid (cuI_blank HI.out h c32)
        clear c32 c35
        go_wp2
        go_roundw
        case rel => exact ⟨j + 1, L, by omega, by go_num, HO, HB, HI2⟩
        case measure => simp [intOf]; omega
      · have q1 : ((s[j].toNat : Int) == 32) = false := by simpa using c32
        have H1 := Lib.hid (fun w => rWord_any s j w hs h)
        obtain ⟨X, hX⟩ : ∃ X, woL (s.toList.drop j) = X := ⟨_, rfl⟩
        rw [hX] at H1
        by_cases he : X.1 = 0
        · have q3 : (X.1 != 0) = false := by simp [he]
          have HW := Lib.hid (cuI_word HI.out h hX he)
          have HA := Lib.hid (show enV X j = ((j + X.2.2.2 : Nat) : Int) by unfold enV; rw [if_pos he])
          have HE := Lib.hid he
          clear c32 c35 hX he
          go_wp2_with fail
          refine (H1.out _).mono ?_
          rintro e W1 ⟨⟨q, he, hq⟩, hb1⟩
          rw [hq HE.out, HA.out] at he
          subst he
          clear hq
          have HB1 := Lib.hid (HB.out.trans (hb1.mono HB.out.size))
          have HO1 := Lib.hid (HO.out.below hb1)
          clear hb1
          go_wp2_with (at_builtin; refine wpList_word rfl _ _ rfl w.heap.size _ L rfl ((HO1.out.alloc _).alloc _) (W1.heap.size + 1) 1 (X.2.1, X.2.2.1, j) rfl (by simp) (by simp) (by simp) (by omega) (by have := HB1.out.size; simp; omega) ?_; intro v' w1 hown hbel; have HO2 := Lib.hid hown; have HB2 := Lib.hid (HB1.out.trans ((((Below.refl _ _).alloc (by exact HB1.out.size) _).alloc (by have := HB1.out.size; simp; omega) _).trans hbel)); clear hown hbel)
          go_roundw
          case rel => exact ⟨j + X.2.2.2, L ++ [(X.2.1, X.2.2.1, j)], HW.out.2.2, by go_num, HO2, HB2, Lib.hid HW.out.1⟩
          case measure => have := HW.out.2; simp [intOf]; omega
        · have q3 : (X.1 != 0) = true := by simp [he]
          have HV := Lib.hid (cuR_bad h400 (cuI_bad HI.out h c32 c35 hX he) he)
          have HA := Lib.hid (show ofV X j = ((j + X.2.2.2 : Nat) : Int) by unfold ofV; rw [if_neg he])
          clear c32 c35 hX he
          go_wp2_with fail
          refine (H1.out _).mono ?_
          rintro e W1 ⟨⟨q, he, hq⟩, hb1⟩
          rw [HA.out] at he
          subst he
          clear hq
          have HB1 := Lib.hid (HB.out.trans (hb1.mono HB.out.size))
          clear hb1
          go_wp2
          go_ret3
          unfold CuP
          rw [HV.out]
          exact ⟨_, rfl, OwnW.nil _ _, HB1.out.alloc (HB1.out.size) _⟩
    · have hij : ¬ (j : Int) < (s.size : Int) := by omega
      have HP := Lib.hid (show CuP s w (.returned (.tuple #[.slice ao L.length cap, .int .i64 (s.size : Int), .int .i64 0])) wr by
        unfold CuP; rw [cuR_ok h400 (cuI_end HI.out h)]; exact ⟨_, rfl, HO.out, HB.out⟩)
      go_wp2
      go_ret3
      exact HP.out
end Go.Proofs.Ytfccpkjjbbmmaaa
