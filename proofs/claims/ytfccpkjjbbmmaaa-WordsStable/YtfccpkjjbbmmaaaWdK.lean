/- What Quote of packages words and accountingref06 returns. -/
import Derived.Test.YtfccpkjjbbmmaaaWdJ
namespace Go.Proofs.Ytfccpkjjbbmmaaa
open Go.RowKit
set_option linter.unusedVariables false
set_option linter.unusedSimpArgs false

/-- the quoted text of s, and the error. -/
def quV (s : ByteArray) : List UInt8 := if plaB s then quL s.toList else []
def quE (s : ByteArray) : Int := if plaB s then 0 else 5
def quS (s : ByteArray) (j : Nat) : List UInt8 := [34] ++ escL (s.toList.take j)
theorem quS_step {s : ByteArray} {j : Nat} (h : j < s.size) : quS s (j + 1) = quS s j ++ esc s[j] := by
  unfold quS; rw [take_snoc s j h, escL_snoc]; simp
theorem quS_len (s : ByteArray) (j : Nat) (h : j ≤ 1000) : (quS s j).length ≤ 2001 := by
  have := escL_len (s.toList.take j)
  have h2 : (s.toList.take j).length ≤ j := by rw [List.length_take]; omega
  unfold quS; simp; omega
theorem quS_end {s : ByteArray} {j : Nat} (h : ¬ j < s.size) : quS s j ++ [34] = quL s.toList := by
  unfold quS quL; rw [val_all h]
theorem esc_yes {c : UInt8} (h : (c.toNat : Int) = 34 ∨ (c.toNat : Int) = 92) : esc c = [92] ++ [c] := if_pos h
theorem esc_no {c : UInt8} (h1 : (c.toNat : Int) ≠ 34) (h2 : (c.toNat : Int) ≠ 92) : esc c = [c] := if_neg (by omega)
theorem OwnB.built (w : World) (b : UInt8) : OwnB (w.alloc (Obj.cells #[.int .u8 (b.toNat : Int)] 5)) w.heap.size (.slice (some ⟨w.heap.size, 0, none⟩) 1 1) [b] :=
  ⟨rfl, .inr ⟨w.heap.size, 1, #[.int .u8 (b.toNat : Int)], rfl, Nat.le_refl _, heap_alloc_new w _, Nat.le_refl _, by unfold maxLen; omega, rfl, rfl⟩⟩
set_option maxHeartbeats 4000000 in
theorem quote_any (s : ByteArray) (w : World) (hs : s.size ≤ 1000) :
    Calls Try.prog 18 #[.string s] w fun e w' => e = .returned (.tuple #[.string (bs (quV s)), .int .i64 (quE s)]) ∧ Below w.heap.size w w' := by
  have HM := Lib.hid (show s.size ≤ maxLen by unfold maxLen; omega)
  have H1 := Lib.hid (fun w => plain_any s w HM.out)
  cases hp : plaB s
  · rw [hp] at H1
    have e1 : quV s = [] := by unfold quV; rw [hp]; rfl
    have e2 : quE s = 5 := by unfold quE; rw [hp]; rfl
    rw [e1, e2]
    clear hp e1 e2
    go_enter Try.func18, Try.ntmps18
    go_wp2_with fail
    refine (H1.out _).mono ?_
    rintro e w_ ⟨rfl, rfl⟩
    go_wp2
    go_ret2
    exact ⟨rfl, Below.refl _ _⟩
  · rw [hp] at H1
    have e1 : quV s = quL s.toList := by unfold quV; rw [hp]; rfl
    have e2 : quE s = 0 := by unfold quE; rw [hp]; rfl
    rw [e1, e2]
    clear hp e1 e2
    have HO0 := Lib.hid (OwnB.built w 34)
    have HB0 := Lib.hid ((Below.refl w.heap.size w).alloc (Nat.le_refl _) (Obj.cells #[.int .u8 ((34 : UInt8).toNat : Int)] 5))
    go_enter Try.func18, Try.ntmps18
    go_wp2_with fail
    refine (H1.out _).mono ?_
    rintro e w_ ⟨rfl, rfl⟩
    go_wp2
    go_loopw [4, 12] (fun v i wr => ∃ (j : Nat), j ≤ s.size ∧ i = .int .i64 (j : Int) ∧ Hid (OwnB wr w.heap.size v (quS s j)) ∧ Hid (Below w.heap.size w wr)) (fun _ i _ => s.size - (intOf i).toNat)
    case atStart => exact ⟨0, by omega, by go_num, HO0, HB0⟩
    case round =>
      obtain ⟨j, hj, rfl, HO, HB⟩ := hrel
      obtain ⟨ao, cap, hv⟩ := HO.out.shape
      subst hv
      have HL := Lib.hid (quS_len s j (by omega))
      by_cases h : j < s.size
      · have hi : (j : Int) < (s.size : Int) := by omega
        by_cases c34 : (s[j].toNat : Int) = 34
        · have q1 : ((s[j].toNat : Int) == 34) = true := by simpa using c34
          have HE := Lib.hid (esc_yes (.inl c34))
          clear c34
          go_wp2_with (first | (at_builtin; refine wpList_byte rfl (.tmp 25) (.tmp 26) rfl w.heap.size _ (quS s j) rfl (HO.out.alloc _) wr.heap.size 1 (92) rfl (by simp) (by have := HL.out; simp; omega) (by have := HB.out.size; simp; omega) ?_; intro v1 w1 hown hbel; have HO1 := Lib.hid hown; have HB1 := Lib.hid (HB.out.trans (((Below.refl _ _).alloc (by exact HB.out.size) _).trans hbel)); clear hown hbel) | (at_builtin; refine wpList_byte rfl (.tmp 28) (.tmp 32) rfl w.heap.size _ (quS s j ++ [92]) rfl (HO1.out.alloc _) w1.heap.size 1 (s[j]) rfl (by simp) (by have := HL.out; simp; omega) (by have := HB1.out.size; simp; omega) ?_; intro v2 w2 hown hbel; have HO2 := Lib.hid hown; have HB2 := Lib.hid (HB1.out.trans (((Below.refl _ _).alloc (by exact HB1.out.size) _).trans hbel)); clear hown hbel))
          go_roundw
          case rel => exact ⟨j + 1, by omega, by go_num, Lib.hid (by rw [quS_step h, HE.out, ← List.append_assoc]; exact HO2.out), HB2⟩
          case measure => simp [intOf]; omega
        · have q1 : ((s[j].toNat : Int) == 34) = false := by simpa using c34
          by_cases c92 : (s[j].toNat : Int) = 92
          · have q2 : ((s[j].toNat : Int) == 92) = true := by simpa using c92
            have HE := Lib.hid (esc_yes (.inr c92))
            clear c34 c92
            go_wp2_with (first | (at_builtin; refine wpList_byte rfl (.tmp 25) (.tmp 26) rfl w.heap.size _ (quS s j) rfl (HO.out.alloc _) wr.heap.size 1 (92) rfl (by simp) (by have := HL.out; simp; omega) (by have := HB.out.size; simp; omega) ?_; intro v1 w1 hown hbel; have HO1 := Lib.hid hown; have HB1 := Lib.hid (HB.out.trans (((Below.refl _ _).alloc (by exact HB.out.size) _).trans hbel)); clear hown hbel) | (at_builtin; refine wpList_byte rfl (.tmp 28) (.tmp 32) rfl w.heap.size _ (quS s j ++ [92]) rfl (HO1.out.alloc _) w1.heap.size 1 (s[j]) rfl (by simp) (by have := HL.out; simp; omega) (by have := HB1.out.size; simp; omega) ?_; intro v2 w2 hown hbel; have HO2 := Lib.hid hown; have HB2 := Lib.hid (HB1.out.trans (((Below.refl _ _).alloc (by exact HB1.out.size) _).trans hbel)); clear hown hbel))
            go_roundw
            case rel => exact ⟨j + 1, by omega, by go_num, Lib.hid (by rw [quS_step h, HE.out, ← List.append_assoc]; exact HO2.out), HB2⟩
            case measure => simp [intOf]; omega
          · have q2 : ((s[j].toNat : Int) == 92) = false := by simpa using c92
            have HE := Lib.hid (esc_no c34 c92)
            clear c34 c92
            go_wp2_with (at_builtin; refine wpList_byte rfl _ _ rfl w.heap.size _ (quS s j) rfl (HO.out.alloc _) wr.heap.size 1 (s[j]) rfl (by simp) (by have := HL.out; simp; omega) (by have := HB.out.size; simp; omega) ?_; intro v1 w1 hown hbel; have HO1 := Lib.hid hown; have HB1 := Lib.hid (HB.out.trans (((Below.refl _ _).alloc (by exact HB.out.size) _).trans hbel)); clear hown hbel)
            go_roundw
            case rel => exact ⟨j + 1, by omega, by go_num, Lib.hid (by rw [quS_step h, HE.out]; exact HO1.out), HB1⟩
            case measure => simp [intOf]; omega
      · have hi : ¬ (j : Int) < (s.size : Int) := by omega
        have HE := Lib.hid (quS_end h)
        go_wp2_with (at_builtin; refine wpList_byte rfl _ _ rfl w.heap.size _ (quS s j) rfl (HO.out.alloc _) wr.heap.size 1 (34) rfl (by simp) (by have := HL.out; simp; omega) (by have := HB.out.size; simp; omega) ?_; intro v1 w1 hown hbel; have HO1 := Lib.hid hown; have HB1 := Lib.hid (HB.out.trans (((Below.refl _ _).alloc (by exact HB.out.size) _).trans hbel)); have hcv := hown.conv; clear hown hbel)
        go_ret2
        exact ⟨by rw [← HE.out]; rfl, HB1.out⟩
set_option maxHeartbeats 4000000 in
theorem rQuote_any (s : ByteArray) (w : World) (hs : s.size ≤ 1000) :
    Calls Try.prog 19 #[.string s] w fun e w' => e = .returned (.tuple #[.string (bs (quV s)), .int .i64 (quE s)]) ∧ Below w.heap.size w w' := by
  have HM := Lib.hid (show s.size ≤ maxLen by unfold maxLen; omega)
  have H1 := Lib.hid (fun w => rPlain_any s w HM.out)
  cases hp : plaB s
  · rw [hp] at H1
    have e1 : quV s = [] := by unfold quV; rw [hp]; rfl
    have e2 : quE s = 5 := by unfold quE; rw [hp]; rfl
    rw [e1, e2]
    clear hp e1 e2
    go_enter Try.func19, Try.ntmps19
    go_wp2_with fail
    refine (H1.out _).mono ?_
    rintro e w_ ⟨rfl, rfl⟩
    go_wp2
    go_ret2
    exact ⟨rfl, Below.refl _ _⟩
  · rw [hp] at H1
    have e1 : quV s = quL s.toList := by unfold quV; rw [hp]; rfl
    have e2 : quE s = 0 := by unfold quE; rw [hp]; rfl
    rw [e1, e2]
    clear hp e1 e2
    have HO0 := Lib.hid (OwnB.built w 34)
    have HB0 := Lib.hid ((Below.refl w.heap.size w).alloc (Nat.le_refl _) (Obj.cells #[.int .u8 ((34 : UInt8).toNat : Int)] 5))
    go_enter Try.func19, Try.ntmps19
    go_wp2_with fail
    refine (H1.out _).mono ?_
    rintro e w_ ⟨rfl, rfl⟩
    go_wp2
    go_loopw [4, 5] (fun v i wr => ∃ (j : Nat), j ≤ s.size ∧ i = .int .i64 (j : Int) ∧ Hid (OwnB wr w.heap.size v (quS s j)) ∧ Hid (Below w.heap.size w wr)) (fun _ i _ => s.size - (intOf i).toNat)
    case atStart => exact ⟨0, by omega, by go_num, HO0, HB0⟩
    case round =>
      obtain ⟨j, hj, rfl, HO, HB⟩ := hrel
      obtain ⟨ao, cap, hv⟩ := HO.out.shape
      subst hv
      have HL := Lib.hid (quS_len s j (by omega))
      by_cases h : j < s.size
      · have hi : (j : Int) < (s.size : Int) := by omega
        by_cases c34 : (s[j].toNat : Int) = 34
        · have q1 : ((s[j].toNat : Int) == 34) = true := by simpa using c34
          have HE := Lib.hid (esc_yes (.inl c34))
          clear c34
          go_wp2_with (first | (at_builtin; refine wpList_byte rfl (.tmp 26) (.tmp 27) rfl w.heap.size _ (quS s j) rfl (HO.out.alloc _) wr.heap.size 1 (92) rfl (by simp) (by have := HL.out; simp; omega) (by have := HB.out.size; simp; omega) ?_; intro v1 w1 hown hbel; have HO1 := Lib.hid hown; have HB1 := Lib.hid (HB.out.trans (((Below.refl _ _).alloc (by exact HB.out.size) _).trans hbel)); clear hown hbel) | (at_builtin; refine wpList_byte rfl (.tmp 29) (.tmp 33) rfl w.heap.size _ (quS s j ++ [92]) rfl (HO1.out.alloc _) w1.heap.size 1 (s[j]) rfl (by simp) (by have := HL.out; simp; omega) (by have := HB1.out.size; simp; omega) ?_; intro v2 w2 hown hbel; have HO2 := Lib.hid hown; have HB2 := Lib.hid (HB1.out.trans (((Below.refl _ _).alloc (by exact HB1.out.size) _).trans hbel)); clear hown hbel))
          go_roundw
          case rel => exact ⟨j + 1, by omega, by go_num, Lib.hid (by rw [quS_step h, HE.out, ← List.append_assoc]; exact HO2.out), HB2⟩
          case measure => simp [intOf]; omega
        · have q1 : ((s[j].toNat : Int) == 34) = false := by simpa using c34
          by_cases c92 : (s[j].toNat : Int) = 92
          · have q2 : ((s[j].toNat : Int) == 92) = true := by simpa using c92
            have HE := Lib.hid (esc_yes (.inr c92))
            clear c34 c92
            go_wp2_with (first | (at_builtin; refine wpList_byte rfl (.tmp 26) (.tmp 27) rfl w.heap.size _ (quS s j) rfl (HO.out.alloc _) wr.heap.size 1 (92) rfl (by simp) (by have := HL.out; simp; omega) (by have := HB.out.size; simp; omega) ?_; intro v1 w1 hown hbel; have HO1 := Lib.hid hown; have HB1 := Lib.hid (HB.out.trans (((Below.refl _ _).alloc (by exact HB.out.size) _).trans hbel)); clear hown hbel) | (at_builtin; refine wpList_byte rfl (.tmp 29) (.tmp 33) rfl w.heap.size _ (quS s j ++ [92]) rfl (HO1.out.alloc _) w1.heap.size 1 (s[j]) rfl (by simp) (by have := HL.out; simp; omega) (by have := HB1.out.size; simp; omega) ?_; intro v2 w2 hown hbel; have HO2 := Lib.hid hown; have HB2 := Lib.hid (HB1.out.trans (((Below.refl _ _).alloc (by exact HB1.out.size) _).trans hbel)); clear hown hbel))
            go_roundw
            case rel => exact ⟨j + 1, by omega, by go_num, Lib.hid (by rw [quS_step h, HE.out, ← List.append_assoc]; exact HO2.out), HB2⟩
            case measure => simp [intOf]; omega
          · have q2 : ((s[j].toNat : Int) == 92) = false := by simpa using c92
            have HE := Lib.hid (esc_no c34 c92)
            clear c34 c92
            go_wp2_with (at_builtin; refine wpList_byte rfl _ _ rfl w.heap.size _ (quS s j) rfl (HO.out.alloc _) wr.heap.size 1 (s[j]) rfl (by simp) (by have := HL.out; simp; omega) (by have := HB.out.size; simp; omega) ?_; intro v1 w1 hown hbel; have HO1 := Lib.hid hown; have HB1 := Lib.hid (HB.out.trans (((Below.refl _ _).alloc (by exact HB.out.size) _).trans hbel)); clear hown hbel)
            go_roundw
            case rel => exact ⟨j + 1, by omega, by go_num, Lib.hid (by rw [quS_step h, HE.out]; exact HO1.out), HB1⟩
            case measure => simp [intOf]; omega
      · have hi : ¬ (j : Int) < (s.size : Int) := by omega
        have HE := Lib.hid (quS_end h)
        go_wp2_with (at_builtin; refine wpList_byte rfl _ _ rfl w.heap.size _ (quS s j) rfl (HO.out.alloc _) wr.heap.size 1 (34) rfl (by simp) (by have := HL.out; simp; omega) (by have := HB.out.size; simp; omega) ?_; intro v1 w1 hown hbel; have HO1 := Lib.hid hown; have HB1 := Lib.hid (HB.out.trans (((Below.refl _ _).alloc (by exact HB.out.size) _).trans hbel)); have hcv := hown.conv; clear hown hbel)
        go_ret2
        exact ⟨by rw [← HE.out]; rfl, HB1.out⟩
end Go.Proofs.Ytfccpkjjbbmmaaa
