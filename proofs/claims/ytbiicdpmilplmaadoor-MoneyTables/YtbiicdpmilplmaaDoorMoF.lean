/- What strings.CutPrefix returns for the prefix -, and what Parse of package money returns. -/
import Derived.Test.YtbiicdpmilplmaaDoorMoE
namespace Go.Proofs.YtbiicdpmilplmaaDoor
open Go.RowKit Go.Sort
set_option linter.unusedVariables false

set_option maxHeartbeats 400000 in
theorem hasPrefix_any (s : ByteArray) (w : World) (hs : s.size ≤ maxLen) :
    Calls Tryd.prog 53 #[.string s, .string ⟨#[45]⟩] w fun e w' => e = .returned (.bool (isNeg s.toList)) ∧ w = w' := by
  unfold maxLen at hs
  by_cases h : 0 < s.size
  · have hz : (1 : Int) ≤ (s.size : Int) := by omega
    have he : ((s.extract 0 1).toList == [45]) = isNeg s.toList := by
      rw [extract1 h, isNeg_head h]
      by_cases k : s[0] = 45
      · rw [k]; rfl
      · have : (s[0] == 45) = false := by simpa using k
        rw [this]; simp [k]
    generalize isNeg s.toList = b at *
    go_enter Tryd.func53, Tryd.ntmps53
    go_wp2
    go_ret
    exact ⟨rfl, rfl⟩
  · have hz : ¬ (1 : Int) ≤ (s.size : Int) := by omega
    rw [isNeg_nil h]
    go_enter Tryd.func53, Tryd.ntmps53
    go_wp2
    go_ret
    exact ⟨rfl, rfl⟩
set_option maxHeartbeats 400000 in
theorem cutP_any (s : ByteArray) (w : World) (hs : s.size ≤ maxLen) :
    Calls Tryd.prog 46 #[.string s, .string ⟨#[45]⟩] w fun e w' => e = .returned (.tuple #[.string (restOf s), .bool (isNeg s.toList)]) ∧ w = w' := by
  have H := Lib.hid (fun w => hasPrefix_any s w hs)
  unfold maxLen at hs
  cases hb : isNeg s.toList
  · rw [hb] at H
    rw [restOf_no hb]
    clear hb
    go_enter Tryd.func46, Tryd.ntmps46
    go_wp2_with fail
    refine (H.out _).mono ?_
    rintro e w_ ⟨rfl, rfl⟩
    go_wp2
    go_ret2
    exact ⟨rfl, rfl⟩
  · rw [hb] at H
    rw [restOf_yes hb]
    have hz : 0 < s.size := by
      rcases Nat.lt_or_ge 0 s.size with k | k
      · exact k
      · rw [isNeg_nil (by omega)] at hb; cases hb
    have hz1 : (1 : Int) ≤ (s.size : Int) := by omega
    clear hb
    go_enter Tryd.func46, Tryd.ntmps46
    go_wp2_with fail
    refine (H.out _).mono ?_
    rintro e w_ ⟨rfl, rfl⟩
    go_wp2
    go_ret2
    exact ⟨rfl, rfl⟩
set_option maxHeartbeats 400000 in
theorem cutPrefix_any (s : ByteArray) (w : World) (hs : s.size ≤ maxLen) :
    Calls Tryd.prog 33 #[.string s, .string ⟨#[45]⟩] w fun e w' => e = .returned (.tuple #[.string (restOf s), .bool (isNeg s.toList)]) ∧ w = w' := by
  have H := Lib.hid (fun w => cutP_any s w hs)
  generalize restOf s = r at *
  generalize isNeg s.toList = b at *
  go_enter Tryd.func33, Tryd.ntmps33
  go_wp2_with fail
  refine (H.out _).mono ?_
  rintro e w_ ⟨rfl, rfl⟩
  go_wp2
  go_ret2
  exact ⟨rfl, rfl⟩

theorem readSize_any (s : ByteArray) (d : Int) (w : World) (hs : s.size ≤ maxLen) (hd : digO d) :
    Calls Tryd.prog 34 #[.string s, .int .i64 d] w fun e w' => RsPost s d e ∧ Below w.heap.size w w' := by
  obtain ⟨d1, d2⟩ := hd
  by_cases h : 0 < d
  · exact readSize_d s d w hs h d2
  · obtain rfl : d = 0 := by omega
    exact readSize_0 s w hs
theorem readSize_yes (s : ByteArray) (d : Int) (w : World) (hs : s.size ≤ maxLen) (hd : digO d) (h : rsF s d) :
    Calls Tryd.prog 34 #[.string s, .int .i64 d] w fun e w' => e = .returned (.tuple #[.int .i64 (rsV s d), .bool true]) ∧ Below w.heap.size w w' :=
  (readSize_any s d w hs hd).mono fun e w' ⟨hp, hb⟩ => ⟨by rcases hp with ⟨_, x⟩ | ⟨k, _⟩; exact x; exact absurd h k, hb⟩
theorem readSize_no (s : ByteArray) (d : Int) (w : World) (hs : s.size ≤ maxLen) (hd : digO d) (h : ¬ rsF s d) :
    Calls Tryd.prog 34 #[.string s, .int .i64 d] w fun e w' => e = .returned (.tuple #[.int .i64 0, .bool false]) ∧ Below w.heap.size w w' :=
  (readSize_any s d w hs hd).mono fun e w' ⟨hp, hb⟩ => ⟨by rcases hp with ⟨k, _⟩ | ⟨_, x⟩; exact absurd k h; exact x, hb⟩

/-- what Parse returns: four ways. -/
theorem mParse_arg (s : ByteArray) (d : Int) (w : World) (hd : ¬ digO d) :
    Calls Tryd.prog 22 #[.string s, .int .i64 d] w fun e w' => e = .returned (.tuple #[.int .i64 0, .int .i64 2]) ∧ Below w.heap.size w w' := by
  have H1 := Lib.hid (fun w => isDigits_any d w)
  rw [decide_eq_false hd] at H1
  clear hd
  go_enter Tryd.func22, Tryd.ntmps22
  go_wp2_with fail
  refine (H1.out _).mono ?_
  rintro e w_ ⟨rfl, rfl⟩
  go_wp2
  go_ret2
  exact ⟨rfl, Below.refl _ _⟩
set_option maxHeartbeats 1000000 in
theorem mParse_form (s : ByteArray) (d : Int) (w : World) (hs : s.size ≤ maxLen) (hd : digO d) (h : ¬ rsF (restOf s) d ∨ (rsF (restOf s) d ∧ isNeg s.toList = true ∧ rsV (restOf s) d = 0)) :
    Calls Tryd.prog 22 #[.string s, .int .i64 d] w fun e w' => e = .returned (.tuple #[.int .i64 0, .int .i64 5]) ∧ Below w.heap.size w w' := by
  have H1 := Lib.hid (fun w => isDigits_any d w)
  rw [decide_eq_true hd] at H1
  have H2 := Lib.hid (fun w => cutPrefix_any s w hs)
  have hr : (restOf s).size ≤ maxLen := Nat.le_trans (restOf_size s) hs
  rcases h with hf | ⟨hf, hb, hv⟩
  · have H3 := Lib.hid (fun w => readSize_no (restOf s) d w hr hd hf)
    clear hd hf hr
    generalize restOf s = r at *
    generalize isNeg s.toList = b at *
    go_enter Tryd.func22, Tryd.ntmps22
    go_wp2_with fail
    refine (H1.out _).mono ?_
    rintro e w_ ⟨rfl, rfl⟩
    go_wp2_with fail
    refine (H2.out _).mono ?_
    rintro e w_ ⟨rfl, rfl⟩
    go_wp2_with fail
    refine (H3.out _).mono ?_
    rintro e W1 ⟨rfl, hb1⟩
    go_wp2
    go_ret2
    exact ⟨rfl, hb1⟩
  · have H3 := Lib.hid (fun w => readSize_yes (restOf s) d w hr hd hf)
    rw [hv] at H3
    rw [hb] at H2
    clear hd hf hr hb hv
    generalize restOf s = r at *
    go_enter Tryd.func22, Tryd.ntmps22
    go_wp2_with fail
    refine (H1.out _).mono ?_
    rintro e w_ ⟨rfl, rfl⟩
    go_wp2_with fail
    refine (H2.out _).mono ?_
    rintro e w_ ⟨rfl, rfl⟩
    go_wp2_with fail
    refine (H3.out _).mono ?_
    rintro e W1 ⟨rfl, hb1⟩
    go_wp2
    go_ret2
    exact ⟨rfl, hb1⟩
set_option maxHeartbeats 1000000 in
theorem mParse_over (s : ByteArray) (d : Int) (w : World) (hs : s.size ≤ maxLen) (hd : digO d) (hf : rsF (restOf s) d) (ho : ¬ sumO (rsV (restOf s) d)) :
    Calls Tryd.prog 22 #[.string s, .int .i64 d] w fun e w' => e = .returned (.tuple #[.int .i64 0, .int .i64 4]) ∧ Below w.heap.size w w' := by
  have H1 := Lib.hid (fun w => isDigits_any d w)
  rw [decide_eq_true hd] at H1
  have H2 := Lib.hid (fun w => cutPrefix_any s w hs)
  have hr : (restOf s).size ≤ maxLen := Nat.le_trans (restOf_size s) hs
  have H3 := Lib.hid (fun w => readSize_yes (restOf s) d w hr hd hf)
  have H4 := Lib.hid (fun w => isSum_any (rsV (restOf s) d) w)
  rw [decide_eq_false ho] at H4
  have bv : 0 ≤ rsV (restOf s) d := (capM_b _).1
  have hv : (rsV (restOf s) d == 0) = false := by
    simp; intro x; rw [x] at ho; exact ho (by decide)
  clear hd hf hr ho
  generalize rsV (restOf s) d = V at *
  generalize restOf s = r at *
  generalize isNeg s.toList = b at *
  cases b
  · go_enter Tryd.func22, Tryd.ntmps22
    go_wp2_with fail
    refine (H1.out _).mono ?_
    rintro e w_ ⟨rfl, rfl⟩
    go_wp2_with fail
    refine (H2.out _).mono ?_
    rintro e w_ ⟨rfl, rfl⟩
    go_wp2_with fail
    refine (H3.out _).mono ?_
    rintro e W1 ⟨rfl, hb1⟩
    go_wp2_with fail
    refine (H4.out _).mono ?_
    rintro e w_ ⟨rfl, rfl⟩
    go_wp2
    go_ret2
    exact ⟨rfl, hb1⟩
  · go_enter Tryd.func22, Tryd.ntmps22
    go_wp2_with fail
    refine (H1.out _).mono ?_
    rintro e w_ ⟨rfl, rfl⟩
    go_wp2_with fail
    refine (H2.out _).mono ?_
    rintro e w_ ⟨rfl, rfl⟩
    go_wp2_with fail
    refine (H3.out _).mono ?_
    rintro e W1 ⟨rfl, hb1⟩
    go_wp2_with fail
    refine (H4.out _).mono ?_
    rintro e w_ ⟨rfl, rfl⟩
    go_wp2
    go_ret2
    exact ⟨rfl, hb1⟩
set_option maxHeartbeats 1000000 in
theorem mParse_ok (s : ByteArray) (d : Int) (w : World) (hs : s.size ≤ maxLen) (hd : digO d) (hf : rsF (restOf s) d) (ho : sumO (rsV (restOf s) d)) (hn : ¬ (isNeg s.toList = true ∧ rsV (restOf s) d = 0)) :
    Calls Tryd.prog 22 #[.string s, .int .i64 d] w fun e w' => e = .returned (.tuple #[.int .i64 (if isNeg s.toList = true then -(rsV (restOf s) d) else rsV (restOf s) d), .int .i64 0]) ∧ Below w.heap.size w w' := by
  have H1 := Lib.hid (fun w => isDigits_any d w)
  rw [decide_eq_true hd] at H1
  have H2 := Lib.hid (fun w => cutPrefix_any s w hs)
  have hr : (restOf s).size ≤ maxLen := Nat.le_trans (restOf_size s) hs
  have H3 := Lib.hid (fun w => readSize_yes (restOf s) d w hr hd hf)
  have H4 := Lib.hid (fun w => isSum_any (rsV (restOf s) d) w)
  rw [decide_eq_true ho] at H4
  obtain ⟨o1, o2⟩ := ho
  clear hd hf hr
  generalize rsV (restOf s) d = V at *
  generalize restOf s = r at *
  generalize isNeg s.toList = b at *
  cases b
  · simp only [Bool.false_eq_true, if_false]
    clear hn
    go_enter Tryd.func22, Tryd.ntmps22
    go_wp2_with fail
    refine (H1.out _).mono ?_
    rintro e w_ ⟨rfl, rfl⟩
    go_wp2_with fail
    refine (H2.out _).mono ?_
    rintro e w_ ⟨rfl, rfl⟩
    go_wp2_with fail
    refine (H3.out _).mono ?_
    rintro e W1 ⟨rfl, hb1⟩
    go_wp2_with fail
    refine (H4.out _).mono ?_
    rintro e w_ ⟨rfl, rfl⟩
    go_wp2
    go_ret2
    exact ⟨rfl, hb1⟩
  · have hv : (V == 0) = false := by simp; exact fun x => hn ⟨rfl, x⟩
    simp only [if_true]
    clear hn
    go_enter Tryd.func22, Tryd.ntmps22
    go_wp2_with fail
    refine (H1.out _).mono ?_
    rintro e w_ ⟨rfl, rfl⟩
    go_wp2_with fail
    refine (H2.out _).mono ?_
    rintro e w_ ⟨rfl, rfl⟩
    go_wp2_with fail
    refine (H3.out _).mono ?_
    rintro e W1 ⟨rfl, hb1⟩
    go_wp2_with fail
    refine (H4.out _).mono ?_
    rintro e w_ ⟨rfl, rfl⟩
    go_wp2
    go_ret2
    exact ⟨rfl, hb1⟩
end Go.Proofs.YtbiicdpmilplmaaDoor
