/- What strings.Cut at one byte and strings.SplitSeq return. -/
import Derived.Test.YtjoinifjkpaapaaDoorDiN
namespace Go.Proofs.YtjoinifjkpaapaaDoor
open Go.RowKit Go.Sort
set_option linter.unusedVariables false
set_option linter.unusedSimpArgs false

theorem ixb (c : UInt8) : ∀ l, Lib.indexByte l c = if cutI l c < l.length then (cutI l c : Int) else -1
  | [] => by simp [Lib.indexByte]
  | x :: l => by
    rw [Lib.indexByte, cutI_cons, ixb c l]
    by_cases h : x = c
    · subst h; simp
    · have h' : (x == c) = false := by simpa using h
      rw [h', if_neg h]
      by_cases k : cutI l c < l.length
      · have e : ((cutI l c : Int) == -1) = false := by simp
        simp [k]
      · simp [k]
set_option maxHeartbeats 2000000 in
theorem cut0_any (s : ByteArray) (c : UInt8) (w : World) (hs : s.size ≤ maxLen) :
    Calls Tryd.prog 42 #[.string s, .string ⟨#[c]⟩] w fun e w' => e = .returned (.tuple #[.string (bs (s.toList.take (cutI s.toList c))), .string (bs (s.toList.drop (cutI s.toList c + 1))), .bool (decide (cutI s.toList c < s.size))]) ∧ Below w.heap.size w w' := by
  unfold maxLen at hs
  have H1 := Lib.hid (fun W => Tryd.stringslite_Index_one s c W)
  rw [show s.data.toList = s.toList from (ByteArray.toList_eq s).symm, ixb, bytes_len] at H1
  have HB0 := Lib.hid (Below.refl w.heap.size w)
  have HL := Lib.hid (bytes_len s)
  by_cases h : cutI s.toList c < s.size
  · rw [if_pos h] at H1
    obtain ⟨j, hj⟩ : ∃ j, cutI s.toList c = j := ⟨_, rfl⟩
    rw [hj] at H1 h
    have HJ := Lib.hid hj
    clear hj
    have HA := Lib.hid (show bs (s.toList.take j) = s.extract 0 j by rw [exB_bs s 0 j (by omega) (by omega), List.drop_zero, Nat.sub_zero])
    have HC := Lib.hid (show bs (s.toList.drop (j + 1)) = s.extract (j + 1) s.size by rw [exB_bs s (j + 1) s.size (by omega) (Nat.le_refl _), List.take_of_length_le (by rw [List.length_drop, HL.out]; omega)])
    have hj0 : (0 : Int) ≤ (j : Int) := by omega
    have hj1 : ((j : Int) + 1) ≤ (s.size : Int) := by omega
    have hj2 : (j : Int) ≤ (s.size : Int) := by omega
    go_enter Tryd.func42, Tryd.ntmps42
    go_wp2_with fail
    refine (H1.out _).mono ?_
    rintro e w2 ⟨rfl, rfl⟩
    go_wp2_with fail
    go_quiet (fail)
    have HB2 := Lib.hid (below_drewN HB0.out nq)
    generalize w2.drewN nq = w3 at *
    go_wp2
    go_ret3
    refine ⟨?_, HB2.out⟩
    rw [HJ.out, HA.out, HC.out, decide_eq_true h]
    rfl
  · rw [if_neg h] at H1
    have HI := Lib.hid (show cutI s.toList c = s.size by have := cutI_le s.toList c; have := HL.out; omega)
    have HT := Lib.hid (show bs (s.toList.take s.size) = s by rw [← HL.out, List.take_length, bs_of])
    have HD := Lib.hid (show bs (s.toList.drop (s.size + 1)) = ⟨#[]⟩ by rw [List.drop_of_length_le (by rw [HL.out]; omega)]; rfl)
    clear h
    go_enter Tryd.func42, Tryd.ntmps42
    go_wp2_with fail
    refine (H1.out _).mono ?_
    rintro e w2 ⟨rfl, rfl⟩
    go_wp2
    go_ret3
    refine ⟨?_, HB0.out⟩
    rw [HI.out, HT.out, HD.out, decide_eq_false (Nat.lt_irrefl _)]
    rfl
set_option maxHeartbeats 2000000 in
theorem cut1_any (s : ByteArray) (c : UInt8) (w : World) (hs : s.size ≤ maxLen) :
    Calls Tryd.prog 31 #[.string s, .string ⟨#[c]⟩] w fun e w' => e = .returned (.tuple #[.string (bs (s.toList.take (cutI s.toList c))), .string (bs (s.toList.drop (cutI s.toList c + 1))), .bool (decide (cutI s.toList c < s.size))]) ∧ Below w.heap.size w w' := by
  have H1 := Lib.hid (fun W => cut0_any s c W hs)
  generalize bs (s.toList.take (cutI s.toList c)) = x at *
  generalize bs (s.toList.drop (cutI s.toList c + 1)) = y at *
  generalize decide (cutI s.toList c < s.size) = z at *
  go_enter Tryd.func31, Tryd.ntmps31
  go_wp2_with fail
  refine (H1.out _).mono ?_
  rintro e w2 ⟨rfl, hb⟩
  have HB := Lib.hid hb
  clear hb
  go_wp2
  go_ret3
  exact ⟨rfl, HB.out⟩
/-- the three variables that the iterator of SplitSeq has. -/
def spW (w : World) (s : ByteArray) (c : UInt8) : World := ((w.alloc (.cells #[.string s] 9)).alloc (.cells #[.string ⟨#[c]⟩] 9)).alloc (.cells #[.int .i64 0] 3)
def spF (b : Nat) : Value := .func (.func 49) #[] #[.pointer (some ⟨b + 1, 0, none⟩), .pointer (some ⟨b, 0, none⟩), .pointer (some ⟨b + 2, 0, none⟩)]
set_option maxHeartbeats 2000000 in
theorem seq0_any (s : ByteArray) (c : UInt8) (w : World) :
    Calls Tryd.prog 41 #[.string s, .string ⟨#[c]⟩, .int .i64 0] w fun e w' => e = .returned (spF w.heap.size) ∧ w' = spW w s c := by
  go_enter Tryd.func41, Tryd.ntmps41
  go_wp2
  go_ret
  exact ⟨rfl, rfl⟩
set_option maxHeartbeats 2000000 in
theorem seq1_any (s : ByteArray) (c : UInt8) (w : World) :
    Calls Tryd.prog 30 #[.string s, .string ⟨#[c]⟩] w fun e w' => e = .returned (spF w.heap.size) ∧ w' = spW w s c := by
  have H1 := Lib.hid (seq0_any s c w)
  obtain ⟨V, hV⟩ : ∃ V, spF w.heap.size = V := ⟨_, rfl⟩
  obtain ⟨W, hW⟩ : ∃ W, spW w s c = W := ⟨_, rfl⟩
  rw [hV, hW] at H1 ⊢
  clear hV hW
  go_enter Tryd.func30, Tryd.ntmps30
  go_wp2_with fail
  refine H1.out.mono ?_
  rintro e w2 ⟨rfl, rfl⟩
  go_wp2
  go_ret
  exact ⟨rfl, rfl⟩
end Go.Proofs.YtjoinifjkpaapaaDoor
