/- What part of package accountingref09 returns. -/
import Derived.Test.YtjoinifjkpaapaaDoorDiF
namespace Go.Proofs.YtjoinifjkpaapaaDoor
open Go.RowKit Go.Sort
set_option linter.unusedVariables false
set_option linter.unusedSimpArgs false

theorem exB_list (s : ByteArray) (a b : Nat) (h : a ≤ b) (hb : b ≤ s.size) : (s.extract a b).toList = (s.toList.drop a).take (b - a) := by
  apply List.ext_getElem
  · rw [bytes_len, ByteArray.size_extract, List.length_take, List.length_drop, bytes_len]; omega
  · intro i h1 h2
    rw [bytes_len, ByteArray.size_extract] at h1
    rw [bytes_get _ i (by rw [ByteArray.size_extract]; omega), List.getElem_take, List.getElem_drop, ByteArray.getElem_extract, bytes_get s (a + i) (by omega)]
theorem exB_bs (s : ByteArray) (a b : Nat) (h : a ≤ b) (hb : b ≤ s.size) : s.extract a b = bs ((s.toList.drop a).take (b - a)) := by
  rw [← exB_list s a b h hb, bs_of]
/-- where the byte c first stands in l; the length of l, if it does not. -/
def cutI (l : List UInt8) (c : UInt8) : Nat := l.findIdx (· == c)
theorem cutI_more {l : List UInt8} {c : UInt8} {j : Nat} (h : j < l.length) (hj : j ≤ cutI l c) (hc : l[j] ≠ c) : j + 1 ≤ cutI l c := by
  rcases Nat.lt_or_ge j (cutI l c) with q | q
  · exact q
  · have e : cutI l c = j := by omega
    have hlt : l.findIdx (· == c) < l.length := by show cutI l c < l.length; omega
    have := List.findIdx_getElem (w := hlt)
    have e' : l.findIdx (· == c) = j := e
    simp only [e'] at this
    exact absurd (by simpa using this) hc
theorem cutI_at {l : List UInt8} {c : UInt8} {j : Nat} (h : j < l.length) (hj : j ≤ cutI l c) (hc : l[j] = c) : cutI l c = j := by
  rcases Nat.lt_or_ge j (cutI l c) with q | q
  · have := List.not_of_lt_findIdx (p := (· == c)) (xs := l) q
    rw [hc] at this
    simp at this
  · omega
theorem cutI_le (l : List UInt8) (c : UInt8) : cutI l c ≤ l.length := List.findIdx_le_length
set_option maxHeartbeats 2000000 in
theorem rPart_any (s : ByteArray) (c : UInt8) (w : World) (hs : s.size ≤ maxLen) :
    Calls Tryd.prog 32 #[.string s, .int .u8 (c.toNat : Int)] w fun e w' => e = .returned (.tuple #[.string (bs (s.toList.take (cutI s.toList c))), .string (bs (s.toList.drop (cutI s.toList c + 1))), .bool (decide (cutI s.toList c < s.size))]) ∧ Below w.heap.size w w' := by
  unfold maxLen at hs
  have HL := Lib.hid (bytes_len s)
  have HB0 := Lib.hid (Below.refl w.heap.size w)
  go_enter Tryd.func32, Tryd.ntmps32
  go_wp2
  go_loop [7] (fun i => ∃ j : Nat, j ≤ s.size ∧ i = .int .i64 (j : Int) ∧ Hid (j ≤ cutI s.toList c)) (fun i => s.size - (intOf i).toNat)
  case atStart => exact ⟨0, by omega, by go_num, Lib.hid (Nat.zero_le _)⟩
  case round =>
    obtain ⟨j, hj, rfl, HE⟩ := hrel
    by_cases h : j < s.size
    · have hi : (j : Int) < (s.size : Int) := by omega
      have HG := Lib.hid (show s.toList[j]'(by rw [HL.out]; exact h) = s[j] from bytes_get s j h _)
      by_cases hc : s[j] = c
      · have hq : ((s[j].toNat : Int) == (c.toNat : Int)) = true := by rw [hc]; simp
        have HI := Lib.hid (cutI_at (by rw [HL.out]; exact h) HE.out (by rw [HG.out]; exact hc))
        have HA := Lib.hid (show bs (s.toList.take j) = s.extract 0 j by rw [exB_bs s 0 j (by omega) (by omega), List.drop_zero, Nat.sub_zero])
        have HC := Lib.hid (show bs (s.toList.drop (j + 1)) = s.extract (j + 1) s.size by rw [exB_bs s (j + 1) s.size (by omega) (Nat.le_refl _), List.take_of_length_le (by rw [List.length_drop, HL.out]; omega)])
        have hj1 : ((j : Int) + 1) ≤ (s.size : Int) := by omega
        clear hc
        go_wp2_with fail
        go_quiet (fail)
        have HB2 := Lib.hid (below_drewN HB0.out nq)
        generalize w.drewN nq = w3 at *
        go_wp2
        go_ret3
        refine ⟨?_, HB2.out⟩
        rw [HI.out, HA.out, HC.out, decide_eq_true h]
        rfl
      · have hq : ((s[j].toNat : Int) == (c.toNat : Int)) = false := by
          have : s[j].toNat ≠ c.toNat := fun q => hc (UInt8.toNat_inj.1 q)
          simp; omega
        have HY := Lib.hid (cutI_more (by rw [HL.out]; exact h) HE.out (by rw [HG.out]; exact hc))
        clear hc
        go_wp2
        go_round
        case rel => exact ⟨j + 1, by omega, by go_num, HY⟩
        case measure => simp [intOf]; omega
    · have hi : ¬ (j : Int) < (s.size : Int) := by omega
      have HI := Lib.hid (show cutI s.toList c = s.size by have := cutI_le s.toList c; have := HE.out; have := HL.out; omega)
      have HT := Lib.hid (show bs (s.toList.take s.size) = s by rw [← HL.out, List.take_length, bs_of])
      have HD := Lib.hid (show bs (s.toList.drop (s.size + 1)) = ⟨#[]⟩ by rw [List.drop_of_length_le (by rw [HL.out]; omega)]; rfl)
      go_wp2
      go_ret3
      refine ⟨?_, HB0.out⟩
      rw [HI.out, HT.out, HD.out, decide_eq_false (Nat.lt_irrefl _)]
      rfl
end Go.Proofs.YtjoinifjkpaapaaDoor
