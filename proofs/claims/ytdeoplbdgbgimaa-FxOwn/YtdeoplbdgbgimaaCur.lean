/- What Code of the packages money and accountingref07 returns. No conditions. -/
import Derived.Test.YtdeoplbdgbgimaaRow1
namespace Go.Proofs.Ytdeoplbdgbgimaa
open Go.RowKit Go.Sort
set_option linter.unusedVariables false

/-- what Code returns. -/
def capB (c : UInt8) : Bool := decide (65 ≤ (c.toNat : Int)) && decide ((c.toNat : Int) ≤ 90)
def codeB (s : ByteArray) : Bool := s.size == 3 && s.toList.all capB
theorem cap_bad {s : ByteArray} {k : Nat} (hk : k < s.size) (h : capB s[k] = false) : codeB s = false := by
  have : s.toList.all capB = false := by
    rw [List.all_eq_false]
    exact ⟨s[k], by rw [← bytes_get s k hk (by rw [bytes_len]; exact hk)]; exact List.getElem_mem _, by simp [h]⟩
  unfold codeB; rw [this]; simp
theorem iter_below (w : World) (s : ByteArray) (pos : Nat) : Below w.heap.size w (w.iter s pos) := (Below.refl _ _).alloc (Nat.le_refl _) _

set_option maxHeartbeats 1000000 in
theorem curCode_any (s : ByteArray) (w : World) (hs : s.size ≤ maxLen) :
    Calls Try.prog 23 #[.string s] w fun e w' => e = .returned (.bool (codeB s)) ∧ Below w.heap.size w w' := by
  unfold maxLen at hs
  by_cases h3 : s.size = 3
  · have hl : (s.size : Int) = 3 := by omega
    go_enter Try.func23, Try.ntmps23
    go_wp2
    go_loopw [] (fun wr => ∃ pos : Nat, pos ≤ 3 ∧ wr = w.iter s pos ∧ Hid ((s.toList.take pos).all capB = true)) (fun wr => 3 - wr.iterPos w.heap.size)
    case atStart => exact ⟨0, by omega, rfl, Lib.hid rfl⟩
    case round =>
      obtain ⟨pos, hp3, rfl, HA⟩ := hrel
      by_cases hp : pos < s.size
      · by_cases hc : s[pos].toNat < 128
        · have hnx : ∀ ty, (Instr.next (.pointer (some ⟨w.heap.size, 0, none⟩)) true ty).run Try.prog (w.iter s pos) = _ := fun ty => run_next_ascii w s pos ty hp hc
          by_cases h1 : (s[pos].toNat : Int) < 65
          · have HC := Lib.hid (cap_bad hp (show capB s[pos] = false by unfold capB; simp; omega))
            go_wp2
            go_ret
            exact ⟨by rw [HC.out]; rfl, iter_below _ _ _⟩
          · by_cases h2 : 90 < (s[pos].toNat : Int)
            · have HC := Lib.hid (cap_bad hp (show capB s[pos] = false by unfold capB; simp; omega))
              go_wp2
              go_ret
              exact ⟨by rw [HC.out]; rfl, iter_below _ _ _⟩
            · have HA2 := Lib.hid (show (s.toList.take (pos + 1)).all capB = true by
                rw [take_snoc s pos hp, List.all_append, HA.out]
                have : capB s[pos] = true := by unfold capB; simp; omega
                simp [this])
              go_wp2
              go_roundw
              case rel => exact ⟨pos + 1, by omega, rfl, HA2⟩
              case measure => simp; omega
        · have hd := decode_high s pos hp (by omega)
          have hnx : ∀ ty, (Instr.next (.pointer (some ⟨w.heap.size, 0, none⟩)) true ty).run Try.prog (w.iter s pos) = _ := fun ty => run_next_any w s pos ty hp
          have HC := Lib.hid (cap_bad hp (show capB s[pos] = false by unfold capB; simp; omega))
          have h1 : 128 ≤ ((Utf8.decode s pos).1 : Int) := by have := hd.1; omega
          clear hd
          generalize ((Utf8.decode s pos).1 : Int) = r at *
          go_wp2
          go_ret
          exact ⟨by rw [HC.out]; rfl, iter_below _ _ _⟩
      · have hnx : ∀ ty, (Instr.next (.pointer (some ⟨w.heap.size, 0, none⟩)) true ty).run Try.prog (w.iter s pos) = _ := fun ty => run_next_end w s pos ty hp
        have HC := Lib.hid (show codeB s = true by
          have := HA.out
          rw [val_all hp] at this
          unfold codeB; rw [this, h3]; rfl)
        go_wp2
        go_ret
        exact ⟨by rw [HC.out]; rfl, iter_below _ _ _⟩
  · have hl : ¬ (s.size : Int) = 3 := by omega
    have e : codeB s = false := by unfold codeB; simp [h3]
    rw [e]
    go_enter Try.func23, Try.ntmps23
    go_wp2
    go_ret
    exact ⟨rfl, Below.refl _ _⟩
set_option maxHeartbeats 1000000 in
theorem rCurCode_any (s : ByteArray) (w : World) (hs : s.size ≤ maxLen) :
    Calls Try.prog 26 #[.string s] w fun e w' => e = .returned (.bool (codeB s)) ∧ w = w' := by
  unfold maxLen at hs
  by_cases h3 : s.size = 3
  · have hl : (s.size : Int) = 3 := by omega
    go_enter Try.func26, Try.ntmps26
    go_wp2
    go_loop [3] (fun i => ∃ pos : Nat, pos ≤ 3 ∧ i = .int .i64 (pos : Int) ∧ Hid ((s.toList.take pos).all capB = true)) (fun i => 3 - (intOf i).toNat)
    case atStart => exact ⟨0, by omega, rfl, Lib.hid rfl⟩
    case round =>
      obtain ⟨pos, hp3, rfl, HA⟩ := hrel
      by_cases hp : pos < s.size
      · have hp4 : (pos : Int) < 3 := by omega
        by_cases h1 : (s[pos].toNat : Int) < 65
        · have HC := Lib.hid (cap_bad hp (show capB s[pos] = false by unfold capB; simp; omega))
          go_wp2
          go_ret
          exact ⟨by rw [HC.out]; rfl, rfl⟩
        · by_cases h2 : 90 < (s[pos].toNat : Int)
          · have HC := Lib.hid (cap_bad hp (show capB s[pos] = false by unfold capB; simp; omega))
            go_wp2
            go_ret
            exact ⟨by rw [HC.out]; rfl, rfl⟩
          · have HA2 := Lib.hid (show (s.toList.take (pos + 1)).all capB = true by
              rw [take_snoc s pos hp, List.all_append, HA.out]
              have : capB s[pos] = true := by unfold capB; simp; omega
              simp [this])
            go_wp2
            go_round
            case rel => exact ⟨pos + 1, by omega, by go_num, HA2⟩
            case measure => simp [intOf]; omega
      · have HC := Lib.hid (show codeB s = true by
          have := HA.out
          rw [val_all hp] at this
          unfold codeB; rw [this, h3]; rfl)
        have hp4 : ¬ (pos : Int) < 3 := by omega
        go_wp2
        go_ret
        exact ⟨by rw [HC.out]; rfl, rfl⟩
  · have hl : ¬ (s.size : Int) = 3 := by omega
    have e : codeB s = false := by unfold codeB; simp [h3]
    rw [e]
    go_enter Try.func26, Try.ntmps26
    go_wp2
    go_ret
    exact ⟨rfl, rfl⟩

end Go.Proofs.Ytdeoplbdgbgimaa
