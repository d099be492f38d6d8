/- What text of package accountingref06 returns. -/
import Derived.Test.YtfccpkjjbbmmaaaWdG
namespace Go.Proofs.Ytfccpkjjbbmmaaa
open Go.RowKit
set_option linter.unusedVariables false
set_option linter.unusedSimpArgs false

theorem results_tmp4 {fn : Func} {t u v x : Tmp} (h : fn.results = #[.tmp t, .tmp u, .tmp v, .tmp x]) (tmps : Array Value) (P : Program) (w : World) :
    (results fn tmps).run P w = .ok (.tuple #[tmps.getD t undef, tmps.getD u undef, tmps.getD v undef, tmps.getD x undef]) w := by
  simp [results, h]
def enV (x : Int × Int × List UInt8 × Nat) (k : Nat) : Int := if x.1 = 0 then ((k + x.2.2.2 : Nat) : Int) else 0
def ofV (x : Int × Int × List UInt8 × Nat) (k : Nat) : Int := if x.1 = 0 then 0 else ((k + x.2.2.2 : Nat) : Int)
/-- a text, the offset behind it, the offset of a problem, the error. -/
def tRes (x : Int × Int × List UInt8 × Nat) (k : Nat) : Ending := .returned (.tuple #[.string (bs x.2.2.1), .int .i64 (enV x k), .int .i64 (ofV x k), .int .i64 x.1])
theorem tr_bad {x : Int × List UInt8 × Nat} {k j : Nat} {e : Int} (h : x = (e, [], j - k)) (hj : k ≤ j) (he : e ≠ 0) : Ending.returned (.tuple #[.string ⟨#[]⟩, .int .i64 0, .int .i64 (j : Int), .int .i64 e]) = tRes (txW x) k := by
  rw [txW_bad h he]; unfold tRes enV ofV; rw [if_neg he, if_neg he]; simp only
  rw [show k + (j - k) = j by omega]; rfl
theorem tr_many {x : Int × List UInt8 × Nat} {k : Nat} {acc : List UInt8} {p : Nat} (h : x = (0, acc, p)) (he : 60 < acc.length) : Ending.returned (.tuple #[.string ⟨#[]⟩, .int .i64 0, .int .i64 (k : Int), .int .i64 9]) = tRes (txW x) k := by
  rw [txW_many h he]; rfl
theorem tr_good {x : Int × List UInt8 × Nat} {k j : Nat} {acc : List UInt8} (h : x = (0, acc, j - k + 1)) (hj : k ≤ j) (he : ¬ 60 < acc.length) : Ending.returned (.tuple #[.string (bs acc), .int .i64 ((j : Int) + 1), .int .i64 0, .int .i64 0]) = tRes (txW x) k := by
  rw [txW_good h he]; unfold tRes enV ofV; rw [if_pos rfl, if_pos rfl]; simp only
  rw [show k + (j - k + 1) = j + 1 by omega]; rfl
theorem tr_short {x : Int × List UInt8 × Nat} {k : Nat} (h : x = (6, [], 0)) : Ending.returned (.tuple #[.string ⟨#[]⟩, .int .i64 0, .int .i64 (k : Int), .int .i64 6]) = tRes (txW x) k := by
  rw [txW_bad h (by decide)]; rfl
theorem escA_no {s : ByteArray} {j : Nat} (h : j + 1 < s.size) (h1 : (s[j + 1].toNat : Int) ≠ 34) (h2 : (s[j + 1].toNat : Int) ≠ 92) : escA s j = false := by rw [escA_at h]; simp [h1, h2]
theorem escA_yes {s : ByteArray} {j : Nat} (h : j + 1 < s.size) (h1 : (s[j + 1].toNat : Int) = 34 ∨ (s[j + 1].toNat : Int) = 92) : escA s j = true := by rw [escA_at h]; rcases h1 with h1 | h1 <;> simp [h1]
set_option maxHeartbeats 4000000 in
theorem rText_any (s : ByteArray) (k : Nat) (w : World) (hs : s.size ≤ 1000) (hk : k < s.size) :
    Calls Try.prog 39 #[.string s, .int .i64 (k : Int)] w fun e w' => e = tRes (txW (txA s k)) k ∧ Below w.heap.size w w' := by
  go_enter Try.func39, Try.ntmps39
  go_wp2
  go_loopw [8, 9] (fun v i wr => ∃ (j : Nat) (acc : List UInt8), j ≤ s.size ∧ i = .int .i64 (j : Int) ∧ Hid (OwnB wr w.heap.size v acc) ∧ Hid (Below w.heap.size w wr) ∧ Hid (txI s k j acc)) (fun _ i _ => s.size - (intOf i).toNat)
  case atStart => exact ⟨k + 1, [], by omega, by go_num, Lib.hid (OwnB.nil _ _), Lib.hid (Below.refl _ _), Lib.hid ⟨by show _ = txL _ _ _; rw [show k + 1 - k = 1 by omega], by simp⟩⟩
  case round =>
    obtain ⟨j, acc, hj, rfl, HO, HB, HI⟩ := hrel
    obtain ⟨ao, cap, hv⟩ := HO.out.shape
    subst hv
    have hal : acc.length < 1000 := by have := HI.out.2; omega
    have hkj : k < j := by have := HI.out.2; omega
    by_cases h : j < s.size
    · have hi : (j : Int) < (s.size : Int) := by omega
      by_cases c34 : (s[j].toNat : Int) = 34
      · have q1 : ((s[j].toNat : Int) == 34) = true := by simpa using c34
        have HT := Lib.hid (show txA s k = (0, acc, j - k + 1) by rw [← HI.out.1, dropB s j h, tx34 c34])
        clear c34
        by_cases hl : 60 < acc.length
        · have hl2 : (60 : Int) < (acc.length : Int) := by omega
          have HR := Lib.hid (tr_many (k := k) HT.out hl)
          go_wp2
          (try simp only [Exit.inBlock, Exit.then])
          refine bodyPost_ret (results_tmp4 rfl _ _ _) rfl ?_
          exact ⟨HR.out, HB.out⟩
        · have hl2 : ¬ (60 : Int) < (acc.length : Int) := by omega
          have hcv := HO.out.conv
          have HR := Lib.hid (tr_good (k := k) HT.out (by omega) hl)
          go_wp2
          (try simp only [Exit.inBlock, Exit.then])
          refine bodyPost_ret (results_tmp4 rfl _ _ _) rfl ?_
          exact ⟨HR.out, HB.out⟩
      · have q1 : ((s[j].toNat : Int) == 34) = false := by simpa using c34
        cases hp : pln s[j]
        · have c92 : (s[j].toNat : Int) ≠ 92 := by intro x; rw [show pln s[j] = true by unfold pln; simp; omega] at hp; cases hp
          have HR := Lib.hid (tr_bad (k := k) (j := j) (e := 5) (show txA s k = (5, [], j - k) by rw [← HI.out.1, dropB s j h, txNot c34 c92 hp]) (by omega) (by decide))
          have hb : (s[j].toNat : Int) < 32 ∨ 126 < (s[j].toNat : Int) := by unfold pln at hp; simp at hp; omega
          clear c34 c92 hp
          rcases hb with hb | hb
          · go_wp2
            (try simp only [Exit.inBlock, Exit.then])
            refine bodyPost_ret (results_tmp4 rfl _ _ _) rfl ?_
            exact ⟨HR.out, HB.out⟩
          · have hb2 : ¬ (s[j].toNat : Int) < 32 := by omega
            go_wp2
            (try simp only [Exit.inBlock, Exit.then])
            refine bodyPost_ret (results_tmp4 rfl _ _ _) rfl ?_
            exact ⟨HR.out, HB.out⟩
        · have hb1 : ¬ (s[j].toNat : Int) < 32 := by unfold pln at hp; simp at hp; omega
          have hb2 : ¬ 126 < (s[j].toNat : Int) := by unfold pln at hp; simp at hp; omega
          by_cases c92 : (s[j].toNat : Int) = 92
          · have q2 : ((s[j].toNat : Int) == 92) = true := by simpa using c92
            by_cases h4 : j + 1 < s.size
            · have hi4 : (j : Int) + 1 < (s.size : Int) := by omega
              have hj4 : ((j : Int) + 1).toNat = j + 1 := by omega
              by_cases d34 : (s[j + 1].toNat : Int) = 34
              · have q3 : ((s[j + 1].toNat : Int) != 34) = false := by simp [d34]
                have HI2 := Lib.hid (txI_esc HI.out h c92 (escA_yes h4 (.inl d34)) h4)
                clear c34 c92 hp d34
                go_wp2_with (at_builtin; refine wpList_byte rfl _ _ rfl w.heap.size _ acc rfl (HO.out.alloc _) wr.heap.size 1 (s[j + 1]) rfl (by simp) (by omega) (by have := HB.out.size; simp; omega) ?_; intro v' w1 hown hbel; have HO2 := Lib.hid hown; have HB2 := Lib.hid (HB.out.trans (((Below.refl _ _).alloc (by exact HB.out.size) _).trans hbel)); clear hown hbel)
                go_roundw
                case rel => exact ⟨j + 1 + 1, acc ++ [s[j + 1]], by omega, by go_num, HO2, HB2, HI2⟩
                case measure => simp [intOf]; omega
              · have q3 : ((s[j + 1].toNat : Int) != 34) = true := by simp [d34]
                by_cases d92 : (s[j + 1].toNat : Int) = 92
                · have q4 : ((s[j + 1].toNat : Int) != 92) = false := by simp [d92]
                  have HI2 := Lib.hid (txI_esc HI.out h c92 (escA_yes h4 (.inr d92)) h4)
                  clear c34 c92 hp d34 d92
                  go_wp2_with (at_builtin; refine wpList_byte rfl _ _ rfl w.heap.size _ acc rfl (HO.out.alloc _) wr.heap.size 1 (s[j + 1]) rfl (by simp) (by omega) (by have := HB.out.size; simp; omega) ?_; intro v' w1 hown hbel; have HO2 := Lib.hid hown; have HB2 := Lib.hid (HB.out.trans (((Below.refl _ _).alloc (by exact HB.out.size) _).trans hbel)); clear hown hbel)
                  go_roundw
                  case rel => exact ⟨j + 1 + 1, acc ++ [s[j + 1]], by omega, by go_num, HO2, HB2, HI2⟩
                  case measure => simp [intOf]; omega
                · have q4 : ((s[j + 1].toNat : Int) != 92) = true := by simp [d92]
                  have HR := Lib.hid (tr_bad (k := k) (j := j) (e := 5) (show txA s k = (5, [], j - k) by rw [← HI.out.1, dropB s j h, txBad c92 (escA_no h4 d34 d92)]) (by omega) (by decide))
                  clear c34 c92 hp d34 d92
                  go_wp2
                  (try simp only [Exit.inBlock, Exit.then])
                  refine bodyPost_ret (results_tmp4 rfl _ _ _) rfl ?_
                  exact ⟨HR.out, HB.out⟩
            · have hi4 : ¬ (j : Int) + 1 < (s.size : Int) := by omega
              have HR := Lib.hid (tr_bad (k := k) (j := j) (e := 5) (show txA s k = (5, [], j - k) by rw [← HI.out.1, dropB s j h, txBad c92 (escA_end h4)]) (by omega) (by decide))
              clear c34 c92 hp
              go_wp2
              (try simp only [Exit.inBlock, Exit.then])
              refine bodyPost_ret (results_tmp4 rfl _ _ _) rfl ?_
              exact ⟨HR.out, HB.out⟩
          · have q2 : ((s[j].toNat : Int) == 92) = false := by simpa using c92
            have HI2 := Lib.hid (txI_step HI.out h c34 c92 hp)
            clear c34 c92 hp
            go_wp2_with (at_builtin; refine wpList_byte rfl _ _ rfl w.heap.size _ acc rfl (HO.out.alloc _) wr.heap.size 1 (s[j]) rfl (by simp) (by omega) (by have := HB.out.size; simp; omega) ?_; intro v' w1 hown hbel; have HO2 := Lib.hid hown; have HB2 := Lib.hid (HB.out.trans (((Below.refl _ _).alloc (by exact HB.out.size) _).trans hbel)); clear hown hbel)
            go_roundw
            case rel => exact ⟨j + 1, acc ++ [s[j]], by omega, by go_num, HO2, HB2, HI2⟩
            case measure => simp [intOf]; omega
    · have hi : ¬ (j : Int) < (s.size : Int) := by omega
      have HR := Lib.hid (tr_short (k := k) (show txA s k = (6, [], 0) by rw [← HI.out.1, dropE s j h]; rfl))
      go_wp2
      (try simp only [Exit.inBlock, Exit.then])
      refine bodyPost_ret (results_tmp4 rfl _ _ _) rfl ?_
      exact ⟨HR.out, HB.out⟩
end Go.Proofs.Ytfccpkjjbbmmaaa
