/- What readText of package words returns. -/
import Derived.Test.YtfccpkjjbbmmaaaWdC
namespace Go.Proofs.Ytfccpkjjbbmmaaa
open Go.RowKit
set_option linter.unusedVariables false
set_option linter.unusedSimpArgs false

theorem tx34 {c : UInt8} {r acc : List UInt8} {p : Nat} (h : (c.toNat : Int) = 34) : txL (c :: r) acc p = (0, acc, p + 1) := by
  cases r with
  | nil => rw [txL, if_pos h]
  | cons d r => rw [txL, if_pos h]
theorem txEsc {c : UInt8} {r acc : List UInt8} {p : Nat} {d : UInt8} (h : (c.toNat : Int) = 92) (hd : (d.toNat : Int) = 34 ∨ (d.toNat : Int) = 92) : txL (c :: d :: r) acc p = txL r (acc ++ [d]) (p + 2) := by
  rw [txL, if_neg (by omega), if_pos h, if_pos hd]
theorem txBad {c : UInt8} {r acc : List UInt8} {p : Nat} (h : (c.toNat : Int) = 92) (hd : escQ r = false) : txL (c :: r) acc p = (5, [], p) := by
  cases r with
  | nil => rw [txL, if_neg (by omega), if_pos h]
  | cons d r =>
    unfold escQ at hd
    rw [txL, if_neg (by omega), if_pos h, if_neg (by simp at hd; omega)]
theorem txPln {c : UInt8} {r acc : List UInt8} {p : Nat} (h1 : (c.toNat : Int) ≠ 34) (h2 : (c.toNat : Int) ≠ 92) (h3 : pln c = true) : txL (c :: r) acc p = txL r (acc ++ [c]) (p + 1) := by
  cases r with
  | nil => rw [show txL [] (acc ++ [c]) (p + 1) = (6, [], 0) from rfl, txL, if_neg h1, if_neg h2, if_pos h3]
  | cons d r => rw [txL, if_neg h1, if_neg h2, if_pos h3]
theorem txNot {c : UInt8} {r acc : List UInt8} {p : Nat} (h1 : (c.toNat : Int) ≠ 34) (h2 : (c.toNat : Int) ≠ 92) (h3 : pln c = false) : txL (c :: r) acc p = (5, [], p) := by
  cases r with
  | nil => rw [txL, if_neg h1, if_neg h2, if_neg (by simp [h3])]
  | cons d r => rw [txL, if_neg h1, if_neg h2, if_neg (by simp [h3])]
theorem OwnB.alloc {w : World} {base : Nat} {v : Value} {l : List UInt8} (h : OwnB w base v l) (o : Obj) : OwnB (w.alloc o) base v l := World.ownsRow.alloc h o
/-- the text that begins at k. -/
def txA (s : ByteArray) (k : Nat) : Int × List UInt8 × Nat := txL (s.toList.drop (k + 1)) [] 1
/-- read up to j, acc gathered. -/
def txI (s : ByteArray) (k j : Nat) (acc : List UInt8) : Prop := txL (s.toList.drop j) acc (j - k) = txA s k ∧ acc.length + k < j
theorem txW_bad {x : Int × List UInt8 × Nat} {e : Int} {p : Nat} (h : x = (e, [], p)) (he : e ≠ 0) : txW x = (e, 0, [], p) := by rw [h]; unfold txW; rw [if_neg he]
theorem txW_many {x : Int × List UInt8 × Nat} {acc : List UInt8} {p : Nat} (h : x = (0, acc, p)) (he : 60 < acc.length) : txW x = (9, 0, [], 0) := by rw [h]; unfold txW; rw [if_pos rfl, if_pos he]
theorem txW_good {x : Int × List UInt8 × Nat} {acc : List UInt8} {p : Nat} (h : x = (0, acc, p)) (he : ¬ 60 < acc.length) : txW x = (0, 3, acc, p) := by rw [h]; unfold txW; rw [if_pos rfl, if_neg he]
theorem rt_bad {x : Int × List UInt8 × Nat} {k j : Nat} {e : Int} (h : x = (e, [], j - k)) (hj : k ≤ j) (he : e ≠ 0) : Ending.returned (.tuple #[.agg #[.int .i64 0, .string ⟨#[]⟩, .int .i64 0], .int .i64 (j : Int), .int .i64 e]) = wRes (txW x) k := by
  rw [txW_bad h he]; unfold wRes wAt; rw [if_neg he]; simp only
  rw [show k + (j - k) = j by omega]; rfl
theorem rt_many {x : Int × List UInt8 × Nat} {k : Nat} {acc : List UInt8} {p : Nat} (h : x = (0, acc, p)) (he : 60 < acc.length) : Ending.returned (.tuple #[.agg #[.int .i64 0, .string ⟨#[]⟩, .int .i64 0], .int .i64 (k : Int), .int .i64 9]) = wRes (txW x) k := by
  rw [txW_many h he]; rfl
theorem rt_good {x : Int × List UInt8 × Nat} {k j : Nat} {acc : List UInt8} (h : x = (0, acc, j - k + 1)) (hj : k ≤ j) (he : ¬ 60 < acc.length) : Ending.returned (.tuple #[.agg #[.int .i64 3, .string (bs acc), .int .i64 (k : Int)], .int .i64 ((j : Int) + 1), .int .i64 0]) = wRes (txW x) k := by
  rw [txW_good h he]; unfold wRes wAt; rw [if_pos rfl]; simp only
  rw [show k + (j - k + 1) = j + 1 by omega]; rfl
theorem rt_short {x : Int × List UInt8 × Nat} {k : Nat} (h : x = (6, [], 0)) : Ending.returned (.tuple #[.agg #[.int .i64 0, .string ⟨#[]⟩, .int .i64 0], .int .i64 (k : Int), .int .i64 6]) = wRes (txW x) k := by
  rw [txW_bad h (by decide)]; rfl
theorem txI_step {s : ByteArray} {k j : Nat} {acc : List UInt8} (hI : txI s k j acc) (h : j < s.size) (h1 : (s[j].toNat : Int) ≠ 34) (h2 : (s[j].toNat : Int) ≠ 92) (h3 : pln s[j] = true) : txI s k (j + 1) (acc ++ [s[j]]) := by
  obtain ⟨i1, i2⟩ := hI
  refine ⟨?_, by simp; omega⟩
  rw [← i1, dropB s j h, txPln h1 h2 h3, show j + 1 - k = j - k + 1 by omega]
theorem txI_esc {s : ByteArray} {k j : Nat} {acc : List UInt8} (hI : txI s k j acc) (h : j < s.size) (h2 : (s[j].toNat : Int) = 92) (h3 : escA s j = true) (h4 : j + 1 < s.size) : txI s k (j + 1 + 1) (acc ++ [s[j + 1]]) := by
  obtain ⟨i1, i2⟩ := hI
  refine ⟨?_, by simp; omega⟩
  rw [escA_at h4] at h3
  rw [← i1, dropB s j h, dropB s (j + 1) h4, txEsc h2 (by simpa using h3), show j + 1 + 1 - k = j - k + 2 by omega]

set_option maxHeartbeats 4000000 in
theorem readText_any (s : ByteArray) (k : Nat) (w : World) (hs : s.size ≤ 1000) (hk : k < s.size) :
    Calls Try.prog 37 #[.string s, .int .i64 (k : Int)] w fun e w' => e = wRes (txW (txA s k)) k ∧ Below w.heap.size w w' := by
  have HM := Lib.hid (show s.size ≤ maxLen by unfold maxLen; omega)
  have HC0 := Lib.hid (Cell3.alloc w (.int .i64 0) (.string ⟨#[]⟩) (.int .i64 0) 39)
  have HB0 := Lib.hid ((Below.refl w.heap.size w).alloc (Nat.le_refl _) (Obj.cells #[.int .i64 0, .string ⟨#[]⟩, .int .i64 0] 39))
  have HBs := Lib.hid (show (w.alloc (Obj.cells #[.int .i64 0, .string ⟨#[]⟩, .int .i64 0] 39)).heap.size = w.heap.size + 1 by simp)
  go_enter Try.func37, Try.ntmps37
  go_wp2
  generalize w.alloc (Obj.cells #[.int .i64 0, .string ⟨#[]⟩, .int .i64 0] 39) = W at *
  go_loopw [7, 8] (fun v i wr => ∃ (j : Nat) (acc : List UInt8), j ≤ s.size ∧ i = .int .i64 (j : Int) ∧ Hid (OwnB wr W.heap.size v acc) ∧ Hid (Below W.heap.size W wr) ∧ Hid (txI s k j acc)) (fun _ i _ => s.size - (intOf i).toNat)
  case atStart => exact ⟨k + 1, [], by omega, by go_num, Lib.hid (OwnB.nil _ _), Lib.hid (Below.refl _ _), Lib.hid ⟨by show _ = txL _ _ _; rw [show k + 1 - k = 1 by omega], by simp⟩⟩
  case round =>
    obtain ⟨j, acc, hj, rfl, HO, HB, HI⟩ := hrel
    have HCr := Lib.hid (HC0.out.below HB.out (by rw [HBs.out]; omega))
    have HBr := Lib.hid (HB0.out.trans (HB.out.mono (by rw [HBs.out]; omega)))
    have cz0 := HCr.out.c0
    have cz1 := HCr.out.c1
    have cz2 := HCr.out.c2
    have fz0 := HCr.out.f0
    have fz1 := HCr.out.f1
    have fz2 := HCr.out.f2
    obtain ⟨ao, cap, hv⟩ := HO.out.shape
    subst hv
    have hal : acc.length < 1000 := by have := HI.out.2; omega
    have hkj : k < j := by have := HI.out.2; omega
    by_cases h : j < s.size
    · have hi : (j : Int) < (s.size : Int) := by omega
      by_cases c34 : (s[j].toNat : Int) = 34
      · have q1 : ((s[j].toNat : Int) == 34) = true := by simpa using c34
        have HT := Lib.hid (show txA s k = (0, acc, j - k + 1) by rw [← HI.out.1, dropB s j h, tx34 c34])
        clear c34
        by_cases hl : 60 < acc.length
        · have hl2 : (60 : Int) < (acc.length : Int) := by omega
          have C := Lib.hid (((HCr.out.set0 (.int .i64 0)).set1 (.string ⟨#[]⟩)).set2 (.int .i64 0))
          have B := Lib.hid (((HBr.out.setCell (p := ⟨w.heap.size, 0, none⟩) (by simp) (.int .i64 0)).setCell (p := ⟨w.heap.size, 1, none⟩) (by simp) (.string ⟨#[]⟩)).setCell (p := ⟨w.heap.size, 2, none⟩) (by simp) (.int .i64 0))
          have HR := Lib.hid (rt_many (k := k) HT.out hl)
          go_wp2
          refine bodyPost_ret (v := .tuple #[.agg #[.int .i64 0, .string ⟨#[]⟩, .int .i64 0], .int .i64 (k : Int), .int .i64 9]) ?_ rfl ⟨HR.out, B.out⟩
          have u0 := C.out.c0
          have u1 := C.out.c1
          have u2 := C.out.c2
          rw [results_cell_tmp2 rfl]
          go_simp
        · have hl2 : ¬ (60 : Int) < (acc.length : Int) := by omega
          have hcv := HO.out.conv
          have C := Lib.hid (((HCr.out.set0 (.int .i64 3)).set1 (.string (bs acc))).set2 (.int .i64 k))
          have B := Lib.hid (((HBr.out.setCell (p := ⟨w.heap.size, 0, none⟩) (by simp) (.int .i64 3)).setCell (p := ⟨w.heap.size, 1, none⟩) (by simp) (.string (bs acc))).setCell (p := ⟨w.heap.size, 2, none⟩) (by simp) (.int .i64 k))
          have HR := Lib.hid (rt_good (k := k) HT.out (by omega) hl)
          go_wp2
          refine bodyPost_ret (v := .tuple #[.agg #[.int .i64 3, .string (bs acc), .int .i64 (k : Int)], .int .i64 ((j : Int) + 1), .int .i64 0]) ?_ rfl ⟨HR.out, B.out⟩
          have u0 := C.out.c0
          have u1 := C.out.c1
          have u2 := C.out.c2
          rw [results_cell_tmp2 rfl]
          go_simp
      · have q1 : ((s[j].toNat : Int) == 34) = false := by simpa using c34
        have H1 := Lib.hid (fun w => isPlain_any s[j] w)
        have H2 := Lib.hid (fun w => escapes_any s j w HM.out h)
        have C := Lib.hid (((HCr.out.set0 (.int .i64 0)).set1 (.string ⟨#[]⟩)).set2 (.int .i64 0))
        have B := Lib.hid (((HBr.out.setCell (p := ⟨w.heap.size, 0, none⟩) (by simp) (.int .i64 0)).setCell (p := ⟨w.heap.size, 1, none⟩) (by simp) (.string ⟨#[]⟩)).setCell (p := ⟨w.heap.size, 2, none⟩) (by simp) (.int .i64 0))
        by_cases c92 : (s[j].toNat : Int) = 92
        · have q2 : ((s[j].toNat : Int) == 92) = true := by simpa using c92
          have HP := Lib.hid (show pln s[j] = true by unfold pln; simp; omega)
          cases hx : escA s j
          · rw [hx] at H2
            have HR := Lib.hid (rt_bad (k := k) (j := j) (e := 5) (show txA s k = (5, [], j - k) by rw [← HI.out.1, dropB s j h, txBad c92 hx]) (by omega) (by decide))
            clear c34 c92 hx
            go_wp2_with (first | (go_at_call 47; refine (H2.out _).mono ?_; rintro e w_ ⟨rfl, rfl⟩) | (go_at_call 26; refine (H1.out _).mono ?_; rintro e w_ ⟨rfl, rfl⟩))
            refine bodyPost_ret (v := .tuple #[.agg #[.int .i64 0, .string ⟨#[]⟩, .int .i64 0], .int .i64 (j : Int), .int .i64 5]) ?_ rfl ⟨HR.out, B.out⟩
            have u0 := C.out.c0
            have u1 := C.out.c1
            have u2 := C.out.c2
            rw [results_cell_tmp2 rfl]
            go_simp
          · have h4 := escA_lt hx
            have hi4 : (j : Int) + 1 < (s.size : Int) := by omega
            have hj4 : ((j : Int) + 1).toNat = j + 1 := by omega
            rw [hx] at H2
            have HI2 := Lib.hid (txI_esc HI.out h c92 hx h4)
            clear c34 c92 hx
            go_wp2_with (first | (go_at_call 47; refine (H2.out _).mono ?_; rintro e w_ ⟨rfl, rfl⟩) | (go_at_call 26; refine (H1.out _).mono ?_; rintro e w_ ⟨rfl, rfl⟩) | (at_builtin; refine wpList_byte rfl _ _ rfl W.heap.size _ acc rfl (HO.out.alloc _) wr.heap.size 1 (s[j + 1]) rfl (by simp) (by omega) (by have := HB.out.size; simp; omega) ?_; intro v' w1 hown hbel; have HO2 := Lib.hid hown; have HB2 := Lib.hid (HB.out.trans (((Below.refl _ _).alloc (by exact HB.out.size) _).trans hbel)); clear hown hbel))
            go_roundw
            case rel => exact ⟨j + 1 + 1, acc ++ [s[j + 1]], by omega, by go_num, HO2, HB2, HI2⟩
            case measure => simp [intOf]; omega
        · have q2 : ((s[j].toNat : Int) == 92) = false := by simpa using c92
          cases hp : pln s[j]
          · rw [hp] at H1
            have HR := Lib.hid (rt_bad (k := k) (j := j) (e := 5) (show txA s k = (5, [], j - k) by rw [← HI.out.1, dropB s j h, txNot c34 c92 hp]) (by omega) (by decide))
            clear c34 c92 hp
            go_wp2_with (go_at_call 26; refine (H1.out _).mono ?_; rintro e w_ ⟨rfl, rfl⟩)
            refine bodyPost_ret (v := .tuple #[.agg #[.int .i64 0, .string ⟨#[]⟩, .int .i64 0], .int .i64 (j : Int), .int .i64 5]) ?_ rfl ⟨HR.out, B.out⟩
            have u0 := C.out.c0
            have u1 := C.out.c1
            have u2 := C.out.c2
            rw [results_cell_tmp2 rfl]
            go_simp
          · rw [hp] at H1
            have HI2 := Lib.hid (txI_step HI.out h c34 c92 hp)
            clear c34 c92 hp
            go_wp2_with (first | (go_at_call 26; refine (H1.out _).mono ?_; rintro e w_ ⟨rfl, rfl⟩) | (at_builtin; refine wpList_byte rfl _ _ rfl W.heap.size _ acc rfl (HO.out.alloc _) wr.heap.size 1 (s[j]) rfl (by simp) (by omega) (by have := HB.out.size; simp; omega) ?_; intro v' w1 hown hbel; have HO2 := Lib.hid hown; have HB2 := Lib.hid (HB.out.trans (((Below.refl _ _).alloc (by exact HB.out.size) _).trans hbel)); clear hown hbel))
            go_roundw
            case rel => exact ⟨j + 1, acc ++ [s[j]], by omega, by go_num, HO2, HB2, HI2⟩
            case measure => simp [intOf]; omega
    · have hi : ¬ (j : Int) < (s.size : Int) := by omega
      have HR := Lib.hid (rt_short (k := k) (show txA s k = (6, [], 0) by rw [← HI.out.1, dropE s j h]; rfl))
      have C := Lib.hid (((HCr.out.set0 (.int .i64 0)).set1 (.string ⟨#[]⟩)).set2 (.int .i64 0))
      have B := Lib.hid (((HBr.out.setCell (p := ⟨w.heap.size, 0, none⟩) (by simp) (.int .i64 0)).setCell (p := ⟨w.heap.size, 1, none⟩) (by simp) (.string ⟨#[]⟩)).setCell (p := ⟨w.heap.size, 2, none⟩) (by simp) (.int .i64 0))
      go_wp2
      refine bodyPost_ret (v := .tuple #[.agg #[.int .i64 0, .string ⟨#[]⟩, .int .i64 0], .int .i64 (k : Int), .int .i64 6]) ?_ rfl ⟨HR.out, B.out⟩
      have u0 := C.out.c0
      have u1 := C.out.c1
      have u2 := C.out.c2
      rw [results_cell_tmp2 rfl]
      go_simp
end Go.Proofs.Ytfccpkjjbbmmaaa
