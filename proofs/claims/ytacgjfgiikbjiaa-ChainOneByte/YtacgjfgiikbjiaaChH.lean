/- What Bytes of package accountingref14 returns, and Text of packages chain and accountingref14. -/
import Derived.Test.YtacgjfgiikbjiaaChG
namespace Go.Proofs.Ytacgjfgiikbjiaa
open Go.RowKit Go.Sort
set_option linter.unusedVariables false
set_option linter.unusedSimpArgs false

def dvN (n : Int) : Nat → Int
  | 0 => n
  | k + 1 => dvN n k / 256
theorem dvN_bd (n : Int) (n0 : 0 ≤ n) (n1 : n < 18446744073709551616) : ∀ k, 0 ≤ dvN n k ∧ dvN n k < 18446744073709551616
  | 0 => ⟨n0, n1⟩
  | k + 1 => by have := dvN_bd n n0 n1 k; unfold dvN; omega
/-- the cells when those from m on are written. -/
def dvC (n : Int) (m t : Nat) : Value := if m ≤ t then .int .u8 (dvN n (7 - t) % 256) else .int .u8 0
theorem dvC_old {n : Int} {m t : Nat} (h : t ≠ m) : dvC n m t = dvC n (m + 1) t := by
  unfold dvC
  by_cases k : m ≤ t
  · rw [if_pos k, if_pos (by omega)]
  · rw [if_neg k, if_neg (by omega)]
theorem dvC_new {n : Int} {m : Nat} : dvC n m m = .int .u8 (dvN n (7 - m) % 256) := if_pos (Nat.le_refl _)
theorem dvC_all {n : Int} (n0 : 0 ≤ n) (n1 : n < 18446744073709551616) (i : Nat) (x : Value) (h : ((spL n).map byV)[i]? = some x) : i < 8 ∧ dvC n 0 i = x := by
  have hi : i < 8 := by
    have := (List.getElem?_eq_some_iff.1 h).1
    simpa [spL] using this
  refine ⟨hi, ?_⟩
  have hA : (spA n 8)[i]? = some x := by rw [spA_eq n0 n1]; simpa using h
  unfold dvC
  rw [if_pos (by omega)]
  have e : (spA n 8)[i]? = some (.int .u8 (dvN n (7 - i) % 256)) := by
    rcases (show i = 0 ∨ i = 1 ∨ i = 2 ∨ i = 3 ∨ i = 4 ∨ i = 5 ∨ i = 6 ∨ i = 7 by omega) with rfl | rfl | rfl | rfl | rfl | rfl | rfl | rfl <;> simp [spA, dvN] <;> omega
  rw [e] at hA
  injection hA
set_option maxHeartbeats 2000000 in
theorem rBytes_any (n : Int) (w : World) (n0 : 0 ≤ n) (n1 : n < 18446744073709551616) :
    Calls Try.prog 25 #[.int .u64 n] w fun e w' => ByP n w e w' := by
  obtain ⟨i0, hi, hz0, hz1, hz2⟩ := info_parts inf_u8
  have HI := Lib.hid (⟨hi, hz0, hz1, hz2⟩ : _ ∧ _ ∧ _ ∧ _)
  clear hi hz0 hz1 hz2
  have HD := Lib.hid (dvN_bd n n0 n1)
  have HF := Lib.hid (dvC_all n0 n1)
  go_enter Try.func25, Try.ntmps25
  go_wp2_with (at_make; refine wpList_make_full _ rfl _ _ 23 rfl w.heap.size 5 i0 (.int .u8 0) 1 und_bytes HI.out.1 HI.out.2.1 HI.out.2.2.1 .i64 .i64 _ _ 8 rfl rfl rfl rfl (by rw [HI.out.2.2.2]; omega) (by unfold maxLen; omega) (Nat.le_refl _) ?_; intro W0 hown hgrow; have HP0 := Lib.hid (PaV.made hown); have HB0 := Lib.hid ((Below.refl w.heap.size w).grown hgrow (Nat.le_refl _) (fun k hk => by cases hk)); clear hown hgrow)
  go_loopw [0, 4] (fun v i wr => ∃ m : Nat, m ≤ 8 ∧ i = .int .i64 ((m : Int) - 1) ∧ v = .int .u64 (dvN n (8 - m)) ∧ Hid (PaV wr w.heap.size 8 (dvC n m)) ∧ Hid (Below w.heap.size w wr)) (fun _ i _ => (intOf i + 1).toNat)
  case atStart => exact ⟨8, by omega, by go_num, by simp [dvN], Lib.hid (by have := HP0.out; exact ⟨this.1, fun t ht => by rw [show dvC n 8 t = .int .u8 0 from if_neg (by omega)]; exact this.2 t ht⟩), HB0⟩
  case round =>
    obtain ⟨m, hm, rfl, rfl, HP, HB⟩ := hrel
    cases m with
    | succ k =>
      have ek : ((k + 1 : Nat) : Int) - 1 = (k : Int) := by omega
      rw [ek]
      clear ek
      have hk0 : 0 ≤ (k : Int) := by omega
      have hk8 : (k : Int) < 8 := by omega
      have h0 := HP.out.1
      have p0 := (HP.out.2 k (by omega)).1
      have p1 := (HP.out.2 k (by omega)).2
      have HP2 := Lib.hid (HP.out.set (g := dvC n k) k (by omega) (fun t _ ht => dvC_old ht))
      rw [dvC_new, show 7 - k = 8 - (k + 1) by omega] at HP2
      have HB2 := Lib.hid (HB.out.setCell (p := ⟨w.heap.size, k, none⟩) (by simp) (.int .u8 (dvN n (8 - (k + 1)) % 256)))
      have hd := HD.out (8 - (k + 1))
      have HE := Lib.hid (show dvN n (8 - k) = dvN n (8 - (k + 1)) / 256 by rw [show 8 - k = 8 - (k + 1) + 1 by omega]; rfl)
      generalize dvN n (8 - (k + 1)) = y at *
      generalize dvC n (k + 1) k = z at *
      go_wp2
      go_roundw
      case rel => exact ⟨k, by omega, by go_num, by rw [HE.out], HP2, HB2⟩
      case measure => simp [intOf]
    | zero =>
      have HRow := Lib.hid (HP.out.row HF.out)
      go_wp2
      go_ret
      exact ⟨_, rfl, HRow.out, HB.out⟩
/-- the digits of bytes. -/
def tx1 (b : UInt8) : List UInt8 := [hxD.getD (b.toNat / 16) 0, hxD.getD (b.toNat % 16) 0]
def txL (l : List UInt8) : List UInt8 := l.flatMap tx1
theorem txL_take {l : List UInt8} {j : Nat} (h : j < l.length) : txL (l.take (j + 1)) = txL (l.take j) ++ tx1 l[j] := by
  unfold txL; rw [List.take_succ_eq_append_getElem h, List.flatMap_append]; simp
theorem txL_len : ∀ l : List UInt8, (txL l).length = 2 * l.length
  | [] => rfl
  | b :: l => by
    have := txL_len l
    unfold txL at this ⊢
    rw [List.flatMap_cons, List.length_append, this]; simp [tx1]; omega
end Go.Proofs.Ytacgjfgiikbjiaa
