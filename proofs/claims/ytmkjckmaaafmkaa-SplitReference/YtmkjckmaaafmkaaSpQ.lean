/- What Even of package split returns, Same of package accountingref08, many of package accountinglaw08. -/
import Derived.Test.YtmkjckmaaafmkaaSpP
namespace Go.Proofs.Ytmkjckmaaafmkaa
open Go.RowKit Go.Sort
set_option linter.unusedVariables false
set_option linter.unusedSimpArgs false

theorem ShP.lower {x : Int} {zs : List Int} {w w1 : World} {e : Ending} {w' : World} (h : ShP x zs w1 e w') (hb : Below w.heap.size w w1) : ShP x zs w e w' := by
  refine ⟨?_, hb.trans (h.2.mono hb.size)⟩
  rcases h.1 with q | ⟨q, P, σ, q1, q2, q3⟩
  · exact .inl q
  · exact .inr ⟨q, P, σ, q1, Nat.le_trans hb.size q2, q3⟩
theorem row_ones {w : World} {L n : Nat} (h : PaV w L n (fun _ => .int .i64 1)) : Row w (some ⟨L, 0, none⟩) (List.replicate n 1) := by
  refine ⟨fun _ => ⟨L, 0, rfl, h.1, fun k hk => ?_⟩, fun z hz => ?_⟩
  · have := (h.2 k (by simpa using hk)).1
    simpa using this
  · have := List.eq_of_mem_replicate hz
    omega
set_option maxRecDepth 100000 in
set_option maxHeartbeats 4000000 in
theorem even_any (x : Int) (n : Nat) (w : World) (x1 : -9223372036854775808 ≤ x) (x2 : x ≤ 9223372036854775807) (n1 : 1 ≤ n) (n2 : n ≤ 200) :
    Calls Try.prog 16 #[.int .i64 x, .int .i64 n] w (ShP x (List.replicate n 1) w) := by
  obtain ⟨i0, hi, hz0, hz1, hz2⟩ := info_parts inf_int
  have h1 : ¬ (n : Int) < 1 := by omega
  have h2 : ¬ (200 : Int) < (n : Int) := by omega
  go_enter Try.func16, Try.ntmps16
  go_wp2_with (at_make; refine wpList_make_full _ rfl _ _ 22 rfl w.heap.size 3 i0 (.int .i64 0) 1 und_ints hi hz0 hz1 _ _ _ _ n rfl rfl rfl rfl ?_ ?_ ?_ ?_)
  any_goals (first | (rw [hz2]; omega) | omega | (unfold maxLen; omega) | exact Nat.le_refl _)
  intro w1 hown hgr
  have HL0 := Lib.hid (PaV.made (w := w1) (base := w.heap.size) (P := w.heap.size) (n := n) (T := 3) (z := .int .i64 0) (by rw [Nat.mul_one]; exact hown))
  have HB0 := Lib.hid (show Below w.heap.size w w1 from (Below.refl _ _).grown hgr (Nat.le_refl _) (by simp))
  clear hown hgr
  go_wp2_with fail
  go_loopw [16] (fun x wr => ∃ k : Nat, k ≤ n ∧ x = .int .i64 k ∧ Hid (PaV wr w.heap.size n (fun t => .int .i64 (if t < k then 1 else 0))) ∧ Hid (Below w.heap.size w wr)) (fun x _ => n - (intOf x).toNat)
  case atStart => exact ⟨0, Nat.zero_le _, rfl, Lib.hid (HL0.out.congr fun t _ => by simp), HB0⟩
  case round =>
    obtain ⟨k, hk, rfl, HL, HB⟩ := hrel
    by_cases h : k < n
    · have h' : (k : Int) < (n : Int) := by omega
      have l0 := (HL.out.2 k h).1
      have l1 := (HL.out.2 k h).2
      have HL2 := Lib.hid (show PaV (wr.setCell ⟨w.heap.size, k, none⟩ (.int .i64 1)) w.heap.size n (fun t => .int .i64 (if t < k + 1 then 1 else 0)) by
        have q := HL.out.set (g := fun t => .int .i64 (if t < k + 1 then 1 else 0)) k h (fun t ht e => by by_cases z : t < k; simp [z, show t < k + 1 by omega]; simp [z, show ¬ t < k + 1 by omega])
        simpa using q)
      have HB2 := Lib.hid (HB.out.setCell (p := ⟨w.heap.size, k, none⟩) (Nat.le_refl _) (.int .i64 1))
      go_wp2
      go_roundw
      case rel => exact ⟨k + 1, by omega, by go_num, HL2, HB2⟩
      case measure => simp [intOf]; omega
    · have h' : ¬ (k : Int) < (n : Int) := by omega
      obtain rfl : n = k := by omega
      have HS := Lib.hid (show Calls Try.prog 12 #[.int .i64 x, .slice (some ⟨w.heap.size, 0, none⟩) n n] wr (ShP x (List.replicate n 1) wr) by
        have q := shares_any x (some ⟨w.heap.size, 0, none⟩) n (List.replicate n 1) wr (row_ones (HL.out.congr fun t ht => by simp [ht])) (by simp; omega) x1 x2
        rwa [List.length_replicate] at q)
      go_wp2_with fail
      refine HS.out.mono ?_
      intro e w2 hsp
      have HSP := Lib.hid (hsp.lower HB.out)
      clear hsp
      have hsh := HSP.out.1
      rw [List.length_replicate] at hsh
      rcases hsh with ⟨q, rfl⟩ | ⟨q, P, σ, rfl, q2, q3⟩
      · go_wp2
        go_ret2
        exact HSP.out
      · go_wp2
        go_ret2
        exact HSP.out
set_option maxHeartbeats 1000000 in
theorem many_any (A : Option Addr) (c n : Nat) (w : World) : Calls Try.prog 11 #[.slice A n c] w fun e w' => e = .returned (.bool (decide (260 < n))) ∧ w = w' := by
  by_cases h : 260 < n
  · have h' : (260 : Int) < (n : Int) := by omega
    go_enter Try.func11, Try.ntmps11
    go_wp2
    go_ret
    exact ⟨ret_bool (by simp [h]), rfl⟩
  · have h' : ¬ (260 : Int) < (n : Int) := by omega
    go_enter Try.func11, Try.ntmps11
    go_wp2
    go_ret
    exact ⟨ret_bool (by simp [h]), rfl⟩
end Go.Proofs.Ytmkjckmaaafmkaa
