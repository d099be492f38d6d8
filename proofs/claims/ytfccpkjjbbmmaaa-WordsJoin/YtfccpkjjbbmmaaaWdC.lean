/- What limited, escapes and readText of package words return. -/
import Derived.Test.YtfccpkjjbbmmaaaCl3
namespace Go.Proofs.Ytfccpkjjbbmmaaa
open Go.RowKit
set_option linter.unusedVariables false
set_option linter.unusedSimpArgs false

/-- a word, the offset behind it, and the error. -/
def wAt (e : Int) (k : Nat) : Int := if e = 0 then (k : Int) else 0
def wRes (x : Int × Int × List UInt8 × Nat) (k : Nat) : Ending :=
  .returned (.tuple #[.agg #[.int .i64 x.2.1, .string (bs x.2.2.1), .int .i64 (wAt x.1 k)], .int .i64 ((k + x.2.2.2 : Nat) : Int), .int .i64 x.1])
theorem wRes_eq {e kd a b : Int} {S : ByteArray} {x : Int × Int × List UInt8 × Nat} {k : Nat} {q : Int} (h1 : x.1 = e) (h2 : x.2.1 = kd) (h3 : bs x.2.2.1 = S) (h4 : wAt x.1 k = a) (h5 : ((k + x.2.2.2 : Nat) : Int) = b) :
    Ending.returned (.tuple #[.agg #[.int .i64 kd, .string S, .int .i64 a], .int .i64 b, .int .i64 e]) = wRes x k := by
  unfold wRes; rw [h2, h3, h4, h5, h1]
set_option maxHeartbeats 1000000 in
theorem limited_any (s : ByteArray) (k n most : Nat) (kind : Int) (w : World) (hs : s.size ≤ maxLen) (hn : k + n ≤ s.size) (hm : most ≤ 60) (k1 : 0 ≤ kind) (k2 : kind ≤ 9) :
    Calls Try.prog 34 #[.string s, .int .i64 (k : Int), .int .i64 ((k + n : Nat) : Int), .int .i64 kind, .int .i64 (most : Int)] w fun e w' => e = wRes (lim (s.toList.drop k) n most kind) k ∧ Below w.heap.size w w' := by
  have HX := Lib.hid (show s.extract k (k + n) = bs ((s.toList.drop k).take n) by rw [ext_bs s k (k + n) (by omega) hn]; congr 2; omega)
  unfold maxLen at hs
  by_cases h : most < n
  · have h' : (most : Int) < ((k + n : Nat) : Int) - (k : Int) := by omega
    have e : lim (s.toList.drop k) n most kind = (9, 0, [], 0) := if_pos h
    rw [e]
    go_enter Try.func34, Try.ntmps34
    go_wp2
    refine bodyPost_ret (v := .tuple #[.agg #[.int .i64 0, .string (bs []), .int .i64 0], .int .i64 (k : Int), .int .i64 9]) ?_ rfl ⟨rfl, (Below.refl _ _).alloc (Nat.le_refl _) _⟩
    rw [results_cell_tmp2 rfl]
    go_simp
    rfl
  · have h' : ¬ (most : Int) < ((k + n : Nat) : Int) - (k : Int) := by omega
    have e : lim (s.toList.drop k) n most kind = (0, kind, (s.toList.drop k).take n, n) := if_neg h
    rw [e]
    go_enter Try.func34, Try.ntmps34
    go_wp2
    refine bodyPost_ret (v := .tuple #[.agg #[.int .i64 kind, .string (bs ((s.toList.drop k).take n)), .int .i64 (k : Int)], .int .i64 ((k + n : Nat) : Int), .int .i64 0]) ?_ rfl ⟨rfl, (Below.refl _ _).alloc (Nat.le_refl _) _⟩
    rw [results_cell_tmp2 rfl, ← HX.out]
    go_simp
/-- the \ at j precedes a quote or \. -/
def escQ (l : List UInt8) : Bool := match l with
  | [] => false
  | d :: _ => decide ((d.toNat : Int) = 34) || decide ((d.toNat : Int) = 92)
def escA (s : ByteArray) (j : Nat) : Bool := escQ (s.toList.drop (j + 1))
theorem escA_at {s : ByteArray} {j : Nat} (h : j + 1 < s.size) : escA s j = (decide ((s[j + 1].toNat : Int) = 34) || decide ((s[j + 1].toNat : Int) = 92)) := by
  unfold escA; rw [dropB s (j + 1) h]; rfl
theorem escA_end {s : ByteArray} {j : Nat} (h : ¬ j + 1 < s.size) : escA s j = false := by unfold escA; rw [dropE s (j + 1) h]; rfl
theorem escA_lt {s : ByteArray} {j : Nat} (h : escA s j = true) : j + 1 < s.size := by
  rcases Nat.lt_or_ge (j + 1) s.size with x | x
  · exact x
  · rw [escA_end (by omega)] at h; cases h
set_option maxHeartbeats 400000 in
theorem escapes_any (s : ByteArray) (j : Nat) (w : World) (hs : s.size ≤ maxLen) (hj : j < s.size) :
    Calls Try.prog 47 #[.string s, .int .i64 (j : Int)] w fun e w' => e = .returned (.bool (escA s j)) ∧ w = w' := by
  unfold maxLen at hs
  by_cases h : j + 1 < s.size
  · have hi : (j : Int) + 1 < (s.size : Int) := by omega
    have hj2 : ((j : Int) + 1).toNat = j + 1 := by omega
    have HE := Lib.hid (escA_at h)
    go_enter Try.func47, Try.ntmps47
    go_wp2
    all_goals (go_ret; refine ⟨ret_bool ?_, rfl⟩; rw [HE.out]; grind)
  · have hi : ¬ (j : Int) + 1 < (s.size : Int) := by omega
    rw [escA_end h]
    go_enter Try.func47, Try.ntmps47
    go_wp2
    go_ret
    exact ⟨rfl, rfl⟩
end Go.Proofs.Ytfccpkjjbbmmaaa
