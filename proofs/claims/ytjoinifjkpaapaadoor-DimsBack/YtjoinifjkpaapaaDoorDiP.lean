/- The iterator of strings.SplitSeq at one byte; a range over an iterator that has variables of its own. -/
import Derived.RangeFuncNested
import Derived.RangeFuncBound
import Derived.RangeFuncCalls
import Derived.RangeFuncLeaves
import Derived.Shelf.Abstract
import Derived.Shelf.RegionOpen
import Derived.WalkKit
import Derived.OwnWalkIn
import Derived.TacticsInMore
import Derived.LoopNIn
import Derived.LoopIn
import Derived.Test.YtjoinifjkpaapaaDoorDiO
namespace Go.Proofs.YtjoinifjkpaapaaDoor
open Go.RowKit Go.Sort
set_option linter.unusedVariables false
set_option linter.unusedSimpArgs false
attribute [local go_sem] Oper.semAt_some

/-- the iterator's three variables: what is still to come, the separator, 0. -/
structure SpC (b : Nat) (s : ByteArray) (c : UInt8) (W : World) : Prop where
  c0 : W.cell? ⟨b, 0, none⟩ = some (.string s)
  f0 : W.frozen? ⟨b, 0, none⟩ = false
  c1 : W.cell? ⟨b + 1, 0, none⟩ = some (.string ⟨#[c]⟩)
  c2 : W.cell? ⟨b + 2, 0, none⟩ = some (.int .i64 0)
def Kp3 (b : Nat) (A B : World) : Prop := ∀ i, i < 3 → B.cell? ⟨b + i, 0, none⟩ = A.cell? ⟨b + i, 0, none⟩ ∧ B.frozen? ⟨b + i, 0, none⟩ = A.frozen? ⟨b + i, 0, none⟩
theorem SpC.keep {b : Nat} {s : ByteArray} {c : UInt8} {A B : World} (h : SpC b s c A) (k : Kp3 b A B) : SpC b s c B :=
  ⟨by rw [show (⟨b, 0, none⟩ : Addr) = ⟨b + 0, 0, none⟩ from rfl, (k 0 (by omega)).1]; exact h.c0, by rw [show (⟨b, 0, none⟩ : Addr) = ⟨b + 0, 0, none⟩ from rfl, (k 0 (by omega)).2]; exact h.f0, by rw [(k 1 (by omega)).1]; exact h.c1, by rw [(k 2 (by omega)).1]; exact h.c2⟩
theorem SpC.set {b : Nat} {s : ByteArray} {c : UInt8} {A : World} (h : SpC b s c A) (t : ByteArray) : SpC b t c (A.setCell ⟨b, 0, none⟩ (.string t)) :=
  ⟨World.cell?_setCell_same' _ _ _ (by rw [h.c0]; rfl), by rw [World.frozen?_setCell]; exact h.f0, by rw [World.cell?_setCell_other _ _ _ _ (by simp)]; exact h.c1, by rw [World.cell?_setCell_other _ _ _ _ (by simp)]; exact h.c2⟩
def strAt (b : Nat) (W : World) : Nat := match W.cell? ⟨b, 0, none⟩ with
  | some (.string s) => s.size
  | _ => 0
theorem SpC.str {b : Nat} {s : ByteArray} {c : UInt8} {W : World} (h : SpC b s c W) : strAt b W = s.size := by unfold strAt; rw [h.c0]
set_option maxRecDepth 100000 in
set_option maxHeartbeats 2000000 in
theorem seq2_in (l b : Nat) (c : UInt8) (s : ByteArray) (hs : s.size ≤ maxLen) (J Jx : List (List UInt8) → World → Prop)
    (hJ : ∀ pre W v, J pre W → J pre (W.setCell ⟨b, 0, none⟩ v))
    (hY : ∀ pre x W, J pre W → (pre ++ [x]) <+: splA c s.toList → YieldAt Fence.wide 0 Tryd.prog l #[.string (bs x)] W fun e W' => (e = .returned (.bool true) ∧ J (pre ++ [x]) W' ∧ Kp3 b W W') ∨ (e = .returned (.bool false) ∧ Jx (pre ++ [x]) W'))
    (W : World) (hc : SpC b s c W) (h0 : J [] W) :
    CallsIn Fence.wide 0 Tryd.prog 49 #[.func (.yield l) #[] #[], .pointer (some ⟨b + 1, 0, none⟩), .pointer (some ⟨b, 0, none⟩), .pointer (some ⟨b + 2, 0, none⟩)] W fun e W' => (∃ v, e = .returned v) ∧ (J (splA c s.toList) W' ∨ ∃ pre, Jx pre W') := by
  unfold maxLen at hs
  have HY := Lib.hid hY
  have HJ := Lib.hid hJ
  obtain ⟨T, hT⟩ : ∃ T, splA c s.toList = T := ⟨_, rfl⟩
  rw [hT] at HY ⊢
  have HT := Lib.hid hT.symm
  have hx0 := hc.c0
  have hx1 := hc.c1
  have HC := Lib.hid hc
  clear hT hY hJ hc
  refine callsIn_of_wp Tryd.func49 rfl trivial ?_ rfl
  simp only [Tryd.ntmps49, List.size_toArray, List.length_cons, List.length_nil, Nat.reduceAdd, Nat.reduceSub, Array.replicate_succ, Array.replicate_zero, List.push_toArray, List.append_toArray, List.nil_append, List.cons_append]
  gi_wp2
  gi_loopw [7] (fun _ wr => ∃ (pre : List (List UInt8)) (S : ByteArray), Hid (SpC b S c wr) ∧ Hid (T = pre ++ splA c S.toList) ∧ S.size ≤ s.size ∧ Hid (J pre wr)) (fun _ wr => strAt b wr)
  case atStart => exact ⟨[], s, HC, HT, Nat.le_refl _, Lib.hid h0⟩
  case round =>
    clear HC HT hx0 hx1
    obtain ⟨pre, S, HC, HT, hS, HJ0⟩ := hrel
    have d0 := HC.out.c0
    have d1 := HC.out.c1
    have d2 := HC.out.c2
    have HM := Lib.hid (HC.out.str)
    have HL := Lib.hid (bytes_len S)
    have H1 := Lib.hid (fun W => Tryd.strings_Index_one S c W)
    rw [show S.data.toList = S.toList from (ByteArray.toList_eq S).symm, ixb, bytes_len] at H1
    rw [spl_cut] at HT
    by_cases h : cutI S.toList c < S.size
    · rw [if_pos (by rw [HL.out]; exact h)] at HT
      rw [if_pos h] at H1
      obtain ⟨j, hj⟩ : ∃ j, cutI S.toList c = j := ⟨_, rfl⟩
      rw [hj] at H1 h HT
      clear hj
      have HA := Lib.hid (show bs (S.toList.take j) = S.extract 0 j by rw [exB_bs S 0 j (by omega) (by omega), List.drop_zero, Nat.sub_zero])
      have HD := Lib.hid (show bs (S.toList.drop (j + 1)) = S.extract (j + 1) S.size by rw [exB_bs S (j + 1) S.size (by omega) (Nat.le_refl _), List.take_of_length_le (by rw [List.length_drop, HL.out]; omega)])
      have HDs := Lib.hid (show (S.extract (j + 1) S.size).size < S.size by rw [ByteArray.size_extract]; omega)
      have hj0 : (0 : Int) ≤ (j : Int) := by omega
      have hj1 : ((j : Int) + 1) ≤ (S.size : Int) := by omega
      have hj2 : (j : Int) ≤ (S.size : Int) := by omega
      have hY1 := HY.out pre (S.toList.take j) wr HJ0.out (by rw [HT.out]; exact ⟨splA c (S.toList.drop (j + 1)), by simp⟩)
      rw [HA.out] at hY1
      obtain ⟨fn, tmps, assign, body, hy, hR⟩ := hY1
      gi_wp2
      refine ⟨trivial, rfl, (callsIn_wide.2 (H1.out _)).mono ?_⟩
      rintro e w2 ⟨rfl, rfl⟩
      gi_wp2
      refine ⟨rfl, hR.mono ?_⟩
      rintro e W3 (⟨rfl, hJ3, hk3⟩ | ⟨rfl, hJx3⟩)
      · have HC3 := Lib.hid (HC.out.keep hk3)
        have e0 := HC3.out.c0
        have e1 := HC3.out.c1
        have f0 := HC3.out.f0
        have HC4 := Lib.hid (HC3.out.set (S.extract (j + 1) S.size))
        have HJ4 := Lib.hid (HJ.out _ _ (.string (S.extract (j + 1) S.size)) hJ3)
        clear hk3 hJ3 d0 d1 d2
        gi_wp2
        go_roundw
        case rel => exact ⟨pre ++ [S.toList.take j], S.extract (j + 1) S.size, HC4, Lib.hid (by rw [HT.out, ← HD.out, bs_list]; simp), by have := HDs.out; omega, HJ4⟩
        case measure => rw [HC4.out.str, HM.out]; exact HDs.out
      · gi_wp2
        refine bodyPost_ret (results_none rfl _ _ _) rfl ?_
        exact ⟨⟨_, rfl⟩, .inr ⟨_, hJx3⟩⟩
    · rw [if_neg (by rw [HL.out]; exact h)] at HT
      rw [if_neg h] at H1
      have HI := Lib.hid (show S.toList.take (cutI S.toList c) = S.toList by rw [List.take_of_length_le (by rw [HL.out]; omega)])
      rw [HI.out] at HT
      clear h
      have hY1 := HY.out pre S.toList wr HJ0.out (by rw [HT.out]; exact ⟨[], by simp⟩)
      rw [bs_of] at hY1
      obtain ⟨fn, tmps, assign, body, hy, hR⟩ := hY1
      gi_wp2
      refine ⟨trivial, rfl, (callsIn_wide.2 (H1.out _)).mono ?_⟩
      rintro e w2 ⟨rfl, rfl⟩
      gi_wp2
      refine ⟨rfl, hR.mono ?_⟩
      rintro e W3 (⟨rfl, hJ3, hk3⟩ | ⟨rfl, hJx3⟩)
      · gi_wp2
        go_end0
        exact ⟨⟨_, rfl⟩, .inl (by rw [HT.out]; exact hJ3)⟩
      · gi_wp2
        go_end0
        exact ⟨⟨_, rfl⟩, .inr ⟨_, hJx3⟩⟩
end Go.Proofs.YtjoinifjkpaapaaDoor
