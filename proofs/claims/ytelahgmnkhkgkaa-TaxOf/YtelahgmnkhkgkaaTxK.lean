/- What SameInts and Same of package accountingref25 and rates and lives of package accountinglaw25 return. Written by wip/mk_txk.py. -/
import Derived.Test.YtelahgmnkhkgkaaTxJ
namespace Go.Proofs.Ytelahgmnkhkgkaa
open Go.RowKit Go.Sort
set_option linter.unusedVariables false
set_option linter.unusedSimpArgs false

set_option maxRecDepth 100000 in
set_option maxHeartbeats 2000000 in
theorem sameI_any (A B : Option Addr) (c d : Nat) (l : List Int) (w : World) (hA : RowV w A (l.map inV1)) (hB : RowV w B (l.map inV1)) (hn : l.length ≤ 1000) :
    Calls Try.prog 20 #[.slice A l.length c, .slice B l.length d] w fun e w' => e = .returned (.bool true) ∧ Below w.heap.size w w' := by
  have HA := Lib.hid hA
  have HBr := Lib.hid hB
  clear hA hB
  go_enter Try.func20, Try.ntmps20
  go_wp2
  go_loopw [5] (fun x wr => ∃ k : Nat, k ≤ l.length ∧ x = .int .i64 k ∧ Hid (Below w.heap.size w wr)) (fun x _ => l.length - (intOf x).toNat)
  case atStart => exact ⟨0, Nat.zero_le _, rfl, Lib.hid (Below.refl _ _)⟩
  case round =>
    obtain ⟨k, hk, rfl, HW⟩ := hrel
    by_cases h : k < l.length
    · have h' : (k : Int) < (l.length : Int) := by omega
      obtain ⟨b, off, e1, b1, hc⟩ := (HA.out.below HW.out) k (inV1 l[k]) (by simp [h])
      obtain ⟨b2, off2, e2, b3, hc2⟩ := (HBr.out.below HW.out) k (inV1 l[k]) (by simp [h])
      subst e1 e2
      unfold inV1 at hc hc2
      generalize l[k] = x at *
      go_wp2_with fail
      go_quiet (fail)
      have HW2 := Lib.hid (below_drewN HW.out nq)
      generalize wr.drewN nq = w2 at *
      go_wp2
      go_roundw
      case rel => exact ⟨k + 1, by omega, by go_num, HW2⟩
      case measure => simp [intOf]; omega
    · have h' : ¬ (k : Int) < (l.length : Int) := by omega
      go_wp2
      go_ret
      exact ⟨rfl, HW.out⟩
set_option maxRecDepth 100000 in
set_option maxHeartbeats 2000000 in
theorem sameS_any (A B : Option Addr) (c d : Nat) (L : List Sm) (w : World) (hA : RowS w A L) (hB : RowS w B L) (hn : L.length ≤ 1000) :
    Calls Try.prog 21 #[.slice A L.length c, .slice B L.length d] w fun e w' => e = .returned (.bool true) ∧ Below w.heap.size w w' := by
  have HA := Lib.hid hA
  have HBr := Lib.hid hB
  clear hA hB
  go_enter Try.func21, Try.ntmps21
  go_wp2
  go_loopw [5] (fun x wr => ∃ k : Nat, k ≤ L.length ∧ x = .int .i64 k ∧ Hid (Below w.heap.size w wr)) (fun x _ => L.length - (intOf x).toNat)
  case atStart => exact ⟨0, Nat.zero_le _, rfl, Lib.hid (Below.refl _ _)⟩
  case round =>
    obtain ⟨k, hk, rfl, HW⟩ := hrel
    by_cases h : k < L.length
    · have h' : (k : Int) < (L.length : Int) := by omega
      obtain ⟨b, off, e1, b1, hc⟩ := (HA.out.below HW.out) (by omega)
      obtain ⟨b2, off2, e2, b3, hc2⟩ := (HBr.out.below HW.out) (by omega)
      subst e1 e2
      obtain ⟨c0, c1, c2⟩ := hc k h
      obtain ⟨d0, d1, d2⟩ := hc2 k h
      clear hc hc2
      generalize L[k].1 = S at *
      generalize L[k].2.1 = x at *
      generalize L[k].2.2 = y at *
      go_wp2_with fail
      go_quiet (fail)
      have HW2 := Lib.hid (below_drewN HW.out nq)
      generalize wr.drewN nq = w2 at *
      go_wp2
      go_roundw
      case rel => exact ⟨k + 1, by omega, by go_num, HW2⟩
      case measure => simp [intOf]; omega
    · have h' : ¬ (k : Int) < (L.length : Int) := by omega
      go_wp2
      go_ret
      exact ⟨rfl, HW.out⟩
def bLow : ByteArray := ⟨#[108, 111, 119]⟩
def bStd : ByteArray := ⟨#[115, 116, 100]⟩
def b22 : ByteArray := ⟨#[50, 50]⟩
def rtL : List Cd := [(bLow, b22, 7, 100), (bStd, b22, 19, 100)]
set_option maxRecDepth 100000 in
theorem rates_any (w : World) : Calls Try.prog 26 #[] w fun e w' => ∃ A c, e = .returned (.slice A rtL.length c) ∧ RowC w' A rtL ∧ Below w.heap.size w w' := by
  go_enter Try.func26, Try.ntmps26
  go_wp2
  go_ret
  refine ⟨_, _, rfl, fun _ => ⟨w.heap.size, 0, rfl, by simp, fun i hi => ?_⟩, (Below.refl _ _).alloc (Nat.le_refl _) _⟩
  have hi : i < 2 := hi
  match i, hi with
  | 0, _ => exact ⟨by rw [World.cell?_alloc_at _ _ _ _ rfl]; rfl, by rw [World.cell?_alloc_at _ _ _ _ rfl]; rfl, by rw [World.cell?_alloc_at _ _ _ _ rfl]; rfl, by rw [World.cell?_alloc_at _ _ _ _ rfl]; rfl⟩
  | 1, _ => exact ⟨by rw [World.cell?_alloc_at _ _ _ _ rfl]; rfl, by rw [World.cell?_alloc_at _ _ _ _ rfl]; rfl, by rw [World.cell?_alloc_at _ _ _ _ rfl]; rfl, by rw [World.cell?_alloc_at _ _ _ _ rfl]; rfl⟩
theorem rtL_bd : BdC rtL := by
  intro c hc
  unfold rtL at hc
  simp at hc
  rcases hc with rfl | rfl <;> (refine ⟨⟨?_, ?_⟩, ⟨?_, ?_⟩, ⟨?_, ?_⟩⟩ <;> first | decide | (show (_ : Nat) ≤ _; decide))
def lnL : List Ln := [(103, bStd), (50, ⟨#[]⟩), (103, bStd)]
theorem lnL_bd : BdL lnL := by
  intro c hc
  unfold lnL at hc
  simp at hc
  rcases hc with rfl | rfl | rfl <;> (refine ⟨⟨?_, ?_⟩, ?_⟩ <;> first | decide | (show (_ : Nat) ≤ _; decide))
theorem ex1 : errO rtL lnL 1 3 = 0 := by decide +kernel
theorem ex2 : ofN rtL lnL 1 3 = [103, 50, 103] := by decide +kernel
theorem ex3 : ofS rtL lnL 1 3 = [(bStd, 206, 40)] := by decide +kernel
theorem ex4 : errO rtL lnL 2 3 = 0 := by decide +kernel
theorem ex5 : ofS rtL lnL 2 3 = [(bStd, 206, 39)] := by decide +kernel
theorem ex6 : onV 250 19 100 3 = (48, 0) := by decide +kernel
theorem ex7 : inV 119 19 100 3 = (100, 19, 0) := by decide +kernel
end Go.Proofs.Ytelahgmnkhkgkaa
