/- What find, check and one of package accountingref25 return. Written by wip/mk_txt.py. -/
import Derived.Test.YtelahgmnkhkgkaaTxS
namespace Go.Proofs.Ytelahgmnkhkgkaa
open Go.RowKit Go.Sort
set_option linter.unusedVariables false
set_option linter.unusedSimpArgs false

def fdV (C : List Cd) (nm : ByteArray) : Int := if atC C nm = true then (lowC C nm : Int) else -1
set_option maxRecDepth 100000 in
set_option maxHeartbeats 2000000 in
theorem rfind_any (A : Option Addr) (c : Nat) (C : List Cd) (nm : ByteArray) (w : World) (hR : RowC w A C) (hn : C.length ≤ 200) (hS : SrtC C) :
    Calls Try.prog 64 #[.slice A C.length c, .string nm] w fun e w' => e = .returned (.int .i64 (fdV C nm)) ∧ Below w.heap.size w w' := by
  have HR := Lib.hid hR
  have HS := Lib.hid hS
  clear hR hS
  go_enter Try.func64, Try.ntmps64
  go_wp2
  go_loopw [5] (fun x wr => ∃ k : Nat, k ≤ C.length ∧ x = .int .i64 k ∧ Hid (∀ i, i < k → (h : i < C.length) → C[i].1.toList ≠ nm.toList) ∧ Hid (Below w.heap.size w wr)) (fun x _ => C.length - (intOf x).toNat)
  case atStart => exact ⟨0, Nat.zero_le _, rfl, Lib.hid (fun i hi => by omega), Lib.hid (Below.refl _ _)⟩
  case round =>
    obtain ⟨k, hk, rfl, HK, HB⟩ := hrel
    by_cases h : k < C.length
    · have h' : (k : Int) < (C.length : Int) := by omega
      obtain ⟨b, off, rfl, hl, hcl⟩ := (HR.out.below HB.out) (by omega)
      obtain ⟨c0, _⟩ := hcl k h
      have HY := Lib.hid (show (C[k].1.toList == nm.toList) = true → fdV C nm = (k : Int) from fun q => by
        obtain ⟨g1, g2⟩ := at_of HS.out h (nm := nm) (ba_ext' (by simpa using q))
        unfold fdV
        rw [if_pos g2, g1])
      have HN := Lib.hid (show (C[k].1.toList == nm.toList) = false → ∀ i, i < k + 1 → (h : i < C.length) → C[i].1.toList ≠ nm.toList from fun q i hi hl => by
        by_cases e : i = k
        · subst e; simpa using q
        · exact HK.out i (by omega) hl)
      clear hcl
      generalize C[k].1 = S at *
      cases q : (S.toList == nm.toList)
      · have HN2 := Lib.hid (HN.out q)
        clear HN HY HK
        go_wp2
        go_roundw
        case rel => exact ⟨k + 1, by omega, by go_num, HN2, HB⟩
        case measure => simp [intOf]; omega
      · have HY2 := Lib.hid (HY.out q)
        clear HN HY HK
        go_wp2
        go_ret
        exact ⟨ret_int (by rw [HY2.out]), HB.out⟩
    · have h' : ¬ (k : Int) < (C.length : Int) := by omega
      have HY := Lib.hid (show fdV C nm = -1 by
        unfold fdV
        rw [if_neg]
        intro q
        obtain ⟨hi, e⟩ := at_is q
        exact HK.out _ (by omega) hi (by rw [e]))
      go_wp2
      go_ret
      exact ⟨ret_int (by rw [HY.out]), HB.out⟩
end Go.Proofs.Ytelahgmnkhkgkaa
