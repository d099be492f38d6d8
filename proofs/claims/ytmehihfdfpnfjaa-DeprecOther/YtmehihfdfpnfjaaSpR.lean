/- What Same of package accountingref08 and sum of package accountinglaw08 return. -/
import Derived.Test.YtmehihfdfpnfjaaSpQ
namespace Go.Proofs.Ytmehihfdfpnfjaa
open Go.RowKit Go.Sort
set_option linter.unusedVariables false
set_option linter.unusedSimpArgs false

set_option maxRecDepth 100000 in
set_option maxHeartbeats 2000000 in
theorem same_any (A B : Option Addr) (c d : Nat) (zs ys : List Int) (w : World) (hA : Row w A zs) (hB : Row w B ys) (hz : zs.length ≤ 1000) (hy : ys.length ≤ 1000) :
    Calls Try.prog 14 #[.slice A zs.length c, .slice B ys.length d] w fun e w' => e = .returned (.bool (decide (zs = ys))) ∧ Below w.heap.size w w' := by
  have HA := Lib.hid hA
  have HB := Lib.hid hB
  clear hA hB
  by_cases hl : zs.length = ys.length
  · have hl' : ((zs.length : Int) != (ys.length : Int)) = false := by simp; omega
    go_enter Try.func14, Try.ntmps14
    go_wp2
    go_loopw [5] (fun x wr => ∃ k : Nat, k ≤ zs.length ∧ x = .int .i64 k ∧ Hid (zs.take k = ys.take k) ∧ Hid (Below w.heap.size w wr)) (fun x _ => zs.length - (intOf x).toNat)
    case atStart => exact ⟨0, Nat.zero_le _, rfl, Lib.hid (by simp), Lib.hid (Below.refl _ _)⟩
    case round =>
      obtain ⟨k, hk, rfl, HT, HW⟩ := hrel
      by_cases h : k < zs.length
      · have h' : (k : Int) < (zs.length : Int) := by omega
        have hy2 : k < ys.length := by omega
        have hy' : (k : Int) < (ys.length : Int) := by omega
        obtain ⟨b, off, e1, b1, hc⟩ := HA.out.1 (by omega)
        obtain ⟨b2, off2, e2, b3, hc2⟩ := HB.out.1 (by omega)
        subst e1 e2
        have c1 : wr.cell? ⟨b, off + k, none⟩ = some (.int .i64 zs[k]) := by rw [HW.out.cell b1]; exact hc k h
        have c2 : wr.cell? ⟨b2, off2 + k, none⟩ = some (.int .i64 ys[k]) := by rw [HW.out.cell b3]; exact hc2 k hy2
        by_cases he : zs[k] = ys[k]
        · have HT2 := Lib.hid (show zs.take (k + 1) = ys.take (k + 1) by rw [List.take_succ_eq_append_getElem h, List.take_succ_eq_append_getElem hy2, HT.out, he])
          have he' : (zs[k] != ys[k]) = false := by simp [he]
          clear he hc hc2
          generalize zs[k] = p at *
          generalize ys[k] = q at *
          go_wp2_with fail
          go_quiet (fail)
          have HW2 := Lib.hid (below_drewN HW.out nq)
          generalize wr.drewN nq = w2 at *
          go_wp2
          go_roundw
          case rel => exact ⟨k + 1, by omega, by go_num, HT2, HW2⟩
          case measure => simp [intOf]; omega
        · have HN := Lib.hid (show decide (zs = ys) = false from decide_eq_false (fun e => he (by subst e; rfl)))
          have he' : (zs[k] != ys[k]) = true := by simpa using he
          clear he hc hc2
          generalize zs[k] = p at *
          generalize ys[k] = q at *
          go_wp2_with fail
          go_quiet (fail)
          have HW2 := Lib.hid (below_drewN HW.out nq)
          generalize wr.drewN nq = w2 at *
          go_wp2
          go_ret
          exact ⟨ret_bool (by rw [HN.out]), HW2.out⟩
      · have h' : ¬ (k : Int) < (zs.length : Int) := by omega
        have HY := Lib.hid (show decide (zs = ys) = true from decide_eq_true (by have := HT.out; rwa [List.take_of_length_le (by omega), List.take_of_length_le (by omega)] at this))
        go_wp2
        go_ret
        exact ⟨ret_bool (by rw [HY.out]), HW.out⟩
  · have hl' : ((zs.length : Int) != (ys.length : Int)) = true := by simp; omega
    have HN := Lib.hid (show decide (zs = ys) = false from decide_eq_false (fun e => hl (by rw [e])))
    go_enter Try.func14, Try.ntmps14
    go_wp2
    go_ret
    exact ⟨ret_bool (by rw [HN.out]), Below.refl _ _⟩
end Go.Proofs.Ytmehihfdfpnfjaa
