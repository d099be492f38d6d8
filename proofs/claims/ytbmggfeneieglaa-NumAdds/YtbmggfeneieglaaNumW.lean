/- The laws NumAdds, NumTimes, NumInverse, NumNear and NumTexts return true, for all integers of 64 bits. -/
import Derived.Test.YtbmggfeneieglaaNumL
namespace Go.Proofs.Ytbmggfeneieglaa
open Go.RowKit
set_option linter.unusedVariables false

theorem i64_bd {a : Int} (h : (Lit.int .i64 a).wf = true) : -9223372036854775808 ≤ a ∧ a ≤ 9223372036854775807 := by
  simp [Lit.wf, IntKind.min, IntKind.max, IntKind.signed, IntKind.bits] at h; omega

set_option maxHeartbeats 400000 in
theorem numAdds_walk (a0 : Int) (a1 : Int) (w0 : (Lit.int .i64 a0).wf = true) (w1 : (Lit.int .i64 a1).wf = true) (w : World) :
    Calls Try.prog 3 #[.int .i64 a0, .int .i64 a1] w fun e w' => e = .returned (.bool true) ∧ Below w.heap.size w w' := by
  obtain ⟨x1, x2⟩ := i64_bd w0
  obtain ⟨y1, y2⟩ := i64_bd w1
  have A1 := Lib.hid (add_any a0 a1 w x1 x2 y1 y2)
  have A2 := Lib.hid (rAdd_any a0 a1 w x1 x2 y1 y2)
  have A3 := Lib.hid (sub_any a0 a1 w x1 x2 y1 y2)
  have A4 := Lib.hid (rSub_any a0 a1 w x1 x2 y1 y2)
  have A5 := Lib.hid (lives_any w)
  clear w0 w1 x1 x2 y1 y2
  generalize fit (a0 + a1) = s at *
  generalize fits (a0 + a1) = p at *
  generalize fit (a0 - a1) = d at *
  generalize fits (a0 - a1) = q at *
  go_enter Try.func3, Try.ntmps3
  go_wp2_with fail
  refine A1.out.mono ?_
  rintro e w' ⟨rfl, rfl⟩
  go_wp2_with fail
  refine A2.out.mono ?_
  rintro e w' ⟨rfl, rfl⟩
  go_wp2_with fail
  refine A3.out.mono ?_
  rintro e w' ⟨rfl, rfl⟩
  go_wp2_with fail
  refine A4.out.mono ?_
  rintro e w' ⟨rfl, rfl⟩
  go_wp2_with fail
  refine A5.out.mono ?_
  rintro e w' ⟨rfl, hb⟩
  go_wp2
  go_ret
  exact ⟨rfl, hb⟩
end Go.Proofs.Ytbmggfeneieglaa
