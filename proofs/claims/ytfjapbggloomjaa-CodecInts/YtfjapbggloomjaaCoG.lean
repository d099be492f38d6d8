/- The statements CodecTakesInt and CodecTakesText of package accountinglaw13. -/
import Derived.Test.YtfjapbggloomjaaCoF
import Derived.Deep.RegionWith
namespace Go.Proofs.Ytfjapbggloomjaa
open Go.RowKit Go.Sort
set_option linter.unusedVariables false
set_option linter.unusedSimpArgs false

theorem i64_bd {a : Int} (h : (Lit.int .i64 a).wf = true) : -9223372036854775808 ≤ a ∧ a ≤ 9223372036854775807 := by
  simp [Lit.wf, IntKind.min, IntKind.max, IntKind.signed, IntKind.bits] at h; omega
theorem own_nil {w : World} {base : Nat} {ao : Option Addr} {n c : Nat} {l : List UInt8} (h : OwnB w base (.slice ao n c) l) : ao = none → c = 0 := OwnV.nilcap h
set_option maxRecDepth 100000 in
set_option maxHeartbeats 4000000 in
theorem codecTakesInt_walk (a : Option Addr) (len cap : Nat) (l : List UInt8) (w : World) (w0 : IsB w a len cap l) :
    Calls Try.prog 4 #[.slice a len cap] w fun e w' => e = .returned (.bool true) ∧ Below w.heap.size w w' := by
  obtain rfl := w0.hlen
  have H1 := Lib.hid (takeInt_any a cap l w w0.hrow w0.hmax)
  have H2 := Lib.hid (rTakeInt_any a cap l w w0.hrow w0.hmax)
  clear w0
  generalize (tkV l 0 0).1 = x1 at *
  generalize (tkV l 0 0).2.1 = x2 at *
  generalize (tkV l 0 0).2.2 = x3 at *
  go_enter Try.func4, Try.ntmps4
  go_wp2_with fail
  refine H1.out.mono ?_
  rintro e w_ ⟨rfl, rfl⟩
  go_wp2_with fail
  refine H2.out.mono ?_
  rintro e w_ ⟨rfl, rfl⟩
  go_wp2_with fail
  refine (live_end (Below.refl _ _)).mono ?_
  rintro e W1 ⟨rfl, hb⟩
  go_wp2
  go_ret
  exact ⟨rfl, hb⟩
set_option maxRecDepth 100000 in
set_option maxHeartbeats 4000000 in
theorem codecTakesText_walk (a : Option Addr) (len cap : Nat) (l : List UInt8) (w : World) (w0 : IsB w a len cap l) :
    Calls Try.prog 6 #[.slice a len cap] w fun e w' => e = .returned (.bool true) ∧ Below w.heap.size w w' := by
  obtain rfl := w0.hlen
  have H1 := Lib.hid (takeText_any a cap l w w0.hrow w0.hcap.1 w0.hcap.2)
  have H2 := Lib.hid (rTakeText_any a cap l w w0.hrow w0.hcap.1 w0.hcap.2)
  clear w0
  generalize bs (ttV l).1 = x1 at *
  generalize (ttV l).2.1 = x2 at *
  generalize (ttV l).2.2 = x3 at *
  go_enter Try.func6, Try.ntmps6
  go_wp2_with fail
  refine H1.out.mono ?_
  rintro e w_ ⟨rfl, rfl⟩
  go_wp2_with fail
  refine H2.out.mono ?_
  rintro e w_ ⟨rfl, rfl⟩
  go_wp2_with fail
  refine (live_end (Below.refl _ _)).mono ?_
  rintro e W1 ⟨rfl, hb⟩
  go_wp2
  go_ret
  exact ⟨rfl, hb⟩
end Go.Proofs.Ytfjapbggloomjaa
