/- What quotientOf, reduce and Parse of package frac return for 0.25 and -0. -/
import Derived.Test.YtlndomnampcnfaaFrJ
import Derived.Test.YtlndomnampcnfaaNumP
import Derived.Test.YtlndomnampcnfaaShelf
namespace Go.Proofs.Ytlndomnampcnfaa
open Go.RowKit Go.Sort
set_option linter.unusedVariables false
set_option linter.unusedSimpArgs false

theorem results_tmp3 {fn : Func} {a b c : Tmp} (h : fn.results = #[.tmp a, .tmp b, .tmp c]) (tmps : Array Value) (P : Program) (w : World) :
    (results fn tmps).run P w = .ok (.tuple #[tmps.getD a undef, tmps.getD b undef, tmps.getD c undef]) w := by
  simp only [results, h]
  simp [Sem.run_bind, Result.andThen]
theorem repeat_two (w : World) : Calls Try.prog 33 #[.string ⟨#[48]⟩, .int .i64 2] w fun e w' => e = .returned (.string ⟨#[48, 48]⟩) ∧ Below w.heap.size w w' := by
  have q := Try.strings_Repeat ⟨#[48]⟩ 2 w (by omega) (by decide)
  have e : (⟨(Lib.repeatL (⟨#[48]⟩ : ByteArray).data.toList 2).toArray⟩ : ByteArray) = ⟨#[48, 48]⟩ := by decide +kernel
  rw [e] at q
  exact q
set_option maxHeartbeats 4000000 in
theorem quotient_a (w : World) : Calls Try.prog 15 #[.string ⟨#[48, 46, 50, 53]⟩] w fun e w' => e = .returned (.tuple #[.string ⟨#[48, 50, 53]⟩, .string ⟨#[49, 48, 48]⟩, .bool true]) ∧ Below w.heap.size w w' := by
  have HA := Lib.hid lead_a
  have HL := Lib.hid lead_b
  have HR := Lib.hid repeat_two
  have e1 : (⟨#[46, 50, 53]⟩ : ByteArray).extract 1 3 = ⟨#[50, 53]⟩ := by decide +kernel
  have e2 : (⟨#[48]⟩ : ByteArray) ++ ⟨#[50, 53]⟩ = ⟨#[48, 50, 53]⟩ := by decide +kernel
  have e3 : (⟨#[49]⟩ : ByteArray) ++ ⟨#[48, 48]⟩ = ⟨#[49, 48, 48]⟩ := by decide +kernel
  go_enter Try.func15, Try.ntmps15
  go_wp2_with fail
  refine (HA.out _).mono ?_
  rintro e w1 ⟨rfl, hb1⟩
  have HB1 := Lib.hid hb1
  clear hb1
  go_wp2_with fail
  refine (HL.out _).mono ?_
  rintro e w2 ⟨rfl, hb2⟩
  have HB2 := Lib.hid (HB1.out.trans (hb2.mono HB1.out.size))
  clear hb2 HB1
  go_wp2_with fail
  refine (HR.out _).mono ?_
  rintro e w3 ⟨rfl, hb3⟩
  have HB3 := Lib.hid (HB2.out.trans (hb3.mono HB2.out.size))
  clear hb3 HB2
  go_wp2
  refine bodyPost_ret (v := .tuple #[.string ⟨#[48, 50, 53]⟩, .string ⟨#[49, 48, 48]⟩, .bool true]) ?_ rfl ⟨rfl, HB3.out⟩
  rw [results_tmp3 rfl]
  rfl
set_option maxHeartbeats 4000000 in
theorem quotient_b (w : World) : Calls Try.prog 15 #[.string ⟨#[48]⟩] w fun e w' => e = .returned (.tuple #[.string ⟨#[48]⟩, .string ⟨#[49]⟩, .bool true]) ∧ Below w.heap.size w w' := by
  have HA := Lib.hid lead_c
  go_enter Try.func15, Try.ntmps15
  go_wp2_with fail
  refine (HA.out _).mono ?_
  rintro e w1 ⟨rfl, hb1⟩
  have HB1 := Lib.hid hb1
  clear hb1
  go_wp2
  refine bodyPost_ret (v := .tuple #[.string ⟨#[48]⟩, .string ⟨#[49]⟩, .bool true]) ?_ rfl ⟨rfl, HB1.out⟩
  rw [results_tmp3 rfl]
  rfl
end Go.Proofs.Ytlndomnampcnfaa
