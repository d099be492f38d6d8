/- A value of the struct of a calendar and three periods, opened. No conditions. -/
import Derived.Test.YtaibjmdfkahjjaaDoorSpec
import Derived.Test.YtaibjmdfkahjjaaDoorRows
import Derived.Lib.SmallJoins
namespace Go.Proofs.YtaibjmdfkahjjaaDoor
open Go.ChangeShapes Go.WideShapes Go.RowKit Go.Deep Go.WideElems Go.Maps Go.Joins
variable {H : Type} {enc : TypeId × Value → H} {w : World} {base : Nat} {spare : Nat → Bool} {held : Bool}

theorem cellsThree : Tryd.prog.cellsOf 57 = 7 := by kernel_rfl
theorem cellsCal : Tryd.prog.cellsOf 23 = 1 := by kernel_rfl
theorem cellsPer : Tryd.prog.cellsOf 25 = 2 := by kernel_rfl
theorem cellsInt : Tryd.prog.cellsOf 3 = 1 := by kernel_rfl
theorem calInt {n : Nat} {c : Value} {y : DataW H × List MemPlace} (h : DataW.trod enc Tryd.prog w base spare held n 23 [c] = some y) : ∃ a : Int, c = .int .i64 a ∧ (Lit.int .i64 a).wf = true := by
  obtain ⟨xs, m, _, _, _, hlen, g⟩ := DataW.trod_struct Tryd.underlying23 h
  have g0 := g 0 _ rfl
  match xs, hlen with
  | [z], _ =>
    obtain ⟨a, e, _, wf⟩ := DataW.trod_int Tryd.underlying3 g0
    have e2 : List.take (Tryd.prog.cellsOf 3) [c] = [Value.int .i64 a] := e
    rw [cellsInt] at e2
    simp at e2
    exact ⟨a, e2, wf⟩
theorem perInts {n : Nat} {c d : Value} {y : DataW H × List MemPlace} (h : DataW.trod enc Tryd.prog w base spare held n 25 [c, d] = some y) : ∃ a b : Int, c = .int .i64 a ∧ d = .int .i64 b ∧ (Lit.int .i64 a).wf = true ∧ (Lit.int .i64 b).wf = true := by
  obtain ⟨xs, m, _, _, _, hlen, g⟩ := DataW.trod_struct Tryd.underlying25 h
  have g0 := g 0 _ rfl
  have g1 := g 1 _ rfl
  match xs, hlen with
  | [z0, z1], _ =>
    obtain ⟨a, e, _, wa⟩ := DataW.trod_int Tryd.underlying3 g0
    obtain ⟨b, e', _, wb⟩ := DataW.trod_int Tryd.underlying3 g1
    have e2 : List.take (Tryd.prog.cellsOf 3) [c, d] = [Value.int .i64 a] := e
    have e3 : List.take (Tryd.prog.cellsOf 3) [d] = [Value.int .i64 b] := e'
    rw [cellsInt] at e2 e3
    simp at e2 e3
    exact ⟨a, b, e2, e3, wa, wb⟩
theorem open_three {r : Reach} {b0 : Nat} {v : Value} {d : DataW H} {p : List MemPlace} (hv : Value.okWide Tryd.prog w r b0 57 v) (h : DataW.Trod enc Tryd.prog w base spare held 57 v d p) :
    ∃ a0 a1 a2 a3 a4 a5 a6 : Int, v = .agg #[.int .i64 a0, .int .i64 a1, .int .i64 a2, .int .i64 a3, .int .i64 a4, .int .i64 a5, .int .i64 a6] ∧ (Lit.int .i64 a0).wf = true ∧ (Lit.int .i64 a1).wf = true ∧ (Lit.int .i64 a2).wf = true ∧ (Lit.int .i64 a3).wf = true ∧ (Lit.int .i64 a4).wf = true ∧ (Lit.int .i64 a5).wf = true ∧ (Lit.int .i64 a6).wf = true := by
  obtain ⟨cs, rfl, hsz⟩ := okWide_struct Tryd.underlying57 hv
  have hz := hsz.trans cellsThree
  obtain ⟨l⟩ := cs
  match l, hz with
  | [c0, c1, c2, c3, c4, c5, c6], _ =>
    obtain ⟨fuel, hf⟩ := h
    obtain ⟨y0, y1, y2, y3, n, _, _, h0, h1, h2, h3⟩ := trod_struct4 Tryd.underlying57 hf
    have g0 : DataW.trod enc Tryd.prog w base spare held n 23 (List.take (Tryd.prog.cellsOf 23) [c0, c1, c2, c3, c4, c5, c6]) = some y0 := h0
    have g1 : DataW.trod enc Tryd.prog w base spare held n 25 (List.take (Tryd.prog.cellsOf 25) [c1, c2, c3, c4, c5, c6]) = some y1 := h1
    have g2 : DataW.trod enc Tryd.prog w base spare held n 25 (List.take (Tryd.prog.cellsOf 25) [c3, c4, c5, c6]) = some y2 := h2
    have g3 : DataW.trod enc Tryd.prog w base spare held n 25 (List.take (Tryd.prog.cellsOf 25) [c5, c6]) = some y3 := h3
    rw [cellsCal] at g0
    rw [cellsPer] at g1 g2 g3
    obtain ⟨a0, rfl, w0⟩ := calInt g0
    obtain ⟨a1, a2, rfl, rfl, w1, w2⟩ := perInts g1
    obtain ⟨a3, a4, rfl, rfl, w3, w4⟩ := perInts g2
    obtain ⟨a5, a6, rfl, rfl, w5, w6⟩ := perInts g3
    exact ⟨a0, a1, a2, a3, a4, a5, a6, rfl, w0, w1, w2, w3, w4, w5, w6⟩
end Go.Proofs.YtaibjmdfkahjjaaDoor
