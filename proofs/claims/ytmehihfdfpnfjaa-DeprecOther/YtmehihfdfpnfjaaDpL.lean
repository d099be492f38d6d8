/- A plan that came in. Written by wip/mk_dpl.py. -/
import Derived.Test.YtmehihfdfpnfjaaDpK
import Derived.OpenShut
import Derived.ChangeOld
import Derived.Lib.SmallJoins
namespace Go.Proofs.Ytmehihfdfpnfjaa
open Go.RowKit Go.Sort
open Go.ChangeShapes Go.WideShapes Go.Deep
set_option linter.unusedVariables false
set_option linter.unusedSimpArgs false

/-- a slice of integers that came in (as the frame of a law's proof says it). -/
def IsRow (k : IntKind) (w : World) (a : Option Addr) (len cap : Nat) (zs : List Int) : Prop :=
  (a = none ∧ len = 0 ∧ cap = 0 ∧ zs = []) ∨
  ∃ x, a = some x ∧ len ≤ cap ∧ cap ≤ maxLen ∧ zs.length = cap ∧ (∀ i, i < zs.length → w.cell? (x.add i) = some (.int k (zs.getD i 0))) ∧ ∀ n ∈ zs, (Lit.int k n).wf = true
theorem i64_bd' {a : Int} (h : (Lit.int .i64 a).wf = true) : -9223372036854775808 ≤ a ∧ a ≤ 9223372036854775807 := by
  simp [Lit.wf, IntKind.min, IntKind.max, IntKind.signed, IntKind.bits] at h; omega
theorem lt_of_cell {w : World} {p : Addr} {v : Value} (h : w.cell? p = some v) : p.block < w.heap.size := by
  rcases Nat.lt_or_ge p.block w.heap.size with hl | hl
  · exact hl
  · simp [World.cell?, Array.getElem?_eq_none hl] at h
theorem row_of {w : World} {a : Option Addr} {len cap : Nat} {zs : List Int} (h : IsRow .i64 w a len cap zs) : ∃ ys : List Int, ys.length = len ∧ Row w a ys ∧ (a = none → cap = 0) ∧ len ≤ 9223372036854775807 := by
  rcases h with ⟨rfl, rfl, rfl, rfl⟩ | ⟨x, rfl, hl, hm, hz, hc, hw⟩
  · exact ⟨[], rfl, ⟨fun h => absurd h (by simp), by simp⟩, fun _ => rfl, by omega⟩
  · refine ⟨zs.take len, by simp; omega, ⟨fun h => ?_, fun z hz' => i64_bd' (hw z (List.mem_of_mem_take hz'))⟩, fun e => (by cases e), by unfold maxLen at hm; omega⟩
    obtain ⟨b, off, spot⟩ := x
    have hlt : 0 < zs.length := by simp at h; omega
    have hc0 := hc 0 hlt
    have hspot : spot = none := by simpa [Addr.add] using World.cell?_spot hc0
    subst hspot
    have hb : b < w.heap.size := by have := lt_of_cell hc0; simpa [Addr.add] using this
    refine ⟨b, off, rfl, hb, fun k hk => ?_⟩
    have hk' : k < zs.length := by simp at hk; omega
    have := hc k hk'
    rw [addr_is] at this
    rw [this]
    simp [List.getElem_take, List.getD, hk']
theorem row_in {w : World} {x : Addr} {len : Nat} {zs : List Int} (hl : len ≤ zs.length) (hc : ∀ i, i < zs.length → w.cell? (x.add i) = some (.int .i64 (zs.getD i 0))) (hw : ∀ n ∈ zs, (Lit.int .i64 n).wf = true) : Row w (some x) (zs.take len) := by
  refine ⟨fun h => ?_, fun z hz' => i64_bd' (hw z (List.mem_of_mem_take hz'))⟩
  obtain ⟨b, off, spot⟩ := x
  have hlt : 0 < zs.length := by simp at h; omega
  have hc0 := hc 0 hlt
  have hspot : spot = none := by simpa [Addr.add] using World.cell?_spot hc0
  subst hspot
  have hb : b < w.heap.size := by have := lt_of_cell hc0; simpa [Addr.add] using this
  refine ⟨b, off, rfl, hb, fun k hk => ?_⟩
  have hk' : k < zs.length := by simp at hk; omega
  have := hc k hk'
  rw [addr_is] at this
  rw [this]
  simp [List.getElem_take, List.getD, hk']
theorem rowI_cells {H : Type} {enc : TypeId × Value → H} {w : World} {base : Nat} {spare : Nat → Bool} {held : Bool} {fuel : Nat} {cs : List Value} {x : DataW H × List MemPlace}
    (hf : DataW.trod enc Try.prog w base spare held fuel 24 cs = some x) : ∃ (A : Option Addr) (len cap : Nat) (ys : List Int), cs = [.slice A len cap] ∧ ys.length = len ∧ Row w A ys ∧ len ≤ 9223372036854775807 := by
  rcases open_ints Try.underlying24 Try.underlying3 (by kernel_rfl) hf with ⟨hcs, _⟩ | ⟨x, l, c, zs, hcs, _, hl, hm, hz, _, hcell, hwz⟩
  · exact ⟨none, 0, 0, [], hcs, rfl, ⟨fun h => absurd h (by simp), by simp⟩, by omega⟩
  · have hlm : l ≤ zs.length := by rw [hz]; split <;> omega
    exact ⟨some x, l, c, zs.take l, hcs, by simp; omega, row_in hlm hcell hwz, by unfold maxLen at hm; omega⟩
theorem cellsPl : Try.prog.cellsOf 26 = 7 := by kernel_rfl
theorem cellsIn : Try.prog.cellsOf 3 = 1 := by kernel_rfl
theorem cellsFr : Try.prog.cellsOf 23 = 2 := by kernel_rfl
theorem cellsSl : Try.prog.cellsOf 24 = 1 := by kernel_rfl
/-- a plan that came in. -/
def PlIn (w : World) (m c s p a b : Int) (A : Option Addr) (len : Nat) (us : List Int) : Prop := us.length = len ∧ PlF w m c s p a b A us ∧ len ≤ 9223372036854775807
set_option maxRecDepth 100000 in
theorem plan_of {H : Type} {enc : TypeId × Value → H} {w : World} {base : Nat} {spare : Nat → Bool} {held : Bool} {v : Value} {r : Reach} {b0 : Nat} {d : DataW H} {pl : List MemPlace}
    (hv : Value.okWide Try.prog w r b0 26 v) (h : DataW.Trod enc Try.prog w base spare held 26 v d pl) :
    ∃ m c s p a b A len cap us, v = .agg #[.int .i64 m, .int .i64 c, .int .i64 s, .int .i64 p, .int .i64 a, .int .i64 b, .slice A len cap] ∧ PlIn w m c s p a b A len us := by
  obtain ⟨cs, rfl, hsz⟩ := okWide_struct Try.underlying26 hv
  rw [cellsPl] at hsz
  obtain ⟨fuel, hf⟩ := h
  obtain ⟨l⟩ := cs
  match l, hsz with
  | [v0, v1, v2, v3, v4, v5, v6], _ =>
    obtain ⟨xs, k, hk, hxy, _, hxl, hf⟩ := DataW.trod_struct Try.underlying26 hf
    match xs, hxl with
    | [y0, y1, y2, y3, y4, y5], _ =>
      have g0 := hf 0 _ rfl
      have g1 := hf 1 _ rfl
      have g2 := hf 2 _ rfl
      have g3 := hf 3 _ rfl
      have g4 := hf 4 _ rfl
      have g5 := hf 5 _ rfl
      simp [Value.cells, cellsIn, cellsFr, cellsSl] at g0 g1 g2 g3 g4 g5
      obtain ⟨z0, e0, _, w0⟩ := DataW.trod_int Try.underlying3 g0
      obtain ⟨z1, e1, _, w1⟩ := DataW.trod_int Try.underlying3 g1
      obtain ⟨z2, e2, _, w2⟩ := DataW.trod_int Try.underlying3 g2
      obtain ⟨z3, e3, _, w3⟩ := DataW.trod_int Try.underlying3 g3
      obtain ⟨ys, k2, hk2, hxy2, _, hyl, hf2⟩ := DataW.trod_struct Try.underlying23 g4
      match ys, hyl with
      | [u0, u1], _ =>
        have r0 := hf2 0 _ rfl
        have r1 := hf2 1 _ rfl
        simp [cellsIn] at r0 r1
        obtain ⟨z4, e4, _, w4⟩ := DataW.trod_int Try.underlying3 r0
        obtain ⟨z5, e5, _, w5⟩ := DataW.trod_int Try.underlying3 r1
        obtain ⟨A, len, cap, us, e6, u1, u2, u3⟩ := rowI_cells g5
        simp at e0 e1 e2 e3 e4 e5 e6
        subst e0 e1 e2 e3 e4 e5 e6
        exact ⟨z0, z1, z2, z3, z4, z5, A, len, cap, us, rfl, u1, ⟨wf64' w0, wf64' w1, wf64' w2, wf64' w3, wf64' w4, wf64' w5, u2⟩, u3⟩
/-! what the laws need of schedules -/
theorem sc_len {m c s p a b : Int} {us : List Int} (ho : ckE m c s p a b us = 0 → OrdS m c s p us) : (scL m c s p a b us).length ≤ 200 := by
  by_cases hk : ckE m c s p a b us = 0
  · have h := scF_of hk (ho hk)
    have g := good_of hk
    have := g.p2
    rw [h.len]; omega
  · rw [scL_bad hk]; simp
end Go.Proofs.Ytmehihfdfpnfjaa
