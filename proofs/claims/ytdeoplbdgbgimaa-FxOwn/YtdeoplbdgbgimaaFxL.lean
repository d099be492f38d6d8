/- The laws' parameters opened: a slice of rates, a question. No conditions. -/
import Derived.Test.YtdeoplbdgbgimaaFxK
import Derived.Deep.SlicePairs
import Derived.OpenShut
namespace Go.Proofs.Ytdeoplbdgbgimaa
open Go.RowKit Go.Sort
set_option linter.unusedVariables false
set_option linter.unusedSimpArgs false

open Go.ChangeShapes Go.WideShapes Go.Deep
theorem lt_cellF {w : World} {p : Addr} {v : Value} (h : w.cell? p = some v) : p.block < w.heap.size := by
  rcases Nat.lt_or_ge p.block w.heap.size with k | k
  · exact k
  · simp [World.cell?, Array.getElem?_eq_none k] at h
def OkA (w : World) (A : Option Addr) (len : Nat) (L : List Rt) : Prop := L.length = len ∧ RowR w A L ∧ BdR L ∧ L.length ≤ maxLen
theorem OkA.below {w w' : World} {A : Option Addr} {len : Nat} {L : List Rt} (h : OkA w A len L) (hb : Below w.heap.size w w') : OkA w' A len L := ⟨h.1, h.2.1.below hb, h.2.2⟩
set_option maxRecDepth 100000 in
theorem rowR_cells {H : Type} {enc : TypeId × Value → H} {w : World} {base : Nat} {spare : Nat → Bool} {held : Bool} {fuel : Nat} {cs : List Value} {x : DataW H × List MemPlace}
    (hf : DataW.trod enc Try.prog w base spare held fuel 22 cs = some x) : ∃ (A : Option Addr) (len cap : Nat) (L : List Rt), cs = [.slice A len cap] ∧ OkA w A len L := by
  rcases open_slice Try.underlying22 hf with ⟨hcs, _⟩ | ⟨a, l, c, m, n, D, Pl, hcs, hb, hl, hm, hmm, _, hcell⟩
  · exact ⟨none, 0, 0, [], hcs, rfl, (fun h => absurd h (by simp)), (fun t ht => by cases ht), by simp⟩
  · refine ⟨some a, l, c, ?_⟩
    have hlm : l ≤ m := by rw [hmm]; split <;> omega
    have ce := cellsR
    have cs1 := cellsT
    have cf := cellsF
    have ci := cellsI
    have each : ∀ i, i < l → ∃ q : Rt, (w.cell? (a.add (i * 5)) = some (.string q.1) ∧ w.cell? (a.add (i * 5 + 1)) = some (.int .i64 q.2.1) ∧ w.cell? (a.add (i * 5 + 2)) = some (.int .i64 q.2.2.1) ∧ w.cell? (a.add (i * 5 + 3)) = some (.int .i64 q.2.2.2.1) ∧ w.cell? (a.add (i * 5 + 4)) = some (.int .i64 q.2.2.2.2)) ∧ BdT q := by
      intro i hi
      obtain ⟨cs', h1, h2⟩ := hcell i (by omega)
      rw [ce] at h1
      obtain ⟨_, hlen, hat⟩ := World.cells?_some h1
      obtain ⟨xs, k, hk, hxy, _, hxl, hf⟩ := DataW.trod_struct Try.underlying51 h2
      match xs, hxl, cs', hlen with
      | [y0, y1, y2, y3], _, [v0, v1, v2, v3, v4], _ =>
        have g0 := hf 0 _ rfl
        have g1 := hf 1 _ rfl
        have g2 := hf 2 _ rfl
        have g3 := hf 3 _ rfl
        simp [cs1, cf, ci] at g0 g1 g2 g3
        obtain ⟨s, e0, _, hs⟩ := DataW.trod_string Try.underlying9 g0
        obtain ⟨z, e1, _, hz⟩ := DataW.trod_int Try.underlying3 g1
        obtain ⟨z2, e2, _, hz2⟩ := DataW.trod_int Try.underlying3 g2
        obtain ⟨ys, k2, hk2, hxy2, _, hyl, hf2⟩ := DataW.trod_struct Try.underlying37 g3
        match ys, hyl with
        | [u0, u1], _ =>
          have r0 := hf2 0 _ rfl
          have r1 := hf2 1 _ rfl
          simp [ci] at r0 r1
          obtain ⟨x, f0, _, hx⟩ := DataW.trod_int Try.underlying3 r0
          obtain ⟨y, f1, _, hy⟩ := DataW.trod_int Try.underlying3 r1
          simp at e0 e1 e2 f0 f1
          subst e0 e1 e2 f0 f1
          have q0 := hat 0 (by omega)
          have q1 := hat 1 (by omega)
          have q2 := hat 2 (by omega)
          have q3 := hat 3 (by omega)
          have q4 := hat 4 (by omega)
          rw [add_add] at q0 q1 q2 q3 q4
          exact ⟨(s, z, z2, x, y), ⟨by simpa using q0, by simpa using q1, by simpa using q2, by simpa using q3, by simpa using q4⟩, hs, wf64' hz, wf64' hz2, wf64' hx, wf64' hy⟩
    obtain ⟨q, hq⟩ := choose_lt each
    refine ⟨(List.range l).map q, hcs, by simp, fun h0 => ?_, fun t ht => ?_, by simp; omega⟩
    · have h0 : 0 < l := by simpa using h0
      obtain ⟨b, off, spot⟩ := a
      have hspot : spot = none := by simpa [Addr.add] using World.cell?_spot (hq 0 h0).1.1
      subst hspot
      have hlt : b < w.heap.size := by
        have := (hq 0 h0).1.1
        rw [addr_is] at this
        exact lt_cellF this
      refine ⟨b, off, rfl, hlt, fun i hi => ?_⟩
      have hi : i < l := by simpa using hi
      obtain ⟨⟨c0, c1, c2, c3, c4⟩, _⟩ := hq i hi
      rw [addr_is] at c0 c1 c2 c3 c4
      simp only [List.getElem_map, List.getElem_range]
      exact ⟨c0, by rw [Nat.add_assoc]; exact c1, by rw [Nat.add_assoc]; exact c2, by rw [Nat.add_assoc]; exact c3, by rw [Nat.add_assoc]; exact c4⟩
    · obtain ⟨i, hi, rfl⟩ := List.mem_map.1 ht
      have hi : i < l := by simpa using hi
      exact (hq i hi).2
theorem rowR_of {H : Type} {enc : TypeId × Value → H} {w : World} {base : Nat} {spare : Nat → Bool} {held : Bool} {A : Option Addr} {len cap : Nat} {d : DataW H} {p : List MemPlace}
    (h : DataW.Trod enc Try.prog w base spare held 22 (.slice A len cap) d p) : ∃ L : List Rt, OkA w A len L := by
  obtain ⟨fuel, hf⟩ := h
  obtain ⟨A', len', cap', L, e, h⟩ := rowR_cells hf
  simp [Value.cells] at e
  obtain ⟨rfl, rfl, rfl⟩ := e
  exact ⟨L, h⟩
theorem cellsAsk : Try.prog.cellsOf 35 = 8 := by kernel_rfl
theorem cellsSl : Try.prog.cellsOf 22 = 1 := by kernel_rfl
/-- the facts of a question. -/
structure AskF (w : World) (bs : ByteArray) (A : Option Addr) (len : Nat) (L : List Rt) (fr to_ : ByteArray) (kd dy am md : Int) : Prop where
  base : bs.size ≤ maxLen
  row : OkA w A len L
  fr : fr.size ≤ maxLen
  to_ : to_.size ≤ maxLen
  kd : r64 kd
  dy : r64 dy
  am : r64 am
  md : r64 md
set_option maxRecDepth 100000 in
theorem ask_of {H : Type} {enc : TypeId × Value → H} {w : World} {base : Nat} {spare : Nat → Bool} {held : Bool} {v : Value} {r : Reach} {b0 : Nat} {d : DataW H} {p : List MemPlace}
    (hv : Value.okWide Try.prog w r b0 35 v) (h : DataW.Trod enc Try.prog w base spare held 35 v d p) :
    ∃ bs A len cap L fr to_ kd dy am md, v = .agg #[.string bs, .slice A len cap, .string fr, .string to_, .int .i64 kd, .int .i64 dy, .int .i64 am, .int .i64 md] ∧ AskF w bs A len L fr to_ kd dy am md := by
  obtain ⟨cs, rfl, hsz⟩ := okWide_struct Try.underlying35 hv
  rw [cellsAsk] at hsz
  obtain ⟨fuel, hf⟩ := h
  obtain ⟨l⟩ := cs
  match l, hsz with
  | [v0, v1, v2, v3, v4, v5, v6, v7], _ =>
    obtain ⟨xs, k, hk, hxy, _, hxl, hf⟩ := DataW.trod_struct Try.underlying35 hf
    match xs, hxl with
    | [y0, y1, y2, y3, y4, y5, y6, y7], _ =>
      have g0 := hf 0 _ rfl
      have g1 := hf 1 _ rfl
      have g2 := hf 2 _ rfl
      have g3 := hf 3 _ rfl
      have g4 := hf 4 _ rfl
      have g5 := hf 5 _ rfl
      have g6 := hf 6 _ rfl
      have g7 := hf 7 _ rfl
      simp [Value.cells, cellsT, cellsI, cellsSl] at g0 g1 g2 g3 g4 g5 g6 g7
      obtain ⟨s0, e0, _, w0⟩ := DataW.trod_string Try.underlying9 g0
      obtain ⟨A, len, cap, L, e1, w1⟩ := rowR_cells g1
      obtain ⟨s2, e2, _, w2⟩ := DataW.trod_string Try.underlying9 g2
      obtain ⟨s3, e3, _, w3⟩ := DataW.trod_string Try.underlying9 g3
      obtain ⟨z4, e4, _, w4⟩ := DataW.trod_int Try.underlying3 g4
      obtain ⟨z5, e5, _, w5⟩ := DataW.trod_int Try.underlying3 g5
      obtain ⟨z6, e6, _, w6⟩ := DataW.trod_int Try.underlying3 g6
      obtain ⟨z7, e7, _, w7⟩ := DataW.trod_int Try.underlying3 g7
      simp at e0 e1 e2 e3 e4 e5 e6 e7
      subst e0 e1 e2 e3 e4 e5 e6 e7
      exact ⟨s0, A, len, cap, L, s2, s3, z4, z5, z6, z7, rfl, w0, w1, w2, w3, wf64' w4, wf64' w5, wf64' w6, wf64' w7⟩
end Go.Proofs.Ytdeoplbdgbgimaa
