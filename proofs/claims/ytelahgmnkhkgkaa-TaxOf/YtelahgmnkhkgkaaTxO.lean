/- The slices of the laws opened; the walk of TaxCodes. Written by wip/mk_txn.py. -/
import Derived.Test.YtelahgmnkhkgkaaTxN
import Derived.Deep.SlicePairs
import Derived.OpenShut
namespace Go.Proofs.Ytelahgmnkhkgkaa
open Go.RowKit Go.Sort
set_option linter.unusedVariables false
set_option linter.unusedSimpArgs false

open Go.ChangeShapes Go.WideShapes Go.Deep
def OkC (w : World) (A : Option Addr) (len : Nat) (L : List Cd) : Prop := L.length = len ∧ RowC w A L ∧ BdC L ∧ L.length ≤ maxLen
def OkL (w : World) (A : Option Addr) (len : Nat) (L : List Ln) : Prop := L.length = len ∧ RowL w A L ∧ BdL L ∧ L.length ≤ maxLen
theorem wf64 {a : Int} (h : (Lit.int .i64 a).wf = true) : r64 a := i64_bd h
theorem rowL_of {H : Type} {enc : TypeId × Value → H} {w : World} {base : Nat} {spare : Nat → Bool} {held : Bool} {A : Option Addr} {len cap : Nat} {d : DataW H} {p : List MemPlace}
    (h : DataW.Trod enc Try.prog w base spare held 37 (.slice A len cap) d p) : ∃ L : List Ln, OkL w A len L := by
  obtain ⟨fuel, hf⟩ := h
  rcases open_slice_pairs Try.underlying37 Try.underlying49 (by kernel_rfl) rfl rfl (by kernel_rfl) (by kernel_rfl) hf with ⟨hcs, _⟩ | ⟨a, l, c, m, n, V0, V1, D0, D1, P0, P1, hcs, hb, hl, hm, hmm, _, hcell⟩
  · simp [Value.cells] at hcs
    obtain ⟨rfl, rfl, rfl⟩ := hcs
    exact ⟨[], rfl, (fun h => absurd h (by simp)), (fun t ht => by cases ht), by simp⟩
  · simp [Value.cells] at hcs
    obtain ⟨rfl, rfl, rfl⟩ := hcs
    have hlm : len ≤ m := by rw [hmm]; split <;> omega
    have each : ∀ i, i < len → ∃ q : Ln, V0 i = .int .i64 q.1 ∧ V1 i = .string q.2 ∧ r64 q.1 ∧ q.2.size ≤ maxLen := by
      intro i hi
      obtain ⟨_, _, t0, t1⟩ := hcell i (by omega)
      obtain ⟨s, e0, _, hs⟩ := DataW.trod_int Try.underlying3 t0
      obtain ⟨z, e1, _, hz⟩ := DataW.trod_string Try.underlying9 t1
      simp at e0 e1
      exact ⟨(s, z), e0, e1, wf64 hs, hz⟩
    obtain ⟨q, hq⟩ := choose_lt each
    refine ⟨(List.range len).map q, by simp, fun h0 => ?_, fun t ht => ?_, by simp; omega⟩
    · have h0 : 0 < len := by simpa using h0
      obtain ⟨b, off, spot⟩ := a
      have hspot : spot = none := by simpa [Addr.add] using World.cell?_spot (hcell 0 (by omega)).1
      subst hspot
      have hlt : b < w.heap.size := by
        have := (hcell 0 (by omega)).1
        rw [addr_is] at this
        exact lt_cell this
      refine ⟨b, off, rfl, hlt, fun i hi => ?_⟩
      have hi : i < len := by simpa using hi
      obtain ⟨c0, c1, _, _⟩ := hcell i (by omega)
      obtain ⟨g0, g1, _, _⟩ := hq i hi
      rw [addr_is] at c0 c1
      rw [g0] at c0
      rw [g1] at c1
      simp only [List.getElem_map, List.getElem_range]
      exact ⟨c0, by rw [Nat.add_assoc]; exact c1⟩
    · obtain ⟨i, hi, rfl⟩ := List.mem_map.1 ht
      have hi : i < len := by simpa using hi
      exact ⟨(hq i hi).2.2.1, (hq i hi).2.2.2⟩
set_option maxRecDepth 100000 in
theorem rowC_of {H : Type} {enc : TypeId × Value → H} {w : World} {base : Nat} {spare : Nat → Bool} {held : Bool} {A : Option Addr} {len cap : Nat} {d : DataW H} {p : List MemPlace}
    (h : DataW.Trod enc Try.prog w base spare held 35 (.slice A len cap) d p) : ∃ L : List Cd, OkC w A len L := by
  obtain ⟨fuel, hf⟩ := h
  rcases open_slice Try.underlying35 hf with ⟨hcs, _⟩ | ⟨a, l, c, m, n, D, Pl, hcs, hb, hl, hm, hmm, _, hcell⟩
  · simp [Value.cells] at hcs
    obtain ⟨rfl, rfl, rfl⟩ := hcs
    exact ⟨[], rfl, (fun h => absurd h (by simp)), (fun t ht => by cases ht), by simp⟩
  · simp [Value.cells] at hcs
    obtain ⟨rfl, rfl, rfl⟩ := hcs
    have hlm : len ≤ m := by rw [hmm]; split <;> omega
    have ce : Try.prog.cellsOf 59 = 4 := by kernel_rfl
    have cs : Try.prog.cellsOf 9 = 1 := by kernel_rfl
    have cf : Try.prog.cellsOf 23 = 2 := by kernel_rfl
    have ci : Try.prog.cellsOf 3 = 1 := by kernel_rfl
    have each : ∀ i, i < len → ∃ q : Cd, (w.cell? (a.add (i * 4)) = some (.string q.1) ∧ w.cell? (a.add (i * 4 + 1)) = some (.string q.2.1) ∧ w.cell? (a.add (i * 4 + 2)) = some (.int .i64 q.2.2.1) ∧ w.cell? (a.add (i * 4 + 3)) = some (.int .i64 q.2.2.2)) ∧
        (q.1.size ≤ maxLen ∧ q.2.1.size ≤ maxLen) ∧ r64 q.2.2.1 ∧ r64 q.2.2.2 := by
      intro i hi
      obtain ⟨cs', h1, h2⟩ := hcell i (by omega)
      rw [ce] at h1
      obtain ⟨_, hlen, hat⟩ := World.cells?_some h1
      obtain ⟨xs, k, hk, hxy, _, hxl, hf⟩ := DataW.trod_struct Try.underlying59 h2
      match xs, hxl, cs', hlen with
      | [y0, y1, y2], _, [v0, v1, v2, v3], _ =>
        have g0 := hf 0 _ rfl
        have g1 := hf 1 _ rfl
        have g2 := hf 2 _ rfl
        simp [cs, cf] at g0 g1 g2
        obtain ⟨s, e0, _, hs⟩ := DataW.trod_string Try.underlying9 g0
        obtain ⟨z, e1, _, hz⟩ := DataW.trod_string Try.underlying9 g1
        obtain ⟨ys, k2, hk2, hxy2, _, hyl, hf2⟩ := DataW.trod_struct Try.underlying23 g2
        match ys, hyl with
        | [u0, u1], _ =>
          have r0 := hf2 0 _ rfl
          have r1 := hf2 1 _ rfl
          simp [ci] at r0 r1
          obtain ⟨x, f0, _, hx⟩ := DataW.trod_int Try.underlying3 r0
          obtain ⟨y, f1, _, hy⟩ := DataW.trod_int Try.underlying3 r1
          simp at e0 e1 f0 f1
          subst e0 e1 f0 f1
          have q0 := hat 0 (by omega)
          have q1 := hat 1 (by omega)
          have q2 := hat 2 (by omega)
          have q3 := hat 3 (by omega)
          rw [add_add] at q0 q1 q2 q3
          exact ⟨(s, z, x, y), ⟨by simpa using q0, by simpa using q1, by simpa using q2, by simpa using q3⟩, ⟨hs, hz⟩, wf64 hx, wf64 hy⟩
    obtain ⟨q, hq⟩ := choose_lt each
    refine ⟨(List.range len).map q, by simp, fun h0 => ?_, fun t ht => ?_, by simp; omega⟩
    · have h0 : 0 < len := by simpa using h0
      obtain ⟨b, off, spot⟩ := a
      have hspot : spot = none := by simpa [Addr.add] using World.cell?_spot (hq 0 h0).1.1
      subst hspot
      have hlt : b < w.heap.size := by
        have := (hq 0 h0).1.1
        rw [addr_is] at this
        exact lt_cell this
      refine ⟨b, off, rfl, hlt, fun i hi => ?_⟩
      have hi : i < len := by simpa using hi
      obtain ⟨⟨c0, c1, c2, c3⟩, _⟩ := hq i hi
      rw [addr_is] at c0 c1 c2 c3
      simp only [List.getElem_map, List.getElem_range]
      exact ⟨c0, by rw [Nat.add_assoc]; exact c1, by rw [Nat.add_assoc]; exact c2, by rw [Nat.add_assoc]; exact c3⟩
    · obtain ⟨i, hi, rfl⟩ := List.mem_map.1 ht
      have hi : i < len := by simpa using hi
      exact (hq i hi).2
set_option maxHeartbeats 4000000 in
theorem taxCodes_walk (A : Option Addr) (len cap : Nat) (L : List Cd) (w : World) (h : OkC w A len L) :
    Calls Try.prog 6 #[.slice A len cap] w fun e w' => e = .returned (.bool true) ∧ Below w.heap.size w w' := by
  obtain ⟨rfl, hR, hBd, hm⟩ := h
  by_cases h5 : 250 < L.length
  · have h5' : (250 : Int) < (L.length : Int) := by omega
    go_enter Try.func6, Try.ntmps6
    go_wp2
    go_ret
    exact ⟨rfl, Below.refl _ _⟩
  · have h5' : ¬ (250 : Int) < (L.length : Int) := by omega
    have H1 := Lib.hid (fun W hr => codes_any A cap L W hr hBd (by omega))
    have H2 := Lib.hid (fun W hr => rCodes_any A cap L W hr hBd (by omega))
    have HL := Lib.hid lives_any
    have HR := Lib.hid hR
    generalize codesB L = q at *
    clear hR hBd
    go_enter Try.func6, Try.ntmps6
    go_wp2_with fail
    refine (H1.out _ HR.out).mono ?_
    rintro e u1 ⟨rfl, hb⟩
    have HB1 := Lib.hid hb
    have HR1 := Lib.hid (HR.out.below hb)
    clear hb
    go_wp2_with fail
    refine (H2.out _ HR1.out).mono ?_
    rintro e u2 ⟨rfl, hb⟩
    have HB2 := Lib.hid (HB1.out.trans (hb.mono HB1.out.size))
    clear hb
    go_wp2_with fail
    refine (HL.out _).mono ?_
    rintro e u3 ⟨rfl, hb⟩
    have HB3 := Lib.hid (HB2.out.trans (hb.mono HB2.out.size))
    clear hb
    go_wp2
    go_ret
    exact ⟨rfl, HB3.out⟩
end Go.Proofs.Ytelahgmnkhkgkaa
