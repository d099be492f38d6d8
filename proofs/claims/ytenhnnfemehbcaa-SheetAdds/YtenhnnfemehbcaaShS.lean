/- The slices of cells of the laws opened; the walk of SheetBases. Written by wip/mk_shs.py. -/
import Derived.Test.YtenhnnfemehbcaaShQ
import Derived.Test.YtenhnnfemehbcaaShR
import Derived.Deep.SlicePairs
import Derived.OpenShut
namespace Go.Proofs.Ytenhnnfemehbcaa
open Go.RowKit Go.Sort
set_option linter.unusedVariables false
set_option linter.unusedSimpArgs false

open Go.ChangeShapes Go.WideShapes Go.Deep
/-- a slice of cells that came in. -/
def OkS (w : World) (A : Option Addr) (len : Nat) (L : List Cl) : Prop := L.length = len ∧ RowS w A L ∧ BdS L ∧ L.length ≤ maxLen
set_option maxRecDepth 100000 in
theorem rowS_of {H : Type} {enc : TypeId × Value → H} {w : World} {base : Nat} {spare : Nat → Bool} {held : Bool} {A : Option Addr} {len cap : Nat} {d : DataW H} {p : List MemPlace}
    (h : DataW.Trod enc Try.prog w base spare held 28 (.slice A len cap) d p) : ∃ L : List Cl, OkS w A len L := by
  obtain ⟨fuel, hf⟩ := h
  rcases open_slice Try.underlying28 hf with ⟨hcs, _⟩ | ⟨a, l, c, m, n, D, Pl, hcs, hb, hl, hm, hmm, _, hcell⟩
  · simp [Value.cells] at hcs
    obtain ⟨rfl, rfl, rfl⟩ := hcs
    exact ⟨[], rfl, (fun h => absurd h (by simp)), (fun t ht => by cases ht), by simp⟩
  · simp [Value.cells] at hcs
    obtain ⟨rfl, rfl, rfl⟩ := hcs
    have hlm : len ≤ m := by rw [hmm]; split <;> omega
    have ce : Try.prog.cellsOf 37 = 7 := by kernel_rfl
    have cs : Try.prog.cellsOf 9 = 1 := by kernel_rfl
    have cf : Try.prog.cellsOf 23 = 5 := by kernel_rfl
    have ci : Try.prog.cellsOf 3 = 1 := by kernel_rfl
    have each : ∀ i, i < len → ∃ q : Cl, (∀ j v, (clC q)[j]? = some v → w.cell? (a.add (i * 7 + j)) = some v) ∧ r64 q.2.1 ∧ r64 q.2.2 := by
      intro i hi
      obtain ⟨cs', h1, h2⟩ := hcell i (by omega)
      rw [ce] at h1
      obtain ⟨_, hlen, hat⟩ := World.cells?_some h1
      obtain ⟨xs, k, hk, hxy, _, hxl, hf⟩ := DataW.trod_struct Try.underlying37 h2
      match xs, hxl, cs', hlen with
      | [y0, y1, y2], _, [v0, v1, v2, v3, v4, v5, v6], _ =>
        have g0 := hf 0 _ rfl
        have g1 := hf 1 _ rfl
        have g2 := hf 2 _ rfl
        simp [ci, cf] at g0 g1 g2
        obtain ⟨x, f0, _, hx⟩ := DataW.trod_int Try.underlying3 g1
        obtain ⟨y, f1, _, hy⟩ := DataW.trod_int Try.underlying3 g2
        obtain ⟨ys, k2, hk2, hxy2, _, hyl, hf2⟩ := DataW.trod_struct Try.underlying23 g0
        match ys, hyl with
        | [u0, u1, u2, u3, u4], _ =>
          have r0 := hf2 0 _ rfl
          have r1 := hf2 1 _ rfl
          have r2 := hf2 2 _ rfl
          have r3 := hf2 3 _ rfl
          have r4 := hf2 4 _ rfl
          simp [cs] at r0 r1 r2 r3 r4
          obtain ⟨s0, e0, _, _⟩ := DataW.trod_string Try.underlying9 r0
          obtain ⟨s1, e1, _, _⟩ := DataW.trod_string Try.underlying9 r1
          obtain ⟨s2, e2, _, _⟩ := DataW.trod_string Try.underlying9 r2
          obtain ⟨s3, e3, _, _⟩ := DataW.trod_string Try.underlying9 r3
          obtain ⟨s4, e4, _, _⟩ := DataW.trod_string Try.underlying9 r4
          simp at e0 e1 e2 e3 e4 f0 f1
          subst e0 e1 e2 e3 e4 f0 f1
          have q0 := hat 0 (by omega)
          have q1 := hat 1 (by omega)
          have q2 := hat 2 (by omega)
          have q3 := hat 3 (by omega)
          have q4 := hat 4 (by omega)
          have q5 := hat 5 (by omega)
          have q6 := hat 6 (by omega)
          rw [add_add] at q0 q1 q2 q3 q4 q5 q6
          refine ⟨((s0, s1, s2, s3, s4), x, y), fun j v hv => ?_, wf64' hx, wf64' hy⟩
          match j, hv with
          | 0, hv => cases hv; simpa using q0
          | 1, hv => cases hv; simpa using q1
          | 2, hv => cases hv; simpa using q2
          | 3, hv => cases hv; simpa using q3
          | 4, hv => cases hv; simpa using q4
          | 5, hv => cases hv; simpa using q5
          | 6, hv => cases hv; simpa using q6
          | n + 7, hv => simp [clC] at hv
    obtain ⟨q, hq⟩ := choose_lt each
    refine ⟨(List.range len).map q, by simp, fun h0 => ?_, fun t ht => ?_, by simp; omega⟩
    · have h0 : 0 < len := by simpa using h0
      obtain ⟨b, off, spot⟩ := a
      have hc0 := (hq 0 h0).1 0 _ rfl
      have hspot : spot = none := by simpa [Addr.add] using World.cell?_spot hc0
      subst hspot
      have hlt : b < w.heap.size := by
        rw [addr_is] at hc0
        exact World.block_lt_of_cell? w _ hc0
      refine ⟨b, off, rfl, hlt, fun i hi j v hv => ?_⟩
      have hi : i < len := by simpa using hi
      simp only [List.getElem_map, List.getElem_range] at hv
      have c := (hq i hi).1 j v hv
      rw [addr_is, ← Nat.add_assoc] at c
      exact c
    · obtain ⟨i, hi, rfl⟩ := List.mem_map.1 ht
      have hi : i < len := by simpa using hi
      exact (hq i hi).2
set_option maxRecDepth 100000 in
set_option maxHeartbeats 1000000 in
theorem sheetBases_walk (A : Option Addr) (len cap : Nat) (L : List Cl) (w : World) (h : OkS w A len L) :
    Calls Try.prog 11 #[.slice A len cap] w fun e w' => e = .returned (.bool true) ∧ Below w.heap.size w w' := by
  obtain ⟨rfl, hR, hBd, hm⟩ := h
  have HLg := Lib.hid (large_any A L.length cap w hm)
  by_cases h5 : 300 < L.length
  · rw [decide_eq_true (by omega)] at HLg
    clear hR
    go_enter Try.func11, Try.ntmps11
    go_wp2_with fail
    refine HLg.out.mono ?_
    rintro e w_ ⟨rfl, rfl⟩
    go_wp2
    go_ret
    exact ⟨rfl, Below.refl _ _⟩
  · rw [decide_eq_false (by omega)] at HLg
    have H1 := Lib.hid (base_any A cap L w hR hBd (by omega))
    have H2 := Lib.hid (fun W hr => rBase_any A cap L W hr hBd (by omega))
    have HR := Lib.hid hR
    have HLi := Lib.hid lives_any
    clear hR hBd
    generalize suV (baS L) = a at *
    generalize suE (baS L) = b at *
    go_enter Try.func11, Try.ntmps11
    go_wp2_with fail
    refine HLg.out.mono ?_
    rintro e w_ ⟨rfl, rfl⟩
    go_wp2_with fail
    refine H1.out.mono ?_
    rintro e w1 ⟨rfl, hb⟩
    have HB1 := Lib.hid hb
    have H3 := Lib.hid (H2.out w1 (HR.out.below hb))
    clear hb H1 H2 HR
    go_wp2_with fail
    refine H3.out.mono ?_
    rintro e w2 ⟨rfl, hb⟩
    have HB2 := Lib.hid (HB1.out.trans (hb.mono HB1.out.size))
    clear hb HB1 H3
    go_wp2_with fail
    refine (HLi.out _).mono ?_
    rintro e w3 ⟨rfl, hb⟩
    have HB3 := Lib.hid (HB2.out.trans (hb.mono HB2.out.size))
    clear hb HB2
    go_wp2
    go_ret
    exact ⟨rfl, HB3.out⟩
end Go.Proofs.Ytenhnnfemehbcaa
