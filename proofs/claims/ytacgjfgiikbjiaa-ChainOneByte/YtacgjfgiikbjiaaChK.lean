/- Slices that came in, opened; the statements ChainNextReference, ChainAllReference, ChainCheckReference and ChainRoundTrip of package accountinglaw14. -/
import Derived.Test.YtacgjfgiikbjiaaChJ
import Derived.Deep.Matrix
import Derived.Deep.RegionWith
namespace Go.Proofs.Ytacgjfgiikbjiaa
open Go.RowKit Go.Sort Go.ChangeShapes Go.WideShapes
set_option linter.unusedVariables false
set_option linter.unusedSimpArgs false

/-- bytes, checksums and records that came in. -/
structure IsB (w : World) (a : Option Addr) (len cap : Nat) (l : List UInt8) : Prop where
  hrow : RowB w a l
  hlen : l.length = len
  hmax : len ≤ maxLen
  hnil : a = none → cap = 0
structure IsU (w : World) (a : Option Addr) (len cap : Nat) (l : List Int) : Prop where
  hrow : RowU w a l
  hlen : l.length = len
  hmax : len ≤ maxLen
  hnil : a = none → cap = 0
  hbd : ∀ n ∈ l, 0 ≤ n ∧ n < 18446744073709551616
structure IsR (w : World) (a : Option Addr) (len cap : Nat) (R : List (List UInt8)) : Prop where
  hrow : Recs w a R
  hlen : R.length = len
  hmax : len ≤ maxLen
  hnil : a = none → cap = 0
  heach : ∀ l ∈ R, l.length ≤ maxLen
  hcap : len ≤ cap ∧ cap ≤ maxLen
theorem u8_bd {a : Int} (h : (Lit.int .u8 a).wf = true) : 0 ≤ a ∧ a < 256 := by
  simp [Lit.wf, IntKind.min, IntKind.max, IntKind.signed, IntKind.bits] at h; omega
theorem u64_bd {a : Int} (h : (Lit.int .u64 a).wf = true) : 0 ≤ a ∧ a < 18446744073709551616 := by
  simp [Lit.wf, IntKind.min, IntKind.max, IntKind.signed, IntKind.bits] at h; omega
theorem lt_of_cell' {w : World} {p : Addr} {v : Value} (h : w.cell? p = some v) : p.block < w.heap.size := by
  rcases Nat.lt_or_ge p.block w.heap.size with hl | hl
  · exact hl
  · simp [World.cell?, Array.getElem?_eq_none hl] at h
/-- values at an address that came in. -/
theorem row_at {w : World} {a : Addr} {L : List Value} (h : ∀ i x, L[i]? = some x → w.cell? (a.add i) = some x) : RowV w (some a) L := by
  intro i x hx
  have h0 := h i x hx
  obtain ⟨b, off, spot⟩ := a
  cases spot with
  | none =>
    rw [addr_is] at h0
    exact ⟨b, off, rfl, lt_of_cell' h0, h0⟩
  | some s =>
    have hl : 0 < L.length := by have := (List.getElem?_eq_some_iff.1 hx).1; omega
    have hsp := World.cell?_spot (h 0 L[0] (List.getElem?_eq_getElem hl))
    simp [Addr.add] at hsp
theorem rowB_z {w : World} {A : Option Addr} {L C : Nat} {Z : List Int} (hl : L ≤ C) (hm : C ≤ maxLen) (hz : Z.length = C) (hw : ∀ n ∈ Z, (Lit.int .u8 n).wf = true) (h0 : A = none → C = 0)
    (hc : ∀ a', A = some a' → ∀ c, c < C → w.cell? (a'.add c) = some (.int .u8 (Z.getD c 0))) : ∃ l : List UInt8, RowB w A l ∧ l.length = L := by
  refine ⟨(Z.take L).map byI, ?_, by simp; omega⟩
  cases A with
  | none =>
    obtain rfl : L = 0 := by have := h0 rfl; omega
    intro i x hx; simp at hx
  | some a =>
    refine row_at fun i x hx => ?_
    rw [List.map_map, List.getElem?_map] at hx
    obtain ⟨z, hz1, rfl⟩ := Option.map_eq_some_iff.1 hx
    have hi : i < L := by have := (List.getElem?_eq_some_iff.1 hz1).1; simp at this; omega
    have hzi : Z[i]? = some z := by rw [List.getElem?_take] at hz1; rw [if_pos hi] at hz1; exact hz1
    rw [hc a rfl i (by omega), List.getD_eq_getElem?_getD, hzi]
    have := u8_bd (hw z (List.mem_of_getElem? hzi))
    show some (Value.int .u8 z) = some (byV (byI z))
    unfold byV
    rw [byI_val this.1 this.2]
section
variable {H : Type} {enc : TypeId × Value → H} {w : World} {base : Nat}
theorem rowB_of {fuel : Nat} {c : Value} {x : DataW H × List MemPlace} (h : DataW.trod enc Try.prog w base (fun _ => true) true fuel 23 [c] = some x) : ∃ A len cap l, c = .slice A len cap ∧ IsB w A len cap l := by
  rcases open_ints Try.underlying23 Try.underlying5 (by kernel_rfl) h with ⟨hcs, _⟩ | ⟨a, l, cc, zs, hcs, _, hl, hm, hz, _, hcell, hwz⟩
  · simp at hcs
    exact ⟨none, 0, 0, [], hcs, ⟨RowV.nil _ _, rfl, by unfold maxLen; omega, fun _ => rfl⟩⟩
  · simp at hcs
    have hz' : zs.length = cc := by simpa using hz
    obtain ⟨m, hr, hlen⟩ := rowB_z (w := w) (A := some a) hl hm hz' hwz (fun e => by cases e) (fun a' e c hc => by injection e with e; subst e; exact hcell c (by omega))
    exact ⟨some a, l, cc, m, hcs, ⟨hr, hlen, by omega, fun e => by cases e⟩⟩
theorem rowU_of {fuel : Nat} {c : Value} {x : DataW H × List MemPlace} (h : DataW.trod enc Try.prog w base (fun _ => true) true fuel 30 [c] = some x) : ∃ A len cap l, c = .slice A len cap ∧ IsU w A len cap l := by
  rcases open_ints Try.underlying30 Try.underlying22 (by kernel_rfl) h with ⟨hcs, _⟩ | ⟨a, l, cc, zs, hcs, _, hl, hm, hz, _, hcell, hwz⟩
  · simp at hcs
    exact ⟨none, 0, 0, [], hcs, ⟨RowV.nil _ _, rfl, by unfold maxLen; omega, fun _ => rfl, by simp⟩⟩
  · simp at hcs
    have hz' : zs.length = cc := by simpa using hz
    refine ⟨some a, l, cc, zs.take l, hcs, ⟨row_at fun i x hx => ?_, by simp; omega, by omega, (fun e => by cases e), fun n hn => u64_bd (hwz n (List.mem_of_mem_take hn))⟩⟩
    rw [List.getElem?_map] at hx
    obtain ⟨z, hz1, rfl⟩ := Option.map_eq_some_iff.1 hx
    have hi : i < l := by have := (List.getElem?_eq_some_iff.1 hz1).1; simp at this; omega
    have hzi : zs[i]? = some z := by rw [List.getElem?_take, if_pos hi] at hz1; exact hz1
    rw [hcell i (by omega), List.getD_eq_getElem?_getD, hzi]; rfl
theorem recs_of {fuel : Nat} {c : Value} {x : DataW H × List MemPlace} (h : DataW.trod enc Try.prog w base (fun _ => true) true fuel 27 [c] = some x) : ∃ A len cap R, c = .slice A len cap ∧ IsR w A len cap R := by
  rcases Go.Deep.open_int_rows Try.underlying27 Try.underlying23 Try.underlying5 (by kernel_rfl) (by kernel_rfl) h with ⟨hcs, _⟩ | ⟨a, len, cap, A, L, C, Z, hcs, _, hl, hm, _, hr⟩
  · simp at hcs
    exact ⟨none, 0, 0, [], hcs, ⟨fun i l h => by simp at h, rfl, by unfold maxLen; omega, fun _ => rfl, by simp, by unfold maxLen; omega⟩⟩
  · simp at hcs
    have each : ∀ r, r < len → ∃ l : List UInt8, RowB w (A r) l ∧ l.length = L r := fun r hr' => by
      obtain ⟨_, h1, h2, h3, h4, h5, h6⟩ := hr r (by omega)
      exact rowB_z h1 h2 h3 h4 h5 (fun a' e => (h6 a' e).2)
    obtain ⟨q, hq⟩ := Go.Deep.choose_lt each
    have hcl : ∀ r, r < len → L r ≤ maxLen := fun r hr' => by obtain ⟨_, h1, h2, _⟩ := hr r (by omega); omega
    have hrow : RowV w (some a) ((List.range len).map fun r => .slice (A r) (L r) (C r)) := row_at fun i x hx => by
      rw [List.getElem?_map] at hx
      obtain ⟨j, hj, rfl⟩ := Option.map_eq_some_iff.1 hx
      have hi : i < len := by have := (List.getElem?_eq_some_iff.1 hj).1; simpa using this
      obtain rfl : j = i := by have := (List.getElem?_eq_some_iff.1 hj).2; simpa using this.symm
      exact (hr j (by omega)).1
    refine ⟨some a, len, cap, (List.range len).map q, hcs, ⟨fun i l hl' => ?_, by simp, by omega, (fun e => by cases e), (fun l hl' => ?_), ⟨hl, hm⟩⟩⟩
    · rw [List.getElem?_map] at hl'
      obtain ⟨j, hj, rfl⟩ := Option.map_eq_some_iff.1 hl'
      have hi : i < len := by have := (List.getElem?_eq_some_iff.1 hj).1; simpa using this
      obtain rfl : j = i := by have := (List.getElem?_eq_some_iff.1 hj).2; simpa using this.symm
      obtain ⟨b, off, e, hb, hc⟩ := hrow j _ (by rw [List.getElem?_map, List.getElem?_eq_getElem (by simpa using hi)]; rfl)
      refine ⟨b, off, A j, C j, e, hb, ?_, (hq j hi).1⟩
      rw [hc, (hq j hi).2]; simp
    · obtain ⟨j, hj, rfl⟩ := List.mem_map.1 hl'
      rw [(hq j (by simpa using hj)).2]; exact hcl j (by simpa using hj)
theorem rowB_in {A : Option Addr} {len cap : Nat} {d : DataW H} {p : List MemPlace} (h : DataW.Trod enc Try.prog w base (fun _ => true) true 23 (.slice A len cap) d p) : ∃ l : List UInt8, IsB w A len cap l := by
  obtain ⟨fuel, hf⟩ := h
  obtain ⟨A', len', cap', l, hv, hw⟩ := rowB_of (c := .slice A len cap) hf
  injection hv with e1 e2 e3
  subst e1 e2 e3
  exact ⟨l, hw⟩
theorem rowU_in {A : Option Addr} {len cap : Nat} {d : DataW H} {p : List MemPlace} (h : DataW.Trod enc Try.prog w base (fun _ => true) true 30 (.slice A len cap) d p) : ∃ l : List Int, IsU w A len cap l := by
  obtain ⟨fuel, hf⟩ := h
  obtain ⟨A', len', cap', l, hv, hw⟩ := rowU_of (c := .slice A len cap) hf
  injection hv with e1 e2 e3
  subst e1 e2 e3
  exact ⟨l, hw⟩
theorem recs_in {A : Option Addr} {len cap : Nat} {d : DataW H} {p : List MemPlace} (h : DataW.Trod enc Try.prog w base (fun _ => true) true 27 (.slice A len cap) d p) : ∃ l : List (List UInt8), IsR w A len cap l := by
  obtain ⟨fuel, hf⟩ := h
  obtain ⟨A', len', cap', l, hv, hw⟩ := recs_of (c := .slice A len cap) hf
  injection hv with e1 e2 e3
  subst e1 e2 e3
  exact ⟨l, hw⟩
end
end Go.Proofs.Ytacgjfgiikbjiaa
