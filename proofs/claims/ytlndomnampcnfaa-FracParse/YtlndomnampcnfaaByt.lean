/- Slices of bytes: appended, converted, opened where they came in. No conditions. -/
import Derived.Test.YtlndomnampcnfaaRow1
import Derived.Deep.Matrix
namespace Go.Proofs.Ytlndomnampcnfaa
open Go.RowKit Go.Sort Go.ChangeShapes Go.WideShapes
set_option linter.unusedVariables false
set_option linter.unusedSimpArgs false

/-- the eight bytes of a number. -/
def byI (x : Int) : UInt8 := x.toNat.toUInt8
theorem byI_val {x : Int} (h0 : 0 ≤ x) (h1 : x < 256) : ((byI x).toNat : Int) = x := by
  unfold byI
  rw [Nat.toUInt8_eq, UInt8.toNat_ofNat']; omega
/-- bytes appended. -/
theorem wpList_bytes {w : World} {ops : Array Oper} {rest : List Oper} {o : Oper} {a : Act} {Q : Exit → Act → World → Prop} (hgd : o.guard = none) (s x : Operand)
    (ho : o.op = .call { callee := .builtin .append, args := #[s, x], argTypes := #[72, 72] })
    (base : Nat) (v : Value) (l m : List UInt8) (hs : a.eval s = v) (hown : OwnB w base v l) (ao : Option Addr) (c : Nat) (hx : a.eval x = .slice ao m.length c) (hn : ao = none → c = 0) (hc : RowB w ao m)
    (hl : l.length + m.length < 1000000) (hbase : base ≤ w.heap.size)
    (h : ∀ v' w', OwnB w' base v' (l ++ m) → Below base w w' → wpList Try.prog ops Q rest (a.put o.dst v') w') : wpList Try.prog ops Q (o :: rest) a w := by
  refine wpList_vals und_bytes inf_u8 rfl (by omega) hgd s x ho base v (l.map byV) (m.map byV) hs hown ao c (by rw [List.length_map]; exact hx) hn hc ?_ (by simp; omega) hbase ?_
  · intro y hy
    obtain ⟨z, _, rfl⟩ := List.mem_map.1 hy
    rfl
  · intro v' w' h1 h2
    exact h v' w' (by unfold OwnB; rw [List.map_append]; exact h1) h2
theorem step_bytes {w : World} {ops : Array Oper} {o : Oper} {a : Act} {K : Act → World → Prop} {Q : Exit → Act → World → Prop} {E : Prop} (hgd : o.guard = none) (s x : Operand)
    (ho : o.op = .call { callee := .builtin .append, args := #[s, x], argTypes := #[72, 72] })
    (base : Nat) (v : Value) (l m : List UInt8) (hs : a.eval s = v) (hown : OwnB w base v l) (ao : Option Addr) (c : Nat) (hx : a.eval x = .slice ao m.length c) (hn : ao = none → c = 0) (hc : RowB w ao m)
    (hl : l.length + m.length < 1000000) (hbase : base ≤ w.heap.size)
    (h : ∀ v' w', OwnB w' base v' (l ++ m) → Below base w w' → K (a.put o.dst v') w') : if Region.wanted o (yielded ops a.tmps) = true then Oper.wp Try.prog o a w K Q else E := by
  refine step_vals und_bytes inf_u8 rfl (by omega) hgd s x ho base v (l.map byV) (m.map byV) hs hown ao c (by rw [List.length_map]; exact hx) hn hc ?_ (by simp; omega) hbase ?_
  · intro y hy
    obtain ⟨z, _, rfl⟩ := List.mem_map.1 hy
    rfl
  · intro v' w' h1 h2
    exact h v' w' (by unfold OwnB; rw [List.map_append]; exact h1) h2
theorem OwnB.shape {w : World} {base : Nat} {v : Value} {l : List UInt8} (h : OwnB w base v l) : ∃ ao cap, v = .slice ao l.length cap := by
  have := OwnV.shape h; rw [List.length_map] at this; exact this
theorem bs_app (a b : List UInt8) : bs a ++ bs b = bs (a ++ b) := by
  apply ba_ext
  rw [bs_list, ByteArray.toList_eq, ByteArray.data_append]; simp [bs]
theorem rowB_lit (w : World) (T : TypeId) (l : List UInt8) : RowB (w.alloc (.cells (l.map byV).toArray T)) (some ⟨w.heap.size, 0, none⟩) l := by
  refine RowV.block (by simp) fun i x hx => ?_
  rw [World.cell?_alloc_at _ _ _ _ rfl, Nat.zero_add]
  simpa using hx
theorem RowB.conv' {w : World} {ao : Option Addr} {l : List UInt8} (h : RowB w ao l) (c : Nat) : (convert 72 9 (.slice ao l.length c)).run Try.prog w = .ok (.string (bs l)) w :=
  h.conv c fun e => by
    subst e
    cases l with
    | nil => rfl
    | cons b l => obtain ⟨_, _, e, _⟩ := h 0 _ rfl; cases e
theorem OwnB.made (w : World) (base : Nat) (h : base ≤ w.heap.size) : OwnB (w.alloc (.cells #[] 5)) base (.slice (some ⟨w.heap.size, 0, none⟩) 0 0) [] :=
  ⟨rfl, .inr ⟨w.heap.size, 0, #[], rfl, h, by unfold World.alloc; simp, by simp, by unfold maxLen; omega, rfl, rfl⟩⟩
theorem OwnV.nilcap {w : World} {base : Nat} {T : TypeId} {ao : Option Addr} {n c : Nat} {L : List Value} (h : OwnV w base T (.slice ao n c) L) : ao = none → c = 0 := by
  rintro rfl
  rcases h.2 with ⟨e, _⟩ | ⟨g, cap, cur, e, _⟩
  · injection e
  · injection e with e1; cases e1
theorem OwnV.cap {w : World} {base : Nat} {T : TypeId} {ao : Option Addr} {n c : Nat} {L : List Value} (h : OwnV w base T (.slice ao n c) L) : L.length ≤ c := by
  rcases h.2 with ⟨_, e⟩ | ⟨g, cap, cur, e, _, _, h4, _⟩
  · omega
  · injection e with _ _ e3
    omega
/-- bytes, checksums and records that came in. -/
structure IsB (w : World) (a : Option Addr) (len cap : Nat) (l : List UInt8) : Prop where
  hrow : RowB w a l
  hlen : l.length = len
  hmax : len ≤ maxLen
  hnil : a = none → cap = 0
  hcap : len ≤ cap ∧ cap ≤ maxLen
theorem u8_bd {a : Int} (h : (Lit.int .u8 a).wf = true) : 0 ≤ a ∧ a < 256 := by
  simp [Lit.wf, IntKind.min, IntKind.max, IntKind.signed, IntKind.bits] at h; omega
theorem lt_of_cell' {w : World} {p : Addr} {v : Value} (h : w.cell? p = some v) : p.block < w.heap.size := by
  rcases Nat.lt_or_ge p.block w.heap.size with hl | hl
  · exact hl
  · simp [World.cell?, Array.getElem?_eq_none hl] at h
/-- values at an address that came in. -/
theorem row_at {w : World} {a : Addr} {L : List Value} (h : ∀ i x, L[i]? = some x → w.cell? (a.add i) = some x) : RowV w (some a) L := by
  intro i x hx
  have h0 := h i x hx
  obtain ⟨b, off, spot⟩ := a
  cases spot with
  | none =>
    rw [addr_is] at h0
    exact ⟨b, off, rfl, lt_of_cell' h0, h0⟩
  | some s =>
    have hl : 0 < L.length := by have := (List.getElem?_eq_some_iff.1 hx).1; omega
    have hsp := World.cell?_spot (h 0 L[0] (List.getElem?_eq_getElem hl))
    simp [Addr.add] at hsp
theorem rowB_z {w : World} {A : Option Addr} {L C : Nat} {Z : List Int} (hl : L ≤ C) (hm : C ≤ maxLen) (hz : Z.length = C) (hw : ∀ n ∈ Z, (Lit.int .u8 n).wf = true) (h0 : A = none → C = 0)
    (hc : ∀ a', A = some a' → ∀ c, c < C → w.cell? (a'.add c) = some (.int .u8 (Z.getD c 0))) : ∃ l : List UInt8, RowB w A l ∧ l.length = L := by
  refine ⟨(Z.take L).map byI, ?_, by simp; omega⟩
  cases A with
  | none =>
    obtain rfl : L = 0 := by have := h0 rfl; omega
    intro i x hx; simp at hx
  | some a =>
    refine row_at fun i x hx => ?_
    rw [List.map_map, List.getElem?_map] at hx
    obtain ⟨z, hz1, rfl⟩ := Option.map_eq_some_iff.1 hx
    have hi : i < L := by have := (List.getElem?_eq_some_iff.1 hz1).1; simp at this; omega
    have hzi : Z[i]? = some z := by rw [List.getElem?_take] at hz1; rw [if_pos hi] at hz1; exact hz1
    rw [hc a rfl i (by omega), List.getD_eq_getElem?_getD, hzi]
    have := u8_bd (hw z (List.mem_of_getElem? hzi))
    show some (Value.int .u8 z) = some (byV (byI z))
    unfold byV
    rw [byI_val this.1 this.2]
section
variable {H : Type} {enc : TypeId × Value → H} {w : World} {base : Nat}
theorem rowB_of {fuel : Nat} {c : Value} {x : DataW H × List MemPlace} (h : DataW.trod enc Try.prog w base (fun _ => true) true fuel 72 [c] = some x) : ∃ A len cap l, c = .slice A len cap ∧ IsB w A len cap l := by
  rcases open_ints Try.underlying72 Try.underlying5 (by kernel_rfl) h with ⟨hcs, _⟩ | ⟨a, l, cc, zs, hcs, _, hl, hm, hz, _, hcell, hwz⟩
  · simp at hcs
    exact ⟨none, 0, 0, [], hcs, ⟨RowV.nil _ _, rfl, by unfold maxLen; omega, fun _ => rfl, by unfold maxLen; omega⟩⟩
  · simp at hcs
    have hz' : zs.length = cc := by simpa using hz
    obtain ⟨m, hr, hlen⟩ := rowB_z (w := w) (A := some a) hl hm hz' hwz (fun e => by cases e) (fun a' e c hc => by injection e with e; subst e; exact hcell c (by omega))
    exact ⟨some a, l, cc, m, hcs, ⟨hr, hlen, by omega, (fun e => by cases e), ⟨hl, hm⟩⟩⟩
theorem rowB_in {A : Option Addr} {len cap : Nat} {d : DataW H} {p : List MemPlace} (h : DataW.Trod enc Try.prog w base (fun _ => true) true 72 (.slice A len cap) d p) : ∃ l : List UInt8, IsB w A len cap l := by
  obtain ⟨fuel, hf⟩ := h
  obtain ⟨A', len', cap', l, hv, hw⟩ := rowB_of (c := .slice A len cap) hf
  injection hv with e1 e2 e3
  subst e1 e2 e3
  exact ⟨l, hw⟩
end
end Go.Proofs.Ytlndomnampcnfaa
