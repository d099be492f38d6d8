/- What Of of package tax returns: plain facts. Written by wip/mk_txf.py. -/
import Derived.Test.YtelahgmnkhkgkaaTxE
namespace Go.Proofs.Ytelahgmnkhkgkaa
open Go.RowKit Go.Sort
set_option linter.unusedVariables false
set_option linter.unusedSimpArgs false

def valC (C : List Cd) (s : ByteArray) : Cd := C.getD (lowC C s) nC
def nt1 (way m : Int) (C : List Cd) (x : Ln) : Int × Int := divV way x.1 (valC C x.2).2.2.1 (valC C x.2).2.2.2 m
def z0 : Sm := (⟨#[]⟩, 0, 0)
def gF (way m : Int) (C : List Cd) (g : List UInt8 → Option Sm) (x : Ln) : List UInt8 → Option Sm :=
  if x.2.toList.isEmpty = true then g else updS g x.2.toList (x.2, ((g x.2.toList).getD z0).2.1 + (nt1 way m C x).1, ((g x.2.toList).getD z0).2.2 + (nt1 way m C x).2)
def gK (way m : Int) (C : List Cd) (L : List Ln) : List UInt8 → Option Sm := L.foldl (gF way m C) (fun _ => none)
def ntF (way m : Int) (C : List Cd) (x : Ln) : Int := if x.2.toList.isEmpty = true then x.1 else (nt1 way m C x).1
def ntK (way m : Int) (C : List Cd) (L : List Ln) : List Int := L.map (ntF way m C)
theorem gK_more {way m : Int} {C : List Cd} {L : List Ln} {k : Nat} (h : k < L.length) : gK way m C (L.take (k + 1)) = gF way m C (gK way m C (L.take k)) L[k] := by
  unfold gK; rw [List.take_succ_eq_append_getElem h, List.foldl_append]; rfl
theorem ntK_more {way m : Int} {C : List Cd} {L : List Ln} {k : Nat} (h : k < L.length) : ntK way m C (L.take (k + 1)) = ntK way m C (L.take k) ++ [ntF way m C L[k]] := by
  unfold ntK; rw [List.take_succ_eq_append_getElem h, List.map_append]; rfl
def BdG (k : Nat) (g : List UInt8 → Option Sm) : Prop := ∀ s a, g s = some a → (-(2000000000000 * (k : Int)) ≤ a.2.1 ∧ a.2.1 ≤ 2000000000000 * (k : Int)) ∧ (-(2000000000000 * (k : Int)) ≤ a.2.2 ∧ a.2.2 ≤ 2000000000000 * (k : Int))
theorem BdG.nil : BdG 0 (fun _ => none) := fun s a h => by cases h
theorem BdG.get {k : Nat} {g : List UInt8 → Option Sm} (h : BdG k g) (s : List UInt8) : (-(2000000000000 * (k : Int)) ≤ ((g s).getD z0).2.1 ∧ ((g s).getD z0).2.1 ≤ 2000000000000 * (k : Int)) ∧ (-(2000000000000 * (k : Int)) ≤ ((g s).getD z0).2.2 ∧ ((g s).getD z0).2.2 ≤ 2000000000000 * (k : Int)) := by
  cases q : g s with
  | none => simp [z0]; omega
  | some a => exact h s a q
theorem arg_zero {x n d m : Int} (hm : modeB m = true) (hr : rateB n d = true) (h1 : -1000000000000 ≤ x) (h2 : x ≤ 1000000000000) : argE x n d m = 0 := by
  unfold argE
  rw [hm, hr, if_neg (by decide), if_neg (by decide), if_neg]
  unfold withB
  simp; omega
theorem div_bd {way x n d m : Int} (hm : modeB m = true) (hr : rateB n d = true) (h1 : -1000000000000 ≤ x) (h2 : x ≤ 1000000000000) :
    (-2000000000000 ≤ (divV way x n d m).1 ∧ (divV way x n d m).1 ≤ 2000000000000) ∧ (-2000000000000 ≤ (divV way x n d m).2 ∧ (divV way x n d m).2 ≤ 2000000000000) := by
  have ha := arg_zero (x := x) hm hr h1 h2
  obtain ⟨⟨m1, m2⟩, ⟨e1, e2, e3, e4⟩, e5, e6⟩ := arg_ok ha
  have q1 := (md_rate (x := x) (n := n) (c := d) m1 m2 e1 e3 e4 (by omega) (by omega)).2.1
  have q2 := (md_rate (x := x) (n := n) (c := n + d) m1 m2 (by omega) e3 (by omega) (by omega) (by omega)).2.1
  have ho : onV x n d m = mdV x n d m := if_pos ha
  have hi : inV x n d m = (x - (mdV x n (n + d) m).1, (mdV x n (n + d) m).1, 0) := if_pos ha
  unfold divV
  rw [ho, hi]
  unfold absI at q1 q2
  split
  · simp only []
    split at q1 <;> split at q1 <;> omega
  · split
    · simp only []
      split at q2 <;> split at q2 <;> omega
    · simp only []; omega
/-- a line that has passed the check. -/
theorem line_ok {C : List Cd} {x : Ln} (h : lnE C x = 0) : (-1000000000000 ≤ x.1 ∧ x.1 ≤ 1000000000000) ∧ (x.2.toList.isEmpty = true ∨ atC C x.2 = true) := by
  unfold lnE at h
  split at h
  · omega
  · rename_i a
    split at h
    · omega
    · rename_i b
      refine ⟨?_, ?_⟩
      · unfold withB at a; simp at a; omega
      · cases q : x.2.toList.isEmpty
        · right
          cases z : atC C x.2
          · exact absurd ⟨q, z⟩ b
          · rfl
        · left; rfl
theorem val_rate {C : List Cd} (hC : codesB C = true) {s : ByteArray} (h : atC C s = true) : rateB (valC C s).2.2.1 (valC C s).2.2.2 = true := by
  obtain ⟨hi, _⟩ := at_is h
  unfold valC
  rw [getC hi]
  exact (codes_one hC hi).2
theorem gF_bd {way m : Int} {C : List Cd} {k : Nat} {g : List UInt8 → Option Sm} {x : Ln} (hg : BdG k g) (hm : modeB m = true) (hC : codesB C = true) (hx : lnE C x = 0) : BdG (k + 1) (gF way m C g x) := by
  obtain ⟨⟨h1, h2⟩, h3⟩ := line_ok hx
  intro s a h
  unfold gF at h
  split at h
  · have := hg s a h; omega
  · rename_i hne
    have hat : atC C x.2 = true := by
      rcases h3 with q | q
      · exact absurd q hne
      · exact q
    have hd := div_bd (way := way) (x := x.1) hm (val_rate hC hat) h1 h2
    unfold updS at h
    split at h
    · cases h
      have := hg.get x.2.toList
      unfold nt1
      simp only []
      omega
    · have := hg s a h; omega
theorem gK_bd {way m : Int} {C : List Cd} {L : List Ln} (hm : modeB m = true) (hC : codesB C = true) (hL : ∀ x ∈ L, lnE C x = 0) : ∀ k, k ≤ L.length → BdG k (gK way m C (L.take k))
  | 0, _ => by rw [List.take_zero]; exact BdG.nil
  | k + 1, hk => by
    rw [gK_more (show k < L.length by omega)]
    exact gF_bd (gK_bd hm hC hL k (by omega)) hm hC (hL _ (List.getElem_mem _))
def errO (C : List Cd) (L : List Ln) (way m : Int) : Int := if (way < 1 ∨ 3 < way) ∨ modeB m = false then 10 else if codesB C = false then 2 else if 200 < L.length then 9 else linesE C L
def ofN (C : List Cd) (L : List Ln) (way m : Int) : List Int := if errO C L way m = 0 then ntK way m C L else []
def ofS (C : List Cd) (L : List Ln) (way m : Int) : List Sm := if errO C L way m = 0 then inO way m (gK way m C L) C else []
theorem errO_ok {C : List Cd} {L : List Ln} {way m : Int} (h : errO C L way m = 0) : (1 ≤ way ∧ way ≤ 3) ∧ modeB m = true ∧ codesB C = true ∧ L.length ≤ 200 ∧ linesE C L = 0 := by
  unfold errO at h
  split at h
  · omega
  · rename_i a
    split at h
    · omega
    · rename_i b
      split at h
      · omega
      · rename_i c
        refine ⟨by omega, ?_, by simpa using b, by omega, h⟩
        cases q : modeB m
        · exact absurd (.inr q) a
        · rfl
theorem lt_cell {w : World} {p : Addr} {v : Value} (h : w.cell? p = some v) : p.block < w.heap.size := by
  rcases Nat.lt_or_ge p.block w.heap.size with k | k
  · exact k
  · simp [World.cell?, Array.getElem?_eq_none k] at h
theorem OwnI.nil (w : World) (base : Nat) : OwnI w base (.slice none 0 0) [] := OwnV.nil _ _ _
theorem OwnI.shape {w : World} {base : Nat} {v : Value} {l : List Int} (h : OwnI w base v l) : ∃ ao cap, v = .slice ao l.length cap := by
  have := OwnV.shape h; rw [List.length_map] at this; exact this
theorem OwnI.below {w w' : World} {base : Nat} {v : Value} {l : List Int} (h : OwnI w base v l) (hb : Below w.heap.size w w') : OwnI w' base v l := OwnV.below h hb
theorem OwnI.lower {w : World} {base base' : Nat} {v : Value} {l : List Int} (h : OwnI w base v l) (hb : base' ≤ base) : OwnI w base' v l := by
  refine ⟨h.1, ?_⟩
  rcases h.2 with x | ⟨g, cap, cur, e1, e2, e3, e4⟩
  · exact .inl x
  · exact .inr ⟨g, cap, cur, e1, Nat.le_trans hb e2, e3, e4⟩
theorem OwnI.lt {w : World} {base : Nat} {v : Value} {l : List Int} (h : OwnI w base v l) : ∀ k, v.ownBlock = some k → base ≤ k ∧ k < w.heap.size := World.ownsRow.lt h
set_option maxRecDepth 100000 in
/-- an integer appended; what else the heap holds stays. -/
theorem wpList_intG {w : World} {ops : Array Oper} {rest : List Oper} {o : Oper} {a : Act} {Q : Exit → Act → World → Prop} (hgd : o.guard = none) (s x : Operand)
    (ho : o.op = .call { callee := .builtin .append, args := #[s, x], argTypes := #[39, 39] })
    (base : Nat) (v : Value) (l : List Int) (y : Int) (hs : a.eval s = v) (hown : OwnI w base v l) (ad : Addr) (c : Nat) (hx : a.eval x = .slice (some ad) 1 c) (hc : RowV w (some ad) [inV1 y])
    (hl : l.length < 10000) (hbase : base ≤ w.heap.size)
    (h : ∀ v' w', OwnI w' base v' (l ++ [y]) → w.grownBy w' v.ownBlock → wpList Try.prog ops Q rest (a.put o.dst v') w') : wpList Try.prog ops Q (o :: rest) a w := by
  obtain ⟨i0, hi, hz0, hz1, hz2⟩ := info_parts inf_int
  refine wpList_append_own w hgd s x _ ho base _ i0 (.int .i64 0) 1 8 und_ints hi hz0 hz1 hz2 (by kernel_rfl) (by decide) v _ _ hs hown ad 1 c [inV1 y] hx rfl ?_ ?_ ?_ ?_ hbase ?_
  · intro j u hu
    obtain ⟨bb, off, e, _, q⟩ := hc j u hu
    have e := Option.some.inj e
    subst e
    rw [addr_is]; exact q
  · intro u hu; simp at hu; subst hu; rfl
  · unfold maxLen; rw [List.length_map]; omega
  · rw [List.length_map]; omega
  · intro v' w' h1 h2 _
    exact h v' w' (by unfold OwnI; rw [List.map_append]; unfold OwnV; rw [List.length_append]; exact h1) h2
theorem OwnI.kept {w w' : World} {base b : Nat} {v : Value} {l : List Int} (h : OwnI w base v l) (hg : w.grownBy w' (some b)) (hm : b < base) : OwnI w' base v l := by
  refine ⟨h.1, ?_⟩
  rcases h.2 with q | ⟨g, cap, cur, e1, e2, e3, e4⟩
  · exact .inl q
  · exact .inr ⟨g, cap, cur, e1, e2, (hg.block g (lt_of_block e3) (by intro e; injection e with e; omega)).trans e3, e4⟩
end Go.Proofs.Ytelahgmnkhkgkaa
