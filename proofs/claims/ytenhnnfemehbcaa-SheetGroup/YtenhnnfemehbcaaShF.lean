/- Cells sorted and cloned by package sheet. No conditions. -/
import Derived.Test.YtenhnnfemehbcaaShD
import Derived.Test.YtenhnnfemehbcaaGrp
import Derived.Test.YtenhnnfemehbcaaShelfS
import Derived.Shelf.SlSortCmp.NoneTotal
import Derived.Lib.SliceRun
namespace Go.Proofs.Ytenhnnfemehbcaa
open Go.RowKit Go.Sort
set_option linter.unusedVariables false
set_option linter.unusedSimpArgs false

def cfK (x y : Cl) : Int := cmpK x.1 y.1
theorem lt_key (x y : Cl) : ltOf cfK x y = decide (cmpK x.1 y.1 < 0) := rfl
theorem swoK : SWO (ltOf cfK) where
  irrefl x := by rw [lt_key, cmpK_self]; rfl
  trans x y z h1 h2 := by
    rw [lt_key] at *
    simp at *
    exact cmpK_lt h1 (by omega)
  ntrans x y z h1 h2 := by
    rw [lt_key] at *
    simp at *
    have a1 := cmpK_swap x.1 y.1
    have a2 := cmpK_swap y.1 z.1
    have a3 := cmpK_swap x.1 z.1
    have := cmpK_trans (a := z.1) (b := y.1) (c := x.1) (by omega) (by omega)
    omega
set_option maxRecDepth 100000 in
set_option maxHeartbeats 1000000 in
theorem byKey7_any (a1 a2 a3 a4 a5 b1 b2 b3 b4 b5 : ByteArray) (m n r s : Int) (w : World) :
    Calls Try.prog 42 #[.agg #[.string a1, .string a2, .string a3, .string a4, .string a5, .int .i64 m, .int .i64 n], .agg #[.string b1, .string b2, .string b3, .string b4, .string b5, .int .i64 r, .int .i64 s]] w fun e w' => e = .returned (.int .i64 (cmpK (a1, a2, a3, a4, a5) (b1, b2, b3, b4, b5))) ∧ Gb w w' := by
  have HC := Lib.hid (fun W => cmp5_any a1 a2 a3 a4 a5 b1 b2 b3 b4 b5 W)
  generalize cmpK (a1, a2, a3, a4, a5) (b1, b2, b3, b4, b5) = V at *
  have hp := Q7.alloc w (.string a1) (.string a2) (.string a3) (.string a4) (.string a5) (.int .i64 m) (.int .i64 n) 37
  have g1 := Gb.alloc w (Obj.cells #[.string a1, .string a2, .string a3, .string a4, .string a5, .int .i64 m, .int .i64 n] 37)
  have g2 := Gb.alloc (w.alloc (Obj.cells #[.string a1, .string a2, .string a3, .string a4, .string a5, .int .i64 m, .int .i64 n] 37)) (Obj.cells #[.string b1, .string b2, .string b3, .string b4, .string b5, .int .i64 r, .int .i64 s] 37)
  have hq := Q7.alloc (w.alloc (Obj.cells #[.string a1, .string a2, .string a3, .string a4, .string a5, .int .i64 m, .int .i64 n] 37)) (.string b1) (.string b2) (.string b3) (.string b4) (.string b5) (.int .i64 r) (.int .i64 s) 37
  rw [World.size_alloc] at hq
  have hp2 := hp.below g2.b
  have x0 := hp2.c0
  have x1 := hp2.c1
  have x2 := hp2.c2
  have x3 := hp2.c3
  have x4 := hp2.c4
  have y0 := hq.c0
  have y1 := hq.c1
  have y2 := hq.c2
  have y3 := hq.c3
  have y4 := hq.c4
  have HG := Lib.hid (g1.trans g2)
  clear hp hq hp2 g1 g2
  go_enter Try.func42, Try.ntmps42
  go_wp2_with fail
  refine (HC.out _).mono ?_
  rintro e w1 ⟨rfl, hg⟩
  have HG1 := Lib.hid (HG.out.trans hg)
  clear hg
  go_wp2
  go_ret
  exact ⟨rfl, HG1.out⟩
theorem byKey_any (x y : Cl) (w : World) : Calls Try.prog 42 #[.agg (clC x).toArray, .agg (clC y).toArray] w fun e w' => e = .returned (.int .i64 (cfK x y)) ∧ Gb w w' := by
  obtain ⟨⟨a1, a2, a3, a4, a5⟩, m, n⟩ := x
  obtain ⟨⟨b1, b2, b3, b4, b5⟩, r, s⟩ := y
  exact byKey7_any a1 a2 a3 a4 a5 b1 b2 b3 b4 b5 m n r s w
instance : Inhabited Cl := ⟨((⟨#[]⟩, ⟨#[]⟩, ⟨#[]⟩, ⟨#[]⟩, ⟨#[]⟩), 0, 0)⟩
theorem cmpLaysS (blk off size : Nat) (w : World) : CmpLays Try.prog 42 #[] clC 7 cfK blk off size w := fun _ _ _ _ x y =>
  (byKey_any x y _).mono fun _ _ h => ⟨h.1, h.2.grows⟩
/-- sorted by their keys. -/
def SrtC (S : List Cl) : Prop := S.Pairwise (fun x y => cmpK x.1 y.1 ≤ 0)
theorem sort_any (b c : Nat) (L : List Cl) (w : World) (hH : HoldsK clC 7 w b 0 L.toArray) (hb : b < w.heap.size) (hl : L.length ≤ 10000) :
    Calls Try.prog 57 #[.slice (some ⟨b, 0, none⟩) L.length c, .func (.func 42) #[] #[]] w fun e w' => e = .returned (.tuple #[]) ∧ ∃ S, S.Perm L ∧ SrtC S ∧ HoldsK clC 7 w' b 0 S.toArray ∧ w.grownBy w' (some b) := by
  have eg : ∀ args w, (callFunc 42 args).run Try.prog w = .ok (.enter 42 args) w := enters_of Try.func42 (by kernel_rfl) rfl
  have hcon := AnyQ.slices_SortFunc Try.sortCells 7 Try.isAgg37 Try.sizeOf37 clC clC_len clC_one cfK swoK 42 #[] b 0 c L.toArray w eg (cmpLaysS b 0 _ w) hH (by omega) (by simp; omega)
  change Calls Try.prog 57 _ _ _ at hcon
  rw [show L.toArray.size = L.length from by simp] at hcon
  refine hcon.mono ?_
  rintro e w' ⟨rfl, d', nn, os, hpm, hst, rfl⟩
  obtain ⟨S, q1, q2, q3⟩ := sorted_row (m := nn) (os := os) hH hb (by simpa using hpm) (by simpa using hst)
  refine ⟨rfl, S, q1, ?_, q3, sorted_grown w b 0 nn d' os hb⟩
  refine q2.imp ?_
  intro x y h
  rw [lt_key] at h
  have := cmpK_swap x.1 y.1
  simp at h
  omega
theorem sort_none (p : Option Addr) (c : Nat) (w : World) :
    Calls Try.prog 57 #[.slice p 0 c, .func (.func 42) #[] #[]] w fun e w' => e = .returned (.tuple #[]) ∧ w' = w :=
  AnyF.slices_SortFunc_none Try.sortCells p c _ w
theorem cells_at {L : List Cl} {j : Nat} {u : Value} (h : (L.flatMap clC)[j]? = some u) : ∃ i k, ∃ hi : i < L.length, j = i * 7 + k ∧ (clC L[i])[k]? = some u := by
  have hj : j < L.length * 7 := by rw [← flatS_len L]; exact (List.getElem?_eq_some_iff.1 h).1
  have hi : j / 7 < L.length := by omega
  refine ⟨j / 7, j % 7, hi, by omega, ?_⟩
  rw [← flatMap_at (cs := clC) (K := 7) clC_len L (j / 7) (j % 7) hi (by omega), show j / 7 * 7 + j % 7 = j by omega]
  exact h
theorem RowS.cells {w : World} {ad : Addr} {L : List Cl} (h : RowS w (some ad) L) : ∀ j u, (L.flatMap clC)[j]? = some u → w.cell? (ad.add j) = some u := by
  intro j u hj
  obtain ⟨i, k, hi, rfl, hk⟩ := cells_at hj
  obtain ⟨b, off, e, _, hc⟩ := h (by omega)
  cases Option.some.inj e
  rw [addr_is, ← Nat.add_assoc]
  exact hc i hi k u hk
theorem cells_one {L : List Cl} : ∀ u ∈ L.flatMap clC, u.oneCell' = true := by
  intro u hu
  obtain ⟨x, _, hx⟩ := List.mem_flatMap.1 hu
  exact clC_one x u hx
set_option maxRecDepth 100000 in
set_option maxHeartbeats 1000000 in
theorem clone_any (A : Option Addr) (c : Nat) (L : List Cl) (w : World) (hR : RowS w A L) (hl : L.length ≤ 2000) :
    Calls Try.prog 51 #[.slice A L.length c] w fun e w' => ∃ v, e = .returned v ∧ OwnS w' w.heap.size v L ∧ Below w.heap.size w w' := by
  obtain ⟨i0, hi, hz0, hz1, hz2⟩ := info_parts inf_cell
  have qnil : ∀ (w : World) (a : Option Addr) (n c : Nat), (binOp .eql 28 (.slice a n c) (.slice none 0 0)).run Try.prog w = .ok (.bool a.isNone) w := fun w a n c => Lib.run_eql_slice_nil w _ _ a n c 0 0 und_cells
  have HO := Lib.hid (World.ownsRow_made (e := 37) (size := 7) (base := w.heap.size) w #[] 0 (Nat.le_refl _) (by decide) rfl)
  have HB0 := Lib.hid ((Below.refl w.heap.size w).alloc (Nat.le_refl _) (Obj.cells #[] 37))
  have HR := Lib.hid (hR.below ((Below.refl w.heap.size w).alloc (Nat.le_refl _) (Obj.cells #[] 37)))
  cases A with
  | none =>
    have e : L = [] := by
      cases L with
      | nil => rfl
      | cons x r => obtain ⟨b, off, e, _⟩ := hR (by simp); cases e
    subst e
    clear hR HO HB0 HR
    go_enter Try.func51, Try.ntmps51
    go_wp2
    go_ret
    exact ⟨_, rfl, OwnS.nil _ _, Below.refl _ _⟩
  | some ad =>
    clear hR
    go_enter Try.func51, Try.ntmps51
    go_wp2_with (at_builtin; (refine wpList_append_own_at _ rfl (.tmp 5) (.tmp 6) _ rfl w.heap.size 37 i0 _ 7 96 und_cells hi hz0 hz1 hz2 rfl (by decide) _ 0 [] rfl HO.out ad L.length c (L.flatMap clC) rfl (flatS_len L) HR.out.cells cells_one ?qc ?qd ?qe ?qf))
    case qc => unfold maxLen; omega
    case qd => omega
    case qe => simp
    intro v' w2 hown hgr _ _
    have HO2 := Lib.hid (show OwnS w2 w.heap.size v' L from by unfold OwnS; simpa using hown)
    have HB := Lib.hid (HB0.out.grown hgr (by simp) (by intro k hk; simp [Value.ownBlock] at hk; omega))
    clear hown hgr
    go_wp2
    go_ret
    exact ⟨v', rfl, HO2.out, HB.out⟩
end Go.Proofs.Ytenhnnfemehbcaa
