/- Cells put behind one another; Add of both packages. Written by wip/mk_sih.py. -/
import Derived.Test.YtenhnnfemehbcaaSiF
import Derived.Test.YtenhnnfemehbcaaSiQ
import Derived.Lib.AppendZeros
namespace Go.Proofs.Ytenhnnfemehbcaa
open Go.RowKit Go.Sort
set_option linter.unusedVariables false
set_option linter.unusedSimpArgs false

theorem OwnS.shape2 {w : World} {base : Nat} {v : Value} {L : List Cl} (h : OwnS w base v L) : ∃ ao cap, v = .slice ao L.length cap ∧ RowS w ao L ∧ (ao = none → cap = 0) := by
  obtain ⟨ao, cap, e, _, _, hr, q⟩ := h.shape
  refine ⟨ao, cap, e, hr, fun z => ?_⟩
  rcases q with ⟨f, _⟩ | ⟨g, f, _⟩
  · rw [e] at f
    injection f
  · rw [z] at f; cases f
theorem own_room (w : World) (cap : Nat) (cur : Array Value) (base : Nat) (hb : base ≤ w.heap.size) (hm : cap ≤ maxLen) (hc : cur.size = cap * 7) : OwnS (w.alloc (.cells cur 37)) base (.slice (some ⟨w.heap.size, 0, none⟩) 0 cap) [] :=
  ⟨rfl, .inr ⟨w.heap.size, cap, cur, rfl, hb, heap_alloc_new w _, Nat.zero_le _, hm, hc, by simp⟩⟩
theorem zero_len (z : List Value) : ∀ n, (Builtin.zeroCells z.toArray n).size = n * z.length := by
  intro n
  simp [Builtin.zeroCells, Nat.mul_comm]
set_option maxRecDepth 100000 in
set_option maxHeartbeats 2000000 in
theorem grow_any (n : Nat) (w : World) (hn : n ≤ 4000) :
    Calls Try.prog 59 #[.slice none 0 0, .int .i64 n] w fun e w' => ∃ v, e = .returned v ∧ OwnS w' w.heap.size v [] ∧ Below w.heap.size w w' := by
  by_cases h0 : n = 0
  · subst h0
    go_enter Try.func59, Try.ntmps59
    go_wp2
    go_ret
    exact ⟨_, rfl, OwnS.nil _ _, Below.refl _ _⟩
  · obtain ⟨i0, hi, hz0, hz1, hz2⟩ := info_parts inf_cell
    have hrz := fun ty => Lib.run_append_nil_zeros (P := Try.prog) w 28 3 ty 37 i0 _ .i64 .i64 und_cells Try.underlying3 hi hz0 n (by omega) (by rw [hz1]; decide) (by omega) (by rw [hz2]; omega)
    have hG1 := grownCap_ge w n 0 37
    have hG2 := grownCap_le_maxLen w n 0 37 (by unfold maxLen; omega)
    have HRm := Lib.hid (fun X (cur : Array Value) (hc : cur.size = X * 7) (hX : X ≤ maxLen) => own_room w.drew X cur w.heap.size (Nat.le_refl _) hX hc)
    have HBa := Lib.hid (fun o => ((Below.refl w.heap.size w).drew.alloc (show w.heap.size ≤ w.drew.heap.size from Nat.le_refl _) o))
    have hsz : ∀ X, n ≤ X → (Builtin.zeroCells (Value.agg #[.string ⟨#[]⟩, .string ⟨#[]⟩, .string ⟨#[]⟩, .string ⟨#[]⟩, .string ⟨#[]⟩, .int .i64 0, .int .i64 0]).cells n ++ Builtin.zeroCells (Value.agg #[.string ⟨#[]⟩, .string ⟨#[]⟩, .string ⟨#[]⟩, .string ⟨#[]⟩, .string ⟨#[]⟩, .int .i64 0, .int .i64 0]).cells (X - n)).size = X * 7 := by
      intro X hX
      have e : ∀ k, (Builtin.zeroCells (Value.agg #[.string ⟨#[]⟩, .string ⟨#[]⟩, .string ⟨#[]⟩, .string ⟨#[]⟩, .string ⟨#[]⟩, .int .i64 0, .int .i64 0]).cells k).size = k * 7 := fun k => by simp [Builtin.zeroCells, Value.cells, Nat.mul_comm]
      rw [Array.size_append, e, e]
      omega
    generalize grownCap w n 0 37 = G at *
    have HX := Lib.hid (HRm.out G _ (hsz G hG1) hG2)
    clear hsz HRm
    unfold maxLen at hG2
    go_enter Try.func59, Try.ntmps59
    go_wp2_with (at_builtin; refine Lib.wpList_append_run _ rfl _ _ _ _ rfl _ _ rfl rfl _ _ (hrz _) ?_)
    go_ret
    exact ⟨_, rfl, HX.out, HBa.out _⟩
end Go.Proofs.Ytenhnnfemehbcaa
