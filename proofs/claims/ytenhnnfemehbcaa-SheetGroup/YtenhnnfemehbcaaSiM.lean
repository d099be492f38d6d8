/- A key with the fields of a mask, by the reference: for each mask. Written by wip/mk_sim.py. -/
import Derived.Test.YtenhnnfemehbcaaShN
namespace Go.Proofs.Ytenhnnfemehbcaa
open Go.RowKit Go.Sort
set_option linter.unusedVariables false
set_option linter.unusedSimpArgs false

theorem rMasked_0 (a1 a2 a3 a4 a5 : ByteArray) (w : World) : Calls Try.prog 53 #[.agg #[.string a1, .string a2, .string a3, .string a4, .string a5], .int .i64 0] w fun e w' => e = .returned (.agg #[.string ⟨#[]⟩, .string ⟨#[]⟩, .string ⟨#[]⟩, .string ⟨#[]⟩, .string ⟨#[]⟩]) ∧ Below w.heap.size w w' := by
  go_enter Try.func53, Try.ntmps53
  go_wp2
  (try simp only [Exit.inBlock, Exit.then])
  refine bodyPost_ret (v := .agg #[.string ⟨#[]⟩, .string ⟨#[]⟩, .string ⟨#[]⟩, .string ⟨#[]⟩, .string ⟨#[]⟩]) ?_ rfl ⟨rfl, ?_⟩
  · rw [results_cell_one rfl]
    go_simp
  · (refine Below.alloc (Below.alloc (Below.alloc (Below.refl _ _) ?_ _) ?_ _) ?_ _) <;> simp <;> omega
theorem rMasked_1 (a1 a2 a3 a4 a5 : ByteArray) (w : World) : Calls Try.prog 53 #[.agg #[.string a1, .string a2, .string a3, .string a4, .string a5], .int .i64 1] w fun e w' => e = .returned (.agg #[.string a1, .string ⟨#[]⟩, .string ⟨#[]⟩, .string ⟨#[]⟩, .string ⟨#[]⟩]) ∧ Below w.heap.size w w' := by
  go_enter Try.func53, Try.ntmps53
  go_wp2
  (try simp only [Exit.inBlock, Exit.then])
  refine bodyPost_ret (v := .agg #[.string a1, .string ⟨#[]⟩, .string ⟨#[]⟩, .string ⟨#[]⟩, .string ⟨#[]⟩]) ?_ rfl ⟨rfl, ?_⟩
  · rw [results_cell_one rfl]
    go_simp
  · (refine Below.alloc (Below.alloc (Below.alloc (Below.refl _ _) ?_ _) ?_ _) ?_ _) <;> simp <;> omega
theorem rMasked_2 (a1 a2 a3 a4 a5 : ByteArray) (w : World) : Calls Try.prog 53 #[.agg #[.string a1, .string a2, .string a3, .string a4, .string a5], .int .i64 2] w fun e w' => e = .returned (.agg #[.string ⟨#[]⟩, .string a2, .string ⟨#[]⟩, .string ⟨#[]⟩, .string ⟨#[]⟩]) ∧ Below w.heap.size w w' := by
  go_enter Try.func53, Try.ntmps53
  go_wp2
  (try simp only [Exit.inBlock, Exit.then])
  refine bodyPost_ret (v := .agg #[.string ⟨#[]⟩, .string a2, .string ⟨#[]⟩, .string ⟨#[]⟩, .string ⟨#[]⟩]) ?_ rfl ⟨rfl, ?_⟩
  · rw [results_cell_one rfl]
    go_simp
  · (refine Below.alloc (Below.alloc (Below.alloc (Below.refl _ _) ?_ _) ?_ _) ?_ _) <;> simp <;> omega
theorem rMasked_3 (a1 a2 a3 a4 a5 : ByteArray) (w : World) : Calls Try.prog 53 #[.agg #[.string a1, .string a2, .string a3, .string a4, .string a5], .int .i64 3] w fun e w' => e = .returned (.agg #[.string a1, .string a2, .string ⟨#[]⟩, .string ⟨#[]⟩, .string ⟨#[]⟩]) ∧ Below w.heap.size w w' := by
  go_enter Try.func53, Try.ntmps53
  go_wp2
  (try simp only [Exit.inBlock, Exit.then])
  refine bodyPost_ret (v := .agg #[.string a1, .string a2, .string ⟨#[]⟩, .string ⟨#[]⟩, .string ⟨#[]⟩]) ?_ rfl ⟨rfl, ?_⟩
  · rw [results_cell_one rfl]
    go_simp
  · (refine Below.alloc (Below.alloc (Below.alloc (Below.refl _ _) ?_ _) ?_ _) ?_ _) <;> simp <;> omega
theorem rMasked_4 (a1 a2 a3 a4 a5 : ByteArray) (w : World) : Calls Try.prog 53 #[.agg #[.string a1, .string a2, .string a3, .string a4, .string a5], .int .i64 4] w fun e w' => e = .returned (.agg #[.string ⟨#[]⟩, .string ⟨#[]⟩, .string a3, .string ⟨#[]⟩, .string ⟨#[]⟩]) ∧ Below w.heap.size w w' := by
  go_enter Try.func53, Try.ntmps53
  go_wp2
  (try simp only [Exit.inBlock, Exit.then])
  refine bodyPost_ret (v := .agg #[.string ⟨#[]⟩, .string ⟨#[]⟩, .string a3, .string ⟨#[]⟩, .string ⟨#[]⟩]) ?_ rfl ⟨rfl, ?_⟩
  · rw [results_cell_one rfl]
    go_simp
  · (refine Below.alloc (Below.alloc (Below.alloc (Below.refl _ _) ?_ _) ?_ _) ?_ _) <;> simp <;> omega
theorem rMasked_5 (a1 a2 a3 a4 a5 : ByteArray) (w : World) : Calls Try.prog 53 #[.agg #[.string a1, .string a2, .string a3, .string a4, .string a5], .int .i64 5] w fun e w' => e = .returned (.agg #[.string a1, .string ⟨#[]⟩, .string a3, .string ⟨#[]⟩, .string ⟨#[]⟩]) ∧ Below w.heap.size w w' := by
  go_enter Try.func53, Try.ntmps53
  go_wp2
  (try simp only [Exit.inBlock, Exit.then])
  refine bodyPost_ret (v := .agg #[.string a1, .string ⟨#[]⟩, .string a3, .string ⟨#[]⟩, .string ⟨#[]⟩]) ?_ rfl ⟨rfl, ?_⟩
  · rw [results_cell_one rfl]
    go_simp
  · (refine Below.alloc (Below.alloc (Below.alloc (Below.refl _ _) ?_ _) ?_ _) ?_ _) <;> simp <;> omega
theorem rMasked_6 (a1 a2 a3 a4 a5 : ByteArray) (w : World) : Calls Try.prog 53 #[.agg #[.string a1, .string a2, .string a3, .string a4, .string a5], .int .i64 6] w fun e w' => e = .returned (.agg #[.string ⟨#[]⟩, .string a2, .string a3, .string ⟨#[]⟩, .string ⟨#[]⟩]) ∧ Below w.heap.size w w' := by
  go_enter Try.func53, Try.ntmps53
  go_wp2
  (try simp only [Exit.inBlock, Exit.then])
  refine bodyPost_ret (v := .agg #[.string ⟨#[]⟩, .string a2, .string a3, .string ⟨#[]⟩, .string ⟨#[]⟩]) ?_ rfl ⟨rfl, ?_⟩
  · rw [results_cell_one rfl]
    go_simp
  · (refine Below.alloc (Below.alloc (Below.alloc (Below.refl _ _) ?_ _) ?_ _) ?_ _) <;> simp <;> omega
theorem rMasked_7 (a1 a2 a3 a4 a5 : ByteArray) (w : World) : Calls Try.prog 53 #[.agg #[.string a1, .string a2, .string a3, .string a4, .string a5], .int .i64 7] w fun e w' => e = .returned (.agg #[.string a1, .string a2, .string a3, .string ⟨#[]⟩, .string ⟨#[]⟩]) ∧ Below w.heap.size w w' := by
  go_enter Try.func53, Try.ntmps53
  go_wp2
  (try simp only [Exit.inBlock, Exit.then])
  refine bodyPost_ret (v := .agg #[.string a1, .string a2, .string a3, .string ⟨#[]⟩, .string ⟨#[]⟩]) ?_ rfl ⟨rfl, ?_⟩
  · rw [results_cell_one rfl]
    go_simp
  · (refine Below.alloc (Below.alloc (Below.alloc (Below.refl _ _) ?_ _) ?_ _) ?_ _) <;> simp <;> omega
theorem rMasked_8 (a1 a2 a3 a4 a5 : ByteArray) (w : World) : Calls Try.prog 53 #[.agg #[.string a1, .string a2, .string a3, .string a4, .string a5], .int .i64 8] w fun e w' => e = .returned (.agg #[.string ⟨#[]⟩, .string ⟨#[]⟩, .string ⟨#[]⟩, .string a4, .string ⟨#[]⟩]) ∧ Below w.heap.size w w' := by
  go_enter Try.func53, Try.ntmps53
  go_wp2
  (try simp only [Exit.inBlock, Exit.then])
  refine bodyPost_ret (v := .agg #[.string ⟨#[]⟩, .string ⟨#[]⟩, .string ⟨#[]⟩, .string a4, .string ⟨#[]⟩]) ?_ rfl ⟨rfl, ?_⟩
  · rw [results_cell_one rfl]
    go_simp
  · (refine Below.alloc (Below.alloc (Below.alloc (Below.refl _ _) ?_ _) ?_ _) ?_ _) <;> simp <;> omega
theorem rMasked_9 (a1 a2 a3 a4 a5 : ByteArray) (w : World) : Calls Try.prog 53 #[.agg #[.string a1, .string a2, .string a3, .string a4, .string a5], .int .i64 9] w fun e w' => e = .returned (.agg #[.string a1, .string ⟨#[]⟩, .string ⟨#[]⟩, .string a4, .string ⟨#[]⟩]) ∧ Below w.heap.size w w' := by
  go_enter Try.func53, Try.ntmps53
  go_wp2
  (try simp only [Exit.inBlock, Exit.then])
  refine bodyPost_ret (v := .agg #[.string a1, .string ⟨#[]⟩, .string ⟨#[]⟩, .string a4, .string ⟨#[]⟩]) ?_ rfl ⟨rfl, ?_⟩
  · rw [results_cell_one rfl]
    go_simp
  · (refine Below.alloc (Below.alloc (Below.alloc (Below.refl _ _) ?_ _) ?_ _) ?_ _) <;> simp <;> omega
theorem rMasked_10 (a1 a2 a3 a4 a5 : ByteArray) (w : World) : Calls Try.prog 53 #[.agg #[.string a1, .string a2, .string a3, .string a4, .string a5], .int .i64 10] w fun e w' => e = .returned (.agg #[.string ⟨#[]⟩, .string a2, .string ⟨#[]⟩, .string a4, .string ⟨#[]⟩]) ∧ Below w.heap.size w w' := by
  go_enter Try.func53, Try.ntmps53
  go_wp2
  (try simp only [Exit.inBlock, Exit.then])
  refine bodyPost_ret (v := .agg #[.string ⟨#[]⟩, .string a2, .string ⟨#[]⟩, .string a4, .string ⟨#[]⟩]) ?_ rfl ⟨rfl, ?_⟩
  · rw [results_cell_one rfl]
    go_simp
  · (refine Below.alloc (Below.alloc (Below.alloc (Below.refl _ _) ?_ _) ?_ _) ?_ _) <;> simp <;> omega
theorem rMasked_11 (a1 a2 a3 a4 a5 : ByteArray) (w : World) : Calls Try.prog 53 #[.agg #[.string a1, .string a2, .string a3, .string a4, .string a5], .int .i64 11] w fun e w' => e = .returned (.agg #[.string a1, .string a2, .string ⟨#[]⟩, .string a4, .string ⟨#[]⟩]) ∧ Below w.heap.size w w' := by
  go_enter Try.func53, Try.ntmps53
  go_wp2
  (try simp only [Exit.inBlock, Exit.then])
  refine bodyPost_ret (v := .agg #[.string a1, .string a2, .string ⟨#[]⟩, .string a4, .string ⟨#[]⟩]) ?_ rfl ⟨rfl, ?_⟩
  · rw [results_cell_one rfl]
    go_simp
  · (refine Below.alloc (Below.alloc (Below.alloc (Below.refl _ _) ?_ _) ?_ _) ?_ _) <;> simp <;> omega
theorem rMasked_12 (a1 a2 a3 a4 a5 : ByteArray) (w : World) : Calls Try.prog 53 #[.agg #[.string a1, .string a2, .string a3, .string a4, .string a5], .int .i64 12] w fun e w' => e = .returned (.agg #[.string ⟨#[]⟩, .string ⟨#[]⟩, .string a3, .string a4, .string ⟨#[]⟩]) ∧ Below w.heap.size w w' := by
  go_enter Try.func53, Try.ntmps53
  go_wp2
  (try simp only [Exit.inBlock, Exit.then])
  refine bodyPost_ret (v := .agg #[.string ⟨#[]⟩, .string ⟨#[]⟩, .string a3, .string a4, .string ⟨#[]⟩]) ?_ rfl ⟨rfl, ?_⟩
  · rw [results_cell_one rfl]
    go_simp
  · (refine Below.alloc (Below.alloc (Below.alloc (Below.refl _ _) ?_ _) ?_ _) ?_ _) <;> simp <;> omega
theorem rMasked_13 (a1 a2 a3 a4 a5 : ByteArray) (w : World) : Calls Try.prog 53 #[.agg #[.string a1, .string a2, .string a3, .string a4, .string a5], .int .i64 13] w fun e w' => e = .returned (.agg #[.string a1, .string ⟨#[]⟩, .string a3, .string a4, .string ⟨#[]⟩]) ∧ Below w.heap.size w w' := by
  go_enter Try.func53, Try.ntmps53
  go_wp2
  (try simp only [Exit.inBlock, Exit.then])
  refine bodyPost_ret (v := .agg #[.string a1, .string ⟨#[]⟩, .string a3, .string a4, .string ⟨#[]⟩]) ?_ rfl ⟨rfl, ?_⟩
  · rw [results_cell_one rfl]
    go_simp
  · (refine Below.alloc (Below.alloc (Below.alloc (Below.refl _ _) ?_ _) ?_ _) ?_ _) <;> simp <;> omega
theorem rMasked_14 (a1 a2 a3 a4 a5 : ByteArray) (w : World) : Calls Try.prog 53 #[.agg #[.string a1, .string a2, .string a3, .string a4, .string a5], .int .i64 14] w fun e w' => e = .returned (.agg #[.string ⟨#[]⟩, .string a2, .string a3, .string a4, .string ⟨#[]⟩]) ∧ Below w.heap.size w w' := by
  go_enter Try.func53, Try.ntmps53
  go_wp2
  (try simp only [Exit.inBlock, Exit.then])
  refine bodyPost_ret (v := .agg #[.string ⟨#[]⟩, .string a2, .string a3, .string a4, .string ⟨#[]⟩]) ?_ rfl ⟨rfl, ?_⟩
  · rw [results_cell_one rfl]
    go_simp
  · (refine Below.alloc (Below.alloc (Below.alloc (Below.refl _ _) ?_ _) ?_ _) ?_ _) <;> simp <;> omega
theorem rMasked_15 (a1 a2 a3 a4 a5 : ByteArray) (w : World) : Calls Try.prog 53 #[.agg #[.string a1, .string a2, .string a3, .string a4, .string a5], .int .i64 15] w fun e w' => e = .returned (.agg #[.string a1, .string a2, .string a3, .string a4, .string ⟨#[]⟩]) ∧ Below w.heap.size w w' := by
  go_enter Try.func53, Try.ntmps53
  go_wp2
  (try simp only [Exit.inBlock, Exit.then])
  refine bodyPost_ret (v := .agg #[.string a1, .string a2, .string a3, .string a4, .string ⟨#[]⟩]) ?_ rfl ⟨rfl, ?_⟩
  · rw [results_cell_one rfl]
    go_simp
  · (refine Below.alloc (Below.alloc (Below.alloc (Below.refl _ _) ?_ _) ?_ _) ?_ _) <;> simp <;> omega
theorem rMasked_16 (a1 a2 a3 a4 a5 : ByteArray) (w : World) : Calls Try.prog 53 #[.agg #[.string a1, .string a2, .string a3, .string a4, .string a5], .int .i64 16] w fun e w' => e = .returned (.agg #[.string ⟨#[]⟩, .string ⟨#[]⟩, .string ⟨#[]⟩, .string ⟨#[]⟩, .string a5]) ∧ Below w.heap.size w w' := by
  go_enter Try.func53, Try.ntmps53
  go_wp2
  (try simp only [Exit.inBlock, Exit.then])
  refine bodyPost_ret (v := .agg #[.string ⟨#[]⟩, .string ⟨#[]⟩, .string ⟨#[]⟩, .string ⟨#[]⟩, .string a5]) ?_ rfl ⟨rfl, ?_⟩
  · rw [results_cell_one rfl]
    go_simp
  · (refine Below.alloc (Below.alloc (Below.alloc (Below.refl _ _) ?_ _) ?_ _) ?_ _) <;> simp <;> omega
theorem rMasked_17 (a1 a2 a3 a4 a5 : ByteArray) (w : World) : Calls Try.prog 53 #[.agg #[.string a1, .string a2, .string a3, .string a4, .string a5], .int .i64 17] w fun e w' => e = .returned (.agg #[.string a1, .string ⟨#[]⟩, .string ⟨#[]⟩, .string ⟨#[]⟩, .string a5]) ∧ Below w.heap.size w w' := by
  go_enter Try.func53, Try.ntmps53
  go_wp2
  (try simp only [Exit.inBlock, Exit.then])
  refine bodyPost_ret (v := .agg #[.string a1, .string ⟨#[]⟩, .string ⟨#[]⟩, .string ⟨#[]⟩, .string a5]) ?_ rfl ⟨rfl, ?_⟩
  · rw [results_cell_one rfl]
    go_simp
  · (refine Below.alloc (Below.alloc (Below.alloc (Below.refl _ _) ?_ _) ?_ _) ?_ _) <;> simp <;> omega
theorem rMasked_18 (a1 a2 a3 a4 a5 : ByteArray) (w : World) : Calls Try.prog 53 #[.agg #[.string a1, .string a2, .string a3, .string a4, .string a5], .int .i64 18] w fun e w' => e = .returned (.agg #[.string ⟨#[]⟩, .string a2, .string ⟨#[]⟩, .string ⟨#[]⟩, .string a5]) ∧ Below w.heap.size w w' := by
  go_enter Try.func53, Try.ntmps53
  go_wp2
  (try simp only [Exit.inBlock, Exit.then])
  refine bodyPost_ret (v := .agg #[.string ⟨#[]⟩, .string a2, .string ⟨#[]⟩, .string ⟨#[]⟩, .string a5]) ?_ rfl ⟨rfl, ?_⟩
  · rw [results_cell_one rfl]
    go_simp
  · (refine Below.alloc (Below.alloc (Below.alloc (Below.refl _ _) ?_ _) ?_ _) ?_ _) <;> simp <;> omega
theorem rMasked_19 (a1 a2 a3 a4 a5 : ByteArray) (w : World) : Calls Try.prog 53 #[.agg #[.string a1, .string a2, .string a3, .string a4, .string a5], .int .i64 19] w fun e w' => e = .returned (.agg #[.string a1, .string a2, .string ⟨#[]⟩, .string ⟨#[]⟩, .string a5]) ∧ Below w.heap.size w w' := by
  go_enter Try.func53, Try.ntmps53
  go_wp2
  (try simp only [Exit.inBlock, Exit.then])
  refine bodyPost_ret (v := .agg #[.string a1, .string a2, .string ⟨#[]⟩, .string ⟨#[]⟩, .string a5]) ?_ rfl ⟨rfl, ?_⟩
  · rw [results_cell_one rfl]
    go_simp
  · (refine Below.alloc (Below.alloc (Below.alloc (Below.refl _ _) ?_ _) ?_ _) ?_ _) <;> simp <;> omega
theorem rMasked_20 (a1 a2 a3 a4 a5 : ByteArray) (w : World) : Calls Try.prog 53 #[.agg #[.string a1, .string a2, .string a3, .string a4, .string a5], .int .i64 20] w fun e w' => e = .returned (.agg #[.string ⟨#[]⟩, .string ⟨#[]⟩, .string a3, .string ⟨#[]⟩, .string a5]) ∧ Below w.heap.size w w' := by
  go_enter Try.func53, Try.ntmps53
  go_wp2
  (try simp only [Exit.inBlock, Exit.then])
  refine bodyPost_ret (v := .agg #[.string ⟨#[]⟩, .string ⟨#[]⟩, .string a3, .string ⟨#[]⟩, .string a5]) ?_ rfl ⟨rfl, ?_⟩
  · rw [results_cell_one rfl]
    go_simp
  · (refine Below.alloc (Below.alloc (Below.alloc (Below.refl _ _) ?_ _) ?_ _) ?_ _) <;> simp <;> omega
theorem rMasked_21 (a1 a2 a3 a4 a5 : ByteArray) (w : World) : Calls Try.prog 53 #[.agg #[.string a1, .string a2, .string a3, .string a4, .string a5], .int .i64 21] w fun e w' => e = .returned (.agg #[.string a1, .string ⟨#[]⟩, .string a3, .string ⟨#[]⟩, .string a5]) ∧ Below w.heap.size w w' := by
  go_enter Try.func53, Try.ntmps53
  go_wp2
  (try simp only [Exit.inBlock, Exit.then])
  refine bodyPost_ret (v := .agg #[.string a1, .string ⟨#[]⟩, .string a3, .string ⟨#[]⟩, .string a5]) ?_ rfl ⟨rfl, ?_⟩
  · rw [results_cell_one rfl]
    go_simp
  · (refine Below.alloc (Below.alloc (Below.alloc (Below.refl _ _) ?_ _) ?_ _) ?_ _) <;> simp <;> omega
theorem rMasked_22 (a1 a2 a3 a4 a5 : ByteArray) (w : World) : Calls Try.prog 53 #[.agg #[.string a1, .string a2, .string a3, .string a4, .string a5], .int .i64 22] w fun e w' => e = .returned (.agg #[.string ⟨#[]⟩, .string a2, .string a3, .string ⟨#[]⟩, .string a5]) ∧ Below w.heap.size w w' := by
  go_enter Try.func53, Try.ntmps53
  go_wp2
  (try simp only [Exit.inBlock, Exit.then])
  refine bodyPost_ret (v := .agg #[.string ⟨#[]⟩, .string a2, .string a3, .string ⟨#[]⟩, .string a5]) ?_ rfl ⟨rfl, ?_⟩
  · rw [results_cell_one rfl]
    go_simp
  · (refine Below.alloc (Below.alloc (Below.alloc (Below.refl _ _) ?_ _) ?_ _) ?_ _) <;> simp <;> omega
theorem rMasked_23 (a1 a2 a3 a4 a5 : ByteArray) (w : World) : Calls Try.prog 53 #[.agg #[.string a1, .string a2, .string a3, .string a4, .string a5], .int .i64 23] w fun e w' => e = .returned (.agg #[.string a1, .string a2, .string a3, .string ⟨#[]⟩, .string a5]) ∧ Below w.heap.size w w' := by
  go_enter Try.func53, Try.ntmps53
  go_wp2
  (try simp only [Exit.inBlock, Exit.then])
  refine bodyPost_ret (v := .agg #[.string a1, .string a2, .string a3, .string ⟨#[]⟩, .string a5]) ?_ rfl ⟨rfl, ?_⟩
  · rw [results_cell_one rfl]
    go_simp
  · (refine Below.alloc (Below.alloc (Below.alloc (Below.refl _ _) ?_ _) ?_ _) ?_ _) <;> simp <;> omega
theorem rMasked_24 (a1 a2 a3 a4 a5 : ByteArray) (w : World) : Calls Try.prog 53 #[.agg #[.string a1, .string a2, .string a3, .string a4, .string a5], .int .i64 24] w fun e w' => e = .returned (.agg #[.string ⟨#[]⟩, .string ⟨#[]⟩, .string ⟨#[]⟩, .string a4, .string a5]) ∧ Below w.heap.size w w' := by
  go_enter Try.func53, Try.ntmps53
  go_wp2
  (try simp only [Exit.inBlock, Exit.then])
  refine bodyPost_ret (v := .agg #[.string ⟨#[]⟩, .string ⟨#[]⟩, .string ⟨#[]⟩, .string a4, .string a5]) ?_ rfl ⟨rfl, ?_⟩
  · rw [results_cell_one rfl]
    go_simp
  · (refine Below.alloc (Below.alloc (Below.alloc (Below.refl _ _) ?_ _) ?_ _) ?_ _) <;> simp <;> omega
theorem rMasked_25 (a1 a2 a3 a4 a5 : ByteArray) (w : World) : Calls Try.prog 53 #[.agg #[.string a1, .string a2, .string a3, .string a4, .string a5], .int .i64 25] w fun e w' => e = .returned (.agg #[.string a1, .string ⟨#[]⟩, .string ⟨#[]⟩, .string a4, .string a5]) ∧ Below w.heap.size w w' := by
  go_enter Try.func53, Try.ntmps53
  go_wp2
  (try simp only [Exit.inBlock, Exit.then])
  refine bodyPost_ret (v := .agg #[.string a1, .string ⟨#[]⟩, .string ⟨#[]⟩, .string a4, .string a5]) ?_ rfl ⟨rfl, ?_⟩
  · rw [results_cell_one rfl]
    go_simp
  · (refine Below.alloc (Below.alloc (Below.alloc (Below.refl _ _) ?_ _) ?_ _) ?_ _) <;> simp <;> omega
theorem rMasked_26 (a1 a2 a3 a4 a5 : ByteArray) (w : World) : Calls Try.prog 53 #[.agg #[.string a1, .string a2, .string a3, .string a4, .string a5], .int .i64 26] w fun e w' => e = .returned (.agg #[.string ⟨#[]⟩, .string a2, .string ⟨#[]⟩, .string a4, .string a5]) ∧ Below w.heap.size w w' := by
  go_enter Try.func53, Try.ntmps53
  go_wp2
  (try simp only [Exit.inBlock, Exit.then])
  refine bodyPost_ret (v := .agg #[.string ⟨#[]⟩, .string a2, .string ⟨#[]⟩, .string a4, .string a5]) ?_ rfl ⟨rfl, ?_⟩
  · rw [results_cell_one rfl]
    go_simp
  · (refine Below.alloc (Below.alloc (Below.alloc (Below.refl _ _) ?_ _) ?_ _) ?_ _) <;> simp <;> omega
theorem rMasked_27 (a1 a2 a3 a4 a5 : ByteArray) (w : World) : Calls Try.prog 53 #[.agg #[.string a1, .string a2, .string a3, .string a4, .string a5], .int .i64 27] w fun e w' => e = .returned (.agg #[.string a1, .string a2, .string ⟨#[]⟩, .string a4, .string a5]) ∧ Below w.heap.size w w' := by
  go_enter Try.func53, Try.ntmps53
  go_wp2
  (try simp only [Exit.inBlock, Exit.then])
  refine bodyPost_ret (v := .agg #[.string a1, .string a2, .string ⟨#[]⟩, .string a4, .string a5]) ?_ rfl ⟨rfl, ?_⟩
  · rw [results_cell_one rfl]
    go_simp
  · (refine Below.alloc (Below.alloc (Below.alloc (Below.refl _ _) ?_ _) ?_ _) ?_ _) <;> simp <;> omega
theorem rMasked_28 (a1 a2 a3 a4 a5 : ByteArray) (w : World) : Calls Try.prog 53 #[.agg #[.string a1, .string a2, .string a3, .string a4, .string a5], .int .i64 28] w fun e w' => e = .returned (.agg #[.string ⟨#[]⟩, .string ⟨#[]⟩, .string a3, .string a4, .string a5]) ∧ Below w.heap.size w w' := by
  go_enter Try.func53, Try.ntmps53
  go_wp2
  (try simp only [Exit.inBlock, Exit.then])
  refine bodyPost_ret (v := .agg #[.string ⟨#[]⟩, .string ⟨#[]⟩, .string a3, .string a4, .string a5]) ?_ rfl ⟨rfl, ?_⟩
  · rw [results_cell_one rfl]
    go_simp
  · (refine Below.alloc (Below.alloc (Below.alloc (Below.refl _ _) ?_ _) ?_ _) ?_ _) <;> simp <;> omega
theorem rMasked_29 (a1 a2 a3 a4 a5 : ByteArray) (w : World) : Calls Try.prog 53 #[.agg #[.string a1, .string a2, .string a3, .string a4, .string a5], .int .i64 29] w fun e w' => e = .returned (.agg #[.string a1, .string ⟨#[]⟩, .string a3, .string a4, .string a5]) ∧ Below w.heap.size w w' := by
  go_enter Try.func53, Try.ntmps53
  go_wp2
  (try simp only [Exit.inBlock, Exit.then])
  refine bodyPost_ret (v := .agg #[.string a1, .string ⟨#[]⟩, .string a3, .string a4, .string a5]) ?_ rfl ⟨rfl, ?_⟩
  · rw [results_cell_one rfl]
    go_simp
  · (refine Below.alloc (Below.alloc (Below.alloc (Below.refl _ _) ?_ _) ?_ _) ?_ _) <;> simp <;> omega
theorem rMasked_30 (a1 a2 a3 a4 a5 : ByteArray) (w : World) : Calls Try.prog 53 #[.agg #[.string a1, .string a2, .string a3, .string a4, .string a5], .int .i64 30] w fun e w' => e = .returned (.agg #[.string ⟨#[]⟩, .string a2, .string a3, .string a4, .string a5]) ∧ Below w.heap.size w w' := by
  go_enter Try.func53, Try.ntmps53
  go_wp2
  (try simp only [Exit.inBlock, Exit.then])
  refine bodyPost_ret (v := .agg #[.string ⟨#[]⟩, .string a2, .string a3, .string a4, .string a5]) ?_ rfl ⟨rfl, ?_⟩
  · rw [results_cell_one rfl]
    go_simp
  · (refine Below.alloc (Below.alloc (Below.alloc (Below.refl _ _) ?_ _) ?_ _) ?_ _) <;> simp <;> omega
theorem rMasked_31 (a1 a2 a3 a4 a5 : ByteArray) (w : World) : Calls Try.prog 53 #[.agg #[.string a1, .string a2, .string a3, .string a4, .string a5], .int .i64 31] w fun e w' => e = .returned (.agg #[.string a1, .string a2, .string a3, .string a4, .string a5]) ∧ Below w.heap.size w w' := by
  go_enter Try.func53, Try.ntmps53
  go_wp2
  (try simp only [Exit.inBlock, Exit.then])
  refine bodyPost_ret (v := .agg #[.string a1, .string a2, .string a3, .string a4, .string a5]) ?_ rfl ⟨rfl, ?_⟩
  · rw [results_cell_one rfl]
    go_simp
  · (refine Below.alloc (Below.alloc (Below.alloc (Below.refl _ _) ?_ _) ?_ _) ?_ _) <;> simp <;> omega
theorem rMasked_any (a1 a2 a3 a4 a5 : ByteArray) (mask : Int) (m0 : 0 ≤ mask) (m1 : mask ≤ 31) (w : World) :
    Calls Try.prog 53 #[.agg #[.string a1, .string a2, .string a3, .string a4, .string a5], .int .i64 mask] w fun e w' => e = .returned (.agg #[.string (mb mask 0 a1), .string (mb mask 1 a2), .string (mb mask 2 a3), .string (mb mask 3 a4), .string (mb mask 4 a5)]) ∧ Below w.heap.size w w' := by
  obtain ⟨n, hn, rfl⟩ := mask_cases m0 m1
  match n, hn with
  | 0, _ => exact rMasked_0 a1 a2 a3 a4 a5 w
  | 1, _ => exact rMasked_1 a1 a2 a3 a4 a5 w
  | 2, _ => exact rMasked_2 a1 a2 a3 a4 a5 w
  | 3, _ => exact rMasked_3 a1 a2 a3 a4 a5 w
  | 4, _ => exact rMasked_4 a1 a2 a3 a4 a5 w
  | 5, _ => exact rMasked_5 a1 a2 a3 a4 a5 w
  | 6, _ => exact rMasked_6 a1 a2 a3 a4 a5 w
  | 7, _ => exact rMasked_7 a1 a2 a3 a4 a5 w
  | 8, _ => exact rMasked_8 a1 a2 a3 a4 a5 w
  | 9, _ => exact rMasked_9 a1 a2 a3 a4 a5 w
  | 10, _ => exact rMasked_10 a1 a2 a3 a4 a5 w
  | 11, _ => exact rMasked_11 a1 a2 a3 a4 a5 w
  | 12, _ => exact rMasked_12 a1 a2 a3 a4 a5 w
  | 13, _ => exact rMasked_13 a1 a2 a3 a4 a5 w
  | 14, _ => exact rMasked_14 a1 a2 a3 a4 a5 w
  | 15, _ => exact rMasked_15 a1 a2 a3 a4 a5 w
  | 16, _ => exact rMasked_16 a1 a2 a3 a4 a5 w
  | 17, _ => exact rMasked_17 a1 a2 a3 a4 a5 w
  | 18, _ => exact rMasked_18 a1 a2 a3 a4 a5 w
  | 19, _ => exact rMasked_19 a1 a2 a3 a4 a5 w
  | 20, _ => exact rMasked_20 a1 a2 a3 a4 a5 w
  | 21, _ => exact rMasked_21 a1 a2 a3 a4 a5 w
  | 22, _ => exact rMasked_22 a1 a2 a3 a4 a5 w
  | 23, _ => exact rMasked_23 a1 a2 a3 a4 a5 w
  | 24, _ => exact rMasked_24 a1 a2 a3 a4 a5 w
  | 25, _ => exact rMasked_25 a1 a2 a3 a4 a5 w
  | 26, _ => exact rMasked_26 a1 a2 a3 a4 a5 w
  | 27, _ => exact rMasked_27 a1 a2 a3 a4 a5 w
  | 28, _ => exact rMasked_28 a1 a2 a3 a4 a5 w
  | 29, _ => exact rMasked_29 a1 a2 a3 a4 a5 w
  | 30, _ => exact rMasked_30 a1 a2 a3 a4 a5 w
  | 31, _ => exact rMasked_31 a1 a2 a3 a4 a5 w
  | n + 32, h => exact absurd h (by omega)
end Go.Proofs.Ytenhnnfemehbcaa
