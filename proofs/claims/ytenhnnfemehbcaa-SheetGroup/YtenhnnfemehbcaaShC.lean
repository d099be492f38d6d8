/- Keys compared, and compared with a pattern, by package sheet. Written by wip/mk_shc.py. -/
import Derived.Test.YtenhnnfemehbcaaShB
import Derived.Test.YtenhnnfemehbcaaShelf
import Derived.Test.YtenhnnfemehbcaaOrd2
import Derived.Sort.Grow
import Derived.Deep.Draws
import Derived.WalkLawsBesides
import Derived.Deep.DeepCutAuto
import Derived.Deep.CutBlock
namespace Go.Proofs.Ytenhnnfemehbcaa
open Go.RowKit Go.Sort
set_option linter.unusedVariables false
set_option linter.unusedSimpArgs false

theorem results_cell_one {fn : Func} {p : Tmp} {ty : TypeId} (h : fn.results = #[.cell p ty]) (tmps : Array Value) (P : Program) (w : World) :
    (results fn tmps).run P w = ((asAddr (tmps.getD p undef)).run P w).andThen fun a w₁ => (loadVar ty a).run P w₁ := by
  simp only [results, h]
  simp [Sem.run_bind, Result.andThen]
/-- nothing that was there has turned; draws were made, blocks were laid. -/
structure Gb (w w' : World) : Prop where
  b : Below w.heap.size w w'
  d : w.drawn ≤ w'.drawn
theorem Gb.refl (w : World) : Gb w w := ⟨Below.refl _ _, Nat.le_refl _⟩
theorem Gb.trans {a b c : World} (h : Gb a b) (k : Gb b c) : Gb a c := ⟨h.b.trans (k.b.mono h.b.size), Nat.le_trans h.d k.d⟩
theorem Gb.alloc (w : World) (o : Obj) : Gb w (w.alloc o) := ⟨(Below.refl _ _).alloc (Nat.le_refl _) _, Nat.le_refl _⟩
theorem Gb.drew (w : World) : Gb w w.drew := ⟨(Below.refl _ _).drew, by show w.drawn ≤ w.drawn + 1; omega⟩
theorem Gb.set {a w : World} (h : Gb a w) {p : Addr} (hp : a.heap.size ≤ p.block) (u : Value) : Gb a (w.setCell p u) := ⟨h.b.setCell hp u, h.d⟩
theorem Gb.grows {w w' : World} (h : Gb w w') : ∃ q os, w' = grow (w.drewN q) os := by
  refine ⟨w'.drawn - w.drawn, w'.heap.extract w.heap.size w'.heap.size, ?_⟩
  have h1 := h.b.os
  have h2 := h.b.tape
  have h3 := h.b.output
  have h4 := h.b.size
  have h5 := h.b.block
  have h6 := h.d
  have e : w'.heap = w.heap ++ w'.heap.extract w.heap.size w'.heap.size := by
    apply Array.ext_getElem?
    intro i
    rw [Array.getElem?_append]
    split
    · rename_i q; exact h5 i q
    · rename_i q
      rw [Array.getElem?_extract]
      split
      · congr 1; omega
      · rename_i q2
        rw [Array.getElem?_eq_none (by omega)]
  cases w
  cases w'
  unfold grow World.drewN
  simp only [World.mk.injEq] at *
  exact ⟨e, h2, by omega, h1, h3⟩
section
variable {P : Program} {ops : Array Oper} {Q : Exit → Act → World → Prop} {md : Region.Mode} {S : World → Prop} {k : Nat → Bool}
theorem gk_three {i j m n : Nat} {o p r : Oper} {l : Array Bool} {a : Act} {w : World} (ho : ops[i]? = some o) (hp : ops[j]? = some p) (hq : ops[m]? = some r) (hr : Region.ready md ops l = [i, j, m])
    (h : ∀ K : Act → World → Prop, (∀ b x, (k i = false → S x) → GoesK P md ops Q S k n (l.setIfInBounds i true) b x → K b x) → if Region.wanted o (yielded ops a.tmps) = true then Oper.wp P o a w K Q else K (a.put o.dst undef) w)
    (h2 : ∀ K : Act → World → Prop, (∀ b x, (k j = false → S x) → GoesK P md ops Q S k n (l.setIfInBounds j true) b x → K b x) → if Region.wanted p (yielded ops a.tmps) = true then Oper.wp P p a w K Q else K (a.put p.dst undef) w)
    (h3 : ∀ K : Act → World → Prop, (∀ b x, (k m = false → S x) → GoesK P md ops Q S k n (l.setIfInBounds m true) b x → K b x) → if Region.wanted r (yielded ops a.tmps) = true then Oper.wp P r a w K Q else K (a.put r.dst undef) w) : GoesK P md ops Q S k (n + 1) l a w := by
  refine ⟨fun e => (by rw [hr] at e; cases e), fun z hz => ?_⟩
  rw [hr] at hz
  rcases List.mem_cons.1 hz with rfl | hz
  · exact wpOp_step ho fun K hK => h K fun b x h1 h2 => hK b x ⟨h1, h2⟩
  rcases List.mem_cons.1 hz with rfl | hz
  · exact wpOp_step hp fun K hK => h2 K fun b x h1 h2 => hK b x ⟨h1, h2⟩
  · obtain rfl : z = m := by simpa using hz
    exact wpOp_step hq fun K hK => h3 K fun b x h1 h2 => hK b x ⟨h1, h2⟩
end
theorem cb_cmp : ∀ (x y : List UInt8), Lib.compareBytes x y = if x < y then -1 else if y < x then 1 else 0
  | [], [] => by simp [Lib.compareBytes]
  | [], b :: y => by simp [Lib.compareBytes]
  | a :: x, [] => by simp [Lib.compareBytes]
  | a :: x, b :: y => by
    have ih := cb_cmp x y
    rw [Lib.compareBytes, ih]
    simp only [List.cons_lt_cons_iff]
    by_cases h1 : a < b
    · simp [h1]
    · by_cases h2 : b < a
      · have h3 : ¬ a = b := fun e => by subst e; exact h1 h2
        simp [h1, h2, h3]
      · have h3 : a = b := UInt8.le_antisymm (UInt8.not_lt.1 h2) (UInt8.not_lt.1 h1)
        subst h3
        simp [h1]
theorem cmpB_is (a b : ByteArray) : Lib.compareBytes a.data.toList b.data.toList = cmpS a b := by
  rw [show a.data.toList = a.toList from (ByteArray.toList_eq a).symm, show b.data.toList = b.toList from (ByteArray.toList_eq b).symm, cb_cmp]
  unfold cmpS ltS
  rw [bytes_lt, bytes_lt]
  simp
theorem compare_any (a b : ByteArray) (W : World) : Calls Try.prog 38 #[.string a, .string b] W fun e w' => e = .returned (.int .i64 (cmpS a b)) ∧ w' = W := by
  refine (Try.strings_Compare a b W).mono ?_
  rintro e w' ⟨rfl, rfl⟩
  exact ⟨ret_int (cmpB_is a b), rfl⟩
set_option maxRecDepth 100000 in
set_option maxHeartbeats 1000000 in
theorem fields_any (a1 a2 a3 a4 a5 : ByteArray) (w : World) : Calls Try.prog 37 #[.agg #[.string a1, .string a2, .string a3, .string a4, .string a5]] w fun e w' => e = .returned (.agg #[.string a1, .string a2, .string a3, .string a4, .string a5]) ∧ Gb w w' := by
  have HQ := Lib.hid (Q5.alloc w (.string a1) (.string a2) (.string a3) (.string a4) (.string a5) 23)
  have ha : Below (w.alloc (Obj.cells #[.string a1, .string a2, .string a3, .string a4, .string a5] 23)).heap.size (w.alloc (Obj.cells #[.string a1, .string a2, .string a3, .string a4, .string a5] 23)) ((w.alloc (Obj.cells #[.string a1, .string a2, .string a3, .string a4, .string a5] 23)).alloc (Obj.cells #[.string a1, .string a2, .string a3, .string a4, .string a5] 53)) := (Below.refl _ _).alloc (Nat.le_refl _) _
  have x0 := HQ.out.c0
  have x1 := HQ.out.c1
  have x2 := HQ.out.c2
  have x3 := HQ.out.c3
  have x4 := HQ.out.c4
  have HG := Lib.hid ((Gb.alloc w (Obj.cells #[.string a1, .string a2, .string a3, .string a4, .string a5] 23)).trans (Gb.alloc _ (Obj.cells #[.string a1, .string a2, .string a3, .string a4, .string a5] 53)))
  have HR := Lib.hid (show Q5 ((w.alloc (Obj.cells #[.string a1, .string a2, .string a3, .string a4, .string a5] 23)).alloc (Obj.cells #[.string a1, .string a2, .string a3, .string a4, .string a5] 53)) (w.heap.size + 1) (.string a1) (.string a2) (.string a3) (.string a4) (.string a5) from by
    have q := Q5.alloc (w.alloc (Obj.cells #[.string a1, .string a2, .string a3, .string a4, .string a5] 23)) (.string a1) (.string a2) (.string a3) (.string a4) (.string a5) 53
    rw [World.size_alloc] at q; exact q)
  go_enter Try.func37, Try.ntmps37
  go_wp2
  (try simp only [Exit.inBlock, Exit.then])
  refine bodyPost_ret (v := .agg #[.string a1, .string a2, .string a3, .string a4, .string a5]) ?_ rfl ⟨rfl, HG.out⟩
  have u0 := HR.out.c0
  have u1 := HR.out.c1
  have u2 := HR.out.c2
  have u3 := HR.out.c3
  have u4 := HR.out.c4
  rw [results_cell_one rfl]
  go_simp
end Go.Proofs.Ytenhnnfemehbcaa
