/- A range over strings.SplitSeq at one byte, as its caller sees it. -/
import Derived.Test.YtjoinifjkpaapaaDoorDiP
import Derived.RangeFuncBox
namespace Go.Proofs.YtjoinifjkpaapaaDoor
open Go.RowKit Go.Sort
set_option linter.unusedVariables false
set_option linter.unusedSimpArgs false

theorem kp3_put {b l : Nat} (W : World) (o : Obj) (h : b + 3 ≤ l) : Kp3 b W (W.putObj l o) := fun i hi => by
  have e : (W.putObj l o).heap[b + i]? = W.heap[b + i]? := World.putObj_heap_other (by omega)
  exact ⟨by simp only [World.cell?, e], by simp only [World.frozen?, e]⟩
theorem Kp3.trans {b : Nat} {A B C : World} (h : Kp3 b A B) (k : Kp3 b B C) : Kp3 b A C := fun i hi => ⟨(k i hi).1.trans (h i hi).1, (k i hi).2.trans (h i hi).2⟩
/-- how a round of such a loop may end. -/
def rndPost (B b : Nat) (I Ix : List (List UInt8) → World → Prop) (xs : List (List UInt8)) (W : World) : Exit → Act → World → Prop
  | .normal, _, W' => KeepsFrom B W W' ∧ Kp3 b W W' ∧ I xs W'
  | .ret, _, W' => KeepsFrom B W W' ∧ Ix xs W'
  | _, _, _ => False
theorem set_keeps {W : World} {b k : Nat} {v : Value} {o : Obj} (h : W.heap[k]? = some o) (hk : k ≠ b) : (W.setCell ⟨b, 0, none⟩ v).heap[k]? = some o := (Below.heap_setCell W ⟨b, 0, none⟩ v k hk).trans h
theorem wp_split {g : Operand} {ps : Array Tmp} {assign body : Code} {Q : Exit → Act → World → Prop} {a : Act} {w : World} (b : Nat) (c : UInt8) (s : ByteArray) (hs : s.size ≤ maxLen)
    (hg : a.eval g = spF b) (hps : ps.size = 1) (hbw : b + 3 ≤ w.heap.size) (hC : SpC b s c w)
    (I Ix : List (List UInt8) → World → Prop) (hI : OwnFrom w.heap.size I) (hIx : OwnFrom w.heap.size Ix) (hIs : ∀ pre W v, I pre W → I pre (W.setCell ⟨b, 0, none⟩ v)) (h0 : I [] w) (a₁ : ByteArray → Act)
    (hassign : ∀ l x W (K : Act → World → Prop), K (a₁ x) W → assign.wpIn (Fence.wide.inRound l) 0 Tryd.prog (Exit.then K (fun _ _ _ => False)) { tmps := (ps.zip #[Value.string x]).foldl (fun t (p, v) => t.setIfInBounds p v) a.tmps, defers := [] } W)
    (hbody : ∀ l pre x W, I pre W → (pre ++ [x]) <+: splA c s.toList → body.wpIn (Fence.wide.inRound l) 0 Tryd.prog (rndPost w.heap.size b I Ix (pre ++ [x]) W) (a₁ (bs x)) W)
    (hdone : ∀ W, I (splA c s.toList) W → W.heap[w.heap.size]? = some (.deferred (some [])) → Q .normal { a with defers := { target := .collected w.heap.size, args := #[] } :: a.defers } W)
    (hstop : ∀ pre W, Ix pre W → W.heap[w.heap.size]? = some (.deferred (some [])) → Code.ret.wpIn Fence.wide 0 Tryd.prog Q { a with defers := { target := .collected w.heap.size, args := #[] } :: a.defers } W) :
    (Code.rangeFunc g ps assign body).wpIn Fence.wide 0 Tryd.prog Q a w := by
  refine wpIn_rangeFunc fun fn hfn => ?_
  obtain ⟨rc, hrc⟩ : ∃ rc : LoopState → Option Code → Loop, rc = fun st pe => { state := st, pending := pe, fn, tmps := a.tmps, params := ps, assign, body, defers := w.heap.size } := ⟨_, rfl⟩
  obtain ⟨V, hV⟩ : ∃ V, (w.alloc (.deferred (some []))).alloc (.loop (rc .ready none)) = V := ⟨_, rfl⟩
  have l1 : V.heap[w.heap.size + 1]? = some (.loop (rc .ready none)) := by
    rw [← hV]
    have q := World.alloc_heap_new (w.alloc (.deferred (some []))) (.loop (rc .ready none))
    rw [World.size_alloc] at q
    exact q
  have k1 : V.heap[w.heap.size]? = some (.deferred (some [])) := by
    rw [← hV]
    exact (Below.heap_alloc _ _ _ (by simp)).trans (World.alloc_heap_new w _)
  have i1 : I [] V := by rw [← hV]; exact hI.alloc _ (hI.alloc _ h0)
  have b1 : Below w.heap.size w V := by
    rw [← hV]
    exact ((Below.refl _ w).alloc (Nat.le_refl _) _).alloc (by simp) _
  have cV : SpC b s c V :=
    ⟨by rw [b1.cell (show b < w.heap.size by omega)]; exact hC.c0, by rw [World.frozen?_of_block (b1.block _ (show b < w.heap.size by omega))]; exact hC.f0, by rw [b1.cell (show b + 1 < w.heap.size by omega)]; exact hC.c1, by rw [b1.cell (show b + 2 < w.heap.size by omega)]; exact hC.c2⟩
  refine ⟨w.heap.size + 1, [{ target := .collected w.heap.size, args := #[] }], V, { target := .fn (.func 49) #[.pointer (some ⟨b + 1, 0, none⟩), .pointer (some ⟨b, 0, none⟩), .pointer (some ⟨b + 2, 0, none⟩)], args := #[.func (.yield (w.heap.size + 1)) #[] #[]] }, V, 49, #[.func (.yield (w.heap.size + 1)) #[] #[], .pointer (some ⟨b + 1, 0, none⟩), .pointer (some ⟨b, 0, none⟩), .pointer (some ⟨b + 2, 0, none⟩)], V, ?_, ?_, ?_, ?_, (fun q => by cases q), ?_⟩
  · rw [← hV, hrc]; exact run_enterLoop_outer _ _ _ _ _
  · simp only [resolve, hg]
    simp [spF, go_sem]
  · intro f' hf'; trivial
  · simp [invoke, go_sem, enters_of Tryd.func49 (by kernel_rfl) rfl]
  · refine (seq2_in (w.heap.size + 1) b c s hs
      (fun pre W => I pre W ∧ W.heap[w.heap.size + 1]? = some (.loop (rc .ready none)) ∧ W.heap[w.heap.size]? = some (.deferred (some [])))
      (fun pre W => Ix pre W ∧ W.heap[w.heap.size + 1]? = some (.loop (rc .done (some .ret))) ∧ W.heap[w.heap.size]? = some (.deferred (some [])))
      ?_ ?_ V cV ⟨i1, l1, k1⟩).mono ?_
    · rintro pre W v ⟨hi, hl, hk⟩
      exact ⟨hIs _ _ _ hi, set_keeps hl (by omega), set_keeps hk (by omega)⟩
    · rintro pre x W ⟨hi, hl, hk⟩ hp
      have hlt : w.heap.size + 1 < W.heap.size := (Array.getElem?_eq_some_iff.1 hl).1
      have hy := run_yield (P := Tryd.prog) (args := #[.string (bs x)]) hl (by rw [hrc]; exact hps.symm)
      rw [hrc] at hy
      refine ⟨fn, _, assign, body, hy, roundIn_of_wpIn trivial (hassign _ _ W _ ⟨_, run_beginRound hl (by rw [hrc]), ?_⟩)⟩
      obtain ⟨U, hU⟩ : ∃ U, W.putObj (w.heap.size + 1) (.loop { rc .ready none with state := .busy }) = U := ⟨_, rfl⟩
      have l2 : U.heap[w.heap.size + 1]? = some (.loop { rc .ready none with state := .busy }) := by rw [← hU]; exact World.putObj_heap_same hlt
      have k2 : U.heap[w.heap.size]? = some (.deferred (some [])) := by rw [← hU]; exact (World.putObj_heap_other (by omega)).trans hk
      have q2 : Kp3 b W U := by rw [← hU]; exact kp3_put W _ (by omega)
      have i2 : I pre U := by rw [← hU]; exact hI.putObj _ hi (by omega) hl rfl
      rw [hU]
      refine wpIn_mono (hbody _ pre x _ i2 hp) ?_
      have fin : ∀ (j : Option Code) (X : World), KeepsFrom w.heap.size U X →
          (Instr.endRound (w.heap.size + 1) j).run Tryd.prog X = .ok (.bool j.isNone) (X.putObj (w.heap.size + 1) (.loop (rc (if j.isNone then .ready else .done) j))) ∧
          X.heap[w.heap.size + 1]? = some (.loop { rc .ready none with state := .busy }) ∧
          (X.putObj (w.heap.size + 1) (.loop (rc (if j.isNone then .ready else .done) j))).heap[w.heap.size + 1]? = some (.loop (rc (if j.isNone then .ready else .done) j)) ∧
          (X.putObj (w.heap.size + 1) (.loop (rc (if j.isNone then .ready else .done) j))).heap[w.heap.size]? = some (.deferred (some [])) := fun j X hk3 => by
        have l3 := hk3.same _ _ (by omega) l2 rfl
        have r := run_endRound (P := Tryd.prog) j l3
        rw [hrc] at r ⊢
        exact ⟨r, by rw [hrc] at l3; exact l3, World.putObj_heap_same (Array.getElem?_eq_some_iff.1 l3).1, (World.putObj_heap_other (by omega)).trans (hk3.same _ _ (Nat.le_refl _) k2 rfl)⟩
      rintro e a3 X hq
      cases e with
      | normal =>
        obtain ⟨hk3, kp, hi3⟩ := hq
        obtain ⟨r, l3, l4, k4⟩ := fin none X hk3
        exact ⟨_, _, r, .inl ⟨rfl, ⟨hI.putObj _ hi3 (by omega) l3 rfl, l4, k4⟩, (q2.trans kp).trans (kp3_put X _ (by omega))⟩⟩
      | ret =>
        obtain ⟨hk3, hi3⟩ := hq
        obtain ⟨r, l3, l4, k4⟩ := fin (some .ret) X hk3
        exact ⟨_, _, r, .inr ⟨rfl, hIx.putObj _ hi3 (by omega) l3 rfl, l4, k4⟩⟩
      | exit id => exact hq.elim
      | goto t => exact hq.elim
      | panic ch => exact hq.elim
      | outgrown => exact hq.elim
    · rintro e W ⟨⟨v, rfl⟩, (⟨hi, hl, hk⟩ | ⟨pre, hi, hl, hk⟩)⟩
      · have q := run_endLoop (P := Tryd.prog) hl (by rw [hrc]; simp)
        rw [hrc] at q
        exact ⟨none, _, q, hdone _ (hI.putObj _ hi (by omega) hl rfl) ((World.putObj_heap_other (by omega)).trans hk)⟩
      · have q := run_endLoop (P := Tryd.prog) hl (by rw [hrc]; simp)
        rw [hrc] at q
        exact ⟨some .ret, _, q, hstop pre _ (hIx.putObj _ hi (by omega) hl rfl) ((World.putObj_heap_other (by omega)).trans hk)⟩
end Go.Proofs.YtjoinifjkpaapaaDoor
