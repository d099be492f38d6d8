/- A drawn region some of whose operations write what others have loaded: loads are taken first, for those operations wait for them. No conditions. -/
import Derived.OrdersHeld
import Derived.RegionTactic
namespace Go.Proofs.Ytenhnnfemehbcaa
open Go
section
variable {P : Program} {ops : Array Oper} {Q : Exit → Act → World → Prop} {md : Region.Mode} {S : World → Prop} {k : Nat → Bool}

/-- in whatever order: S holds behind every operation but those that k names. -/
def GoesK (P : Program) (md : Region.Mode) (ops : Array Oper) (Q : Exit → Act → World → Prop) (S : World → Prop) (k : Nat → Bool) : Nat → Array Bool → Act → World → Prop
  | 0, l, a, w => Region.ready md ops l = [] ∧ Q .normal a w
  | n + 1, l, a, w => (Region.ready md ops l = [] → Q .normal a w) ∧ ∀ j ∈ Region.ready md ops l, wpOp P ops Q j (fun b x => (k j = false → S x) ∧ GoesK P md ops Q S k n (l.setIfInBounds j true) b x) a w
theorem GoesK.any : ∀ (n : Nat) (l : Array Bool) (a : Act) (w : World), GoesK P md ops Q S k n l a w → wpAny P md ops Q n l a w := by
  intro n
  induction n with
  | zero => exact fun _ _ _ h => h
  | succ n ih => exact fun l a w h => ⟨h.1, fun j hj => wpOp_mono (fun b x y => ih _ b x y.2) (h.2 j hj)⟩
/-- does number k wait for number i? -/
def wait1 (md : Region.Mode) (ops : Array Oper) (k i : Nat) : Bool := match ops[k]? with
  | some o => o.after.any fun e => Region.binds md e && e.on == i
  | none => false
theorem wait1_not {i j : Nat} {l : Array Bool} (hk : wait1 md ops j i = true) (hi : i ∈ Region.ready md ops l) : j ∉ Region.ready md ops l := by
  intro hr
  obtain ⟨_, o, ho, hall⟩ := mem_ready.1 hr
  unfold wait1 at hk
  rw [ho] at hk
  obtain ⟨e, he, hb⟩ := Array.any_eq_true'.1 hk
  rw [Bool.and_eq_true, beq_iff_eq] at hb
  have h1 := hall e he hb.1
  rw [hb.2] at h1
  have h0 := (mem_ready.1 hi).1
  rcases Nat.lt_or_ge i l.size with q | q
  · simp [q] at h0 h1; rw [h0] at h1; cases h1
  · simp [Array.getElem?_eq_none q] at h1
/-- do all that k names, and that have not come up, wait for number i? -/
def waitsL (md : Region.Mode) (ops : Array Oper) (k : Nat → Bool) (l : Array Bool) (i : Nat) : Bool := (List.range ops.size).all fun j => !k j || l.getD j true || wait1 md ops j i
theorem waitsL_at {i j : Nat} {l : Array Bool} (h : waitsL md ops k l i = true) (hj : j ∈ Region.ready md ops l) (hk : k j = true) : wait1 md ops j i = true := by
  obtain ⟨hu, o, ho, _⟩ := mem_ready.1 hj
  have := List.all_eq_true.1 h j (List.mem_range.2 (Array.getElem?_eq_some_iff.1 ho).1)
  rw [hk, hu] at this
  simpa using this
theorem getD_grow {l : Array Bool} {j m : Nat} (h : l.getD m true = true) : (l.setIfInBounds j true).getD m true = true := by
  rcases Nat.decEq j m with e | e
  · rw [getD_set_ne true e]; exact h
  · subst e
    by_cases q : j < l.size
    · simp [q]
    · simp
theorem waitsL_grow {i j : Nat} {l : Array Bool} (h : waitsL md ops k l i = true) : waitsL md ops k (l.setIfInBounds j true) i = true := by
  refine List.all_eq_true.2 fun m hm => ?_
  have := List.all_eq_true.1 h m hm
  simp only [Bool.or_eq_true] at this ⊢
  rcases this with (x | x) | x
  · exact .inl (.inl x)
  · exact .inl (.inr (getD_grow x))
  · exact .inr x
theorem GoesK.take {i : Nat} {o : Oper} {v : Value} {S' : World → Prop} {C : Array Bool → Prop} (ho : ops[i]? = some o) (hs : Region.noSelect ops = true) (hCg : ∀ l j, C l → C (l.setIfInBounds j true))
    (hC : ∀ l j, C l → i ∈ Region.ready md ops l → j ∈ Region.ready md ops l → ∀ x, (k j = false → S x) → S' x) (hi : ∀ w, S' w → k i = false → S w) (hQ : ∀ c a w, Q (.panic c) (a.put o.dst v) w → Q (.panic c) a w) :
    ∀ (n : Nat) (l : Array Bool) (a : Act) (w : World), C l → Region.free md ops l i = true → i ∈ Region.ready md ops l → YieldsIf P ops S' o v a → S' w → GoesK P md ops Q S k n (l.setIfInBounds i true) (a.put o.dst v) w → GoesK P md ops Q S k (n + 1) l a w := by
  have sel := Region.noSelect_spec hs
  suffices H : ∀ (n : Nat) (l : Array Bool) (a : Act) (w : World), C l → (∀ j p, ops[j]? = some p → j ≠ i → l.getD j true = false → (∀ e ∈ p.after, Region.binds md e = true → e.on ≠ i) → o.apart ops p = true) → i ∈ Region.ready md ops l → YieldsIf P ops S' o v a → S' w → GoesK P md ops Q S k n (l.setIfInBounds i true) (a.put o.dst v) w → GoesK P md ops Q S k (n + 1) l a w from
    fun n l a w hc hf => H n l a w hc (fun j p hj => Region.free_spec ho hf j p hj)
  intro n
  induction n with
  | zero =>
    intro l a w _ _ hr hy hS h
    refine ⟨fun e => (by rw [e] at hr; cases hr), fun j hj => ?_⟩
    rcases Nat.decEq j i with e | e
    · exact absurd (ready_mono hj e) (by rw [h.1]; exact List.not_mem_nil)
    · subst e; exact hy.wpOp ho hS ⟨hi w hS, h⟩
  | succ n ih =>
    intro l a w hc hf hr hy hS h
    refine ⟨fun e => (by rw [e] at hr; cases hr), fun j hj => ?_⟩
    rcases Nat.decEq j i with e | e
    · obtain ⟨hun, p, hp, hall⟩ := mem_ready.1 hj
      have hno : ∀ e ∈ p.after, Region.binds md e = true → e.on ≠ i := by
        intro d hd hb q
        have h1 := hall d hd hb
        rw [q] at h1
        have h0 := (mem_ready.1 hr).1
        rcases Nat.lt_or_ge i l.size with z | z
        · simp [z] at h0 h1; rw [h0] at h1; cases h1
        · simp [Array.getElem?_eq_none z] at h1
      refine wpOp_mono (fun b x y => ⟨y.2.1, ih _ b x (hCg _ _ hc) ?_ (ready_mono hr (Ne.symm e)) y.1 (hC l j hc hr hj x y.2.1) ?_⟩) (wpOp_putIf hp (hf j p hp e hun hno) (fun cs c => sel i o cs c ho) (fun cs c => sel j p cs c hp) hQ hy (h.2 j (ready_mono hj e)))
      · intro m q hm hmi hmu hmn
        refine hf m q hm hmi ?_ hmn
        rcases Nat.decEq j m with z | z
        · rwa [getD_set_ne true z] at hmu
        · exact z ▸ hun
      · rw [Array.setIfInBounds_comm _ _ e]; exact y.2.2
    · subst e; exact hy.wpOp ho hS ⟨hi w hS, h⟩
/-- a load, taken first. -/
theorem gk_take {i n : Nat} {o : Oper} {v : Value} {l : Array Bool} {a : Act} {w : World} (ho : ops[i]? = some o) (hs : Region.noSelect ops = true) (hk : waitsL md ops k l i = true) (hf : Region.free md ops l i = true) (hr : (Region.ready md ops l).contains i = true)
    (hQ : ∀ c a w, Q (.panic c) (a.put o.dst v) w → Q (.panic c) a w) (hy : YieldsIf P ops S o v a) (hS : S w) (h : GoesK P md ops Q S k n (l.setIfInBounds i true) (a.put o.dst v) w) : GoesK P md ops Q S k (n + 1) l a w :=
  GoesK.take (S' := S) (C := fun l => waitsL md ops k l i = true) ho hs (fun _ _ h => waitsL_grow h) (fun l j hc hi hj x hx => by
    cases e : k j
    · exact hx e
    · exact absurd hj (wait1_not (waitsL_at hc hj e) hi)) (fun _ h _ => h) hQ n l a w hk hf (by simpa using hr) hy hS h
/-- an operation that looks at no memory, taken first. -/
theorem gk_pure {i n : Nat} {o : Oper} {v : Value} {l : Array Bool} {a : Act} {w : World} (ho : ops[i]? = some o) (hs : Region.noSelect ops = true) (hk : k i = true) (hf : Region.free md ops l i = true) (hr : (Region.ready md ops l).contains i = true)
    (hQ : ∀ c a w, Q (.panic c) (a.put o.dst v) w → Q (.panic c) a w) (hy : Yields P ops o v a) (h : GoesK P md ops Q S k n (l.setIfInBounds i true) (a.put o.dst v) w) : GoesK P md ops Q S k (n + 1) l a w :=
  GoesK.take (S' := fun _ => True) (C := fun _ => True) ho hs (fun _ _ _ => trivial) (fun _ _ _ _ _ _ _ => trivial) (fun _ _ e => by rw [hk] at e; cases e) hQ n l a w trivial hf (by simpa using hr) hy.yieldsIf trivial h
theorem gk_done {l : Array Bool} {a : Act} {w : World} (hr : Region.ready md ops l = []) (h : Q .normal a w) : ∀ n, GoesK P md ops Q S k n l a w
  | 0 => ⟨hr, h⟩
  | _ + 1 => ⟨fun _ => h, by rw [hr]; simp⟩
theorem gk_one {i n : Nat} {o : Oper} {l : Array Bool} {a : Act} {w : World} (ho : ops[i]? = some o) (hr : Region.ready md ops l = [i])
    (h : ∀ K : Act → World → Prop, (∀ b x, (k i = false → S x) → GoesK P md ops Q S k n (l.setIfInBounds i true) b x → K b x) → if Region.wanted o (yielded ops a.tmps) = true then Oper.wp P o a w K Q else K (a.put o.dst undef) w) : GoesK P md ops Q S k (n + 1) l a w := by
  refine ⟨fun e => (by rw [hr] at e; cases e), fun j hj => ?_⟩
  rw [hr] at hj
  obtain rfl : j = i := by simpa using hj
  exact wpOp_step ho fun K hK => h K fun b x h1 h2 => hK b x ⟨h1, h2⟩
theorem gk_two {i j n : Nat} {o p : Oper} {l : Array Bool} {a : Act} {w : World} (ho : ops[i]? = some o) (hp : ops[j]? = some p) (hr : Region.ready md ops l = [i, j])
    (h : ∀ K : Act → World → Prop, (∀ b x, (k i = false → S x) → GoesK P md ops Q S k n (l.setIfInBounds i true) b x → K b x) → if Region.wanted o (yielded ops a.tmps) = true then Oper.wp P o a w K Q else K (a.put o.dst undef) w)
    (h2 : ∀ K : Act → World → Prop, (∀ b x, (k j = false → S x) → GoesK P md ops Q S k n (l.setIfInBounds j true) b x → K b x) → if Region.wanted p (yielded ops a.tmps) = true then Oper.wp P p a w K Q else K (a.put p.dst undef) w) : GoesK P md ops Q S k (n + 1) l a w := by
  refine ⟨fun e => (by rw [hr] at e; cases e), fun m hm => ?_⟩
  rw [hr] at hm
  rcases List.mem_cons.1 hm with rfl | hm
  · exact wpOp_step ho fun K hK => h K fun b x h1 h2 => hK b x ⟨h1, h2⟩
  · obtain rfl : m = j := by simpa using hm
    exact wpOp_step hp fun K hK => h2 K fun b x h1 h2 => hK b x ⟨h1, h2⟩
theorem gk_region {id : Nat} {a : Act} {w : World} (S : World → Prop) (k : Nat → Bool) (hm : P.follows .mixedOrders = true) (h : GoesK P .any ops Q S k ops.size (Array.replicate ops.size false) a w.drew) : (Code.region id ops true).wp P Q a w :=
  wp_region_any hm (GoesK.any _ _ _ _ h)
end
end Go.Proofs.Ytenhnnfemehbcaa
