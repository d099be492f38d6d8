/- A drawn region whose last operation writes what others have loaded: loads are taken first, for only the last operation, which waits for them, spoils their cells. No conditions. What reduce of package frac returns, for numbers of any size. Written by wip/mk_fug.py. What Parse of package frac returns, for any text of at most 80 bytes. Written by wip/mk_fuh.py. -/
import Derived.OrdersHeld
import Derived.RegionTactic
import Derived.Test.YtkpdbhpmnegahaaDoorGB
import Derived.Test.YtkpdbhpmnegahaaDoorNumP
namespace Go.Proofs.YtkpdbhpmnegahaaDoor
open Go
section
variable {P : Program} {ops : Array Oper} {Q : Exit → Act → World → Prop} {md : Region.Mode} {S : World → Prop} {k : Nat}

/-- in whatever order: S holds behind every operation but number k. -/
def Goes (P : Program) (md : Region.Mode) (ops : Array Oper) (Q : Exit → Act → World → Prop) (S : World → Prop) (k : Nat) : Nat → Array Bool → Act → World → Prop
  | 0, l, a, w => Region.ready md ops l = [] ∧ Q .normal a w
  | n + 1, l, a, w => (Region.ready md ops l = [] → Q .normal a w) ∧ ∀ j ∈ Region.ready md ops l, wpOp P ops Q j (fun b x => (j ≠ k → S x) ∧ Goes P md ops Q S k n (l.setIfInBounds j true) b x) a w
theorem Goes.any : ∀ (n : Nat) (l : Array Bool) (a : Act) (w : World), Goes P md ops Q S k n l a w → wpAny P md ops Q n l a w := by
  intro n
  induction n with
  | zero => exact fun _ _ _ h => h
  | succ n ih => exact fun l a w h => ⟨h.1, fun j hj => wpOp_mono (fun b x y => ih _ b x y.2) (h.2 j hj)⟩
/-- does number k wait for number i? -/
def waits (md : Region.Mode) (ops : Array Oper) (k i : Nat) : Bool := match ops[k]? with
  | some o => o.after.any fun e => Region.binds md e && e.on == i
  | none => false
theorem waits_not {i : Nat} {l : Array Bool} (hk : waits md ops k i = true) (hi : i ∈ Region.ready md ops l) : k ∉ Region.ready md ops l := by
  intro hr
  obtain ⟨_, o, ho, hall⟩ := mem_ready.1 hr
  unfold waits at hk
  rw [ho] at hk
  obtain ⟨e, he, hb⟩ := Array.any_eq_true'.1 hk
  rw [Bool.and_eq_true, beq_iff_eq] at hb
  have h1 := hall e he hb.1
  rw [hb.2] at h1
  have h0 := (mem_ready.1 hi).1
  rcases Nat.lt_or_ge i l.size with q | q
  · simp [q] at h0 h1; rw [h0] at h1; cases h1
  · simp [Array.getElem?_eq_none q] at h1
theorem Goes.take {i : Nat} {o : Oper} {v : Value} (ho : ops[i]? = some o) (hs : Region.noSelect ops = true) (hk : waits md ops k i = true) (hki : i ≠ k) (hQ : ∀ c a w, Q (.panic c) (a.put o.dst v) w → Q (.panic c) a w) :
    ∀ (n : Nat) (l : Array Bool) (a : Act) (w : World), Region.free md ops l i = true → i ∈ Region.ready md ops l → YieldsIf P ops S o v a → S w → Goes P md ops Q S k n (l.setIfInBounds i true) (a.put o.dst v) w → Goes P md ops Q S k (n + 1) l a w := by
  have sel := Region.noSelect_spec hs
  suffices H : ∀ (n : Nat) (l : Array Bool) (a : Act) (w : World), (∀ j p, ops[j]? = some p → j ≠ i → l.getD j true = false → (∀ e ∈ p.after, Region.binds md e = true → e.on ≠ i) → o.apart ops p = true) → i ∈ Region.ready md ops l → YieldsIf P ops S o v a → S w → Goes P md ops Q S k n (l.setIfInBounds i true) (a.put o.dst v) w → Goes P md ops Q S k (n + 1) l a w from
    fun n l a w hf => H n l a w (fun j p hj => Region.free_spec ho hf j p hj)
  intro n
  induction n with
  | zero =>
    intro l a w _ hr hy hS h
    refine ⟨fun e => (by rw [e] at hr; cases hr), fun j hj => ?_⟩
    rcases Nat.decEq j i with e | e
    · exact absurd (ready_mono hj e) (by rw [h.1]; exact List.not_mem_nil)
    · subst e; exact hy.wpOp ho hS ⟨fun _ => hS, h⟩
  | succ n ih =>
    intro l a w hf hr hy hS h
    refine ⟨fun e => (by rw [e] at hr; cases hr), fun j hj => ?_⟩
    rcases Nat.decEq j i with e | e
    · obtain ⟨hun, p, hp, hall⟩ := mem_ready.1 hj
      have hjk : j ≠ k := fun q => waits_not hk hr (q ▸ hj)
      have hno : ∀ e ∈ p.after, Region.binds md e = true → e.on ≠ i := by
        intro d hd hb q
        have h1 := hall d hd hb
        rw [q] at h1
        have h0 := (mem_ready.1 hr).1
        rcases Nat.lt_or_ge i l.size with z | z
        · simp [z] at h0 h1; rw [h0] at h1; cases h1
        · simp [Array.getElem?_eq_none z] at h1
      refine wpOp_mono (fun b x y => ⟨fun _ => y.2.1 hjk, ih _ b x ?_ (ready_mono hr (Ne.symm e)) y.1 (y.2.1 hjk) ?_⟩) (wpOp_putIf hp (hf j p hp e hun hno) (fun cs c => sel i o cs c ho) (fun cs c => sel j p cs c hp) hQ hy (h.2 j (ready_mono hj e)))
      · intro m q hm hmi hmu hmn
        refine hf m q hm hmi ?_ hmn
        rcases Nat.decEq j m with z | z
        · rwa [getD_set_ne true z] at hmu
        · exact z ▸ hun
      · rw [Array.setIfInBounds_comm _ _ e]; exact y.2.2
    · subst e; exact hy.wpOp ho hS ⟨fun _ => hS, h⟩
theorem goes_take {i n : Nat} {o : Oper} {v : Value} {l : Array Bool} {a : Act} {w : World} (ho : ops[i]? = some o) (hs : Region.noSelect ops = true) (hk : waits md ops k i = true) (hki : i ≠ k) (hf : Region.free md ops l i = true) (hr : (Region.ready md ops l).contains i = true)
    (hQ : ∀ c a w, Q (.panic c) (a.put o.dst v) w → Q (.panic c) a w) (hy : YieldsIf P ops S o v a) (hS : S w) (h : Goes P md ops Q S k n (l.setIfInBounds i true) (a.put o.dst v) w) : Goes P md ops Q S k (n + 1) l a w :=
  Goes.take ho hs hk hki hQ n l a w hf (by simpa using hr) hy hS h
theorem goes_done {l : Array Bool} {a : Act} {w : World} (hr : Region.ready md ops l = []) (h : Q .normal a w) : ∀ n, Goes P md ops Q S k n l a w
  | 0 => ⟨hr, h⟩
  | _ + 1 => ⟨fun _ => h, by rw [hr]; simp⟩
theorem goes_one {i n : Nat} {o : Oper} {l : Array Bool} {a : Act} {w : World} (ho : ops[i]? = some o) (hr : Region.ready md ops l = [i])
    (h : ∀ K : Act → World → Prop, (∀ b x, (i ≠ k → S x) → Goes P md ops Q S k n (l.setIfInBounds i true) b x → K b x) → if Region.wanted o (yielded ops a.tmps) = true then Oper.wp P o a w K Q else K (a.put o.dst undef) w) : Goes P md ops Q S k (n + 1) l a w := by
  refine ⟨fun e => (by rw [hr] at e; cases e), fun j hj => ?_⟩
  rw [hr] at hj
  obtain rfl : j = i := by simpa using hj
  exact wpOp_step ho fun K hK => h K fun b x h1 h2 => hK b x ⟨h1, h2⟩
theorem goes_two {i j n : Nat} {o p : Oper} {l : Array Bool} {a : Act} {w : World} (ho : ops[i]? = some o) (hp : ops[j]? = some p) (hr : Region.ready md ops l = [i, j])
    (h : ∀ K : Act → World → Prop, (∀ b x, (i ≠ k → S x) → Goes P md ops Q S k n (l.setIfInBounds i true) b x → K b x) → if Region.wanted o (yielded ops a.tmps) = true then Oper.wp P o a w K Q else K (a.put o.dst undef) w)
    (h2 : ∀ K : Act → World → Prop, (∀ b x, (j ≠ k → S x) → Goes P md ops Q S k n (l.setIfInBounds j true) b x → K b x) → if Region.wanted p (yielded ops a.tmps) = true then Oper.wp P p a w K Q else K (a.put p.dst undef) w) : Goes P md ops Q S k (n + 1) l a w := by
  refine ⟨fun e => (by rw [hr] at e; cases e), fun m hm => ?_⟩
  rw [hr] at hm
  rcases List.mem_cons.1 hm with rfl | hm
  · exact wpOp_step ho fun K hK => h K fun b x h1 h2 => hK b x ⟨h1, h2⟩
  · obtain rfl : m = j := by simpa using hm
    exact wpOp_step hp fun K hK => h2 K fun b x h1 h2 => hK b x ⟨h1, h2⟩
theorem goes_region {id : Nat} {a : Act} {w : World} (S : World → Prop) (k : Nat) (hm : P.follows .mixedOrders = true) (h : Goes P .any ops Q S k ops.size (Array.replicate ops.size false) a w.drew) : (Code.region id ops true).wp P Q a w :=
  wp_region_any hm (Goes.any _ _ _ _ h)
end
end Go.Proofs.YtkpdbhpmnegahaaDoor
namespace Go.Proofs.YtkpdbhpmnegahaaDoor
open Go.RowKit Go.Sort
set_option linter.unusedVariables false
set_option linter.unusedSimpArgs false

def rdN (n d : Nat) : Int := match rdO n d with | some (x, _) => x | none => 0
def rdD (n d : Nat) : Int := match rdO n d with | some (_, y) => y | none => 0
def rdB (n d : Nat) : Bool := (rdO n d).isSome
theorem rd_some {n d x y : Nat} (h : rdO n d = some (x, y)) : rdN n d = x ∧ rdD n d = y ∧ rdB n d = true := by unfold rdN rdD rdB; rw [h]; exact ⟨rfl, rfl, rfl⟩
theorem rd_none {n d : Nat} (h : rdO n d = none) : rdN n d = 0 ∧ rdD n d = 0 ∧ rdB n d = false := by unfold rdN rdD rdB; rw [h]; exact ⟨rfl, rfl, rfl⟩
def cellN (w : World) (B k : Nat) : Nat := match w.cell? ⟨B, k, none⟩ with | some (.int _ z) => z.toNat | _ => 0
def slV (w : World) : Option Value → Nat
  | some (.slice (some a) n _) => lv ((List.range n).map (cellN w a.block))
  | _ => 0
theorem slV_is {S : Nat → Prop} {w : World} {v : Value} {l : List Nat} (h : NatW S w v l) : slV w (some v) = lv l := by
  obtain ⟨_, _, _, ao, c, rfl, _, h6⟩ := h
  rcases Nat.eq_zero_or_pos l.length with h0 | h0
  · rw [lv_nil h0, h0]
    cases ao <;> rfl
  · obtain ⟨B, _, rfl, _, hc⟩ := h6 h0
    show lv ((List.range l.length).map (cellN w B)) = lv l
    congr 1
    apply List.ext_getElem
    · simp
    · intro i h1 h2
      simp only [List.getElem_map, List.getElem_range, cellN]
      rw [hc i h2]
      simp
def redV (w wr : World) : Nat := slV wr (wr.cell? ⟨w.heap.size + 1, 1, none⟩)
/-- where numbers may lie: not in the variables of reduce. -/
def offS (N : Nat) (B : Nat) : Prop := B < N ∨ N + 4 ≤ B
theorem offS_no (N i : Nat) (h : i < 4) : ¬ offS N (N + i) := by unfold offS; omega
theorem pair_set {S : Nat → Prop} {w : World} {v v' : Value} {l l' : List Nat} (h : NatW S w v l ∧ NatW S w v' l') (p : Addr) (hp : ¬ S p.block) (x : Value) : NatW S (w.setCell p x) v l ∧ NatW S (w.setCell p x) v' l' := ⟨h.1.set p hp x, h.2.set p hp x⟩
/-- the variables of reduce. -/
structure RedG (w wr : World) (a b : Value) (p q r t : Nat) : Prop where
  P0 : Cell2 wr w.heap.size (.int .i64 0) (.int .i64 0)
  P1 : Cell2 wr (w.heap.size + 1) a b
  P2 : Cell2 wr (w.heap.size + 2) (.int .i64 (p : Int)) (.int .i64 (q : Int))
  P3 : Cell2 wr (w.heap.size + 3) (.int .i64 (r : Int)) (.int .i64 (t : Int))
  B : Below w.heap.size w wr
set_option maxRecDepth 100000 in
set_option maxHeartbeats 16000000 in
theorem reduce_gen (ax0 bx0 : Option Addr) (na0 ca0 nb0 cb0 : Nat) (a0 b0 : List Nat) (n d : Nat) (w : World) (hn : lv a0 = n) (hd : lv b0 = d) (hd0 : 0 < d) (hA : NatW (fun B => B < w.heap.size) w (.slice ax0 na0 ca0) a0) (hB : NatW (fun B => B < w.heap.size) w (.slice bx0 nb0 cb0) b0) :
    Calls Tryd.prog 73 #[.slice ax0 na0 ca0, .slice bx0 nb0 cb0] w fun e w' => e = .returned (.tuple #[.agg #[.int .i64 (rdN n d), .int .i64 (rdD n d)], .bool (rdB n d)]) ∧ Below w.heap.size w w' := by
  have HNA := Lib.hid (And.intro (hA.imp (S' := offS w.heap.size) fun B h => .inl h) (hB.imp (S' := offS w.heap.size) fun B h => .inl h))
  have HC0 := Lib.hid (show CfI n d (lv a0) (lv b0) 0 1 1 0 by rw [hn, hd]; exact cf_start n d)
  have HD0 := Lib.hid hd0
  clear hA hB hn hd hd0
  go_enter Tryd.func73, Tryd.ntmps73
  go_wp2_with fail
  have P0_1 := Lib.hid (show Cell2 ((((w.alloc (Obj.cells #[(.int .i64 0), (.int .i64 0)] 35)).alloc (Obj.cells #[(.slice ax0 na0 ca0), (.slice bx0 nb0 cb0)] 128)).alloc (Obj.cells #[(.int .i64 0), (.int .i64 1)] 129)).alloc (Obj.cells #[(.int .i64 1), (.int .i64 0)] 129)) (w.heap.size) (.int .i64 0) (.int .i64 0) from by have q := Cell2.alloc w (.int .i64 0) (.int .i64 0) 35; exact q.below (N := w.heap.size + 1) ((((Below.refl _ _).alloc (by simp <;> omega) (Obj.cells #[(.slice ax0 na0 ca0), (.slice bx0 nb0 cb0)] 128)).alloc (by simp <;> omega) (Obj.cells #[(.int .i64 0), (.int .i64 1)] 129)).alloc (by simp <;> omega) (Obj.cells #[(.int .i64 1), (.int .i64 0)] 129)) (by omega))
  have P1_1 := Lib.hid (show Cell2 ((((w.alloc (Obj.cells #[(.int .i64 0), (.int .i64 0)] 35)).alloc (Obj.cells #[(.slice ax0 na0 ca0), (.slice bx0 nb0 cb0)] 128)).alloc (Obj.cells #[(.int .i64 0), (.int .i64 1)] 129)).alloc (Obj.cells #[(.int .i64 1), (.int .i64 0)] 129)) (w.heap.size + 1) (.slice ax0 na0 ca0) (.slice bx0 nb0 cb0) from by have q := Cell2.alloc (w.alloc (Obj.cells #[(.int .i64 0), (.int .i64 0)] 35)) (.slice ax0 na0 ca0) (.slice bx0 nb0 cb0) 128; try simp only [World.size_alloc] at q; exact q.below (N := w.heap.size + 1 + 1) (((Below.refl _ _).alloc (by simp <;> omega) (Obj.cells #[(.int .i64 0), (.int .i64 1)] 129)).alloc (by simp <;> omega) (Obj.cells #[(.int .i64 1), (.int .i64 0)] 129)) (by omega))
  have P2_1 := Lib.hid (show Cell2 ((((w.alloc (Obj.cells #[(.int .i64 0), (.int .i64 0)] 35)).alloc (Obj.cells #[(.slice ax0 na0 ca0), (.slice bx0 nb0 cb0)] 128)).alloc (Obj.cells #[(.int .i64 0), (.int .i64 1)] 129)).alloc (Obj.cells #[(.int .i64 1), (.int .i64 0)] 129)) (w.heap.size + 2) (.int .i64 0) (.int .i64 1) from by have q := Cell2.alloc ((w.alloc (Obj.cells #[(.int .i64 0), (.int .i64 0)] 35)).alloc (Obj.cells #[(.slice ax0 na0 ca0), (.slice bx0 nb0 cb0)] 128)) (.int .i64 0) (.int .i64 1) 129; try simp only [World.size_alloc] at q; exact q.below (N := w.heap.size + 2 + 1) ((Below.refl _ _).alloc (by simp <;> omega) (Obj.cells #[(.int .i64 1), (.int .i64 0)] 129)) (by omega))
  have P3_1 := Lib.hid (show Cell2 ((((w.alloc (Obj.cells #[(.int .i64 0), (.int .i64 0)] 35)).alloc (Obj.cells #[(.slice ax0 na0 ca0), (.slice bx0 nb0 cb0)] 128)).alloc (Obj.cells #[(.int .i64 0), (.int .i64 1)] 129)).alloc (Obj.cells #[(.int .i64 1), (.int .i64 0)] 129)) (w.heap.size + 3) (.int .i64 1) (.int .i64 0) from by simpa using Cell2.alloc (((w.alloc (Obj.cells #[(.int .i64 0), (.int .i64 0)] 35)).alloc (Obj.cells #[(.slice ax0 na0 ca0), (.slice bx0 nb0 cb0)] 128)).alloc (Obj.cells #[(.int .i64 0), (.int .i64 1)] 129)) (.int .i64 1) (.int .i64 0) 129)
  have HB1 := Lib.hid (((((Below.refl w.heap.size w).alloc (Nat.le_refl _) (Obj.cells #[(.int .i64 0), (.int .i64 0)] 35)).alloc (by simp) (Obj.cells #[(.slice ax0 na0 ca0), (.slice bx0 nb0 cb0)] 128)).alloc (by simp; omega) (Obj.cells #[(.int .i64 0), (.int .i64 1)] 129)).alloc (by simp; omega) (Obj.cells #[(.int .i64 1), (.int .i64 0)] 129))
  generalize ((((w.alloc (Obj.cells #[(.int .i64 0), (.int .i64 0)] 35)).alloc (Obj.cells #[(.slice ax0 na0 ca0), (.slice bx0 nb0 cb0)] 128)).alloc (Obj.cells #[(.int .i64 0), (.int .i64 1)] 129)).alloc (Obj.cells #[(.int .i64 1), (.int .i64 0)] 129)) = W1 at *
  have HS0 := Lib.hid (RedG.mk (p := 0) (q := 1) (r := 1) (t := 0) P0_1.out P1_1.out P2_1.out P3_1.out HB1.out)
  have HN0 := Lib.hid (And.intro (HNA.out.1.below HB1.out) (HNA.out.2.below HB1.out))
  go_loopw [] (fun wr => ∃ (ax bx : Option Addr) (na ca nb cb : Nat) (a b : List Nat) (p q r t : Nat), p ≤ 1000000 ∧ q ≤ 1000000 ∧ r ≤ 1000000 ∧ t ≤ 1000000 ∧ Hid (RedG w wr (.slice ax na ca) (.slice bx nb cb) p q r t) ∧ Hid (NatW (offS w.heap.size) wr (.slice ax na ca) a ∧ NatW (offS w.heap.size) wr (.slice bx nb cb) b) ∧ Hid (CfI n d (lv a) (lv b) p q r t)) (fun wr => redV w wr)
  case atStart => exact ⟨ax0, bx0, na0, ca0, nb0, cb0, a0, b0, 0, 1, 1, 0, by omega, by omega, by omega, by omega, HS0, HN0, HC0⟩
  case round =>
    clear HS0 HN0 HC0 HNA
    obtain ⟨ax, bx, na, ca, nb, cb, a, b, p, q, r, t, hp, hq, hr, ht, HS, HN, HC⟩ := hrel
    have P0_0 := Lib.hid HS.out.P0
    have P1_0 := Lib.hid HS.out.P1
    have P2_0 := Lib.hid HS.out.P2
    have P3_0 := Lib.hid HS.out.P3
    have HB_0 := Lib.hid HS.out.B
    have hnbl : nb = b.length := by
      obtain ⟨_, _, _, ao, c, e, _⟩ := HN.out.2
      injection e
    by_cases hb0 : 0 < nb
    · have hb0' : (0 : Int) < (nb : Int) := by omega
      have hbp : 0 < lv b := lv_pos HN.out.2.2.1 (by omega)
      have hlz := HS.out.P3.lt
      have HV := divide_gen (offS w.heap.size) (.slice ax na ca) (.slice bx nb cb) a b wr HN.out.1 HN.out.2 hbp (fun B h => .inr (by omega))
      obtain ⟨D, hD⟩ : ∃ D, min (lv a / lv b) 1000001 = D := ⟨_, rfl⟩
      rw [hD] at HV
      have HV := Lib.hid HV
      have HMb := Lib.hid (show redV w wr = lv b by unfold redV; rw [P1_0.out.c1]; exact slV_is HN.out.2)
      have hD1 : D ≤ 1000001 := by omega
      have hDa : D ≤ lv a / lv b := by omega
      obtain ⟨m1, hm1⟩ : ∃ m1 : Nat, (D : Int) * (r : Int) = (m1 : Int) := ⟨D * r, by simp⟩
      obtain ⟨m2, hm2⟩ : ∃ m2 : Nat, (D : Int) * (t : Int) = (m2 : Int) := ⟨D * t, by simp⟩
      have m1b : m1 ≤ 1000001 * 1000000 := by have : (D : Int) * (r : Int) ≤ 1000001 * 1000000 := Int.mul_le_mul (by omega) (by omega) (by omega) (by omega); omega
      have m2b : m2 ≤ 1000001 * 1000000 := by have : (D : Int) * (t : Int) ≤ 1000001 * 1000000 := Int.mul_le_mul (by omega) (by omega) (by omega) (by omega); omega
      have em1 : m1 = D * r := by apply Int.ofNat.inj; show (m1 : Int) = ((D * r : Nat) : Int); rw [← hm1]; simp
      have em2 : m2 = D * t := by apply Int.ofNat.inj; show (m2 : Int) = ((D * t : Nat) : Int); rw [← hm2]; simp
      obtain ⟨r2, hr2⟩ : ∃ r2 : Nat, (m1 : Int) + (p : Int) = (r2 : Int) := ⟨m1 + p, by simp⟩
      obtain ⟨t2, ht2⟩ : ∃ t2 : Nat, (m2 : Int) + (q : Int) = (t2 : Int) := ⟨m2 + q, by simp⟩
      have HBig := Lib.hid (show 1000000 < r2 ∨ 1000000 < t2 → rdO n d = none from fun h => cf_big HC.out hbp hDa (by rw [← em1, ← em2]; omega))
      have HGo := Lib.hid (show r2 ≤ 1000000 → t2 ≤ 1000000 → lv a / lv b ≤ 1000000 ∧ CfI n d (lv b) (lv a % lv b) r t r2 t2 from fun g1 g2 => by
        have hle : lv a / lv b ≤ 1000000 := by
          apply Classical.byContradiction
          intro hc
          have hD2 : D = 1000001 := by omega
          have := cf_cap HC.out
          rw [hD2] at em1 em2
          omega
        have hDe : D = lv a / lv b := by omega
        have := cf_step HC.out
        rw [← hDe, ← em1, ← em2] at this
        rw [show r2 = m1 + p by omega, show t2 = m2 + q by omega]
        exact ⟨hle, this⟩)
      have HW1 := Lib.hid (show IntKind.i64.wrap (m1 : Int) = m1 by first | go_num | (rw [IntKind.wrap_i64]; omega) | (simp only [IntKind.wrap, IntKind.min, IntKind.max, IntKind.signed, IntKind.bits]; omega))
      have HW2 := Lib.hid (show IntKind.i64.wrap (r2 : Int) = r2 by first | go_num | (rw [IntKind.wrap_i64]; omega) | (simp only [IntKind.wrap, IntKind.min, IntKind.max, IntKind.signed, IntKind.bits]; omega))
      have HW3 := Lib.hid (show IntKind.i64.wrap (m2 : Int) = m2 by first | go_num | (rw [IntKind.wrap_i64]; omega) | (simp only [IntKind.wrap, IntKind.min, IntKind.max, IntKind.signed, IntKind.bits]; omega))
      have HW4 := Lib.hid (show IntKind.i64.wrap (t2 : Int) = t2 by first | go_num | (rw [IntKind.wrap_i64]; omega) | (simp only [IntKind.wrap, IntKind.min, IntKind.max, IntKind.signed, IntKind.bits]; omega))
      have HNb := Lib.hid HN.out.2
      clear HS hD hDa em1 em2 HC HN hnbl
      have lP0_0 := P0_0.out.lt
      have cP0_0_0 := P0_0.out.c0
      have cP0_0_1 := P0_0.out.c1
      have lP1_0 := P1_0.out.lt
      have cP1_0_0 := P1_0.out.c0
      have cP1_0_1 := P1_0.out.c1
      have lP2_0 := P2_0.out.lt
      have cP2_0_0 := P2_0.out.c0
      have cP2_0_1 := P2_0.out.c1
      have lP3_0 := P3_0.out.lt
      have cP3_0_0 := P3_0.out.c0
      have cP3_0_1 := P3_0.out.c1
      go_wp2_with fail
      refine HV.out.mono ?_
      rintro e w2 ⟨v, l, rfl, hv, hvl, hb⟩
      obtain ⟨zx, nz, cz, rfl⟩ : ∃ zx nz cz, v = .slice zx nz cz := by
        obtain ⟨_, _, _, ao, c, e, _⟩ := hv
        exact ⟨ao, _, c, e⟩
      have HN := Lib.hid (And.intro (HNb.out.below hb) hv)
      have HVL := Lib.hid hvl
      clear hv HV hvl HNb
      clear lP0_0 cP0_0_0 cP0_0_1 lP1_0 cP1_0_0 cP1_0_1 lP2_0 cP2_0_0 cP2_0_1 lP3_0 cP3_0_0 cP3_0_1
      have HB2 := Lib.hid (HB_0.out.trans ((hb).mono HB_0.out.size))
      have P0_2 := Lib.hid (P0_0.out.below (hb) P0_0.out.lt)
      have P1_2 := Lib.hid (P1_0.out.below (hb) P1_0.out.lt)
      have P2_2 := Lib.hid (P2_0.out.below (hb) P2_0.out.lt)
      have P3_2 := Lib.hid (P3_0.out.below (hb) P3_0.out.lt)
      clear HB_0 P0_0 P1_0 P2_0 P3_0 hb
      have lP0_2 := P0_2.out.lt
      have cP0_2_0 := P0_2.out.c0
      have cP0_2_1 := P0_2.out.c1
      have lP1_2 := P1_2.out.lt
      have cP1_2_0 := P1_2.out.c0
      have cP1_2_1 := P1_2.out.c1
      have lP2_2 := P2_2.out.lt
      have cP2_2_0 := P2_2.out.c0
      have cP2_2_1 := P2_2.out.c1
      have lP3_2 := P3_2.out.lt
      have cP3_2_0 := P3_2.out.c0
      have cP3_2_1 := P3_2.out.c1
      have fP1_2_0 := P1_2.out.f0
      have fP1_2_1 := P1_2.out.f1
      go_wp2_with fail
      have HN2 := Lib.hid (pair_set (pair_set HN.out ⟨w.heap.size + 1, 0, none⟩ (offS_no _ 1 (by omega)) (.slice bx nb cb)) ⟨w.heap.size + 1, 1, none⟩ (offS_no _ 1 (by omega)) (.slice zx nz cz))
      clear HN
      have P0_3 := Lib.hid (P0_2.out.far (B' := w.heap.size + 1) (by omega) 0 (.slice bx nb cb))
      have P1_3 := Lib.hid (P1_2.out.set0 (.slice bx nb cb))
      have P2_3 := Lib.hid (P2_2.out.far (B' := w.heap.size + 1) (by omega) 0 (.slice bx nb cb))
      have P3_3 := Lib.hid (P3_2.out.far (B' := w.heap.size + 1) (by omega) 0 (.slice bx nb cb))
      have HB3 := Lib.hid (HB2.out.setCell (p := ⟨w.heap.size + 1, 0, none⟩) (by simp <;> omega) (.slice bx nb cb))
      have P0_4 := Lib.hid (P0_3.out.far (B' := w.heap.size + 1) (by omega) 1 (.slice zx nz cz))
      have P1_4 := Lib.hid (P1_3.out.set1 (.slice zx nz cz))
      have P2_4 := Lib.hid (P2_3.out.far (B' := w.heap.size + 1) (by omega) 1 (.slice zx nz cz))
      have P3_4 := Lib.hid (P3_3.out.far (B' := w.heap.size + 1) (by omega) 1 (.slice zx nz cz))
      have HB4 := Lib.hid (HB3.out.setCell (p := ⟨w.heap.size + 1, 1, none⟩) (by simp <;> omega) (.slice zx nz cz))
      clear lP0_2 cP0_2_0 cP0_2_1 lP1_2 cP1_2_0 cP1_2_1 lP2_2 cP2_2_0 cP2_2_1 lP3_2 cP3_2_0 cP3_2_1 fP1_2_0 fP1_2_1
      clear P0_2 P1_2 P2_2 P3_2 HB2 P0_3 P1_3 P2_3 P3_3 HB3
      generalize (w2.setCell ⟨w.heap.size + 1, 0, none⟩ (.slice bx nb cb)).setCell ⟨w.heap.size + 1, 1, none⟩ (.slice zx nz cz) = W5 at *
      have lP0_4 := P0_4.out.lt
      have cP0_4_0 := P0_4.out.c0
      have cP0_4_1 := P0_4.out.c1
      have lP1_4 := P1_4.out.lt
      have cP1_4_0 := P1_4.out.c0
      have cP1_4_1 := P1_4.out.c1
      have lP2_4 := P2_4.out.lt
      have cP2_4_0 := P2_4.out.c0
      have cP2_4_1 := P2_4.out.c1
      have lP3_4 := P3_4.out.lt
      have cP3_4_0 := P3_4.out.c0
      have cP3_4_1 := P3_4.out.c1
      have fP2_4_0 := P2_4.out.f0
      have fP2_4_1 := P2_4.out.f1
      have fP3_4_0 := P3_4.out.f0
      have fP3_4_1 := P3_4.out.f1
      have HSS := Lib.hid (show W5.drew.cell? ⟨w.heap.size + 3, 0, none⟩ = some (.int .i64 (r : Int)) ∧ W5.drew.cell? ⟨w.heap.size + 3, 1, none⟩ = some (.int .i64 (t : Int)) from ⟨P3_4.out.c0, P3_4.out.c1⟩)
      have HST := Lib.hid (show ((W5.setCell ⟨w.heap.size + 2, 0, none⟩ (.int .i64 (r : Int))).setCell ⟨w.heap.size + 2, 1, none⟩ (.int .i64 (t : Int))).drew.cell? ⟨w.heap.size + 3, 0, none⟩ = some (.int .i64 (r : Int)) ∧ ((W5.setCell ⟨w.heap.size + 2, 0, none⟩ (.int .i64 (r : Int))).setCell ⟨w.heap.size + 2, 1, none⟩ (.int .i64 (t : Int))).drew.cell? ⟨w.heap.size + 3, 1, none⟩ = some (.int .i64 (t : Int)) from ⟨((P3_4.out.far (B' := w.heap.size + 2) (by omega) 0 _).far (B' := w.heap.size + 2) (by omega) 1 _).c0, ((P3_4.out.far (B' := w.heap.size + 2) (by omega) 0 _).far (B' := w.heap.size + 2) (by omega) 1 _).c1⟩)
      refine goes_region (fun x => x.cell? ⟨w.heap.size + 3, 0, none⟩ = some (.int .i64 (r : Int)) ∧ x.cell? ⟨w.heap.size + 3, 1, none⟩ = some (.int .i64 (t : Int))) 17 (by kernel_rfl) ?_
      refine goes_take (i := 0) (v := ?_) rfl (by kernel_rfl) (by kernel_rfl) (by decide) (by kernel_rfl) (by kernel_rfl) (fun _ _ _ h => h) (Or.inl ⟨by kernel_rfl, ?_⟩) HSS.out ?_
      rotate_left
      · ((intro x hx; have hx0 := hx.1; have hx1 := hx.2; clear hx; go_simp) <;> with_reducible rfl)
      try simp only [Act.put, List.setIfInBounds_toArray, List.set_cons_zero, List.set_cons_succ]
      refine goes_take (i := 1) (v := ?_) rfl (by kernel_rfl) (by kernel_rfl) (by decide) (by kernel_rfl) (by kernel_rfl) (fun _ _ _ h => h) (Or.inl ⟨by kernel_rfl, ?_⟩) HSS.out ?_
      rotate_left
      · ((intro x hx; have hx0 := hx.1; have hx1 := hx.2; clear hx; go_simp) <;> with_reducible rfl)
      try simp only [Act.put, List.setIfInBounds_toArray, List.set_cons_zero, List.set_cons_succ]
      refine goes_take (i := 2) (v := ?_) rfl (by kernel_rfl) (by kernel_rfl) (by decide) (by kernel_rfl) (by kernel_rfl) (fun _ _ _ h => h) (Or.inl ⟨by kernel_rfl, ?_⟩) HSS.out ?_
      rotate_left
      · ((intro x hx; have hx0 := hx.1; have hx1 := hx.2; clear hx; go_simp) <;> with_reducible rfl)
      try simp only [Act.put, List.setIfInBounds_toArray, List.set_cons_zero, List.set_cons_succ]
      refine goes_take (i := 3) (v := ?_) rfl (by kernel_rfl) (by kernel_rfl) (by decide) (by kernel_rfl) (by kernel_rfl) (fun _ _ _ h => h) (Or.inl ⟨by kernel_rfl, ?_⟩) HSS.out ?_
      rotate_left
      · ((intro x hx; have hx0 := hx.1; have hx1 := hx.2; clear hx; go_simp) <;> with_reducible rfl)
      try simp only [Act.put, List.setIfInBounds_toArray, List.set_cons_zero, List.set_cons_succ]
      refine goes_take (i := 4) (v := ?_) rfl (by kernel_rfl) (by kernel_rfl) (by decide) (by kernel_rfl) (by kernel_rfl) (fun _ _ _ h => h) (Or.inl ⟨by kernel_rfl, ?_⟩) HSS.out ?_
      rotate_left
      · ((intro x hx; have hx0 := hx.1; have hx1 := hx.2; clear hx; go_simp) <;> with_reducible rfl)
      try simp only [Act.put, List.setIfInBounds_toArray, List.set_cons_zero, List.set_cons_succ]
      refine goes_take (i := 5) (v := ?_) rfl (by kernel_rfl) (by kernel_rfl) (by decide) (by kernel_rfl) (by kernel_rfl) (fun _ _ _ h => h) (Or.inl ⟨by kernel_rfl, ?_⟩) HSS.out ?_
      rotate_left
      · ((intro x hx; have hx0 := hx.1; have hx1 := hx.2; clear hx; go_simp) <;> with_reducible rfl)
      try simp only [Act.put, List.setIfInBounds_toArray, List.set_cons_zero, List.set_cons_succ]
      refine goes_take (i := 8) (v := ?_) rfl (by kernel_rfl) (by kernel_rfl) (by decide) (by kernel_rfl) (by kernel_rfl) (fun _ _ _ h => h) (Or.inl ⟨by kernel_rfl, ?_⟩) HSS.out ?_
      rotate_left
      · ((intro x hx; have hx0 := hx.1; have hx1 := hx.2; clear hx; go_simp) <;> with_reducible rfl)
      try simp only [Act.put, List.setIfInBounds_toArray, List.set_cons_zero, List.set_cons_succ]
      refine goes_take (i := 9) (v := ?_) rfl (by kernel_rfl) (by kernel_rfl) (by decide) (by kernel_rfl) (by kernel_rfl) (fun _ _ _ h => h) (Or.inl ⟨by kernel_rfl, ?_⟩) HSS.out ?_
      rotate_left
      · ((intro x hx; have hx0 := hx.1; have hx1 := hx.2; clear hx; go_simp) <;> with_reducible rfl)
      try simp only [Act.put, List.setIfInBounds_toArray, List.set_cons_zero, List.set_cons_succ]
      refine goes_take (i := 10) (v := ?_) rfl (by kernel_rfl) (by kernel_rfl) (by decide) (by kernel_rfl) (by kernel_rfl) (fun _ _ _ h => h) (Or.inl ⟨by kernel_rfl, ?_⟩) HSS.out ?_
      rotate_left
      · ((intro x hx; have hx0 := hx.1; have hx1 := hx.2; clear hx; go_simp) <;> with_reducible rfl)
      try simp only [Act.put, List.setIfInBounds_toArray, List.set_cons_zero, List.set_cons_succ]
      refine goes_take (i := 11) (v := ?_) rfl (by kernel_rfl) (by kernel_rfl) (by decide) (by kernel_rfl) (by kernel_rfl) (fun _ _ _ h => h) (Or.inl ⟨by kernel_rfl, ?_⟩) HSS.out ?_
      rotate_left
      · ((intro x hx; have hx0 := hx.1; have hx1 := hx.2; clear hx; go_simp) <;> with_reducible rfl)
      try simp only [Act.put, List.setIfInBounds_toArray, List.set_cons_zero, List.set_cons_succ]
      refine goes_take (i := 12) (v := ?_) rfl (by kernel_rfl) (by kernel_rfl) (by decide) (by kernel_rfl) (by kernel_rfl) (fun _ _ _ h => h) (Or.inl ⟨by kernel_rfl, ?_⟩) HSS.out ?_
      rotate_left
      · ((intro x hx; have hx0 := hx.1; have hx1 := hx.2; clear hx; go_simp) <;> with_reducible rfl)
      try simp only [Act.put, List.setIfInBounds_toArray, List.set_cons_zero, List.set_cons_succ]
      refine goes_two (i := 6) (j := 13) rfl rfl (by kernel_rfl) (fun K hK => ?_) (fun K hK => ?_)
      · skip
        go_simp
        refine hK _ _ (fun _ => HSS.out) ?_
        clear hK K
        try simp only [Act.put, List.setIfInBounds_toArray, List.set_cons_zero, List.set_cons_succ]
        refine goes_take (i := 7) (v := ?_) rfl (by kernel_rfl) (by kernel_rfl) (by decide) (by kernel_rfl) (by kernel_rfl) (fun _ _ _ h => h) (Or.inl ⟨by kernel_rfl, ?_⟩) HSS.out ?_
        rotate_left
        · ((intro x hx; have hx0 := hx.1; have hx1 := hx.2; clear hx; go_simp) <;> with_reducible rfl)
        try simp only [Act.put, List.setIfInBounds_toArray, List.set_cons_zero, List.set_cons_succ]
        refine goes_one (i := 13) rfl (by kernel_rfl) (fun K hK => ?_)
        go_simp
        refine hK _ _ (fun _ => HSS.out) ?_
        clear hK K
        try simp only [Act.put, List.setIfInBounds_toArray, List.set_cons_zero, List.set_cons_succ]
        refine goes_take (i := 14) (v := ?_) rfl (by kernel_rfl) (by kernel_rfl) (by decide) (by kernel_rfl) (by kernel_rfl) (fun _ _ _ h => h) (Or.inl ⟨by kernel_rfl, ?_⟩) HSS.out ?_
        rotate_left
        · ((intro x hx; have hx0 := hx.1; have hx1 := hx.2; clear hx; go_simp) <;> with_reducible rfl)
        try simp only [Act.put, List.setIfInBounds_toArray, List.set_cons_zero, List.set_cons_succ]
        refine goes_take (i := 15) (v := ?_) rfl (by kernel_rfl) (by kernel_rfl) (by decide) (by kernel_rfl) (by kernel_rfl) (fun _ _ _ h => h) (Or.inl ⟨by kernel_rfl, ?_⟩) HSS.out ?_
        rotate_left
        · ((intro x hx; have hx0 := hx.1; have hx1 := hx.2; clear hx; go_simp) <;> with_reducible rfl)
        try simp only [Act.put, List.setIfInBounds_toArray, List.set_cons_zero, List.set_cons_succ]
        refine goes_one (i := 16) rfl (by kernel_rfl) (fun K hK => ?_)
        go_simp
        refine hK _ _ (fun _ => HST.out) ?_
        clear hK K
        try simp only [Act.put, List.setIfInBounds_toArray, List.set_cons_zero, List.set_cons_succ]
        refine goes_one (i := 17) rfl (by kernel_rfl) (fun K hK => ?_)
        go_simp
        refine hK _ _ (fun h => absurd rfl h) ?_
        clear hK K
        try simp only [Act.put, List.setIfInBounds_toArray, List.set_cons_zero, List.set_cons_succ]
        refine goes_done (by kernel_rfl) ?_ _
        try simp only [Act.put, List.setIfInBounds_toArray, List.set_cons_zero, List.set_cons_succ]
        try go_simp
        simp only [HW1.out, HW3.out, hr2, ht2, HW2.out, HW4.out]
        rw [show (((W5.setCell ⟨w.heap.size + 1 + 1, 0, none⟩ (.int .i64 (r : Int))).setCell ⟨w.heap.size + 1 + 1, 1, none⟩ (.int .i64 (t : Int))).setCell ⟨w.heap.size + 1 + 1 + 1, 0, none⟩ (.int .i64 (r2 : Int))).setCell ⟨w.heap.size + 1 + 1 + 1, 1, none⟩ (.int .i64 (t2 : Int)) = (((W5.setCell ⟨w.heap.size + 2, 0, none⟩ (.int .i64 (r : Int))).setCell ⟨w.heap.size + 2, 1, none⟩ (.int .i64 (t : Int))).setCell ⟨w.heap.size + 3, 0, none⟩ (.int .i64 (r2 : Int))).setCell ⟨w.heap.size + 3, 1, none⟩ (.int .i64 (t2 : Int)) from rfl]
        have HN4 := Lib.hid (pair_set (pair_set (pair_set (pair_set HN2.out ⟨w.heap.size + 2, 0, none⟩ (offS_no _ 2 (by omega)) (.int .i64 (r : Int))) ⟨w.heap.size + 2, 1, none⟩ (offS_no _ 2 (by omega)) (.int .i64 (t : Int))) ⟨w.heap.size + 3, 0, none⟩ (offS_no _ 3 (by omega)) (.int .i64 (r2 : Int))) ⟨w.heap.size + 3, 1, none⟩ (offS_no _ 3 (by omega)) (.int .i64 (t2 : Int)))
        clear HN2 HSS HST
        have P0_6 := Lib.hid (P0_4.out.far (B' := w.heap.size + 2) (by omega) 0 (.int .i64 (r : Int)))
        have P1_6 := Lib.hid (P1_4.out.far (B' := w.heap.size + 2) (by omega) 0 (.int .i64 (r : Int)))
        have P2_6 := Lib.hid (P2_4.out.set0 (.int .i64 (r : Int)))
        have P3_6 := Lib.hid (P3_4.out.far (B' := w.heap.size + 2) (by omega) 0 (.int .i64 (r : Int)))
        have HB6 := Lib.hid (HB4.out.setCell (p := ⟨w.heap.size + 2, 0, none⟩) (by simp <;> omega) (.int .i64 (r : Int)))
        have P0_7 := Lib.hid (P0_6.out.far (B' := w.heap.size + 2) (by omega) 1 (.int .i64 (t : Int)))
        have P1_7 := Lib.hid (P1_6.out.far (B' := w.heap.size + 2) (by omega) 1 (.int .i64 (t : Int)))
        have P2_7 := Lib.hid (P2_6.out.set1 (.int .i64 (t : Int)))
        have P3_7 := Lib.hid (P3_6.out.far (B' := w.heap.size + 2) (by omega) 1 (.int .i64 (t : Int)))
        have HB7 := Lib.hid (HB6.out.setCell (p := ⟨w.heap.size + 2, 1, none⟩) (by simp <;> omega) (.int .i64 (t : Int)))
        have P0_8 := Lib.hid (P0_7.out.far (B' := w.heap.size + 3) (by omega) 0 (.int .i64 (r2 : Int)))
        have P1_8 := Lib.hid (P1_7.out.far (B' := w.heap.size + 3) (by omega) 0 (.int .i64 (r2 : Int)))
        have P2_8 := Lib.hid (P2_7.out.far (B' := w.heap.size + 3) (by omega) 0 (.int .i64 (r2 : Int)))
        have P3_8 := Lib.hid (P3_7.out.set0 (.int .i64 (r2 : Int)))
        have HB8 := Lib.hid (HB7.out.setCell (p := ⟨w.heap.size + 3, 0, none⟩) (by simp <;> omega) (.int .i64 (r2 : Int)))
        have P0_9 := Lib.hid (P0_8.out.far (B' := w.heap.size + 3) (by omega) 1 (.int .i64 (t2 : Int)))
        have P1_9 := Lib.hid (P1_8.out.far (B' := w.heap.size + 3) (by omega) 1 (.int .i64 (t2 : Int)))
        have P2_9 := Lib.hid (P2_8.out.far (B' := w.heap.size + 3) (by omega) 1 (.int .i64 (t2 : Int)))
        have P3_9 := Lib.hid (P3_8.out.set1 (.int .i64 (t2 : Int)))
        have HB9 := Lib.hid (HB8.out.setCell (p := ⟨w.heap.size + 3, 1, none⟩) (by simp <;> omega) (.int .i64 (t2 : Int)))
        clear lP0_4 cP0_4_0 cP0_4_1 lP1_4 cP1_4_0 cP1_4_1 lP2_4 cP2_4_0 cP2_4_1 lP3_4 cP3_4_0 cP3_4_1 fP2_4_0 fP2_4_1 fP3_4_0 fP3_4_1
        clear P0_4 P1_4 P2_4 P3_4 HB4 P0_6 P1_6 P2_6 P3_6 HB6 P0_7 P1_7 P2_7 P3_7 HB7 P0_8 P1_8 P2_8 P3_8 HB8
        generalize (((W5.setCell ⟨w.heap.size + 2, 0, none⟩ (.int .i64 (r : Int))).setCell ⟨w.heap.size + 2, 1, none⟩ (.int .i64 (t : Int))).setCell ⟨w.heap.size + 3, 0, none⟩ (.int .i64 (r2 : Int))).setCell ⟨w.heap.size + 3, 1, none⟩ (.int .i64 (t2 : Int)) = W10 at *
        have hbW : Below W10.heap.size W10 W10.drew := (Below.refl _ _).drew
        have HN5 := Lib.hid (And.intro (HN4.out.1.below hbW) (HN4.out.2.below hbW))
        clear HN4
        generalize W10.drew = WW at *
        have HB11 := Lib.hid (HB9.out.trans ((hbW).mono HB9.out.size))
        have P0_11 := Lib.hid (P0_9.out.below (hbW) P0_9.out.lt)
        have P1_11 := Lib.hid (P1_9.out.below (hbW) P1_9.out.lt)
        have P2_11 := Lib.hid (P2_9.out.below (hbW) P2_9.out.lt)
        have P3_11 := Lib.hid (P3_9.out.below (hbW) P3_9.out.lt)
        clear HB9 P0_9 P1_9 P2_9 P3_9 hbW
        by_cases k1 : 1000000 < r2
        · skip
          have k1' : (1000000 : Int) < (r2 : Int) := by omega
          have k1'' : decide ((1000000 : Int) < (r2 : Int)) = true := decide_eq_true k1'
          have HZ := Lib.hid (rd_none (HBig.out (by omega)))
          have lP0_11 := P0_11.out.lt
          have cP0_11_0 := P0_11.out.c0
          have cP0_11_1 := P0_11.out.c1
          have lP1_11 := P1_11.out.lt
          have cP1_11_0 := P1_11.out.c0
          have cP1_11_1 := P1_11.out.c1
          have lP2_11 := P2_11.out.lt
          have cP2_11_0 := P2_11.out.c0
          have cP2_11_1 := P2_11.out.c1
          have lP3_11 := P3_11.out.lt
          have cP3_11_0 := P3_11.out.c0
          have cP3_11_1 := P3_11.out.c1
          have fP0_11_0 := P0_11.out.f0
          have fP0_11_1 := P0_11.out.f1
          have fP3_11_0 := P3_11.out.f0
          have fP3_11_1 := P3_11.out.f1
          go_wp2
          refine bodyPost_ret (v := .tuple #[.agg #[(.int .i64 0), (.int .i64 0)], .bool false]) ?_ rfl ⟨by rw [HZ.out.1, HZ.out.2.1, HZ.out.2.2], ((HB11.out.setCell (p := ⟨w.heap.size, 0, none⟩) (by simp) (.int .i64 0)).setCell (p := ⟨w.heap.size, 1, none⟩) (by simp) (.int .i64 0))⟩
          have u0 := ((P0_11.out.set0 (.int .i64 0)).set1 (.int .i64 0)).c0
          have u1 := ((P0_11.out.set0 (.int .i64 0)).set1 (.int .i64 0)).c1
          rw [results_cell_tmp rfl]
          go_simp
        have k1'' : decide ((1000000 : Int) < (r2 : Int)) = false := decide_eq_false (by omega)
        by_cases k2 : 1000000 < t2
        · skip
          have k2'' : decide ((1000000 : Int) < (t2 : Int)) = true := decide_eq_true (by omega)
          have HZ := Lib.hid (rd_none (HBig.out (by omega)))
          have lP0_11 := P0_11.out.lt
          have cP0_11_0 := P0_11.out.c0
          have cP0_11_1 := P0_11.out.c1
          have lP1_11 := P1_11.out.lt
          have cP1_11_0 := P1_11.out.c0
          have cP1_11_1 := P1_11.out.c1
          have lP2_11 := P2_11.out.lt
          have cP2_11_0 := P2_11.out.c0
          have cP2_11_1 := P2_11.out.c1
          have lP3_11 := P3_11.out.lt
          have cP3_11_0 := P3_11.out.c0
          have cP3_11_1 := P3_11.out.c1
          have fP0_11_0 := P0_11.out.f0
          have fP0_11_1 := P0_11.out.f1
          have fP3_11_0 := P3_11.out.f0
          have fP3_11_1 := P3_11.out.f1
          go_wp2
          refine bodyPost_ret (v := .tuple #[.agg #[(.int .i64 0), (.int .i64 0)], .bool false]) ?_ rfl ⟨by rw [HZ.out.1, HZ.out.2.1, HZ.out.2.2], ((HB11.out.setCell (p := ⟨w.heap.size, 0, none⟩) (by simp) (.int .i64 0)).setCell (p := ⟨w.heap.size, 1, none⟩) (by simp) (.int .i64 0))⟩
          have u0 := ((P0_11.out.set0 (.int .i64 0)).set1 (.int .i64 0)).c0
          have u1 := ((P0_11.out.set0 (.int .i64 0)).set1 (.int .i64 0)).c1
          rw [results_cell_tmp rfl]
          go_simp
        have k2'' : decide ((1000000 : Int) < (t2 : Int)) = false := decide_eq_false (by omega)
        have HG2 := Lib.hid (HGo.out (by omega) (by omega))
        have HLl := Lib.hid (show lv l = lv a % lv b from HVL.out HG2.out.1)
        have HCf := Lib.hid (show CfI n d (lv b) (lv l) r t r2 t2 by rw [HLl.out]; exact HG2.out.2)
        have lP0_11 := P0_11.out.lt
        have cP0_11_0 := P0_11.out.c0
        have cP0_11_1 := P0_11.out.c1
        have lP1_11 := P1_11.out.lt
        have cP1_11_0 := P1_11.out.c0
        have cP1_11_1 := P1_11.out.c1
        have lP2_11 := P2_11.out.lt
        have cP2_11_0 := P2_11.out.c0
        have cP2_11_1 := P2_11.out.c1
        have lP3_11 := P3_11.out.lt
        have cP3_11_0 := P3_11.out.c0
        have cP3_11_1 := P3_11.out.c1
        go_wp2
        go_roundw
        case rel => exact ⟨bx, zx, nb, cb, nz, cz, b, l, r, t, r2, t2, hr, ht, by omega, by omega, Lib.hid ⟨P0_11.out, P1_11.out, P2_11.out, P3_11.out, HB11.out⟩, HN5, HCf⟩
        case measure =>
          have h1 : redV w WW = lv l := by unfold redV; rw [P1_11.out.c1]; exact slV_is HN5.out.2
          rw [h1, HMb.out, HLl.out]
          exact Nat.mod_lt _ hbp
      · skip
        go_simp
        refine hK _ _ (fun _ => HSS.out) ?_
        clear hK K
        try simp only [Act.put, List.setIfInBounds_toArray, List.set_cons_zero, List.set_cons_succ]
        refine goes_take (i := 14) (v := ?_) rfl (by kernel_rfl) (by kernel_rfl) (by decide) (by kernel_rfl) (by kernel_rfl) (fun _ _ _ h => h) (Or.inl ⟨by kernel_rfl, ?_⟩) HSS.out ?_
        rotate_left
        · ((intro x hx; have hx0 := hx.1; have hx1 := hx.2; clear hx; go_simp) <;> with_reducible rfl)
        try simp only [Act.put, List.setIfInBounds_toArray, List.set_cons_zero, List.set_cons_succ]
        refine goes_one (i := 6) rfl (by kernel_rfl) (fun K hK => ?_)
        go_simp
        refine hK _ _ (fun _ => HSS.out) ?_
        clear hK K
        try simp only [Act.put, List.setIfInBounds_toArray, List.set_cons_zero, List.set_cons_succ]
        refine goes_take (i := 7) (v := ?_) rfl (by kernel_rfl) (by kernel_rfl) (by decide) (by kernel_rfl) (by kernel_rfl) (fun _ _ _ h => h) (Or.inl ⟨by kernel_rfl, ?_⟩) HSS.out ?_
        rotate_left
        · ((intro x hx; have hx0 := hx.1; have hx1 := hx.2; clear hx; go_simp) <;> with_reducible rfl)
        try simp only [Act.put, List.setIfInBounds_toArray, List.set_cons_zero, List.set_cons_succ]
        refine goes_take (i := 15) (v := ?_) rfl (by kernel_rfl) (by kernel_rfl) (by decide) (by kernel_rfl) (by kernel_rfl) (fun _ _ _ h => h) (Or.inl ⟨by kernel_rfl, ?_⟩) HSS.out ?_
        rotate_left
        · ((intro x hx; have hx0 := hx.1; have hx1 := hx.2; clear hx; go_simp) <;> with_reducible rfl)
        try simp only [Act.put, List.setIfInBounds_toArray, List.set_cons_zero, List.set_cons_succ]
        refine goes_one (i := 16) rfl (by kernel_rfl) (fun K hK => ?_)
        go_simp
        refine hK _ _ (fun _ => HST.out) ?_
        clear hK K
        try simp only [Act.put, List.setIfInBounds_toArray, List.set_cons_zero, List.set_cons_succ]
        refine goes_one (i := 17) rfl (by kernel_rfl) (fun K hK => ?_)
        go_simp
        refine hK _ _ (fun h => absurd rfl h) ?_
        clear hK K
        try simp only [Act.put, List.setIfInBounds_toArray, List.set_cons_zero, List.set_cons_succ]
        refine goes_done (by kernel_rfl) ?_ _
        try simp only [Act.put, List.setIfInBounds_toArray, List.set_cons_zero, List.set_cons_succ]
        try go_simp
        simp only [HW1.out, HW3.out, hr2, ht2, HW2.out, HW4.out]
        rw [show (((W5.setCell ⟨w.heap.size + 1 + 1, 0, none⟩ (.int .i64 (r : Int))).setCell ⟨w.heap.size + 1 + 1, 1, none⟩ (.int .i64 (t : Int))).setCell ⟨w.heap.size + 1 + 1 + 1, 0, none⟩ (.int .i64 (r2 : Int))).setCell ⟨w.heap.size + 1 + 1 + 1, 1, none⟩ (.int .i64 (t2 : Int)) = (((W5.setCell ⟨w.heap.size + 2, 0, none⟩ (.int .i64 (r : Int))).setCell ⟨w.heap.size + 2, 1, none⟩ (.int .i64 (t : Int))).setCell ⟨w.heap.size + 3, 0, none⟩ (.int .i64 (r2 : Int))).setCell ⟨w.heap.size + 3, 1, none⟩ (.int .i64 (t2 : Int)) from rfl]
        have HN4 := Lib.hid (pair_set (pair_set (pair_set (pair_set HN2.out ⟨w.heap.size + 2, 0, none⟩ (offS_no _ 2 (by omega)) (.int .i64 (r : Int))) ⟨w.heap.size + 2, 1, none⟩ (offS_no _ 2 (by omega)) (.int .i64 (t : Int))) ⟨w.heap.size + 3, 0, none⟩ (offS_no _ 3 (by omega)) (.int .i64 (r2 : Int))) ⟨w.heap.size + 3, 1, none⟩ (offS_no _ 3 (by omega)) (.int .i64 (t2 : Int)))
        clear HN2 HSS HST
        have P0_12 := Lib.hid (P0_4.out.far (B' := w.heap.size + 2) (by omega) 0 (.int .i64 (r : Int)))
        have P1_12 := Lib.hid (P1_4.out.far (B' := w.heap.size + 2) (by omega) 0 (.int .i64 (r : Int)))
        have P2_12 := Lib.hid (P2_4.out.set0 (.int .i64 (r : Int)))
        have P3_12 := Lib.hid (P3_4.out.far (B' := w.heap.size + 2) (by omega) 0 (.int .i64 (r : Int)))
        have HB12 := Lib.hid (HB4.out.setCell (p := ⟨w.heap.size + 2, 0, none⟩) (by simp <;> omega) (.int .i64 (r : Int)))
        have P0_13 := Lib.hid (P0_12.out.far (B' := w.heap.size + 2) (by omega) 1 (.int .i64 (t : Int)))
        have P1_13 := Lib.hid (P1_12.out.far (B' := w.heap.size + 2) (by omega) 1 (.int .i64 (t : Int)))
        have P2_13 := Lib.hid (P2_12.out.set1 (.int .i64 (t : Int)))
        have P3_13 := Lib.hid (P3_12.out.far (B' := w.heap.size + 2) (by omega) 1 (.int .i64 (t : Int)))
        have HB13 := Lib.hid (HB12.out.setCell (p := ⟨w.heap.size + 2, 1, none⟩) (by simp <;> omega) (.int .i64 (t : Int)))
        have P0_14 := Lib.hid (P0_13.out.far (B' := w.heap.size + 3) (by omega) 0 (.int .i64 (r2 : Int)))
        have P1_14 := Lib.hid (P1_13.out.far (B' := w.heap.size + 3) (by omega) 0 (.int .i64 (r2 : Int)))
        have P2_14 := Lib.hid (P2_13.out.far (B' := w.heap.size + 3) (by omega) 0 (.int .i64 (r2 : Int)))
        have P3_14 := Lib.hid (P3_13.out.set0 (.int .i64 (r2 : Int)))
        have HB14 := Lib.hid (HB13.out.setCell (p := ⟨w.heap.size + 3, 0, none⟩) (by simp <;> omega) (.int .i64 (r2 : Int)))
        have P0_15 := Lib.hid (P0_14.out.far (B' := w.heap.size + 3) (by omega) 1 (.int .i64 (t2 : Int)))
        have P1_15 := Lib.hid (P1_14.out.far (B' := w.heap.size + 3) (by omega) 1 (.int .i64 (t2 : Int)))
        have P2_15 := Lib.hid (P2_14.out.far (B' := w.heap.size + 3) (by omega) 1 (.int .i64 (t2 : Int)))
        have P3_15 := Lib.hid (P3_14.out.set1 (.int .i64 (t2 : Int)))
        have HB15 := Lib.hid (HB14.out.setCell (p := ⟨w.heap.size + 3, 1, none⟩) (by simp <;> omega) (.int .i64 (t2 : Int)))
        clear lP0_4 cP0_4_0 cP0_4_1 lP1_4 cP1_4_0 cP1_4_1 lP2_4 cP2_4_0 cP2_4_1 lP3_4 cP3_4_0 cP3_4_1 fP2_4_0 fP2_4_1 fP3_4_0 fP3_4_1
        clear P0_4 P1_4 P2_4 P3_4 HB4 P0_12 P1_12 P2_12 P3_12 HB12 P0_13 P1_13 P2_13 P3_13 HB13 P0_14 P1_14 P2_14 P3_14 HB14
        generalize (((W5.setCell ⟨w.heap.size + 2, 0, none⟩ (.int .i64 (r : Int))).setCell ⟨w.heap.size + 2, 1, none⟩ (.int .i64 (t : Int))).setCell ⟨w.heap.size + 3, 0, none⟩ (.int .i64 (r2 : Int))).setCell ⟨w.heap.size + 3, 1, none⟩ (.int .i64 (t2 : Int)) = W16 at *
        have hbW : Below W16.heap.size W16 W16.drew := (Below.refl _ _).drew
        have HN5 := Lib.hid (And.intro (HN4.out.1.below hbW) (HN4.out.2.below hbW))
        clear HN4
        generalize W16.drew = WW at *
        have HB17 := Lib.hid (HB15.out.trans ((hbW).mono HB15.out.size))
        have P0_17 := Lib.hid (P0_15.out.below (hbW) P0_15.out.lt)
        have P1_17 := Lib.hid (P1_15.out.below (hbW) P1_15.out.lt)
        have P2_17 := Lib.hid (P2_15.out.below (hbW) P2_15.out.lt)
        have P3_17 := Lib.hid (P3_15.out.below (hbW) P3_15.out.lt)
        clear HB15 P0_15 P1_15 P2_15 P3_15 hbW
        by_cases k1 : 1000000 < r2
        · skip
          have k1' : (1000000 : Int) < (r2 : Int) := by omega
          have k1'' : decide ((1000000 : Int) < (r2 : Int)) = true := decide_eq_true k1'
          have HZ := Lib.hid (rd_none (HBig.out (by omega)))
          have lP0_17 := P0_17.out.lt
          have cP0_17_0 := P0_17.out.c0
          have cP0_17_1 := P0_17.out.c1
          have lP1_17 := P1_17.out.lt
          have cP1_17_0 := P1_17.out.c0
          have cP1_17_1 := P1_17.out.c1
          have lP2_17 := P2_17.out.lt
          have cP2_17_0 := P2_17.out.c0
          have cP2_17_1 := P2_17.out.c1
          have lP3_17 := P3_17.out.lt
          have cP3_17_0 := P3_17.out.c0
          have cP3_17_1 := P3_17.out.c1
          have fP0_17_0 := P0_17.out.f0
          have fP0_17_1 := P0_17.out.f1
          have fP3_17_0 := P3_17.out.f0
          have fP3_17_1 := P3_17.out.f1
          go_wp2
          refine bodyPost_ret (v := .tuple #[.agg #[(.int .i64 0), (.int .i64 0)], .bool false]) ?_ rfl ⟨by rw [HZ.out.1, HZ.out.2.1, HZ.out.2.2], ((HB17.out.setCell (p := ⟨w.heap.size, 0, none⟩) (by simp) (.int .i64 0)).setCell (p := ⟨w.heap.size, 1, none⟩) (by simp) (.int .i64 0))⟩
          have u0 := ((P0_17.out.set0 (.int .i64 0)).set1 (.int .i64 0)).c0
          have u1 := ((P0_17.out.set0 (.int .i64 0)).set1 (.int .i64 0)).c1
          rw [results_cell_tmp rfl]
          go_simp
        have k1'' : decide ((1000000 : Int) < (r2 : Int)) = false := decide_eq_false (by omega)
        by_cases k2 : 1000000 < t2
        · skip
          have k2'' : decide ((1000000 : Int) < (t2 : Int)) = true := decide_eq_true (by omega)
          have HZ := Lib.hid (rd_none (HBig.out (by omega)))
          have lP0_17 := P0_17.out.lt
          have cP0_17_0 := P0_17.out.c0
          have cP0_17_1 := P0_17.out.c1
          have lP1_17 := P1_17.out.lt
          have cP1_17_0 := P1_17.out.c0
          have cP1_17_1 := P1_17.out.c1
          have lP2_17 := P2_17.out.lt
          have cP2_17_0 := P2_17.out.c0
          have cP2_17_1 := P2_17.out.c1
          have lP3_17 := P3_17.out.lt
          have cP3_17_0 := P3_17.out.c0
          have cP3_17_1 := P3_17.out.c1
          have fP0_17_0 := P0_17.out.f0
          have fP0_17_1 := P0_17.out.f1
          have fP3_17_0 := P3_17.out.f0
          have fP3_17_1 := P3_17.out.f1
          go_wp2
          refine bodyPost_ret (v := .tuple #[.agg #[(.int .i64 0), (.int .i64 0)], .bool false]) ?_ rfl ⟨by rw [HZ.out.1, HZ.out.2.1, HZ.out.2.2], ((HB17.out.setCell (p := ⟨w.heap.size, 0, none⟩) (by simp) (.int .i64 0)).setCell (p := ⟨w.heap.size, 1, none⟩) (by simp) (.int .i64 0))⟩
          have u0 := ((P0_17.out.set0 (.int .i64 0)).set1 (.int .i64 0)).c0
          have u1 := ((P0_17.out.set0 (.int .i64 0)).set1 (.int .i64 0)).c1
          rw [results_cell_tmp rfl]
          go_simp
        have k2'' : decide ((1000000 : Int) < (t2 : Int)) = false := decide_eq_false (by omega)
        have HG2 := Lib.hid (HGo.out (by omega) (by omega))
        have HLl := Lib.hid (show lv l = lv a % lv b from HVL.out HG2.out.1)
        have HCf := Lib.hid (show CfI n d (lv b) (lv l) r t r2 t2 by rw [HLl.out]; exact HG2.out.2)
        have lP0_17 := P0_17.out.lt
        have cP0_17_0 := P0_17.out.c0
        have cP0_17_1 := P0_17.out.c1
        have lP1_17 := P1_17.out.lt
        have cP1_17_0 := P1_17.out.c0
        have cP1_17_1 := P1_17.out.c1
        have lP2_17 := P2_17.out.lt
        have cP2_17_0 := P2_17.out.c0
        have cP2_17_1 := P2_17.out.c1
        have lP3_17 := P3_17.out.lt
        have cP3_17_0 := P3_17.out.c0
        have cP3_17_1 := P3_17.out.c1
        go_wp2
        go_roundw
        case rel => exact ⟨bx, zx, nb, cb, nz, cz, b, l, r, t, r2, t2, hr, ht, by omega, by omega, Lib.hid ⟨P0_17.out, P1_17.out, P2_17.out, P3_17.out, HB17.out⟩, HN5, HCf⟩
        case measure =>
          have h1 : redV w WW = lv l := by unfold redV; rw [P1_17.out.c1]; exact slV_is HN5.out.2
          rw [h1, HMb.out, HLl.out]
          exact Nat.mod_lt _ hbp
    · have hb0' : ¬ (0 : Int) < (nb : Int) := by omega
      have HE := Lib.hid (show rdO n d = some (r, t) by
        have hz : lv b = 0 := lv_nil (by omega)
        have hc := HC.out
        rw [hz] at hc
        exact cf_done hc HD0.out hr ht)
      have HZ := Lib.hid (rd_some HE.out)
      clear HS HN HC hnbl
      have lP0_0 := P0_0.out.lt
      have cP0_0_0 := P0_0.out.c0
      have cP0_0_1 := P0_0.out.c1
      have lP1_0 := P1_0.out.lt
      have cP1_0_0 := P1_0.out.c0
      have cP1_0_1 := P1_0.out.c1
      have lP2_0 := P2_0.out.lt
      have cP2_0_0 := P2_0.out.c0
      have cP2_0_1 := P2_0.out.c1
      have lP3_0 := P3_0.out.lt
      have cP3_0_0 := P3_0.out.c0
      have cP3_0_1 := P3_0.out.c1
      have fP0_0_0 := P0_0.out.f0
      have fP0_0_1 := P0_0.out.f1
      go_wp2
      refine bodyPost_ret (v := .tuple #[.agg #[(.int .i64 (r : Int)), (.int .i64 (t : Int))], .bool true]) ?_ rfl ⟨by rw [HZ.out.1, HZ.out.2.1, HZ.out.2.2], ((HB_0.out.setCell (p := ⟨w.heap.size, 0, none⟩) (by simp) (.int .i64 (r : Int))).setCell (p := ⟨w.heap.size, 1, none⟩) (by simp) (.int .i64 (t : Int)))⟩
      have u0 := ((P0_0.out.set0 (.int .i64 (r : Int))).set1 (.int .i64 (t : Int))).c0
      have u1 := ((P0_0.out.set0 (.int .i64 (r : Int))).set1 (.int .i64 (t : Int))).c1
      rw [results_cell_tmp rfl]
      go_simp
end Go.Proofs.YtkpdbhpmnegahaaDoor
namespace Go.Proofs.YtkpdbhpmnegahaaDoor
open Go.RowKit Go.Sort
set_option linter.unusedVariables false
set_option linter.unusedSimpArgs false

/-- a text without its sign. -/
def bdy (l : List UInt8) : List UInt8 := if isNeg l then l.drop 1 else l
/-- what Parse returns. -/
def paR (l : List UInt8) : Int × Int × Int := match qoO (bdy l) with
  | none => (0, 0, 5)
  | some (A, B) => if isNeg l = true ∧ dec A = 0 then (0, 0, 5) else if rdB (dec A) (dec B) = false then (0, 0, 4) else if isNeg l = true then (-rdN (dec A) (dec B), rdD (dec A) (dec B), 0) else (rdN (dec A) (dec B), rdD (dec A) (dec B), 0)
theorem bdy_len (l : List UInt8) : (bdy l).length ≤ l.length := by unfold bdy; split; rw [List.length_drop]; omega; exact Nat.le_refl _
theorem rest_bs (l : List UInt8) : restOf (bs l) = bs (bdy l) := by
  unfold restOf bdy
  rw [bs_list]
  by_cases h : isNeg l = true
  · rw [if_pos h, if_pos h]
    have hl : 1 ≤ l.length := by
      cases l with
      | nil => simp [isNeg] at h
      | cons c l => simp
    rw [bs_size, bs_extract l 1 l.length hl (Nat.le_refl _), List.take_of_length_le (by rw [List.length_drop]; omega)]
  · rw [if_neg h, if_neg h]
theorem cut_gen (l : List UInt8) (w : World) (hl : l.length ≤ 100) : Calls Tryd.prog 70 #[.string (bs l), .string ⟨#[45]⟩] w fun e w' => e = .returned (.tuple #[.string (bs (bdy l)), .bool (isNeg l)]) ∧ w = w' := by
  have q := cut_any (bs l) w (by rw [bs_size]; unfold maxLen; omega)
  rwa [rest_bs, bs_list] at q
theorem dec_head {c : UInt8} {l : List UInt8} (h : (c :: l).all dig = true) (hc : c ≠ 48) : 0 < dec (c :: l) := by
  have e : dec (c :: l) = dec [c] * 10 ^ l.length + dec l := dec_append [c] l
  simp only [List.all_cons, Bool.and_eq_true] at h
  obtain ⟨d1, d2⟩ := dig_iff.1 h.1
  have : dec [c] = c.toNat - 48 := by simp [dec]
  have hc2 : c.toNat ≠ 48 := fun q => hc (by rw [show (48 : UInt8) = UInt8.ofNat 48 from rfl, ← q]; exact (UInt8.ofNat_toNat).symm)
  have h1 : 1 * 10 ^ l.length ≤ dec [c] * 10 ^ l.length := Nat.mul_le_mul_right _ (by omega)
  have h2 : 0 < 10 ^ l.length := Nat.pow_pos (by omega)
  omega
theorem rep_all (n : Nat) : (List.replicate n (48 : UInt8)).all dig = true := by
  rw [List.all_eq_true]; intro x hx; rw [List.eq_of_mem_replicate hx]; decide
structure QoK (l A B : List UInt8) : Prop where
  a0 : 1 ≤ A.length
  a1 : A.length ≤ l.length
  a2 : A.all dig = true
  b0 : 1 ≤ B.length
  b1 : B.length ≤ l.length + 7
  b2 : B.all dig = true
  b3 : 0 < dec B
theorem qo_ok {l A B : List UInt8} (h : qoO l = some (A, B)) : QoK l A B := by
  have hall := ldN_all l
  have hsum : (l.take (ldN l)).length + (l.drop (ldN l)).length = l.length := by rw [← List.length_append, List.take_append_drop]
  unfold qoO at h
  by_cases c1 : l.take (ldN l) = [] ∨ ((l.take (ldN l)).head? = some 48 ∧ l.take (ldN l) ≠ [48])
  · rw [if_pos c1] at h; cases h
  · rw [if_neg c1] at h
    generalize l.take (ldN l) = X at *
    generalize l.drop (ldN l) = R at *
    have hX : 1 ≤ X.length := Nat.succ_le_of_lt (List.length_pos_iff.2 fun e => c1 (.inl e))
    cases R with
    | nil =>
      simp only [Option.some.injEq, Prod.mk.injEq] at h
      obtain ⟨rfl, rfl⟩ := h
      exact ⟨hX, by simp at hsum; omega, hall, by simp, by simp, by decide, by decide⟩
    | cons c r =>
      simp only at h
      have hp := ldN_all r
      have hs2 : (r.take (ldN r)).length + (r.drop (ldN r)).length = r.length := by rw [← List.length_append, List.take_append_drop]
      simp only [List.length_cons] at hsum
      generalize r.take (ldN r) = P at *
      generalize r.drop (ldN r) = Q at *
      by_cases c2 : P = [] ∨ Q ≠ []
      · rw [if_pos c2] at h; cases h
      · rw [if_neg c2] at h
        have hP : P ≠ [] := fun e => c2 (.inl e)
        by_cases c3 : c = 47 ∧ P.head? ≠ some 48
        · rw [if_pos c3] at h
          simp only [Option.some.injEq, Prod.mk.injEq] at h
          obtain ⟨rfl, rfl⟩ := h
          refine ⟨hX, by omega, hall, Nat.succ_le_of_lt (List.length_pos_iff.2 hP), by omega, hp, ?_⟩
          cases P with
          | nil => exact absurd rfl hP
          | cons x P => exact dec_head hp (fun e => c3.2 (by rw [e]; rfl))
        · rw [if_neg c3] at h
          by_cases c4 : c = 46 ∧ P.length ≤ 6
          · rw [if_pos c4] at h
            simp only [Option.some.injEq, Prod.mk.injEq] at h
            obtain ⟨rfl, rfl⟩ := h
            have hz : ((49 : UInt8) :: List.replicate P.length 48).all dig = true := by rw [List.all_cons, rep_all]; decide
            refine ⟨by rw [List.length_append]; omega, by rw [List.length_append]; omega, by rw [List.all_append, hall, hp]; rfl, by simp, by rw [List.length_cons, List.length_replicate]; omega, hz, dec_head hz (by decide)⟩
          · rw [if_neg c4] at h; cases h
theorem NatW.lt {S : Nat → Prop} {w : World} {v : Value} {l : List Nat} (h : NatW S w v l) : NatW (fun B => B < w.heap.size) w v l := by
  obtain ⟨h1, h2, h3, ao, c, h4, h5, h6⟩ := h
  refine ⟨h1, h2, h3, ao, c, h4, h5, fun h0 => ?_⟩
  obtain ⟨B, _, e, hl⟩ := h6 h0
  exact ⟨B, hl.1, e, hl⟩
theorem NatW.shape {S : Nat → Prop} {w : World} {v : Value} {l : List Nat} (h : NatW S w v l) : ∃ ao n c, v = .slice ao n c ∧ n = l.length ∧ (n = 0 ↔ lv l = 0) := by
  obtain ⟨h1, h2, h3, ao, c, h4, h5, h6⟩ := h
  refine ⟨ao, _, c, h4, rfl, fun q => lv_nil q, fun q => ?_⟩
  rcases Nat.eq_zero_or_pos l.length with z | z
  · exact z
  · have := lv_pos h2 z; omega
set_option maxRecDepth 100000 in
set_option maxHeartbeats 16000000 in
theorem parse_gen (l : List UInt8) (w : World) (hl : l.length ≤ 80) : Calls Tryd.prog 54 #[.string (bs l)] w fun e w' => e = .returned (.tuple #[.agg #[.int .i64 (paR l).1, .int .i64 (paR l).2.1], .int .i64 (paR l).2.2]) ∧ Below w.heap.size w w' := by
  have hbl := bdy_len l
  have H1 := Lib.hid (fun W => cut_gen l W (by omega))
  have HQ := Lib.hid (fun W => quotient_gen (bdy l) W (by omega))
  obtain ⟨SL, hSL⟩ : ∃ T, bs l = T := ⟨_, rfl⟩
  obtain ⟨SB, hSB⟩ : ∃ T, bs (bdy l) = T := ⟨_, rfl⟩
  rw [hSL, hSB] at H1
  rw [hSB] at HQ
  rw [hSL]
  clear hSL hSB
  obtain ⟨R, hR⟩ : ∃ R, R = paR l := ⟨_, rfl⟩
  rw [← hR]
  unfold paR at hR
  by_cases hq : qoO (bdy l) = none
  · have H2 := Lib.hid (fun W => show Calls Tryd.prog 71 #[.string SB] W fun e w' => e = .returned (.tuple #[.string ⟨#[]⟩, .string ⟨#[]⟩, .bool false]) ∧ Below W.heap.size W w' from (HQ.out W).mono fun e w' h => by
      rcases h with ⟨⟨_, he⟩ | ⟨A, B, h2, _⟩, hb⟩
      · exact ⟨he, hb⟩
      · rw [hq] at h2; cases h2)
    rw [hq] at hR
    have HR := Lib.hid hR
    clear hR HQ hq
    generalize isNeg l = ng at *
    go_enter Tryd.func54, Tryd.ntmps54
    go_wp2_with fail
    have P0_1 := Lib.hid (show Cell2 (w.alloc (Obj.cells #[(.int .i64 0), (.int .i64 0)] 35)) (w.heap.size) (.int .i64 0) (.int .i64 0) from by simpa using Cell2.alloc w (.int .i64 0) (.int .i64 0) 35)
    have HB1 := Lib.hid ((Below.refl w.heap.size w).alloc (Nat.le_refl _) (Obj.cells #[(.int .i64 0), (.int .i64 0)] 35))
    generalize (w.alloc (Obj.cells #[(.int .i64 0), (.int .i64 0)] 35)) = W1 at *
    refine (H1.out _).mono ?_
    rintro e w_ ⟨rfl, rfl⟩
    go_wp2_with fail
    refine (H2.out _).mono ?_
    rintro e W2 ⟨rfl, hb2⟩
    have HB2 := Lib.hid (HB1.out.trans ((hb2).mono HB1.out.size))
    have P0_2 := Lib.hid (P0_1.out.below (hb2) P0_1.out.lt)
    clear HB1 P0_1 hb2
    have lP0_2 := P0_2.out.lt
    have cP0_2_0 := P0_2.out.c0
    have cP0_2_1 := P0_2.out.c1
    have fP0_2_0 := P0_2.out.f0
    have fP0_2_1 := P0_2.out.f1
    go_wp2
    refine bodyPost_ret (v := .tuple #[.agg #[(.int .i64 0), (.int .i64 0)], .int .i64 5]) ?_ rfl ⟨by rw [HR.out], ((HB2.out.setCell (p := ⟨w.heap.size, 0, none⟩) (by simp) (.int .i64 0)).setCell (p := ⟨w.heap.size, 1, none⟩) (by simp) (.int .i64 0))⟩
    have u0 := ((P0_2.out.set0 (.int .i64 0)).set1 (.int .i64 0)).c0
    have u1 := ((P0_2.out.set0 (.int .i64 0)).set1 (.int .i64 0)).c1
    rw [results_cell_tmp rfl]
    go_simp
  obtain ⟨X, Y, hxy⟩ : ∃ X Y, qoO (bdy l) = some (X, Y) := by
    cases h : qoO (bdy l) with
    | none => exact absurd h hq
    | some p => exact ⟨p.1, p.2, rfl⟩
  have hk := qo_ok hxy
  have H2 := Lib.hid (fun W => show Calls Tryd.prog 71 #[.string SB] W fun e w' => e = .returned (.tuple #[.string (bs X), .string (bs Y), .bool true]) ∧ Below W.heap.size W w' from (HQ.out W).mono fun e w' h => by
    rcases h with ⟨⟨h2, he⟩ | ⟨A, B, h2, he⟩, hb⟩
    · rw [hxy] at h2; cases h2
    · rw [hxy] at h2
      injection h2 with h2
      injection h2 with h3 h4
      subst h3 h4
      exact ⟨he, hb⟩)
  rw [hxy] at hR
  simp only at hR
  have k1 := hk.a0
  have k2 := hk.a1
  have k3 := hk.b0
  have k4 := hk.b1
  have H3 := Lib.hid (fun W => readNat_gen (bs X) W (by rw [bs_size]; exact k1) (by rw [bs_size]; omega) (by rw [bs_list]; exact hk.a2))
  have H4 := Lib.hid (fun W => readNat_gen (bs Y) W (by rw [bs_size]; exact k3) (by rw [bs_size]; omega) (by rw [bs_list]; exact hk.b2))
  have HY0 := Lib.hid hk.b3
  simp only [bs_list] at H3 H4
  obtain ⟨SX, hSX⟩ : ∃ T, bs X = T := ⟨_, rfl⟩
  obtain ⟨SY, hSY⟩ : ∃ T, bs Y = T := ⟨_, rfl⟩
  rw [hSX] at H3 H2
  rw [hSY] at H4 H2
  clear hSX hSY k1 k2 k3 k4 hk HQ hxy hq hbl
  generalize dec X = n at *
  generalize dec Y = d at *
  have HRd := Lib.hid hR
  clear hR
  by_cases hng : isNeg l = true
  · rw [hng] at H1 HRd
    clear hng
    by_cases hz : n = 0
    · rw [if_pos ⟨rfl, hz⟩] at HRd
      have HR := HRd
      clear HRd
      go_enter Tryd.func54, Tryd.ntmps54
      go_wp2_with fail
      have P0_3 := Lib.hid (show Cell2 (w.alloc (Obj.cells #[(.int .i64 0), (.int .i64 0)] 35)) (w.heap.size) (.int .i64 0) (.int .i64 0) from by simpa using Cell2.alloc w (.int .i64 0) (.int .i64 0) 35)
      have HB3 := Lib.hid ((Below.refl w.heap.size w).alloc (Nat.le_refl _) (Obj.cells #[(.int .i64 0), (.int .i64 0)] 35))
      generalize (w.alloc (Obj.cells #[(.int .i64 0), (.int .i64 0)] 35)) = W3 at *
      refine (H1.out _).mono ?_
      rintro e w_ ⟨rfl, rfl⟩
      go_wp2_with fail
      refine (H2.out _).mono ?_
      rintro e W4 ⟨rfl, hb4⟩
      have HB4 := Lib.hid (HB3.out.trans ((hb4).mono HB3.out.size))
      have P0_4 := Lib.hid (P0_3.out.below (hb4) P0_3.out.lt)
      clear HB3 P0_3 hb4
      go_wp2_with fail
      refine (H3.out _).mono ?_
      rintro e w3 ⟨v3, l3, rfl, hv3, hl3, hb3⟩
      have HN3 := Lib.hid hv3
      have HL3 := Lib.hid hl3
      clear hv3 hl3
      have HB5 := Lib.hid (HB4.out.trans ((hb3).mono HB4.out.size))
      have P0_5 := Lib.hid (P0_4.out.below (hb3) P0_4.out.lt)
      clear HB4 P0_4 hb3
      go_wp2_with fail
      refine (H4.out _).mono ?_
      rintro e w4 ⟨v4, l4, rfl, hv4, hl4, hb4⟩
      have HN4 := Lib.hid hv4.lt
      have HL4 := Lib.hid hl4
      have HN3 := Lib.hid (HN3.out.below hb4).lt
      clear hv4 hl4
      have HB6 := Lib.hid (HB5.out.trans ((hb4).mono HB5.out.size))
      have P0_6 := Lib.hid (P0_5.out.below (hb4) P0_5.out.lt)
      clear HB5 P0_5 hb4
      obtain ⟨ax, na, ca, rfl, ea, za⟩ := HN3.out.shape
      obtain ⟨bx, nb, cb, rfl, eb, zb⟩ := HN4.out.shape
      rw [HL3.out] at za
      have HRe := Lib.hid (reduce_gen ax bx na ca nb cb l3 l4 n d w4 HL3.out HL4.out HY0.out HN3.out HN4.out)
      clear HN3 HN4 HL3 HL4 ea eb zb
      have za' : ((na : Int) == 0) = true := by simp; exact za.2 hz
      clear HRe
      have lP0_6 := P0_6.out.lt
      have cP0_6_0 := P0_6.out.c0
      have cP0_6_1 := P0_6.out.c1
      have fP0_6_0 := P0_6.out.f0
      have fP0_6_1 := P0_6.out.f1
      go_wp2
      refine bodyPost_ret (v := .tuple #[.agg #[(.int .i64 0), (.int .i64 0)], .int .i64 5]) ?_ rfl ⟨by rw [HR.out], ((HB6.out.setCell (p := ⟨w.heap.size, 0, none⟩) (by simp) (.int .i64 0)).setCell (p := ⟨w.heap.size, 1, none⟩) (by simp) (.int .i64 0))⟩
      have u0 := ((P0_6.out.set0 (.int .i64 0)).set1 (.int .i64 0)).c0
      have u1 := ((P0_6.out.set0 (.int .i64 0)).set1 (.int .i64 0)).c1
      rw [results_cell_tmp rfl]
      go_simp
    rw [if_neg (by rintro ⟨_, h⟩; exact hz h)] at HRd
    by_cases hb : rdB n d = false
    · rw [if_pos hb] at HRd
      have HR := HRd
      have HZ := Lib.hid (show rdN n d = 0 ∧ rdD n d = 0 by
        cases h : rdO n d with
        | none => exact ⟨(rd_none h).1, (rd_none h).2.1⟩
        | some p => have := (rd_some (x := p.1) (y := p.2) h).2.2; rw [this] at hb; cases hb)
      clear HRd
      go_enter Tryd.func54, Tryd.ntmps54
      go_wp2_with fail
      have P0_7 := Lib.hid (show Cell2 (w.alloc (Obj.cells #[(.int .i64 0), (.int .i64 0)] 35)) (w.heap.size) (.int .i64 0) (.int .i64 0) from by simpa using Cell2.alloc w (.int .i64 0) (.int .i64 0) 35)
      have HB7 := Lib.hid ((Below.refl w.heap.size w).alloc (Nat.le_refl _) (Obj.cells #[(.int .i64 0), (.int .i64 0)] 35))
      generalize (w.alloc (Obj.cells #[(.int .i64 0), (.int .i64 0)] 35)) = W7 at *
      refine (H1.out _).mono ?_
      rintro e w_ ⟨rfl, rfl⟩
      go_wp2_with fail
      refine (H2.out _).mono ?_
      rintro e W8 ⟨rfl, hb8⟩
      have HB8 := Lib.hid (HB7.out.trans ((hb8).mono HB7.out.size))
      have P0_8 := Lib.hid (P0_7.out.below (hb8) P0_7.out.lt)
      clear HB7 P0_7 hb8
      go_wp2_with fail
      refine (H3.out _).mono ?_
      rintro e w3 ⟨v3, l3, rfl, hv3, hl3, hb3⟩
      have HN3 := Lib.hid hv3
      have HL3 := Lib.hid hl3
      clear hv3 hl3
      have HB9 := Lib.hid (HB8.out.trans ((hb3).mono HB8.out.size))
      have P0_9 := Lib.hid (P0_8.out.below (hb3) P0_8.out.lt)
      clear HB8 P0_8 hb3
      go_wp2_with fail
      refine (H4.out _).mono ?_
      rintro e w4 ⟨v4, l4, rfl, hv4, hl4, hb4⟩
      have HN4 := Lib.hid hv4.lt
      have HL4 := Lib.hid hl4
      have HN3 := Lib.hid (HN3.out.below hb4).lt
      clear hv4 hl4
      have HB10 := Lib.hid (HB9.out.trans ((hb4).mono HB9.out.size))
      have P0_10 := Lib.hid (P0_9.out.below (hb4) P0_9.out.lt)
      clear HB9 P0_9 hb4
      obtain ⟨ax, na, ca, rfl, ea, za⟩ := HN3.out.shape
      obtain ⟨bx, nb, cb, rfl, eb, zb⟩ := HN4.out.shape
      rw [HL3.out] at za
      have HRe := Lib.hid (reduce_gen ax bx na ca nb cb l3 l4 n d w4 HL3.out HL4.out HY0.out HN3.out HN4.out)
      clear HN3 HN4 HL3 HL4 ea eb zb
      have za' : ((na : Int) == 0) = false := by simp; exact fun q => hz (za.1 q)
      rw [HZ.out.1, HZ.out.2, hb] at HRe
      go_wp2_with fail
      refine (HRe.out).mono ?_
      rintro e W11 ⟨rfl, hb11⟩
      have HB11 := Lib.hid (HB10.out.trans ((hb11).mono HB10.out.size))
      have P0_11 := Lib.hid (P0_10.out.below (hb11) P0_10.out.lt)
      clear HB10 P0_10 hb11
      have lP0_11 := P0_11.out.lt
      have cP0_11_0 := P0_11.out.c0
      have cP0_11_1 := P0_11.out.c1
      have fP0_11_0 := P0_11.out.f0
      have fP0_11_1 := P0_11.out.f1
      go_wp2
      refine bodyPost_ret (v := .tuple #[.agg #[.int .i64 0, .int .i64 0], .int .i64 4]) ?_ rfl ⟨by rw [HR.out], ((((HB11.out.setCell (p := ⟨w.heap.size, 0, none⟩) (by simp) _).setCell (p := ⟨w.heap.size, 1, none⟩) (by simp) _).setCell (p := ⟨w.heap.size, 0, none⟩) (by simp) _).setCell (p := ⟨w.heap.size, 1, none⟩) (by simp) _)⟩
      have u0 := ((((P0_11.out.set0 (.int .i64 0)).set1 (.int .i64 0)).set0 (.int .i64 0)).set1 (.int .i64 0)).c0
      have u1 := ((((P0_11.out.set0 (.int .i64 0)).set1 (.int .i64 0)).set0 (.int .i64 0)).set1 (.int .i64 0)).c1
      rw [results_cell_tmp rfl]
      go_simp
    rw [if_neg hb] at HRd
    have hb' : rdB n d = true := by simpa using hb
    rw [if_pos rfl] at HRd
    have HR := HRd
    have hbd : 0 ≤ rdN n d ∧ rdN n d ≤ 1000000 := by
      cases h : rdO n d with
      | none => rw [(rd_none h).2.2] at hb'; cases hb'
      | some p => have q1 := (rd_some (x := p.1) (y := p.2) h).1; have q2 := (rdO_copr HY0.out (x := p.1) (y := p.2) h).2.1; omega
    clear HRd hb
    go_enter Tryd.func54, Tryd.ntmps54
    go_wp2_with fail
    have P0_12 := Lib.hid (show Cell2 (w.alloc (Obj.cells #[(.int .i64 0), (.int .i64 0)] 35)) (w.heap.size) (.int .i64 0) (.int .i64 0) from by simpa using Cell2.alloc w (.int .i64 0) (.int .i64 0) 35)
    have HB12 := Lib.hid ((Below.refl w.heap.size w).alloc (Nat.le_refl _) (Obj.cells #[(.int .i64 0), (.int .i64 0)] 35))
    generalize (w.alloc (Obj.cells #[(.int .i64 0), (.int .i64 0)] 35)) = W12 at *
    refine (H1.out _).mono ?_
    rintro e w_ ⟨rfl, rfl⟩
    go_wp2_with fail
    refine (H2.out _).mono ?_
    rintro e W13 ⟨rfl, hb13⟩
    have HB13 := Lib.hid (HB12.out.trans ((hb13).mono HB12.out.size))
    have P0_13 := Lib.hid (P0_12.out.below (hb13) P0_12.out.lt)
    clear HB12 P0_12 hb13
    go_wp2_with fail
    refine (H3.out _).mono ?_
    rintro e w3 ⟨v3, l3, rfl, hv3, hl3, hb3⟩
    have HN3 := Lib.hid hv3
    have HL3 := Lib.hid hl3
    clear hv3 hl3
    have HB14 := Lib.hid (HB13.out.trans ((hb3).mono HB13.out.size))
    have P0_14 := Lib.hid (P0_13.out.below (hb3) P0_13.out.lt)
    clear HB13 P0_13 hb3
    go_wp2_with fail
    refine (H4.out _).mono ?_
    rintro e w4 ⟨v4, l4, rfl, hv4, hl4, hb4⟩
    have HN4 := Lib.hid hv4.lt
    have HL4 := Lib.hid hl4
    have HN3 := Lib.hid (HN3.out.below hb4).lt
    clear hv4 hl4
    have HB15 := Lib.hid (HB14.out.trans ((hb4).mono HB14.out.size))
    have P0_15 := Lib.hid (P0_14.out.below (hb4) P0_14.out.lt)
    clear HB14 P0_14 hb4
    obtain ⟨ax, na, ca, rfl, ea, za⟩ := HN3.out.shape
    obtain ⟨bx, nb, cb, rfl, eb, zb⟩ := HN4.out.shape
    rw [HL3.out] at za
    have HRe := Lib.hid (reduce_gen ax bx na ca nb cb l3 l4 n d w4 HL3.out HL4.out HY0.out HN3.out HN4.out)
    clear HN3 HN4 HL3 HL4 ea eb zb
    have za' : ((na : Int) == 0) = false := by simp; exact fun q => hz (za.1 q)
    rw [hb'] at HRe
    obtain ⟨fn, hfn⟩ : ∃ x, rdN n d = x := ⟨_, rfl⟩
    obtain ⟨fd, hfd⟩ : ∃ x, rdD n d = x := ⟨_, rfl⟩
    rw [hfn, hfd] at HRe HR
    rw [hfn] at hbd
    clear hfn hfd hb'
    go_wp2_with fail
    refine (HRe.out).mono ?_
    rintro e W16 ⟨rfl, hb16⟩
    have HB16 := Lib.hid (HB15.out.trans ((hb16).mono HB15.out.size))
    have P0_16 := Lib.hid (P0_15.out.below (hb16) P0_15.out.lt)
    clear HB15 P0_15 hb16
    have lP0_16 := P0_16.out.lt
    have cP0_16_0 := P0_16.out.c0
    have cP0_16_1 := P0_16.out.c1
    have fP0_16_0 := P0_16.out.f0
    have fP0_16_1 := P0_16.out.f1
    go_wp2
    refine bodyPost_ret (v := .tuple #[.agg #[.int .i64 (-fn), .int .i64 fd], .int .i64 0]) ?_ rfl ⟨by rw [HR.out], (((((HB16.out.setCell (p := ⟨w.heap.size, 0, none⟩) (by simp) _).setCell (p := ⟨w.heap.size, 1, none⟩) (by simp) _).setCell (p := ⟨w.heap.size, 0, none⟩) (by simp) _).setCell (p := ⟨w.heap.size, 0, none⟩) (by simp) _).setCell (p := ⟨w.heap.size, 1, none⟩) (by simp) _)⟩
    have u0 := (((((P0_16.out.set0 (.int .i64 fn)).set1 (.int .i64 fd)).set0 (.int .i64 (-fn))).set0 (.int .i64 (-fn))).set1 (.int .i64 fd)).c0
    have u1 := (((((P0_16.out.set0 (.int .i64 fn)).set1 (.int .i64 fd)).set0 (.int .i64 (-fn))).set0 (.int .i64 (-fn))).set1 (.int .i64 fd)).c1
    rw [results_cell_tmp rfl]
    go_simp
  · have hng : isNeg l = false := by simpa using hng
    rw [hng] at H1 HRd
    clear hng
    rw [if_neg (by rintro ⟨h, _⟩; cases h)] at HRd
    by_cases hb : rdB n d = false
    · rw [if_pos hb] at HRd
      have HR := HRd
      have HZ := Lib.hid (show rdN n d = 0 ∧ rdD n d = 0 by
        cases h : rdO n d with
        | none => exact ⟨(rd_none h).1, (rd_none h).2.1⟩
        | some p => have := (rd_some (x := p.1) (y := p.2) h).2.2; rw [this] at hb; cases hb)
      clear HRd
      go_enter Tryd.func54, Tryd.ntmps54
      go_wp2_with fail
      have P0_17 := Lib.hid (show Cell2 (w.alloc (Obj.cells #[(.int .i64 0), (.int .i64 0)] 35)) (w.heap.size) (.int .i64 0) (.int .i64 0) from by simpa using Cell2.alloc w (.int .i64 0) (.int .i64 0) 35)
      have HB17 := Lib.hid ((Below.refl w.heap.size w).alloc (Nat.le_refl _) (Obj.cells #[(.int .i64 0), (.int .i64 0)] 35))
      generalize (w.alloc (Obj.cells #[(.int .i64 0), (.int .i64 0)] 35)) = W17 at *
      refine (H1.out _).mono ?_
      rintro e w_ ⟨rfl, rfl⟩
      go_wp2_with fail
      refine (H2.out _).mono ?_
      rintro e W18 ⟨rfl, hb18⟩
      have HB18 := Lib.hid (HB17.out.trans ((hb18).mono HB17.out.size))
      have P0_18 := Lib.hid (P0_17.out.below (hb18) P0_17.out.lt)
      clear HB17 P0_17 hb18
      go_wp2_with fail
      refine (H3.out _).mono ?_
      rintro e w3 ⟨v3, l3, rfl, hv3, hl3, hb3⟩
      have HN3 := Lib.hid hv3
      have HL3 := Lib.hid hl3
      clear hv3 hl3
      have HB19 := Lib.hid (HB18.out.trans ((hb3).mono HB18.out.size))
      have P0_19 := Lib.hid (P0_18.out.below (hb3) P0_18.out.lt)
      clear HB18 P0_18 hb3
      go_wp2_with fail
      refine (H4.out _).mono ?_
      rintro e w4 ⟨v4, l4, rfl, hv4, hl4, hb4⟩
      have HN4 := Lib.hid hv4.lt
      have HL4 := Lib.hid hl4
      have HN3 := Lib.hid (HN3.out.below hb4).lt
      clear hv4 hl4
      have HB20 := Lib.hid (HB19.out.trans ((hb4).mono HB19.out.size))
      have P0_20 := Lib.hid (P0_19.out.below (hb4) P0_19.out.lt)
      clear HB19 P0_19 hb4
      obtain ⟨ax, na, ca, rfl, ea, za⟩ := HN3.out.shape
      obtain ⟨bx, nb, cb, rfl, eb, zb⟩ := HN4.out.shape
      rw [HL3.out] at za
      have HRe := Lib.hid (reduce_gen ax bx na ca nb cb l3 l4 n d w4 HL3.out HL4.out HY0.out HN3.out HN4.out)
      clear HN3 HN4 HL3 HL4 ea eb zb
      rw [HZ.out.1, HZ.out.2, hb] at HRe
      go_wp2_with fail
      refine (HRe.out).mono ?_
      rintro e W21 ⟨rfl, hb21⟩
      have HB21 := Lib.hid (HB20.out.trans ((hb21).mono HB20.out.size))
      have P0_21 := Lib.hid (P0_20.out.below (hb21) P0_20.out.lt)
      clear HB20 P0_20 hb21
      have lP0_21 := P0_21.out.lt
      have cP0_21_0 := P0_21.out.c0
      have cP0_21_1 := P0_21.out.c1
      have fP0_21_0 := P0_21.out.f0
      have fP0_21_1 := P0_21.out.f1
      go_wp2
      refine bodyPost_ret (v := .tuple #[.agg #[.int .i64 0, .int .i64 0], .int .i64 4]) ?_ rfl ⟨by rw [HR.out], ((((HB21.out.setCell (p := ⟨w.heap.size, 0, none⟩) (by simp) _).setCell (p := ⟨w.heap.size, 1, none⟩) (by simp) _).setCell (p := ⟨w.heap.size, 0, none⟩) (by simp) _).setCell (p := ⟨w.heap.size, 1, none⟩) (by simp) _)⟩
      have u0 := ((((P0_21.out.set0 (.int .i64 0)).set1 (.int .i64 0)).set0 (.int .i64 0)).set1 (.int .i64 0)).c0
      have u1 := ((((P0_21.out.set0 (.int .i64 0)).set1 (.int .i64 0)).set0 (.int .i64 0)).set1 (.int .i64 0)).c1
      rw [results_cell_tmp rfl]
      go_simp
    rw [if_neg hb] at HRd
    have hb' : rdB n d = true := by simpa using hb
    rw [if_neg (by intro h; cases h)] at HRd
    have HR := HRd
    have hbd : 0 ≤ rdN n d ∧ rdN n d ≤ 1000000 := by
      cases h : rdO n d with
      | none => rw [(rd_none h).2.2] at hb'; cases hb'
      | some p => have q1 := (rd_some (x := p.1) (y := p.2) h).1; have q2 := (rdO_copr HY0.out (x := p.1) (y := p.2) h).2.1; omega
    clear HRd hb
    go_enter Tryd.func54, Tryd.ntmps54
    go_wp2_with fail
    have P0_22 := Lib.hid (show Cell2 (w.alloc (Obj.cells #[(.int .i64 0), (.int .i64 0)] 35)) (w.heap.size) (.int .i64 0) (.int .i64 0) from by simpa using Cell2.alloc w (.int .i64 0) (.int .i64 0) 35)
    have HB22 := Lib.hid ((Below.refl w.heap.size w).alloc (Nat.le_refl _) (Obj.cells #[(.int .i64 0), (.int .i64 0)] 35))
    generalize (w.alloc (Obj.cells #[(.int .i64 0), (.int .i64 0)] 35)) = W22 at *
    refine (H1.out _).mono ?_
    rintro e w_ ⟨rfl, rfl⟩
    go_wp2_with fail
    refine (H2.out _).mono ?_
    rintro e W23 ⟨rfl, hb23⟩
    have HB23 := Lib.hid (HB22.out.trans ((hb23).mono HB22.out.size))
    have P0_23 := Lib.hid (P0_22.out.below (hb23) P0_22.out.lt)
    clear HB22 P0_22 hb23
    go_wp2_with fail
    refine (H3.out _).mono ?_
    rintro e w3 ⟨v3, l3, rfl, hv3, hl3, hb3⟩
    have HN3 := Lib.hid hv3
    have HL3 := Lib.hid hl3
    clear hv3 hl3
    have HB24 := Lib.hid (HB23.out.trans ((hb3).mono HB23.out.size))
    have P0_24 := Lib.hid (P0_23.out.below (hb3) P0_23.out.lt)
    clear HB23 P0_23 hb3
    go_wp2_with fail
    refine (H4.out _).mono ?_
    rintro e w4 ⟨v4, l4, rfl, hv4, hl4, hb4⟩
    have HN4 := Lib.hid hv4.lt
    have HL4 := Lib.hid hl4
    have HN3 := Lib.hid (HN3.out.below hb4).lt
    clear hv4 hl4
    have HB25 := Lib.hid (HB24.out.trans ((hb4).mono HB24.out.size))
    have P0_25 := Lib.hid (P0_24.out.below (hb4) P0_24.out.lt)
    clear HB24 P0_24 hb4
    obtain ⟨ax, na, ca, rfl, ea, za⟩ := HN3.out.shape
    obtain ⟨bx, nb, cb, rfl, eb, zb⟩ := HN4.out.shape
    rw [HL3.out] at za
    have HRe := Lib.hid (reduce_gen ax bx na ca nb cb l3 l4 n d w4 HL3.out HL4.out HY0.out HN3.out HN4.out)
    clear HN3 HN4 HL3 HL4 ea eb zb
    rw [hb'] at HRe
    obtain ⟨fn, hfn⟩ : ∃ x, rdN n d = x := ⟨_, rfl⟩
    obtain ⟨fd, hfd⟩ : ∃ x, rdD n d = x := ⟨_, rfl⟩
    rw [hfn, hfd] at HRe HR
    rw [hfn] at hbd
    clear hfn hfd hb'
    go_wp2_with fail
    refine (HRe.out).mono ?_
    rintro e W26 ⟨rfl, hb26⟩
    have HB26 := Lib.hid (HB25.out.trans ((hb26).mono HB25.out.size))
    have P0_26 := Lib.hid (P0_25.out.below (hb26) P0_25.out.lt)
    clear HB25 P0_25 hb26
    have lP0_26 := P0_26.out.lt
    have cP0_26_0 := P0_26.out.c0
    have cP0_26_1 := P0_26.out.c1
    have fP0_26_0 := P0_26.out.f0
    have fP0_26_1 := P0_26.out.f1
    go_wp2
    refine bodyPost_ret (v := .tuple #[.agg #[.int .i64 fn, .int .i64 fd], .int .i64 0]) ?_ rfl ⟨by rw [HR.out], ((((HB26.out.setCell (p := ⟨w.heap.size, 0, none⟩) (by simp) _).setCell (p := ⟨w.heap.size, 1, none⟩) (by simp) _).setCell (p := ⟨w.heap.size, 0, none⟩) (by simp) _).setCell (p := ⟨w.heap.size, 1, none⟩) (by simp) _)⟩
    have u0 := ((((P0_26.out.set0 (.int .i64 fn)).set1 (.int .i64 fd)).set0 (.int .i64 fn)).set1 (.int .i64 fd)).c0
    have u1 := ((((P0_26.out.set0 (.int .i64 fn)).set1 (.int .i64 fd)).set0 (.int .i64 fn)).set1 (.int .i64 fd)).c1
    rw [results_cell_tmp rfl]
    go_simp
end Go.Proofs.YtkpdbhpmnegahaaDoor
