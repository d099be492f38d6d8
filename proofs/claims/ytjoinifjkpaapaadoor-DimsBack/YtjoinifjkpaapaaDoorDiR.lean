/- What Parse of package dims returns. -/
import Derived.Test.YtjoinifjkpaapaaDoorDiQ
namespace Go.Proofs.YtjoinifjkpaapaaDoor
open Go.RowKit Go.Sort
set_option linter.unusedVariables false
set_option linter.unusedSimpArgs false
attribute [local go_sem] Oper.semAt_some

theorem boxed_non {X : World} {B N : Nat} {t : TypeId} {v : Value} {row : Option Nat} (h : Boxed X B t v) (hr : ∀ r, row = some r → N ≤ r ∧ ∃ o : Obj, X.heap[r]? = some o ∧ o.isCells = false) : some B ≠ row := by
  intro e
  obtain ⟨_, o, ho, hc⟩ := hr B e.symm
  rw [show X.heap[B]? = _ from h] at ho
  cases ho; cases hc
theorem boxed_other {W : World} {B b : Nat} {t : TypeId} {v : Value} (v' : Value) (h : Boxed W B t v) (hne : B ≠ b) : Boxed (W.setCell ⟨b, 0, none⟩ v') B t v := h.kept (grownBy_setCell' W b v') (fun e => hne (Option.some.inj e))
/-- what the variables of Parse hold, and those of its iterator. -/
structure PaI (R N : Nat) (w : World) (L : List Tg) (W : World) : Prop where
  row : ∃ v, Boxed W R 22 v ∧ W.ownsRow N 32 2 v L.length (tgCs L)
  err : Boxed W (R + 1) 25 (.int .i64 0)
  b0 : ∃ v, Boxed W (R + 2) 9 v
  b1 : ∃ v, Boxed W (R + 3) 9 v
  b2 : ∃ v, Boxed W (R + 4) 3 v
  below : Below N w W
structure PaX (R N : Nat) (w : World) (W : World) : Prop where
  row : Boxed W R 22 (.slice none 0 0)
  err : Boxed W (R + 1) 25 (.int .i64 5)
  below : Below N w W
theorem PaI.own {R N : Nat} {w : World} {L : List Tg} {X Y : World} {row : Option Nat} {M : Nat} (h : PaI R N w L X) (hN : N ≤ w.heap.size) (hM : N ≤ M) (hg : X.grownBy Y row) (hr : ∀ r, row = some r → M ≤ r ∧ ∃ o : Obj, X.heap[r]? = some o ∧ o.isCells = false) : PaI R N w L Y := by
  obtain ⟨v, hv, ho⟩ := h.row
  obtain ⟨v0, h0⟩ := h.b0
  obtain ⟨v1, h1⟩ := h.b1
  obtain ⟨v2, h2⟩ := h.b2
  refine ⟨⟨v, hv.kept hg (boxed_non hv hr), ho.kept hg ?_⟩, h.err.kept hg (boxed_non h.err hr), ⟨v0, h0.kept hg (boxed_non h0 hr)⟩, ⟨v1, h1.kept hg (boxed_non h1 hr)⟩, ⟨v2, h2.kept hg (boxed_non h2 hr)⟩, ?_⟩
  · rcases ho.2 with ⟨rfl, _⟩ | ⟨g, cap, cur, rfl, _, hgb, _⟩
    · exact .inl rfl
    · refine .inr fun e' => ?_
      obtain ⟨_, o, ho, hc⟩ := hr g (by simpa [Value.ownBlock] using e'.symm)
      rw [hgb] at ho; cases ho; cases hc
  · exact h.below.grown hg (Nat.le_trans hN h.below.size) (fun k e => Nat.le_trans hM (hr k e).1)
theorem PaX.own {R N : Nat} {w : World} {X Y : World} {row : Option Nat} {M : Nat} (h : PaX R N w X) (hN : N ≤ w.heap.size) (hM : N ≤ M) (hg : X.grownBy Y row) (hr : ∀ r, row = some r → M ≤ r ∧ ∃ o : Obj, X.heap[r]? = some o ∧ o.isCells = false) : PaX R N w Y :=
  ⟨h.row.kept hg (boxed_non h.row hr), h.err.kept hg (boxed_non h.err hr), h.below.grown hg (Nat.le_trans hN h.below.size) (fun k e => Nat.le_trans hM (hr k e).1)⟩
theorem parse_results {tmps : Array Value} {W : World} {g h : Nat} {a b : Value} (h4 : tmps[2]?.getD undef = .pointer (some ⟨g, 0, none⟩)) (h5 : tmps[3]?.getD undef = .pointer (some ⟨h, 0, none⟩)) (c0 : W.cell? ⟨g, 0, none⟩ = some a) (c1 : W.cell? ⟨h, 0, none⟩ = some b) :
    (results Tryd.f21 tmps).run Tryd.prog W = .ok (.tuple #[a, b]) W := by
  simp [results, Tryd.results21, go_sem, h4, h5, c0, c1]
theorem PaI.after {R N : Nat} {w : World} {L : List Tg} {X Y : World} (h : PaI R N w L X) (hN : N ≤ w.heap.size) (hb : Below X.heap.size X Y) : PaI R N w L Y := by
  obtain ⟨v, hv, ho⟩ := h.row
  obtain ⟨v0, h0⟩ := h.b0
  obtain ⟨v1, h1⟩ := h.b1
  obtain ⟨v2, h2⟩ := h.b2
  have kp : ∀ {B : Nat} {t : TypeId} {u : Value}, Boxed X B t u → Boxed Y B t u := fun q => (hb.block _ q.lt).trans q
  exact ⟨⟨v, kp hv, OwnT.below (L := L) ho hb⟩, kp h.err, ⟨v0, kp h0⟩, ⟨v1, kp h1⟩, ⟨v2, kp h2⟩, h.below.trans (hb.mono (Nat.le_trans hN h.below.size))⟩
theorem keepsFrom_below {B : Nat} {X Y : World} (hb : Below X.heap.size X Y) : KeepsFrom B X Y :=
  ⟨hb.size, fun k o _ hk _ => (hb.block k (Array.getElem?_eq_some_iff.1 hk).1).trans hk⟩
theorem kp3_boxed {b : Nat} {X Y : World} {t0 t1 t2 : TypeId} {v0 v1 v2 : Value} (a0 : Boxed X b t0 v0) (a1 : Boxed X (b + 1) t1 v1) (a2 : Boxed X (b + 2) t2 v2) (b0 : Boxed Y b t0 v0) (b1 : Boxed Y (b + 1) t1 v1) (b2 : Boxed Y (b + 2) t2 v2) : Kp3 b X Y := by
  intro i hi
  rcases (show i = 0 ∨ i = 1 ∨ i = 2 by omega) with rfl | rfl | rfl
  · exact ⟨by rw [Nat.add_zero, a0.cell, b0.cell], by rw [Nat.add_zero, a0.frozen, b0.frozen]⟩
  · exact ⟨by rw [a1.cell, b1.cell], by rw [a1.frozen, b1.frozen]⟩
  · exact ⟨by rw [a2.cell, b2.cell], by rw [a2.frozen, b2.frozen]⟩
/-- what a tag more is, behind the append and the store. -/
theorem pa_more {R : Nat} {w : World} {L : List Tg} {x : Tg} {W w1 : World} {v v' : Value} {tmp : Obj} (h : PaI R R w L W) (hR : R ≤ w.heap.size) (hv : Boxed W R 22 v) (ho : W.ownsRow R 32 2 v L.length (tgCs L))
    (hown' : w1.ownsRow R 32 2 v' (L.length + 1) (tgCs L ++ tgCs [x])) (hgrow : (W.alloc tmp).grownBy w1 v.ownBlock) :
    (w1.cell? ⟨R, 0, none⟩ = some v ∧ w1.frozen? ⟨R, 0, none⟩ = false) ∧ KeepsFrom (R + 5) W (w1.setCell ⟨R, 0, none⟩ v') ∧ Kp3 (R + 2) W (w1.setCell ⟨R, 0, none⟩ v') ∧ PaI R R w (L ++ [x]) (w1.setCell ⟨R, 0, none⟩ v') := by
  obtain ⟨v0, h0⟩ := h.b0
  obtain ⟨v1, h1⟩ := h.b1
  obtain ⟨v2, h2⟩ := h.b2
  obtain ⟨a1, a2, a3, a4, a5⟩ := hv.appended (by decide) ho (Nat.le_trans hR h.below.size) (Nat.le_refl _) hown' hgrow
  have kp : ∀ {B : Nat} {t : TypeId} {u : Value}, Boxed W B t u → t ≠ 32 → B ≠ R → Boxed (w1.setCell ⟨R, 0, none⟩ v') B t u := fun q hne hB => boxed_other _ ((q.alloc tmp).kept hgrow (q.not_row hne ho)) hB
  refine ⟨⟨a1.cell, a1.frozen⟩, a4.from _, kp3_boxed h0 h1 h2 (kp h0 (by decide) (by omega)) (kp h1 (by decide) (by omega)) (kp h2 (by decide) (by omega)), ⟨v', a2, ?_⟩, kp h.err (by decide) (by omega), ⟨v0, kp h0 (by decide) (by omega)⟩, ⟨v1, kp h1 (by decide) (by omega)⟩, ⟨v2, kp h2 (by decide) (by omega)⟩, h.below.trans a5⟩
  rw [List.length_append]
  show World.ownsRow _ R _ 2 v' (L.length + 1) (tgCs (L ++ [x]))
  have e : tgCs (L ++ [x]) = tgCs L ++ tgCs [x] := by unfold tgCs; rw [List.flatMap_append]
  rw [e]; exact a3
/-- what lies in the variables behind the last stores, the block of deferred calls shut. -/
theorem pa_end {R D : Nat} {w W : World} {L : List Tg} (h : PaI R R w L W) (hR : R ≤ w.heap.size) (hD : R + 5 ≤ D) (hK : W.heap[D]? = some (.deferred (some []))) (x y : Value) :
    ((W.setCell ⟨R, 0, none⟩ x).setCell ⟨R + 1, 0, none⟩ y).heap[D]? = some (.deferred (some [])) ∧
    (((W.setCell ⟨R, 0, none⟩ x).setCell ⟨R + 1, 0, none⟩ y).putObj D (.deferred none)).cell? ⟨R, 0, none⟩ = some x ∧
    (((W.setCell ⟨R, 0, none⟩ x).setCell ⟨R + 1, 0, none⟩ y).putObj D (.deferred none)).cell? ⟨R + 1, 0, none⟩ = some y ∧
    Below R w (((W.setCell ⟨R, 0, none⟩ x).setCell ⟨R + 1, 0, none⟩ y).putObj D (.deferred none)) ∧
    ∀ v n xs, W.ownsRow R 32 2 v n xs → (((W.setCell ⟨R, 0, none⟩ x).setCell ⟨R + 1, 0, none⟩ y).putObj D (.deferred none)).ownsRow R 32 2 v n xs := by
  obtain ⟨v, hv, _⟩ := h.row
  have k2 : ((W.setCell ⟨R, 0, none⟩ x).setCell ⟨R + 1, 0, none⟩ y).heap[D]? = some (.deferred (some [])) := set_keeps (set_keeps hK (by omega)) (by omega)
  have a0 := boxed_other y (hv.set x) (show R ≠ R + 1 by omega)
  have a1 : Boxed ((W.setCell ⟨R, 0, none⟩ x).setCell ⟨R + 1, 0, none⟩ y) (R + 1) 25 y := (boxed_other x h.err (by omega)).set y
  refine ⟨k2, (a0.kept (grownBy_putObj' _ D (.deferred none)) (by simp; omega)).cell, (a1.kept (grownBy_putObj' _ D (.deferred none)) (by simp; omega)).cell, ?_, ?_⟩
  · have b2 : Below R w ((W.setCell ⟨R, 0, none⟩ x).setCell ⟨R + 1, 0, none⟩ y) := (h.below.setCell (p := ⟨R, 0, none⟩) (Nat.le_refl _) x).setCell (p := ⟨R + 1, 0, none⟩) (by show R ≤ R + 1; omega) y
    exact b2.grown (grownBy_putObj' _ D (.deferred none)) (Nat.le_trans hR b2.size) (fun k e => by cases e; omega)
  · intro u n xs ho
    have o1 := ho.kept (grownBy_setCell' W R x) (.inr (hv.not_row (by decide) ho).symm)
    have o2 := o1.kept (grownBy_setCell' _ (R + 1) y) (.inr ((boxed_other x h.err (by omega)).not_row (by decide) o1).symm)
    exact ownsRow_putObj o2 _ k2 rfl
theorem kp3_below {b : Nat} {X Y : World} (hb : Below X.heap.size X Y) (h : b + 3 ≤ X.heap.size) : Kp3 b X Y := fun i hi =>
  ⟨hb.cell (show b + i < X.heap.size by omega), World.frozen?_of_block (hb.block _ (show b + i < X.heap.size by omega))⟩
theorem spl_part (c : UInt8) : ∀ l, ∀ p ∈ splA c l, p.length ≤ l.length
  | [], p, hp => by simp [splA] at hp; subst hp; simp
  | x :: l, p, hp => by
    have ih := spl_part c l
    unfold splA at hp
    split at hp
    · rw [List.mem_cons] at hp
      rcases hp with rfl | hp
      · simp
      · have := ih p hp; simp; omega
    · split at hp
      · simp at hp; subst hp; simp
      · rename_i q ps e
        rw [e] at ih
        rw [List.mem_cons] at hp
        rcases hp with rfl | hp
        · have := ih q (by simp); simp; omega
        · have := ih p (by simp [hp]); simp; omega
theorem spl_len (s : List UInt8) : (tgsO s).length = (splA 44 s).length := by unfold tgsO; rw [List.length_map]
set_option maxRecDepth 100000 in
set_option maxHeartbeats 3000000 in
theorem parse_any (s : ByteArray) (w : World) (hs : s.size ≤ 400) :
    Calls Tryd.prog 21 #[.string s] w fun e w' => ∃ v, e = .returned (.tuple #[v, .int .i64 (paR s.toList).2]) ∧ OwnT w' w.heap.size v (paR s.toList).1 ∧ Below w.heap.size w w' := by
  by_cases h0 : s.toList = []
  · have hs0 : s = ⟨#[]⟩ := by rw [← bs_of s, h0]; rfl
    have HE := Lib.hid (show paR s.toList = ([], 0) from if_pos h0)
    clear h0
    subst hs0
    have hb0 : Below w.heap.size w ((w.alloc (Obj.cells #[.slice none 0 0] 22)).alloc (Obj.cells #[.int .i64 0] 25)) := ((Below.refl _ w).alloc (Nat.le_refl _) _).alloc (by simp) _
    go_enter Tryd.func21, Tryd.ntmps21
    go_wp2
    refine bodyPost_ret (parse_results rfl rfl (W := _) (a := .slice none 0 0) (b := .int .i64 0) ?_ ?_) rfl ⟨_, by rw [HE.out], by rw [HE.out]; exact OwnT.nil _ _, hb0⟩
    · exact ((Boxed.new w 22 (.slice none 0 0)).alloc _).cell
    · have q := Boxed.new (w.alloc (Obj.cells #[.slice none 0 0] 22)) 25 (.int .i64 0)
      rw [World.size_alloc] at q
      exact q.cell
  · have hne : s.toList.isEmpty = false := by simpa using h0
    have HE := Lib.hid (show paR s.toList = if rightT (tgsO s.toList) = true then (tgsO s.toList, 0) else ([], 5) from if_neg h0)
    have HS := Lib.hid (fun W => seq1_any s 44 W)
    clear h0
    refine (callsIn_wide (n := 0)).1 (callsIn_of_wp_marks Tryd.func21 rfl trivial ?_ rfl)
    simp only [Tryd.ntmps21, List.size_toArray, List.length_cons, List.length_nil, Nat.reduceAdd, Nat.reduceSub, Array.replicate_succ, Array.replicate_zero, List.push_toArray, List.append_toArray, List.nil_append, List.cons_append]
    gi_wp2
    refine ⟨trivial, rfl, (callsIn_wide.2 (HS.out _)).mono ?_⟩
    rintro e w2 ⟨rfl, rfl⟩
    gi_wp2
    have x0 := Boxed.new w 22 (.slice none 0 0)
    have x1 := Boxed.new (w.alloc (Obj.cells #[.slice none 0 0] 22)) 25 (.int .i64 0)
    have x2 := Boxed.new ((w.alloc (Obj.cells #[.slice none 0 0] 22)).alloc (Obj.cells #[.int .i64 0] 25)) 9 (.string s)
    have x3 := Boxed.new (((w.alloc (Obj.cells #[.slice none 0 0] 22)).alloc (Obj.cells #[.int .i64 0] 25)).alloc (.cells #[.string s] 9)) 9 (.string ⟨#[44]⟩)
    have x4 := Boxed.new ((((w.alloc (Obj.cells #[.slice none 0 0] 22)).alloc (Obj.cells #[.int .i64 0] 25)).alloc (.cells #[.string s] 9)).alloc (.cells #[.string ⟨#[44]⟩] 9)) 3 (.int .i64 0)
    have y0 := (((x0.alloc (Obj.cells #[.int .i64 0] 25)).alloc (.cells #[.string s] 9)).alloc (.cells #[.string ⟨#[44]⟩] 9)).alloc (.cells #[.int .i64 0] 3)
    have y1 := ((x1.alloc (.cells #[.string s] 9)).alloc (.cells #[.string ⟨#[44]⟩] 9)).alloc (.cells #[.int .i64 0] 3)
    have y2 := (x2.alloc (.cells #[.string ⟨#[44]⟩] 9)).alloc (.cells #[.int .i64 0] 3)
    have y3 := x3.alloc (.cells #[.int .i64 0] 3)
    simp only [World.size_alloc] at y1 y2 y3 x4
    have hbw : Below w.heap.size w (spW ((w.alloc (Obj.cells #[.slice none 0 0] 22)).alloc (Obj.cells #[.int .i64 0] 25)) s 44) := ((((((Below.refl _ w).alloc (Nat.le_refl _) _).alloc (by simp) _).alloc (by simp <;> omega) _).alloc (by simp <;> omega) _).alloc (by simp <;> omega) _)
    have hsz : (spW ((w.alloc (Obj.cells #[.slice none 0 0] 22)).alloc (Obj.cells #[.int .i64 0] 25)) s 44).heap.size = w.heap.size + 5 := by unfold spW; simp
    have HI0 : PaI w.heap.size w.heap.size w [] (spW ((w.alloc (Obj.cells #[.slice none 0 0] 22)).alloc (Obj.cells #[.int .i64 0] 25)) s 44) :=
      ⟨⟨_, y0, World.ownsRow_nil _ _ _ _⟩, y1, ⟨_, y2⟩, ⟨_, y3⟩, ⟨_, x4⟩, hbw⟩
    have HC0 : SpC (w.heap.size + 2) s 44 (spW ((w.alloc (Obj.cells #[.slice none 0 0] 22)).alloc (Obj.cells #[.int .i64 0] 25)) s 44) := ⟨Boxed.cell y2, Boxed.frozen y2, Boxed.cell y3, Boxed.cell x4⟩
    clear x0 x1 x2 x3 x4 y0 y1 y2 y3 HS
    generalize spW ((w.alloc (Obj.cells #[.slice none 0 0] 22)).alloc (Obj.cells #[.int .i64 0] 25)) s 44 = W0 at *
    refine wp_split (w.heap.size + 2) 44 s (by unfold maxLen; omega) rfl rfl (by omega) HC0
      (fun pre W => PaI w.heap.size w.heap.size w (pre.map tgO) W ∧ pre.length ≤ 6) (fun pre W => PaX w.heap.size w.heap.size w W ∧ 6 < (splA 44 s.toList).length)
      (fun pre X Y row h hg hr => ⟨h.1.own (Nat.le_refl _) (by omega) hg hr, h.2⟩) (fun pre X Y row h hg hr => ⟨h.1.own (Nat.le_refl _) (by omega) hg hr, h.2⟩)
      ?hset ⟨HI0, by simp⟩
      (fun x => { tmps := #[.string s, undef, .pointer (some ⟨w.heap.size, 0, none⟩), .pointer (some ⟨w.heap.size + 1, 0, none⟩), .string x, undef, undef, undef, .string s, .bool false, .string s, spF (w.heap.size + 1 + 1), .string x, undef, undef, undef, undef, undef, undef, undef, undef, undef, undef, undef, undef, undef, undef, undef, undef, undef, undef, undef], defers := [] }) ?assign ?body ?done ?stop
    case hset =>
      rintro pre W v ⟨h, hl⟩
      obtain ⟨u, hu, ho⟩ := h.row
      obtain ⟨v0, h0⟩ := h.b0
      obtain ⟨v1, h1⟩ := h.b1
      obtain ⟨v2, h2⟩ := h.b2
      exact ⟨⟨⟨u, boxed_other v hu (by omega), ho.kept (grownBy_setCell' W _ v) (.inr (h0.not_row (by decide) ho).symm)⟩, boxed_other v h.err (by omega), ⟨v, h0.set v⟩, ⟨v1, boxed_other v h1 (by omega)⟩, ⟨v2, boxed_other v h2 (by omega)⟩, h.below.setCell (p := ⟨w.heap.size + 2, 0, none⟩) (by show w.heap.size ≤ w.heap.size + 2; omega) v⟩, hl⟩
    case assign =>
      intro l x W K hK
      gi_wp2
      exact hK
    case body =>
      rintro l pre x W ⟨h, hl⟩ hp
      rw [hsz]
      obtain ⟨i0, hi, hz0, hz1, hz2⟩ := info_parts inf_tag
      have hx : x.length ≤ 400 := by
        have := spl_part 44 s.toList x (hp.subset (by simp))
        rw [bytes_len] at this; omega
      have hpl : pre.length + 1 ≤ (splA 44 s.toList).length := by have := hp.length_le; simpa using this
      have HM := Lib.hid (show (pre ++ [x]).map tgO = pre.map tgO ++ [tgO x] by simp)
      have HN := Lib.hid (show (pre ++ [x]).length = pre.length + 1 by simp)
      have hll : (pre.map tgO).length = pre.length := List.length_map _
      obtain ⟨L, hL⟩ : ∃ L, pre.map tgO = L := ⟨_, rfl⟩
      rw [hL] at HM h hll
      have HCut := Lib.hid (fun W => cut1_any (bs x) 61 W (by rw [bs_size]; unfold maxLen; omega))
      rw [bs_list] at HCut
      have HBd := Lib.hid (tgO_bd x hx)
      have HTo := Lib.hid (show tgO x = (bs (x.take (cutI x 61)), bs (x.drop (cutI x 61 + 1))) from rfl)
      generalize bs (x.take (cutI x 61)) = NA at *
      generalize bs (x.drop (cutI x 61 + 1)) = VA at *
      generalize decide (cutI x 61 < (bs x).size) = fd at *
      generalize bs x = X at *
      rw [HTo.out] at HM HBd
      have HP := Lib.hid hp
      clear hL HTo hp hx
      have hlL : L.length ≤ 6 := by omega
      obtain ⟨v, hv, ho⟩ := h.row
      obtain ⟨ao, cap, rfl, hs1, hs2⟩ := OwnT.shape (L := L) ho
      have hvc := hv.cell
      have hvf := hv.frozen
      have hec := h.err.cell
      have hef := h.err.frozen
      have HLe := Lib.hid hll
      clear hs1 hs2 hll
      by_cases h6 : 6 ≤ L.length
      · have h6' : (L.length : Int) = 6 := by omega
        have K := Lib.hid (show KeepsFrom (w.heap.size + 5) W ((W.setCell ⟨w.heap.size, 0, none⟩ (.slice none 0 0)).setCell ⟨w.heap.size + 1, 0, none⟩ (.int .i64 5)) ∧ PaX w.heap.size w.heap.size w ((W.setCell ⟨w.heap.size, 0, none⟩ (.slice none 0 0)).setCell ⟨w.heap.size + 1, 0, none⟩ (.int .i64 5)) ∧ 6 < (splA 44 s.toList).length from
          ⟨((KeepsOthers.setCell _ _ _).trans (KeepsOthers.setCell _ _ _)).from _, ⟨boxed_other _ (hv.set _) (by omega), (boxed_other _ h.err (by omega)).set _, (h.below.setCell (p := ⟨w.heap.size, 0, none⟩) (Nat.le_refl _) _).setCell (p := ⟨w.heap.size + 1, 0, none⟩) (by show w.heap.size ≤ w.heap.size + 1; omega) _⟩, by have := HLe.out; omega⟩)
        clear HLe HN hpl
        gi_wp2
        exact K.out
      · have h6' : ¬ (L.length : Int) = 6 := by omega
        gi_wp2
        refine ⟨trivial, rfl, CallsIn.inRound l ((callsIn_wide.2 (HCut.out _)).mono ?_)⟩
        rintro e W2 ⟨rfl, hb⟩
        have h2 := h.after (Nat.le_refl _) hb
        have q1 : KeepsFrom (w.heap.size + 5) W W2 := keepsFrom_below hb
        obtain ⟨u2, hu2⟩ := h.b2
        have q2 : Kp3 (w.heap.size + 2) W W2 := kp3_below hb (by have := hu2.lt; omega)
        have Q := Lib.hid (And.intro q1 q2)
        clear hb q1 q2 hu2 hvc hvf hec hef hv ho h
        obtain ⟨v, hv, ho⟩ := h2.row
        obtain ⟨ao, cap, rfl, hs1, hs2⟩ := OwnT.shape (L := L) ho
        have hvc := hv.cell
        clear hs1 hs2
        have HRo := Lib.hid (row_one W2 NA VA 32 HBd.out.1 HBd.out.2)
        gi_wp2_with (gi_at_builtin; refine wpListIn_append_own _ rfl (.tmp 22) (.tmp 26) 22 rfl w.heap.size 32 i0 (.agg #[.string ⟨#[]⟩, .string ⟨#[]⟩]) 2 32 und_tags hi hz0 hz1 hz2 (by kernel_rfl) (by decide) _ L.length (tgCs L) rfl (ho.alloc _) ⟨W2.heap.size, 0, none⟩ 1 1 (tgCs [(NA, VA)]) rfl rfl HRo.out.cells tgCs_one (by unfold maxLen; omega) (by omega) (by have := h2.below.size; simp; omega) ?_; intro v' w1 hown' hgrow _; obtain ⟨g', cap', rfl⟩ := ownsRow_succ hown'; obtain ⟨⟨hk1, hk2⟩, hk3, hk4, hk5⟩ := pa_more (x := (NA, VA)) h2 (Nat.le_refl _) hv ho hown' hgrow)
        exact ⟨Q.out.1.trans hk3, Q.out.2.trans hk4, by rw [HM.out]; exact hk5, by rw [HN.out]; have := HLe.out; omega⟩
    case done =>
      rintro W ⟨h, hl⟩ hK
      rw [hsz] at hK
      have hbd : ∀ t ∈ tgsO s.toList, t.1.size ≤ 400 ∧ t.2.size ≤ 400 := by
        intro t ht
        obtain ⟨p, hp, rfl⟩ := List.mem_map.1 ht
        have := spl_part 44 s.toList p hp
        rw [bytes_len] at this
        exact tgO_bd p (by omega)
      have hll : (tgsO s.toList).length ≤ 6 := by rw [spl_len]; exact hl
      have h : PaI w.heap.size w.heap.size w (tgsO s.toList) W := h
      generalize tgsO s.toList = L at *
      obtain ⟨v, hv, ho⟩ := h.row
      obtain ⟨ao, cap, rfl, hs1, hs2⟩ := OwnT.shape (L := L) ho
      have hvc := hv.cell
      have HRt := Lib.hid (right_any ao cap L W (OwnT.row (L := L) ho hbd) (by omega))
      clear hs1 hs2 hl hbd
      cases hr : rightT L
      · rw [hr] at HRt HE
        gi_wp2
        refine ⟨trivial, rfl, (callsIn_wide.2 HRt.out).mono ?_⟩
        rintro e W2 ⟨rfl, hb⟩
        have h2 := h.after (Nat.le_refl _) hb
        have hK2 : W2.heap[w.heap.size + 5]? = some (.deferred (some [])) := (hb.block _ (Array.getElem?_eq_some_iff.1 hK).1).trans hK
        obtain ⟨v2, hv2, ho2⟩ := h2.row
        have hvc2 := hv2.cell
        have hvf2 := hv2.frozen
        have hec2 := h2.err.cell
        have hef2 := h2.err.frozen
        obtain ⟨e1, e2, e3, e4, _⟩ := pa_end h2 (Nat.le_refl _) (D := w.heap.size + 5) (by omega) hK2 (.slice none 0 0) (.int .i64 5)
        have E := Lib.hid (And.intro e1 (And.intro e2 (And.intro e3 e4)))
        clear hb hvc e1 e2 e3 e4
        gi_wp2
        refine ⟨by simp, .inl ⟨_, _, rfl, run_takeDeferred E.out.1, ?_⟩⟩
        exact ⟨_, parse_results rfl rfl E.out.2.1 E.out.2.2.1, _, by rw [HE.out]; rfl, by rw [HE.out]; exact OwnT.nil _ _, E.out.2.2.2⟩
      · rw [hr] at HRt HE
        gi_wp2
        refine ⟨trivial, rfl, (callsIn_wide.2 HRt.out).mono ?_⟩
        rintro e W2 ⟨rfl, hb⟩
        have h2 := h.after (Nat.le_refl _) hb
        have hK2 : W2.heap[w.heap.size + 5]? = some (.deferred (some [])) := (hb.block _ (Array.getElem?_eq_some_iff.1 hK).1).trans hK
        obtain ⟨v2, hv2, ho2⟩ := h2.row
        obtain ⟨ao2, cap2, rfl, hs1, hs2⟩ := OwnT.shape (L := L) ho2
        have hvc2 := hv2.cell
        have hvf2 := hv2.frozen
        have hec2 := h2.err.cell
        have hef2 := h2.err.frozen
        obtain ⟨e1, e2, e3, e4, e5'⟩ := pa_end h2 (Nat.le_refl _) (D := w.heap.size + 5) (by omega) hK2 (.slice ao2 L.length cap2) (.int .i64 0)
        have e5 := e5' _ _ _ ho2
        have E := Lib.hid (And.intro e1 (And.intro e2 (And.intro e3 (And.intro e4 e5))))
        clear hb hvc e1 e2 e3 e4 e5 e5' hs1 hs2 hK2
        gi_wp2
        refine ⟨by simp, .inl ⟨_, _, rfl, run_takeDeferred E.out.1, ?_⟩⟩
        exact ⟨_, parse_results rfl rfl E.out.2.1 E.out.2.2.1, _, by rw [HE.out]; rfl, by rw [HE.out]; exact E.out.2.2.2.2, E.out.2.2.2.1⟩
    case stop =>
      rintro pre W ⟨h, hl⟩ hK
      have HE2 := Lib.hid (show paR s.toList = ([], 5) by rw [HE.out, right_long (by rw [spl_len]; exact hl)]; rfl)
      have e2 := (h.row.kept (grownBy_putObj' _ W0.heap.size (.deferred none)) (by simp; omega)).cell
      have e3 := (h.err.kept (grownBy_putObj' _ W0.heap.size (.deferred none)) (by simp; omega)).cell
      have e4 : Below w.heap.size w (W.putObj W0.heap.size (.deferred none)) := h.below.grown (grownBy_putObj' _ W0.heap.size (.deferred none)) h.below.size (fun k e => by cases e; omega)
      have E := Lib.hid (And.intro e2 (And.intro e3 e4))
      clear e2 e3 e4
      gi_wp2
      refine ⟨by simp, .inl ⟨_, _, rfl, run_takeDeferred hK, ?_⟩⟩
      exact ⟨_, parse_results rfl rfl E.out.1 E.out.2.1, _, by rw [HE2.out], by rw [HE2.out]; exact OwnT.nil _ _, E.out.2.2⟩
end Go.Proofs.YtjoinifjkpaapaaDoor
