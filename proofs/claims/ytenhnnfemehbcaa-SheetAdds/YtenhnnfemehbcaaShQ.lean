/- The examples of package sheet: lives returns true. Written by wip/mk_shq.py. -/
import Derived.Test.YtenhnnfemehbcaaShP
namespace Go.Proofs.Ytenhnnfemehbcaa
open Go.RowKit Go.Sort
set_option linter.unusedVariables false
set_option linter.unusedSimpArgs false

theorem row_made (w : World) (L : List Cl) (t : TypeId) : RowS (w.alloc (Obj.cells (L.flatMap clC).toArray t)) (some ⟨w.heap.size, 0, none⟩) L := by
  refine fun _ => ⟨w.heap.size, 0, rfl, by simp, fun i hi j v hv => ?_⟩
  rw [World.cell?_alloc_at _ _ _ _ rfl, Nat.zero_add]
  have q := flatS_at L i j hi v hv
  simpa using q
theorem row5 (w : World) : RowS (w.alloc (Obj.cells #[.string ⟨#[97]⟩, .string ⟨#[50, 48]⟩, .string ⟨#[69, 85, 82]⟩, .string ⟨#[]⟩, .string ⟨#[]⟩, .int .i64 (-5), .int .i64 (-5), .string ⟨#[97]⟩, .string ⟨#[49, 48]⟩, .string ⟨#[69, 85, 82]⟩, .string ⟨#[]⟩, .string ⟨#[]⟩, .int .i64 7, .int .i64 7, .string ⟨#[97]⟩, .string ⟨#[50, 48]⟩, .string ⟨#[69, 85, 82]⟩, .string ⟨#[]⟩, .string ⟨#[]⟩, .int .i64 2, .int .i64 2, .string ⟨#[97]⟩, .string ⟨#[51, 48]⟩, .string ⟨#[69, 85, 82]⟩, .string ⟨#[]⟩, .string ⟨#[]⟩, .int .i64 1, .int .i64 1, .string ⟨#[97]⟩, .string ⟨#[51, 48]⟩, .string ⟨#[69, 85, 82]⟩, .string ⟨#[]⟩, .string ⟨#[]⟩, .int .i64 (-1), .int .i64 (-1)] 37)) (some ⟨w.heap.size, 0, none⟩) L5 := row_made w L5 37
theorem row2 (w : World) : RowS (w.alloc (Obj.cells #[.string ⟨#[97]⟩, .string ⟨#[49, 48]⟩, .string ⟨#[69, 85, 82]⟩, .string ⟨#[]⟩, .string ⟨#[]⟩, .int .i64 7, .int .i64 7, .string ⟨#[97]⟩, .string ⟨#[50, 48]⟩, .string ⟨#[69, 85, 82]⟩, .string ⟨#[]⟩, .string ⟨#[]⟩, .int .i64 (-3), .int .i64 (-3)] 37)) (some ⟨w.heap.size, 0, none⟩) S2 := row_made w S2 37
/-- the two lists in memory. -/
structure LvS (gs gf : Nat) (x : World) : Prop where
  s : RowS x (some ⟨gs, 0, none⟩) S2
  f : RowS x (some ⟨gf, 0, none⟩) [cA]
theorem LvS.below {gs gf : Nat} {x y : World} (h : LvS gs gf x) (hb : Below x.heap.size x y) : LvS gs gf y := ⟨h.s.below hb, h.f.below hb⟩
theorem LvS.c {gs gf : Nat} {x : World} (h : LvS gs gf x) : x.cell? ⟨gf, 0, none⟩ = some (.string ⟨#[97]⟩) ∧ x.cell? ⟨gf, 1, none⟩ = some (.string ⟨#[]⟩) ∧ x.cell? ⟨gf, 2, none⟩ = some (.string ⟨#[]⟩) ∧ x.cell? ⟨gf, 3, none⟩ = some (.string ⟨#[]⟩) ∧ x.cell? ⟨gf, 4, none⟩ = some (.string ⟨#[]⟩) ∧ x.cell? ⟨gf, 5, none⟩ = some (.int .i64 4) ∧ x.cell? ⟨gf, 6, none⟩ = some (.int .i64 4) := h.f.named (i := 0) (by decide)
theorem LvS.a {gs gf : Nat} {x : World} (h : LvS gs gf x) : x.cell? ⟨gs, 0, none⟩ = some (.string ⟨#[97]⟩) ∧ x.cell? ⟨gs, 1, none⟩ = some (.string ⟨#[49, 48]⟩) ∧ x.cell? ⟨gs, 2, none⟩ = some (.string ⟨#[69, 85, 82]⟩) ∧ x.cell? ⟨gs, 3, none⟩ = some (.string ⟨#[]⟩) ∧ x.cell? ⟨gs, 4, none⟩ = some (.string ⟨#[]⟩) := by
  obtain ⟨a, b, c, d, e, _⟩ := h.s.named (i := 0) (by decide)
  exact ⟨a, b, c, d, e⟩
theorem LvS.b {gs gf : Nat} {x : World} (h : LvS gs gf x) : x.cell? ⟨gs, 7, none⟩ = some (.string ⟨#[97]⟩) ∧ x.cell? ⟨gs, 8, none⟩ = some (.string ⟨#[50, 48]⟩) ∧ x.cell? ⟨gs, 9, none⟩ = some (.string ⟨#[69, 85, 82]⟩) ∧ x.cell? ⟨gs, 10, none⟩ = some (.string ⟨#[]⟩) ∧ x.cell? ⟨gs, 11, none⟩ = some (.string ⟨#[]⟩) := by
  obtain ⟨a, b, c, d, e, _⟩ := h.s.named (i := 1) (by decide)
  exact ⟨a, b, c, d, e⟩
theorem lv_HOf : ∀ W : World, Calls Try.prog 18 #[.slice (some ⟨W.heap.size, 0, none⟩) 5 5] (W.alloc (Obj.cells #[.string ⟨#[97]⟩, .string ⟨#[50, 48]⟩, .string ⟨#[69, 85, 82]⟩, .string ⟨#[]⟩, .string ⟨#[]⟩, .int .i64 (-5), .int .i64 (-5), .string ⟨#[97]⟩, .string ⟨#[49, 48]⟩, .string ⟨#[69, 85, 82]⟩, .string ⟨#[]⟩, .string ⟨#[]⟩, .int .i64 7, .int .i64 7, .string ⟨#[97]⟩, .string ⟨#[50, 48]⟩, .string ⟨#[69, 85, 82]⟩, .string ⟨#[]⟩, .string ⟨#[]⟩, .int .i64 2, .int .i64 2, .string ⟨#[97]⟩, .string ⟨#[51, 48]⟩, .string ⟨#[69, 85, 82]⟩, .string ⟨#[]⟩, .string ⟨#[]⟩, .int .i64 1, .int .i64 1, .string ⟨#[97]⟩, .string ⟨#[51, 48]⟩, .string ⟨#[69, 85, 82]⟩, .string ⟨#[]⟩, .string ⟨#[]⟩, .int .i64 (-1), .int .i64 (-1)] 37)) fun e w' => ∃ g cap, e = .returned (.tuple #[.slice (some ⟨g, 0, none⟩) 2 cap, .int .i64 0]) ∧ RowS w' (some ⟨g, 0, none⟩) S2 ∧ Below (W.alloc (Obj.cells #[.string ⟨#[97]⟩, .string ⟨#[50, 48]⟩, .string ⟨#[69, 85, 82]⟩, .string ⟨#[]⟩, .string ⟨#[]⟩, .int .i64 (-5), .int .i64 (-5), .string ⟨#[97]⟩, .string ⟨#[49, 48]⟩, .string ⟨#[69, 85, 82]⟩, .string ⟨#[]⟩, .string ⟨#[]⟩, .int .i64 7, .int .i64 7, .string ⟨#[97]⟩, .string ⟨#[50, 48]⟩, .string ⟨#[69, 85, 82]⟩, .string ⟨#[]⟩, .string ⟨#[]⟩, .int .i64 2, .int .i64 2, .string ⟨#[97]⟩, .string ⟨#[51, 48]⟩, .string ⟨#[69, 85, 82]⟩, .string ⟨#[]⟩, .string ⟨#[]⟩, .int .i64 1, .int .i64 1, .string ⟨#[97]⟩, .string ⟨#[51, 48]⟩, .string ⟨#[69, 85, 82]⟩, .string ⟨#[]⟩, .string ⟨#[]⟩, .int .i64 (-1), .int .i64 (-1)] 37)).heap.size (W.alloc (Obj.cells #[.string ⟨#[97]⟩, .string ⟨#[50, 48]⟩, .string ⟨#[69, 85, 82]⟩, .string ⟨#[]⟩, .string ⟨#[]⟩, .int .i64 (-5), .int .i64 (-5), .string ⟨#[97]⟩, .string ⟨#[49, 48]⟩, .string ⟨#[69, 85, 82]⟩, .string ⟨#[]⟩, .string ⟨#[]⟩, .int .i64 7, .int .i64 7, .string ⟨#[97]⟩, .string ⟨#[50, 48]⟩, .string ⟨#[69, 85, 82]⟩, .string ⟨#[]⟩, .string ⟨#[]⟩, .int .i64 2, .int .i64 2, .string ⟨#[97]⟩, .string ⟨#[51, 48]⟩, .string ⟨#[69, 85, 82]⟩, .string ⟨#[]⟩, .string ⟨#[]⟩, .int .i64 1, .int .i64 1, .string ⟨#[97]⟩, .string ⟨#[51, 48]⟩, .string ⟨#[69, 85, 82]⟩, .string ⟨#[]⟩, .string ⟨#[]⟩, .int .i64 (-1), .int .i64 (-1)] 37)) w' := fun W => by
    have h := of_any _ 5 L5 _ (row5 W) bd5 (by decide)
    rw [lv_of.1, lv_of.2] at h
    refine Calls.mono h ?_
    rintro e w' ⟨v, rfl, ho, hb⟩
    obtain ⟨ao, cap, rfl, _, _, hr, q⟩ := ho.shape
    rcases q with ⟨_, q⟩ | ⟨g, rfl, _⟩
    · cases q
    · exact ⟨g, cap, rfl, hr, hb⟩
theorem lv_HFo : ∀ g cap, ∀ W : World, RowS W (some ⟨g, 0, none⟩) S2 → Calls Try.prog 33 #[.slice (some ⟨g, 0, none⟩) 2 cap, .int .i64 1] W fun e w' => ∃ f c2, e = .returned (.tuple #[.slice (some ⟨f, 0, none⟩) 1 c2, .int .i64 0]) ∧ RowS w' (some ⟨f, 0, none⟩) [cA] ∧ Below W.heap.size W w' := fun g cap W hr => by
    have h := fold_any _ cap S2 1 _ hr bd2 (by decide) (by constructor <;> omega)
    rw [lv_fold.1, lv_fold.2] at h
    refine Calls.mono h ?_
    rintro e w' ⟨v, rfl, ho, hb⟩
    obtain ⟨ao, cap, rfl, _, _, hr, q⟩ := ho.shape
    rcases q with ⟨_, q⟩ | ⟨g, rfl, _⟩
    · cases q
    · exact ⟨g, cap, rfl, hr, hb⟩
theorem lv_HBa : ∀ g cap, ∀ W : World, RowS W (some ⟨g, 0, none⟩) S2 → Calls Try.prog 35 #[.slice (some ⟨g, 0, none⟩) 2 cap] W fun e w' => e = .returned (.tuple #[.int .i64 4, .int .i64 0]) ∧ Below W.heap.size W w' := fun g cap W hr => by
    have h := base_any _ cap S2 _ hr bd2 (by decide)
    rw [lv_base.1, lv_base.2] at h
    exact h
theorem lv_HSm : ∀ g cap h, ∀ W : World, RowS W (some ⟨g, 0, none⟩) S2 → RowS W (some ⟨h, 0, none⟩) S2 → Calls Try.prog 20 #[.slice (some ⟨g, 0, none⟩) 2 cap, .slice (some ⟨h, 0, none⟩) 2 2] W fun e w' => e = .returned (.bool true) ∧ Below W.heap.size W w' := fun g cap h W hr hr2 => by
    have q := rSame_any _ _ cap 2 S2 S2 W hr hr2 (by decide) (by decide)
    rw [show smB S2 S2 = true from decide_eq_true rfl] at q
    exact q
theorem lv_HCm : ∀ W : World, Calls Try.prog 12 #[.agg #[.string ⟨#[97]⟩, .string ⟨#[49, 48]⟩, .string ⟨#[69, 85, 82]⟩, .string ⟨#[]⟩, .string ⟨#[]⟩], .agg #[.string ⟨#[97]⟩, .string ⟨#[50, 48]⟩, .string ⟨#[69, 85, 82]⟩, .string ⟨#[]⟩, .string ⟨#[]⟩]] W fun e w' => e = .returned (.int .i64 (-1)) ∧ Below W.heap.size W w' := fun W => by
    refine (cmp_any (ceL t10 7).1 (ceL t20 (-3)).1 W).mono ?_
    rintro e w' ⟨rfl, hg⟩
    exact ⟨ret_int lv_cmp, hg.b⟩
set_option maxRecDepth 100000 in
set_option maxHeartbeats 6000000 in
theorem lives_any (w : World) : Calls Try.prog 16 #[] w fun e w' => e = .returned (.bool true) ∧ Below w.heap.size w w' := by
  have HCe := Lib.hid cell_any
  have HOf := Lib.hid lv_HOf
  have HFo := Lib.hid lv_HFo
  have HBa := Lib.hid lv_HBa
  have HSm := Lib.hid lv_HSm
  have HCm := Lib.hid lv_HCm
  go_enter Try.func16, Try.ntmps16
  go_wp2_with fail
  refine (HCe.out ⟨#[50, 48]⟩ (-5) _).mono ?_
  rintro e w1 ⟨rfl, hg⟩
  have HB1 := Lib.hid (hg.b)
  clear hg
  go_wp2_with fail
  refine (HCe.out ⟨#[49, 48]⟩ 7 _).mono ?_
  rintro e w2 ⟨rfl, hg⟩
  have HB2 := Lib.hid (HB1.out.trans (hg.b.mono HB1.out.size))
  clear hg
  go_wp2_with fail
  refine (HCe.out ⟨#[50, 48]⟩ 2 _).mono ?_
  rintro e w3 ⟨rfl, hg⟩
  have HB3 := Lib.hid (HB2.out.trans (hg.b.mono HB2.out.size))
  clear hg
  go_wp2_with fail
  refine (HCe.out ⟨#[51, 48]⟩ 1 _).mono ?_
  rintro e w4 ⟨rfl, hg⟩
  have HB4 := Lib.hid (HB3.out.trans (hg.b.mono HB3.out.size))
  clear hg
  go_wp2_with fail
  refine (HCe.out ⟨#[51, 48]⟩ (-1) _).mono ?_
  rintro e w5 ⟨rfl, hg⟩
  have HB5 := Lib.hid (HB4.out.trans (hg.b.mono HB4.out.size))
  clear hg
  have ha : Below w5.heap.size w5 (w5.alloc (Obj.cells #[.string ⟨#[97]⟩, .string ⟨#[50, 48]⟩, .string ⟨#[69, 85, 82]⟩, .string ⟨#[]⟩, .string ⟨#[]⟩, .int .i64 (-5), .int .i64 (-5), .string ⟨#[97]⟩, .string ⟨#[49, 48]⟩, .string ⟨#[69, 85, 82]⟩, .string ⟨#[]⟩, .string ⟨#[]⟩, .int .i64 7, .int .i64 7, .string ⟨#[97]⟩, .string ⟨#[50, 48]⟩, .string ⟨#[69, 85, 82]⟩, .string ⟨#[]⟩, .string ⟨#[]⟩, .int .i64 2, .int .i64 2, .string ⟨#[97]⟩, .string ⟨#[51, 48]⟩, .string ⟨#[69, 85, 82]⟩, .string ⟨#[]⟩, .string ⟨#[]⟩, .int .i64 1, .int .i64 1, .string ⟨#[97]⟩, .string ⟨#[51, 48]⟩, .string ⟨#[69, 85, 82]⟩, .string ⟨#[]⟩, .string ⟨#[]⟩, .int .i64 (-1), .int .i64 (-1)] 37)) := (Below.refl _ _).alloc (Nat.le_refl _) _
  have HB6 := Lib.hid (HB5.out.trans (ha.mono HB5.out.size))
  clear ha HB1 HB2 HB3 HB4 HB5
  go_wp2_with fail
  refine (HOf.out w5).mono ?_
  rintro e w7 ⟨gs, cap, rfl, hr, hb⟩
  have HB7 := Lib.hid (HB6.out.trans (hb.mono HB6.out.size))
  have HR7 := Lib.hid hr
  clear hb hr HB6 HOf
  go_wp2_with fail
  refine (HFo.out gs cap w7 HR7.out).mono ?_
  rintro e w8 ⟨gf, cf, rfl, hr, hb⟩
  have HB8 := Lib.hid (HB7.out.trans (hb.mono HB7.out.size))
  have HL8 := Lib.hid (show LvS gs gf w8 from ⟨HR7.out.below hb, hr⟩)
  clear hb hr HB7 HR7 HFo
  go_wp2_with fail
  refine (HBa.out gs cap w8 HL8.out.s).mono ?_
  rintro e w9 ⟨rfl, hb⟩
  have HB9 := Lib.hid (below_drewN (HB8.out.trans (hb.mono HB8.out.size)) 1)
  have HL9 := Lib.hid ((HL8.out.below hb).below (show Below w9.heap.size w9 w9.drew from below_drewN (Below.refl _ _) 1))
  clear hb HB8 HL8 HBa
  go_wp2_with fail
  refine gk_region (fun x => LvS gs gf x) (fun _ => false) (by kernel_rfl) ?_
  change Hid (Below w.heap.size w w9.drew) at HB9
  generalize w9.drew = x0 at *
  refine gk_take (i := 0) (v := ?_) rfl (by kernel_rfl) (by kernel_rfl) (by kernel_rfl) (by kernel_rfl) (fun _ _ _ h => h) (Or.inl ⟨by kernel_rfl, ?_⟩) HL9.out ?_
  rotate_left
  · ((intro x hx; clear hx; go_simp) <;> with_reducible rfl)
  try simp only [Act.put, List.setIfInBounds_toArray, List.set_cons_zero, List.set_cons_succ]
  refine gk_one (i := 1) rfl (by kernel_rfl) (fun K hK => ?_)
  go_simp
  go_at_call 40
  refine (HCe.out ⟨#[49, 48]⟩ 7 _).mono ?_
  rintro e x1 ⟨rfl, hg⟩
  have HL11 := Lib.hid (HL9.out.below hg.b)
  have HB11 := Lib.hid (HB9.out.trans (hg.b.mono HB9.out.size))
  clear hg HL9 HB9
  refine hK _ _ (fun _ => HL11.out) ?_
  clear hK K
  try simp only [Act.put, List.setIfInBounds_toArray, List.set_cons_zero, List.set_cons_succ]
  refine gk_one (i := 2) rfl (by kernel_rfl) (fun K hK => ?_)
  go_simp
  go_at_call 40
  refine (HCe.out ⟨#[50, 48]⟩ (-3) _).mono ?_
  rintro e x2 ⟨rfl, hg⟩
  have HL12 := Lib.hid (HL11.out.below hg.b)
  have HB12 := Lib.hid (HB11.out.trans (hg.b.mono HB11.out.size))
  clear hg HL11 HB11
  refine hK _ _ (fun _ => HL12.out) ?_
  clear hK K
  try simp only [Act.put, List.setIfInBounds_toArray, List.set_cons_zero, List.set_cons_succ]
  refine gk_one (i := 3) rfl (by kernel_rfl) (fun K hK => ?_)
  go_simp
  have ha : Below x2.heap.size x2 (x2.alloc (Obj.cells #[.string ⟨#[97]⟩, .string ⟨#[49, 48]⟩, .string ⟨#[69, 85, 82]⟩, .string ⟨#[]⟩, .string ⟨#[]⟩, .int .i64 7, .int .i64 7, .string ⟨#[97]⟩, .string ⟨#[50, 48]⟩, .string ⟨#[69, 85, 82]⟩, .string ⟨#[]⟩, .string ⟨#[]⟩, .int .i64 (-3), .int .i64 (-3)] 37)) := (Below.refl _ _).alloc (Nat.le_refl _) _
  have HL13 := Lib.hid (HL12.out.below ha)
  have HB13 := Lib.hid (HB12.out.trans (ha.mono HB12.out.size))
  have HR13 := Lib.hid (row2 x2)
  clear ha HL12 HB12
  refine hK _ _ (fun _ => HL13.out) ?_
  clear hK K
  try simp only [Act.put, List.setIfInBounds_toArray, List.set_cons_zero, List.set_cons_succ]
  refine gk_one (i := 4) rfl (by kernel_rfl) (fun K hK => ?_)
  go_simp
  go_at_call 20
  refine (HSm.out gs cap _ _ HL13.out.s HR13.out).mono ?_
  rintro e x4 ⟨rfl, hb⟩
  have HL14 := Lib.hid (HL13.out.below hb)
  have HB14 := Lib.hid (HB13.out.trans (hb.mono HB13.out.size))
  clear hb HL13 HB13 HR13
  refine hK _ _ (fun _ => HL14.out) ?_
  clear hK K
  try simp only [Act.put, List.setIfInBounds_toArray, List.set_cons_zero, List.set_cons_succ]
  refine gk_take (i := 5) (v := ?_) rfl (by kernel_rfl) (by kernel_rfl) (by kernel_rfl) (by kernel_rfl) (fun _ _ _ h => h) (Or.inl ⟨by kernel_rfl, ?_⟩) HL14.out ?_
  rotate_left
  · ((intro x hx; clear hx; go_simp) <;> with_reducible rfl)
  try simp only [Act.put, List.setIfInBounds_toArray, List.set_cons_zero, List.set_cons_succ]
  refine gk_take (i := 6) (v := ?_) rfl (by kernel_rfl) (by kernel_rfl) (by kernel_rfl) (by kernel_rfl) (fun _ _ _ h => h) (Or.inl ⟨by kernel_rfl, ?_⟩) HL14.out ?_
  rotate_left
  · ((intro x hx; clear hx; go_simp) <;> with_reducible rfl)
  try simp only [Act.put, List.setIfInBounds_toArray, List.set_cons_zero, List.set_cons_succ]
  refine gk_take (i := 7) (v := ?_) rfl (by kernel_rfl) (by kernel_rfl) (by kernel_rfl) (by kernel_rfl) (fun _ _ _ h => h) (Or.inl ⟨by kernel_rfl, ?_⟩) HL14.out ?_
  rotate_left
  · ((intro x hx; clear hx; go_simp) <;> with_reducible rfl)
  try simp only [Act.put, List.setIfInBounds_toArray, List.set_cons_zero, List.set_cons_succ]
  refine gk_take (i := 8) (v := ?_) rfl (by kernel_rfl) (by kernel_rfl) (by kernel_rfl) (by kernel_rfl) (fun _ _ _ h => h) (Or.inl ⟨by kernel_rfl, ?_⟩) HL14.out ?_
  rotate_left
  · ((intro x hx; clear hx; go_simp) <;> with_reducible rfl)
  try simp only [Act.put, List.setIfInBounds_toArray, List.set_cons_zero, List.set_cons_succ]
  refine gk_take (i := 9) (v := ?_) rfl (by kernel_rfl) (by kernel_rfl) (by kernel_rfl) (by kernel_rfl) (fun _ _ _ h => h) (Or.inl ⟨by kernel_rfl, ?_⟩) HL14.out ?_
  rotate_left
  · ((intro x hx; clear hx; go_simp) <;> with_reducible rfl)
  try simp only [Act.put, List.setIfInBounds_toArray, List.set_cons_zero, List.set_cons_succ]
  refine gk_take (i := 10) (v := ?_) rfl (by kernel_rfl) (by kernel_rfl) (by kernel_rfl) (by kernel_rfl) (fun _ _ _ h => h) (Or.inl ⟨by kernel_rfl, ?_⟩) HL14.out ?_
  rotate_left
  · ((intro x hx; clear hx; go_simp) <;> with_reducible rfl)
  try simp only [Act.put, List.setIfInBounds_toArray, List.set_cons_zero, List.set_cons_succ]
  refine gk_take (i := 11) (v := ?_) rfl (by kernel_rfl) (by kernel_rfl) (by kernel_rfl) (by kernel_rfl) (fun _ _ _ h => h) (Or.inl ⟨by kernel_rfl, ?_⟩) HL14.out ?_
  rotate_left
  · ((intro x hx; clear hx; go_simp) <;> with_reducible rfl)
  try simp only [Act.put, List.setIfInBounds_toArray, List.set_cons_zero, List.set_cons_succ]
  refine gk_take (i := 12) (v := ?_) rfl (by kernel_rfl) (by kernel_rfl) (by kernel_rfl) (by kernel_rfl) (fun _ _ _ h => h) (Or.inl ⟨by kernel_rfl, ?_⟩) HL14.out ?_
  rotate_left
  · ((intro x hx; clear hx; go_simp) <;> with_reducible rfl)
  try simp only [Act.put, List.setIfInBounds_toArray, List.set_cons_zero, List.set_cons_succ]
  refine gk_take (i := 13) (v := ?_) rfl (by kernel_rfl) (by kernel_rfl) (by kernel_rfl) (by kernel_rfl) (fun _ _ _ h => h) (Or.inl ⟨by kernel_rfl, ?_⟩) HL14.out ?_
  rotate_left
  · ((intro x hx; clear hx; go_simp) <;> with_reducible rfl)
  try simp only [Act.put, List.setIfInBounds_toArray, List.set_cons_zero, List.set_cons_succ]
  refine gk_take (i := 14) (v := ?_) rfl (by kernel_rfl) (by kernel_rfl) (by kernel_rfl) (by kernel_rfl) (fun _ _ _ h => h) (Or.inl ⟨by kernel_rfl, ?_⟩) HL14.out ?_
  rotate_left
  · ((intro x hx; clear hx; go_simp) <;> with_reducible rfl)
  try simp only [Act.put, List.setIfInBounds_toArray, List.set_cons_zero, List.set_cons_succ]
  refine gk_take (i := 15) (v := ?_) rfl (by kernel_rfl) (by kernel_rfl) (by kernel_rfl) (by kernel_rfl) (fun _ _ _ h => h) (Or.inl ⟨by kernel_rfl, ?_⟩) HL14.out ?_
  rotate_left
  · ((intro x hx; clear hx; go_simp) <;> with_reducible rfl)
  try simp only [Act.put, List.setIfInBounds_toArray, List.set_cons_zero, List.set_cons_succ]
  refine gk_take (i := 16) (v := ?_) rfl (by kernel_rfl) (by kernel_rfl) (by kernel_rfl) (by kernel_rfl) (fun _ _ _ h => h) (Or.inl ⟨by kernel_rfl, ?_⟩) HL14.out ?_
  rotate_left
  · ((intro x hx; clear hx; go_simp) <;> with_reducible rfl)
  try simp only [Act.put, List.setIfInBounds_toArray, List.set_cons_zero, List.set_cons_succ]
  refine gk_take (i := 17) (v := ?_) rfl (by kernel_rfl) (by kernel_rfl) (by kernel_rfl) (by kernel_rfl) (fun _ _ _ h => h) (Or.inl ⟨by kernel_rfl, ?_⟩) HL14.out ?_
  rotate_left
  · ((intro x hx; clear hx; go_simp) <;> with_reducible rfl)
  try simp only [Act.put, List.setIfInBounds_toArray, List.set_cons_zero, List.set_cons_succ]
  refine gk_take (i := 18) (v := ?_) rfl (by kernel_rfl) (by kernel_rfl) (by kernel_rfl) (by kernel_rfl) (fun _ _ _ h => h) (Or.inl ⟨by kernel_rfl, ?_⟩) HL14.out ?_
  rotate_left
  · ((intro x hx; clear hx; go_simp) <;> with_reducible rfl)
  try simp only [Act.put, List.setIfInBounds_toArray, List.set_cons_zero, List.set_cons_succ]
  refine gk_take (i := 19) (v := ?_) rfl (by kernel_rfl) (by kernel_rfl) (by kernel_rfl) (by kernel_rfl) (fun _ _ _ h => h) (Or.inl ⟨by kernel_rfl, ?_⟩) HL14.out ?_
  rotate_left
  · ((intro x hx; clear hx; go_simp) <;> with_reducible rfl)
  try simp only [Act.put, List.setIfInBounds_toArray, List.set_cons_zero, List.set_cons_succ]
  refine gk_take (i := 20) (v := ?_) rfl (by kernel_rfl) (by kernel_rfl) (by kernel_rfl) (by kernel_rfl) (fun _ _ _ h => h) (Or.inl ⟨by kernel_rfl, ?_⟩) HL14.out ?_
  rotate_left
  · ((intro x hx; clear hx; go_simp) <;> with_reducible rfl)
  try simp only [Act.put, List.setIfInBounds_toArray, List.set_cons_zero, List.set_cons_succ]
  refine gk_take (i := 21) (v := ?_) rfl (by kernel_rfl) (by kernel_rfl) (by kernel_rfl) (by kernel_rfl) (fun _ _ _ h => h) (Or.inl ⟨by kernel_rfl, ?_⟩) HL14.out ?_
  rotate_left
  · ((intro x hx; have hc := hx.c; obtain ⟨f0, f1, f2, f3, f4, f5, f6⟩ := hc; go_simp) <;> with_reducible rfl)
  try simp only [Act.put, List.setIfInBounds_toArray, List.set_cons_zero, List.set_cons_succ]
  refine gk_take (i := 22) (v := ?_) rfl (by kernel_rfl) (by kernel_rfl) (by kernel_rfl) (by kernel_rfl) (fun _ _ _ h => h) (Or.inl ⟨by kernel_rfl, ?_⟩) HL14.out ?_
  rotate_left
  · ((intro x hx; clear hx; go_simp) <;> with_reducible rfl)
  try simp only [Act.put, List.setIfInBounds_toArray, List.set_cons_zero, List.set_cons_succ]
  refine gk_take (i := 23) (v := ?_) rfl (by kernel_rfl) (by kernel_rfl) (by kernel_rfl) (by kernel_rfl) (fun _ _ _ h => h) (Or.inl ⟨by kernel_rfl, ?_⟩) HL14.out ?_
  rotate_left
  · ((intro x hx; clear hx; go_simp) <;> with_reducible rfl)
  try simp only [Act.put, List.setIfInBounds_toArray, List.set_cons_zero, List.set_cons_succ]
  refine gk_take (i := 24) (v := ?_) rfl (by kernel_rfl) (by kernel_rfl) (by kernel_rfl) (by kernel_rfl) (fun _ _ _ h => h) (Or.inl ⟨by kernel_rfl, ?_⟩) HL14.out ?_
  rotate_left
  · ((intro x hx; clear hx; go_simp) <;> with_reducible rfl)
  try simp only [Act.put, List.setIfInBounds_toArray, List.set_cons_zero, List.set_cons_succ]
  refine gk_take (i := 25) (v := ?_) rfl (by kernel_rfl) (by kernel_rfl) (by kernel_rfl) (by kernel_rfl) (fun _ _ _ h => h) (Or.inl ⟨by kernel_rfl, ?_⟩) HL14.out ?_
  rotate_left
  · ((intro x hx; clear hx; go_simp) <;> with_reducible rfl)
  try simp only [Act.put, List.setIfInBounds_toArray, List.set_cons_zero, List.set_cons_succ]
  refine gk_take (i := 26) (v := ?_) rfl (by kernel_rfl) (by kernel_rfl) (by kernel_rfl) (by kernel_rfl) (fun _ _ _ h => h) (Or.inl ⟨by kernel_rfl, ?_⟩) HL14.out ?_
  rotate_left
  · ((intro x hx; clear hx; go_simp) <;> with_reducible rfl)
  try simp only [Act.put, List.setIfInBounds_toArray, List.set_cons_zero, List.set_cons_succ]
  refine gk_take (i := 27) (v := ?_) rfl (by kernel_rfl) (by kernel_rfl) (by kernel_rfl) (by kernel_rfl) (fun _ _ _ h => h) (Or.inl ⟨by kernel_rfl, ?_⟩) HL14.out ?_
  rotate_left
  · ((intro x hx; clear hx; go_simp) <;> with_reducible rfl)
  try simp only [Act.put, List.setIfInBounds_toArray, List.set_cons_zero, List.set_cons_succ]
  refine gk_take (i := 28) (v := ?_) rfl (by kernel_rfl) (by kernel_rfl) (by kernel_rfl) (by kernel_rfl) (fun _ _ _ h => h) (Or.inl ⟨by kernel_rfl, ?_⟩) HL14.out ?_
  rotate_left
  · ((intro x hx; clear hx; go_simp) <;> with_reducible rfl)
  try simp only [Act.put, List.setIfInBounds_toArray, List.set_cons_zero, List.set_cons_succ]
  refine gk_take (i := 29) (v := ?_) rfl (by kernel_rfl) (by kernel_rfl) (by kernel_rfl) (by kernel_rfl) (fun _ _ _ h => h) (Or.inl ⟨by kernel_rfl, ?_⟩) HL14.out ?_
  rotate_left
  · ((intro x hx; clear hx; go_simp) <;> with_reducible rfl)
  try simp only [Act.put, List.setIfInBounds_toArray, List.set_cons_zero, List.set_cons_succ]
  refine gk_take (i := 30) (v := ?_) rfl (by kernel_rfl) (by kernel_rfl) (by kernel_rfl) (by kernel_rfl) (fun _ _ _ h => h) (Or.inl ⟨by kernel_rfl, ?_⟩) HL14.out ?_
  rotate_left
  · ((intro x hx; clear hx; go_simp) <;> with_reducible rfl)
  try simp only [Act.put, List.setIfInBounds_toArray, List.set_cons_zero, List.set_cons_succ]
  refine gk_take (i := 31) (v := ?_) rfl (by kernel_rfl) (by kernel_rfl) (by kernel_rfl) (by kernel_rfl) (fun _ _ _ h => h) (Or.inl ⟨by kernel_rfl, ?_⟩) HL14.out ?_
  rotate_left
  · ((intro x hx; clear hx; go_simp) <;> with_reducible rfl)
  try simp only [Act.put, List.setIfInBounds_toArray, List.set_cons_zero, List.set_cons_succ]
  refine gk_take (i := 32) (v := ?_) rfl (by kernel_rfl) (by kernel_rfl) (by kernel_rfl) (by kernel_rfl) (fun _ _ _ h => h) (Or.inl ⟨by kernel_rfl, ?_⟩) HL14.out ?_
  rotate_left
  · ((intro x hx; clear hx; go_simp) <;> with_reducible rfl)
  try simp only [Act.put, List.setIfInBounds_toArray, List.set_cons_zero, List.set_cons_succ]
  refine gk_take (i := 33) (v := ?_) rfl (by kernel_rfl) (by kernel_rfl) (by kernel_rfl) (by kernel_rfl) (fun _ _ _ h => h) (Or.inl ⟨by kernel_rfl, ?_⟩) HL14.out ?_
  rotate_left
  · ((intro x hx; clear hx; go_simp) <;> with_reducible rfl)
  try simp only [Act.put, List.setIfInBounds_toArray, List.set_cons_zero, List.set_cons_succ]
  refine gk_take (i := 34) (v := ?_) rfl (by kernel_rfl) (by kernel_rfl) (by kernel_rfl) (by kernel_rfl) (fun _ _ _ h => h) (Or.inl ⟨by kernel_rfl, ?_⟩) HL14.out ?_
  rotate_left
  · ((intro x hx; clear hx; go_simp) <;> with_reducible rfl)
  try simp only [Act.put, List.setIfInBounds_toArray, List.set_cons_zero, List.set_cons_succ]
  refine gk_take (i := 35) (v := ?_) rfl (by kernel_rfl) (by kernel_rfl) (by kernel_rfl) (by kernel_rfl) (fun _ _ _ h => h) (Or.inl ⟨by kernel_rfl, ?_⟩) HL14.out ?_
  rotate_left
  · ((intro x hx; clear hx; go_simp) <;> with_reducible rfl)
  try simp only [Act.put, List.setIfInBounds_toArray, List.set_cons_zero, List.set_cons_succ]
  refine gk_take (i := 36) (v := ?_) rfl (by kernel_rfl) (by kernel_rfl) (by kernel_rfl) (by kernel_rfl) (fun _ _ _ h => h) (Or.inl ⟨by kernel_rfl, ?_⟩) HL14.out ?_
  rotate_left
  · ((intro x hx; clear hx; go_simp) <;> with_reducible rfl)
  try simp only [Act.put, List.setIfInBounds_toArray, List.set_cons_zero, List.set_cons_succ]
  refine gk_take (i := 37) (v := ?_) rfl (by kernel_rfl) (by kernel_rfl) (by kernel_rfl) (by kernel_rfl) (fun _ _ _ h => h) (Or.inl ⟨by kernel_rfl, ?_⟩) HL14.out ?_
  rotate_left
  · ((intro x hx; clear hx; go_simp) <;> with_reducible rfl)
  try simp only [Act.put, List.setIfInBounds_toArray, List.set_cons_zero, List.set_cons_succ]
  refine gk_take (i := 38) (v := ?_) rfl (by kernel_rfl) (by kernel_rfl) (by kernel_rfl) (by kernel_rfl) (fun _ _ _ h => h) (Or.inl ⟨by kernel_rfl, ?_⟩) HL14.out ?_
  rotate_left
  · ((intro x hx; have hc := hx.a; obtain ⟨f0, f1, f2, f3, f4⟩ := hc; go_simp) <;> with_reducible rfl)
  try simp only [Act.put, List.setIfInBounds_toArray, List.set_cons_zero, List.set_cons_succ]
  refine gk_take (i := 39) (v := ?_) rfl (by kernel_rfl) (by kernel_rfl) (by kernel_rfl) (by kernel_rfl) (fun _ _ _ h => h) (Or.inl ⟨by kernel_rfl, ?_⟩) HL14.out ?_
  rotate_left
  · ((intro x hx; clear hx; go_simp) <;> with_reducible rfl)
  try simp only [Act.put, List.setIfInBounds_toArray, List.set_cons_zero, List.set_cons_succ]
  refine gk_take (i := 40) (v := ?_) rfl (by kernel_rfl) (by kernel_rfl) (by kernel_rfl) (by kernel_rfl) (fun _ _ _ h => h) (Or.inl ⟨by kernel_rfl, ?_⟩) HL14.out ?_
  rotate_left
  · ((intro x hx; clear hx; go_simp) <;> with_reducible rfl)
  try simp only [Act.put, List.setIfInBounds_toArray, List.set_cons_zero, List.set_cons_succ]
  refine gk_take (i := 41) (v := ?_) rfl (by kernel_rfl) (by kernel_rfl) (by kernel_rfl) (by kernel_rfl) (fun _ _ _ h => h) (Or.inl ⟨by kernel_rfl, ?_⟩) HL14.out ?_
  rotate_left
  · ((intro x hx; clear hx; go_simp) <;> with_reducible rfl)
  try simp only [Act.put, List.setIfInBounds_toArray, List.set_cons_zero, List.set_cons_succ]
  refine gk_take (i := 42) (v := ?_) rfl (by kernel_rfl) (by kernel_rfl) (by kernel_rfl) (by kernel_rfl) (fun _ _ _ h => h) (Or.inl ⟨by kernel_rfl, ?_⟩) HL14.out ?_
  rotate_left
  · ((intro x hx; have hc := hx.b; obtain ⟨f0, f1, f2, f3, f4⟩ := hc; go_simp) <;> with_reducible rfl)
  try simp only [Act.put, List.setIfInBounds_toArray, List.set_cons_zero, List.set_cons_succ]
  refine gk_one (i := 43) rfl (by kernel_rfl) (fun K hK => ?_)
  go_simp
  go_at_call 12
  refine (HCm.out _).mono ?_
  rintro e x5 ⟨rfl, hb⟩
  have HL15 := Lib.hid (HL14.out.below hb)
  have HB15 := Lib.hid (HB14.out.trans (hb.mono HB14.out.size))
  clear hb HL14 HB14
  refine hK _ _ (fun _ => HL15.out) ?_
  clear hK K
  try simp only [Act.put, List.setIfInBounds_toArray, List.set_cons_zero, List.set_cons_succ]
  refine gk_take (i := 44) (v := ?_) rfl (by kernel_rfl) (by kernel_rfl) (by kernel_rfl) (by kernel_rfl) (fun _ _ _ h => h) (Or.inl ⟨by kernel_rfl, ?_⟩) HL15.out ?_
  rotate_left
  · ((intro x hx; clear hx; go_simp) <;> with_reducible rfl)
  try simp only [Act.put, List.setIfInBounds_toArray, List.set_cons_zero, List.set_cons_succ]
  refine gk_take (i := 45) (v := ?_) rfl (by kernel_rfl) (by kernel_rfl) (by kernel_rfl) (by kernel_rfl) (fun _ _ _ h => h) (Or.inl ⟨by kernel_rfl, ?_⟩) HL15.out ?_
  rotate_left
  · ((intro x hx; clear hx; go_simp) <;> with_reducible rfl)
  try simp only [Act.put, List.setIfInBounds_toArray, List.set_cons_zero, List.set_cons_succ]
  refine gk_take (i := 46) (v := ?_) rfl (by kernel_rfl) (by kernel_rfl) (by kernel_rfl) (by kernel_rfl) (fun _ _ _ h => h) (Or.inl ⟨by kernel_rfl, ?_⟩) HL15.out ?_
  rotate_left
  · ((intro x hx; clear hx; go_simp) <;> with_reducible rfl)
  try simp only [Act.put, List.setIfInBounds_toArray, List.set_cons_zero, List.set_cons_succ]
  refine gk_done (by kernel_rfl) ?_ _
  try simp only [Act.put, List.setIfInBounds_toArray, List.set_cons_zero, List.set_cons_succ]
  clear HL15 HCe HSm HCm
  try go_simp
  all_goals
    go_wp2
    go_ret
    exact ⟨rfl, HB15.out⟩
end Go.Proofs.Ytenhnnfemehbcaa
