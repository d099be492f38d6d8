/- Keys as parameters opened; the walk of SheetOrders. Written by wip/mk_shw.py. -/
import Derived.Test.YtenhnnfemehbcaaShV
import Derived.Test.YtenhnnfemehbcaaShT
import Derived.OpenShut
namespace Go.Proofs.Ytenhnnfemehbcaa
open Go.RowKit Go.Sort
set_option linter.unusedVariables false
set_option linter.unusedSimpArgs false

open Go.ChangeShapes Go.WideShapes Go.Deep
theorem cellsKy : Try.prog.cellsOf 23 = 5 := by kernel_rfl
theorem cellsStr : Try.prog.cellsOf 9 = 1 := by kernel_rfl
set_option maxRecDepth 100000 in
theorem key_of {H : Type} {enc : TypeId × Value → H} {w : World} {base : Nat} {spare : Nat → Bool} {held : Bool} {v : Value} {r : Reach} {b0 : Nat} {d : DataW H} {p : List MemPlace}
    (hv : Value.okWide Try.prog w r b0 23 v) (h : DataW.Trod enc Try.prog w base spare held 23 v d p) :
    ∃ s1 s2 s3 s4 s5, v = .agg #[.string s1, .string s2, .string s3, .string s4, .string s5] := by
  obtain ⟨cs, rfl, hsz⟩ := okWide_struct Try.underlying23 hv
  rw [cellsKy] at hsz
  obtain ⟨fuel, hf⟩ := h
  obtain ⟨l⟩ := cs
  match l, hsz with
  | [v0, v1, v2, v3, v4], _ =>
    obtain ⟨xs, k, hk, hxy, _, hxl, hf⟩ := DataW.trod_struct Try.underlying23 hf
    match xs, hxl with
    | [y0, y1, y2, y3, y4], _ =>
      have g0 := hf 0 _ rfl
      have g1 := hf 1 _ rfl
      have g2 := hf 2 _ rfl
      have g3 := hf 3 _ rfl
      have g4 := hf 4 _ rfl
      simp [Value.cells, cellsStr] at g0 g1 g2 g3 g4
      obtain ⟨s0, e0, _, _⟩ := DataW.trod_string Try.underlying9 g0
      obtain ⟨s1, e1, _, _⟩ := DataW.trod_string Try.underlying9 g1
      obtain ⟨s2, e2, _, _⟩ := DataW.trod_string Try.underlying9 g2
      obtain ⟨s3, e3, _, _⟩ := DataW.trod_string Try.underlying9 g3
      obtain ⟨s4, e4, _, _⟩ := DataW.trod_string Try.underlying9 g4
      simp at e0 e1 e2 e3 e4
      subst e0 e1 e2 e3 e4
      exact ⟨s0, s1, s2, s3, s4, rfl⟩
/-- three keys in memory. -/
structure Ks3 (N : Nat) (a b c : Ky) (x : World) : Prop where
  a : Q5 x N (.string a.1) (.string a.2.1) (.string a.2.2.1) (.string a.2.2.2.1) (.string a.2.2.2.2)
  b : Q5 x (N + 1) (.string b.1) (.string b.2.1) (.string b.2.2.1) (.string b.2.2.2.1) (.string b.2.2.2.2)
  c : Q5 x (N + 1 + 1) (.string c.1) (.string c.2.1) (.string c.2.2.1) (.string c.2.2.2.1) (.string c.2.2.2.2)
theorem Ks3.below {N : Nat} {a b c : Ky} {x y : World} (h : Ks3 N a b c x) (hb : Below x.heap.size x y) : Ks3 N a b c y := ⟨h.a.below hb, h.b.below hb, h.c.below hb⟩
theorem Ks3.ata {N : Nat} {a1 a2 a3 a4 a5 b1 b2 b3 b4 b5 c1 c2 c3 c4 c5 : ByteArray} {x : World} (h : Ks3 N (a1, a2, a3, a4, a5) (b1, b2, b3, b4, b5) (c1, c2, c3, c4, c5) x) : x.cell? ⟨N, 0, none⟩ = some (.string a1) ∧ x.cell? ⟨N, 1, none⟩ = some (.string a2) ∧ x.cell? ⟨N, 2, none⟩ = some (.string a3) ∧ x.cell? ⟨N, 3, none⟩ = some (.string a4) ∧ x.cell? ⟨N, 4, none⟩ = some (.string a5) := ⟨h.a.c0, h.a.c1, h.a.c2, h.a.c3, h.a.c4⟩
theorem Ks3.atb {N : Nat} {a1 a2 a3 a4 a5 b1 b2 b3 b4 b5 c1 c2 c3 c4 c5 : ByteArray} {x : World} (h : Ks3 N (a1, a2, a3, a4, a5) (b1, b2, b3, b4, b5) (c1, c2, c3, c4, c5) x) : x.cell? ⟨N + 1, 0, none⟩ = some (.string b1) ∧ x.cell? ⟨N + 1, 1, none⟩ = some (.string b2) ∧ x.cell? ⟨N + 1, 2, none⟩ = some (.string b3) ∧ x.cell? ⟨N + 1, 3, none⟩ = some (.string b4) ∧ x.cell? ⟨N + 1, 4, none⟩ = some (.string b5) := ⟨h.b.c0, h.b.c1, h.b.c2, h.b.c3, h.b.c4⟩
theorem Ks3.atc {N : Nat} {a1 a2 a3 a4 a5 b1 b2 b3 b4 b5 c1 c2 c3 c4 c5 : ByteArray} {x : World} (h : Ks3 N (a1, a2, a3, a4, a5) (b1, b2, b3, b4, b5) (c1, c2, c3, c4, c5) x) : x.cell? ⟨N + 1 + 1, 0, none⟩ = some (.string c1) ∧ x.cell? ⟨N + 1 + 1, 1, none⟩ = some (.string c2) ∧ x.cell? ⟨N + 1 + 1, 2, none⟩ = some (.string c3) ∧ x.cell? ⟨N + 1 + 1, 3, none⟩ = some (.string c4) ∧ x.cell? ⟨N + 1 + 1, 4, none⟩ = some (.string c5) := ⟨h.c.c0, h.c.c1, h.c.c2, h.c.c3, h.c.c4⟩
set_option maxRecDepth 100000 in
set_option maxHeartbeats 6000000 in
theorem ord_a (a1 a2 a3 a4 a5 b1 b2 b3 b4 b5 c1 c2 c3 c4 c5 : ByteArray) (p q r : Int) (m : Bool) (w : World) (p0 : -1 ≤ p) (p1 : p ≤ 1) (hp : 0 < p)
    (h1 : ∀ W, Calls Try.prog 12 #[.agg #[.string a1, .string a2, .string a3, .string a4, .string a5], .agg #[.string b1, .string b2, .string b3, .string b4, .string b5]] W fun e w' => e = .returned (.int .i64 p) ∧ Gb W w') (h2 : ∀ W, Calls Try.prog 13 #[.agg #[.string a1, .string a2, .string a3, .string a4, .string a5], .agg #[.string b1, .string b2, .string b3, .string b4, .string b5]] W fun e w' => e = .returned (.int .i64 p) ∧ Gb W w')
    (h3 : ∀ W, Calls Try.prog 14 #[.agg #[.string a1, .string a2, .string a3, .string a4, .string a5], .agg #[.string b1, .string b2, .string b3, .string b4, .string b5]] W fun e w' => e = .returned (.bool m) ∧ Gb W w') (h4 : ∀ W, Calls Try.prog 15 #[.agg #[.string a1, .string a2, .string a3, .string a4, .string a5], .agg #[.string b1, .string b2, .string b3, .string b4, .string b5]] W fun e w' => e = .returned (.bool m) ∧ Gb W w')
    (h5 : ∀ W, Calls Try.prog 12 #[.agg #[.string b1, .string b2, .string b3, .string b4, .string b5], .agg #[.string a1, .string a2, .string a3, .string a4, .string a5]] W fun e w' => e = .returned (.int .i64 (-p)) ∧ Gb W w') (h6 : ∀ W, Calls Try.prog 12 #[.agg #[.string b1, .string b2, .string b3, .string b4, .string b5], .agg #[.string c1, .string c2, .string c3, .string c4, .string c5]] W fun e w' => e = .returned (.int .i64 q) ∧ Gb W w') (h7 : ∀ W, Calls Try.prog 12 #[.agg #[.string a1, .string a2, .string a3, .string a4, .string a5], .agg #[.string c1, .string c2, .string c3, .string c4, .string c5]] W fun e w' => e = .returned (.int .i64 r) ∧ Gb W w') :
    Calls Try.prog 3 #[.agg #[.string a1, .string a2, .string a3, .string a4, .string a5], .agg #[.string b1, .string b2, .string b3, .string b4, .string b5], .agg #[.string c1, .string c2, .string c3, .string c4, .string c5]] w fun e w' => e = .returned (.bool true) ∧ Below w.heap.size w w' := by
  have H1 := Lib.hid h1
  have H2 := Lib.hid h2
  have H3 := Lib.hid h3
  have H4 := Lib.hid h4
  have H5 := Lib.hid h5
  have H6 := Lib.hid h6
  have H7 := Lib.hid h7
  have HLi := Lib.hid lives_any
  have hw : IntKind.i64.wrap (-p) = -p := by rw [IntKind.wrap_i64]; omega
  have ka := Q5.alloc w (.string a1) (.string a2) (.string a3) (.string a4) (.string a5) 23
  have kb := Q5.alloc (w.alloc (Obj.cells #[.string a1, .string a2, .string a3, .string a4, .string a5] 23)) (.string b1) (.string b2) (.string b3) (.string b4) (.string b5) 23
  have kc := Q5.alloc ((w.alloc (Obj.cells #[.string a1, .string a2, .string a3, .string a4, .string a5] 23)).alloc (Obj.cells #[.string b1, .string b2, .string b3, .string b4, .string b5] 23)) (.string c1) (.string c2) (.string c3) (.string c4) (.string c5) 23
  rw [World.size_alloc] at kb
  rw [World.size_alloc, World.size_alloc] at kc
  have ga : Below w.heap.size w (w.alloc (Obj.cells #[.string a1, .string a2, .string a3, .string a4, .string a5] 23)) := (Below.refl _ _).alloc (Nat.le_refl _) _
  have gb : Below (w.alloc (Obj.cells #[.string a1, .string a2, .string a3, .string a4, .string a5] 23)).heap.size (w.alloc (Obj.cells #[.string a1, .string a2, .string a3, .string a4, .string a5] 23)) ((w.alloc (Obj.cells #[.string a1, .string a2, .string a3, .string a4, .string a5] 23)).alloc (Obj.cells #[.string b1, .string b2, .string b3, .string b4, .string b5] 23)) := (Below.refl _ _).alloc (Nat.le_refl _) _
  have gc : Below ((w.alloc (Obj.cells #[.string a1, .string a2, .string a3, .string a4, .string a5] 23)).alloc (Obj.cells #[.string b1, .string b2, .string b3, .string b4, .string b5] 23)).heap.size ((w.alloc (Obj.cells #[.string a1, .string a2, .string a3, .string a4, .string a5] 23)).alloc (Obj.cells #[.string b1, .string b2, .string b3, .string b4, .string b5] 23)) (((w.alloc (Obj.cells #[.string a1, .string a2, .string a3, .string a4, .string a5] 23)).alloc (Obj.cells #[.string b1, .string b2, .string b3, .string b4, .string b5] 23)).alloc (Obj.cells #[.string c1, .string c2, .string c3, .string c4, .string c5] 23)) := (Below.refl _ _).alloc (Nat.le_refl _) _
  have gd : Below (((w.alloc (Obj.cells #[.string a1, .string a2, .string a3, .string a4, .string a5] 23)).alloc (Obj.cells #[.string b1, .string b2, .string b3, .string b4, .string b5] 23)).alloc (Obj.cells #[.string c1, .string c2, .string c3, .string c4, .string c5] 23)).heap.size (((w.alloc (Obj.cells #[.string a1, .string a2, .string a3, .string a4, .string a5] 23)).alloc (Obj.cells #[.string b1, .string b2, .string b3, .string b4, .string b5] 23)).alloc (Obj.cells #[.string c1, .string c2, .string c3, .string c4, .string c5] 23)) ((((w.alloc (Obj.cells #[.string a1, .string a2, .string a3, .string a4, .string a5] 23)).alloc (Obj.cells #[.string b1, .string b2, .string b3, .string b4, .string b5] 23)).alloc (Obj.cells #[.string c1, .string c2, .string c3, .string c4, .string c5] 23)).drewN 1) := below_drewN (Below.refl _ _) 1
  have HL0 := Lib.hid (show Ks3 w.heap.size (a1, a2, a3, a4, a5) (b1, b2, b3, b4, b5) (c1, c2, c3, c4, c5) ((((w.alloc (Obj.cells #[.string a1, .string a2, .string a3, .string a4, .string a5] 23)).alloc (Obj.cells #[.string b1, .string b2, .string b3, .string b4, .string b5] 23)).alloc (Obj.cells #[.string c1, .string c2, .string c3, .string c4, .string c5] 23)).drewN 1) from Ks3.below ⟨(ka.below gb).below gc, kb.below gc, kc⟩ gd)
  have HB0 := Lib.hid (show Below w.heap.size w ((((w.alloc (Obj.cells #[.string a1, .string a2, .string a3, .string a4, .string a5] 23)).alloc (Obj.cells #[.string b1, .string b2, .string b3, .string b4, .string b5] 23)).alloc (Obj.cells #[.string c1, .string c2, .string c3, .string c4, .string c5] 23)).drewN 1) from (((ga.trans (gb.mono ga.size)).trans (gc.mono (ga.trans (gb.mono ga.size)).size)).trans (gd.mono ((ga.trans (gb.mono ga.size)).trans (gc.mono (ga.trans (gb.mono ga.size)).size)).size)))
  clear h1 h2 h3 h4 h5 h6 h7 ka kb kc ga gb gc gd
  go_enter Try.func3, Try.ntmps3
  go_wp2_with fail
  refine gk_region (fun x => Ks3 w.heap.size (a1, a2, a3, a4, a5) (b1, b2, b3, b4, b5) (c1, c2, c3, c4, c5) x) (fun _ => false) (by kernel_rfl) ?_
  change Hid (Ks3 w.heap.size (a1, a2, a3, a4, a5) (b1, b2, b3, b4, b5) (c1, c2, c3, c4, c5) (((w.alloc (Obj.cells #[.string a1, .string a2, .string a3, .string a4, .string a5] 23)).alloc (Obj.cells #[.string b1, .string b2, .string b3, .string b4, .string b5] 23)).alloc (Obj.cells #[.string c1, .string c2, .string c3, .string c4, .string c5] 23)).drew) at HL0
  change Hid (Below w.heap.size w (((w.alloc (Obj.cells #[.string a1, .string a2, .string a3, .string a4, .string a5] 23)).alloc (Obj.cells #[.string b1, .string b2, .string b3, .string b4, .string b5] 23)).alloc (Obj.cells #[.string c1, .string c2, .string c3, .string c4, .string c5] 23)).drew) at HB0
  generalize (((w.alloc (Obj.cells #[.string a1, .string a2, .string a3, .string a4, .string a5] 23)).alloc (Obj.cells #[.string b1, .string b2, .string b3, .string b4, .string b5] 23)).alloc (Obj.cells #[.string c1, .string c2, .string c3, .string c4, .string c5] 23)).drew = x0 at *
  -- take 0
  refine gk_take (i := 0) (v := ?_) rfl (by kernel_rfl) (by kernel_rfl) (by kernel_rfl) (by kernel_rfl) (fun _ _ _ h => h) (Or.inl ⟨by kernel_rfl, ?_⟩) HL0.out ?_
  rotate_left
  · ((intro x hx; obtain ⟨f0, f1, f2, f3, f4⟩ := hx.ata; go_simp) <;> with_reducible rfl)
  try simp only [Act.put, List.setIfInBounds_toArray, List.set_cons_zero, List.set_cons_succ]
  -- take 1
  refine gk_take (i := 1) (v := ?_) rfl (by kernel_rfl) (by kernel_rfl) (by kernel_rfl) (by kernel_rfl) (fun _ _ _ h => h) (Or.inl ⟨by kernel_rfl, ?_⟩) HL0.out ?_
  rotate_left
  · ((intro x hx; obtain ⟨f0, f1, f2, f3, f4⟩ := hx.atb; go_simp) <;> with_reducible rfl)
  try simp only [Act.put, List.setIfInBounds_toArray, List.set_cons_zero, List.set_cons_succ]
  -- take 3
  refine gk_take (i := 3) (v := ?_) rfl (by kernel_rfl) (by kernel_rfl) (by kernel_rfl) (by kernel_rfl) (fun _ _ _ h => h) (Or.inl ⟨by kernel_rfl, ?_⟩) HL0.out ?_
  rotate_left
  · ((intro x hx; obtain ⟨f0, f1, f2, f3, f4⟩ := hx.ata; go_simp) <;> with_reducible rfl)
  try simp only [Act.put, List.setIfInBounds_toArray, List.set_cons_zero, List.set_cons_succ]
  -- take 4
  refine gk_take (i := 4) (v := ?_) rfl (by kernel_rfl) (by kernel_rfl) (by kernel_rfl) (by kernel_rfl) (fun _ _ _ h => h) (Or.inl ⟨by kernel_rfl, ?_⟩) HL0.out ?_
  rotate_left
  · ((intro x hx; obtain ⟨f0, f1, f2, f3, f4⟩ := hx.atb; go_simp) <;> with_reducible rfl)
  try simp only [Act.put, List.setIfInBounds_toArray, List.set_cons_zero, List.set_cons_succ]
  refine gk_one (i := 2) rfl (by kernel_rfl) (fun K hK => ?_)
  go_simp
  go_at_call 12
  refine (H1.out _).mono ?_
  rintro e y1 ⟨rfl, hg⟩
  have HL1 := Lib.hid (HL0.out.below hg.b)
  have HB1 := Lib.hid (HB0.out.trans (hg.b.mono HB0.out.size))
  clear hg HL0 HB0
  refine hK _ _ (fun _ => HL1.out) ?_
  clear hK K
  try simp only [Act.put, List.setIfInBounds_toArray, List.set_cons_zero, List.set_cons_succ]
  refine gk_one (i := 5) rfl (by kernel_rfl) (fun K hK => ?_)
  go_simp
  go_at_call 13
  refine (H2.out _).mono ?_
  rintro e y2 ⟨rfl, hg⟩
  have HL2 := Lib.hid (HL1.out.below hg.b)
  have HB2 := Lib.hid (HB1.out.trans (hg.b.mono HB1.out.size))
  clear hg HL1 HB1
  refine hK _ _ (fun _ => HL2.out) ?_
  clear hK K
  try simp only [Act.put, List.setIfInBounds_toArray, List.set_cons_zero, List.set_cons_succ]
  -- take 6
  refine gk_take (i := 6) (v := ?_) rfl (by kernel_rfl) (by kernel_rfl) (by kernel_rfl) (by kernel_rfl) (fun _ _ _ h => h) (Or.inl ⟨by kernel_rfl, ?_⟩) HL2.out ?_
  rotate_left
  · ((intro x hx; clear hx; go_simp) <;> with_reducible rfl)
  try simp only [Act.put, List.setIfInBounds_toArray, List.set_cons_zero, List.set_cons_succ]
  -- take 7
  refine gk_take (i := 7) (v := ?_) rfl (by kernel_rfl) (by kernel_rfl) (by kernel_rfl) (by kernel_rfl) (fun _ _ _ h => h) (Or.inl ⟨by kernel_rfl, ?_⟩) HL2.out ?_
  rotate_left
  · ((intro x hx; clear hx; go_simp) <;> with_reducible rfl)
  try simp only [Act.put, List.setIfInBounds_toArray, List.set_cons_zero, List.set_cons_succ]
  -- take 8
  refine gk_take (i := 8) (v := ?_) rfl (by kernel_rfl) (by kernel_rfl) (by kernel_rfl) (by kernel_rfl) (fun _ _ _ h => h) (Or.inl ⟨by kernel_rfl, ?_⟩) HL2.out ?_
  rotate_left
  · ((intro x hx; obtain ⟨f0, f1, f2, f3, f4⟩ := hx.ata; go_simp) <;> with_reducible rfl)
  try simp only [Act.put, List.setIfInBounds_toArray, List.set_cons_zero, List.set_cons_succ]
  -- take 9
  refine gk_take (i := 9) (v := ?_) rfl (by kernel_rfl) (by kernel_rfl) (by kernel_rfl) (by kernel_rfl) (fun _ _ _ h => h) (Or.inl ⟨by kernel_rfl, ?_⟩) HL2.out ?_
  rotate_left
  · ((intro x hx; obtain ⟨f0, f1, f2, f3, f4⟩ := hx.atb; go_simp) <;> with_reducible rfl)
  try simp only [Act.put, List.setIfInBounds_toArray, List.set_cons_zero, List.set_cons_succ]
  -- take 11
  refine gk_take (i := 11) (v := ?_) rfl (by kernel_rfl) (by kernel_rfl) (by kernel_rfl) (by kernel_rfl) (fun _ _ _ h => h) (Or.inl ⟨by kernel_rfl, ?_⟩) HL2.out ?_
  rotate_left
  · ((intro x hx; obtain ⟨f0, f1, f2, f3, f4⟩ := hx.ata; go_simp) <;> with_reducible rfl)
  try simp only [Act.put, List.setIfInBounds_toArray, List.set_cons_zero, List.set_cons_succ]
  -- take 12
  refine gk_take (i := 12) (v := ?_) rfl (by kernel_rfl) (by kernel_rfl) (by kernel_rfl) (by kernel_rfl) (fun _ _ _ h => h) (Or.inl ⟨by kernel_rfl, ?_⟩) HL2.out ?_
  rotate_left
  · ((intro x hx; obtain ⟨f0, f1, f2, f3, f4⟩ := hx.atb; go_simp) <;> with_reducible rfl)
  try simp only [Act.put, List.setIfInBounds_toArray, List.set_cons_zero, List.set_cons_succ]
  refine gk_one (i := 10) rfl (by kernel_rfl) (fun K hK => ?_)
  go_simp
  go_at_call 14
  refine (H3.out _).mono ?_
  rintro e y3 ⟨rfl, hg⟩
  have HL3 := Lib.hid (HL2.out.below hg.b)
  have HB3 := Lib.hid (HB2.out.trans (hg.b.mono HB2.out.size))
  clear hg HL2 HB2
  refine hK _ _ (fun _ => HL3.out) ?_
  clear hK K
  try simp only [Act.put, List.setIfInBounds_toArray, List.set_cons_zero, List.set_cons_succ]
  refine gk_one (i := 13) rfl (by kernel_rfl) (fun K hK => ?_)
  go_simp
  go_at_call 15
  refine (H4.out _).mono ?_
  rintro e y4 ⟨rfl, hg⟩
  have HL4 := Lib.hid (HL3.out.below hg.b)
  have HB4 := Lib.hid (HB3.out.trans (hg.b.mono HB3.out.size))
  clear hg HL3 HB3
  refine hK _ _ (fun _ => HL4.out) ?_
  clear hK K
  try simp only [Act.put, List.setIfInBounds_toArray, List.set_cons_zero, List.set_cons_succ]
  -- take 14
  refine gk_take (i := 14) (v := ?_) rfl (by kernel_rfl) (by kernel_rfl) (by kernel_rfl) (by kernel_rfl) (fun _ _ _ h => h) (Or.inl ⟨by kernel_rfl, ?_⟩) HL4.out ?_
  rotate_left
  · ((intro x hx; clear hx; go_simp) <;> with_reducible rfl)
  try simp only [Act.put, List.setIfInBounds_toArray, List.set_cons_zero, List.set_cons_succ]
  -- take 15
  refine gk_take (i := 15) (v := ?_) rfl (by kernel_rfl) (by kernel_rfl) (by kernel_rfl) (by kernel_rfl) (fun _ _ _ h => h) (Or.inl ⟨by kernel_rfl, ?_⟩) HL4.out ?_
  rotate_left
  · ((intro x hx; clear hx; go_simp) <;> with_reducible rfl)
  try simp only [Act.put, List.setIfInBounds_toArray, List.set_cons_zero, List.set_cons_succ]
  -- take 16
  refine gk_take (i := 16) (v := ?_) rfl (by kernel_rfl) (by kernel_rfl) (by kernel_rfl) (by kernel_rfl) (fun _ _ _ h => h) (Or.inl ⟨by kernel_rfl, ?_⟩) HL4.out ?_
  rotate_left
  · ((intro x hx; clear hx; go_simp) <;> with_reducible rfl)
  try simp only [Act.put, List.setIfInBounds_toArray, List.set_cons_zero, List.set_cons_succ]
  refine gk_one (i := 17) rfl (by kernel_rfl) (fun K hK => ?_)
  go_simp
  go_at_call 16
  refine (HLi.out _).mono ?_
  rintro e z0 ⟨rfl, hb⟩
  have HL0 := Lib.hid (HL4.out.below hb)
  have HB0 := Lib.hid (HB4.out.trans (hb.mono HB4.out.size))
  clear hb HL4 HB4
  refine hK _ _ (fun _ => HL0.out) ?_
  clear hK K
  try simp only [Act.put, List.setIfInBounds_toArray, List.set_cons_zero, List.set_cons_succ]
  -- take 18
  refine gk_take (i := 18) (v := ?_) rfl (by kernel_rfl) (by kernel_rfl) (by kernel_rfl) (by kernel_rfl) (fun _ _ _ h => h) (Or.inl ⟨by kernel_rfl, ?_⟩) HL0.out ?_
  rotate_left
  · ((intro x hx; clear hx; go_simp) <;> with_reducible rfl)
  try simp only [Act.put, List.setIfInBounds_toArray, List.set_cons_zero, List.set_cons_succ]
  -- take 19
  refine gk_take (i := 19) (v := ?_) rfl (by kernel_rfl) (by kernel_rfl) (by kernel_rfl) (by kernel_rfl) (fun _ _ _ h => h) (Or.inl ⟨by kernel_rfl, ?_⟩) HL0.out ?_
  rotate_left
  · ((intro x hx; clear hx; go_simp) <;> with_reducible rfl)
  try simp only [Act.put, List.setIfInBounds_toArray, List.set_cons_zero, List.set_cons_succ]
  refine gk_done (by kernel_rfl) ?_ _
  try simp only [Act.put, List.setIfInBounds_toArray, List.set_cons_zero, List.set_cons_succ]
  try go_simp
  go_wp2_with fail
  have hz : Below z0.heap.size z0 (z0.drewN 1) := below_drewN (Below.refl _ _) 1
  have HLz := Lib.hid (HL0.out.below hz)
  have HBz := Lib.hid (HB0.out.trans (hz.mono HB0.out.size))
  clear hz HL0 HB0
  refine gk_region (fun x => Ks3 w.heap.size (a1, a2, a3, a4, a5) (b1, b2, b3, b4, b5) (c1, c2, c3, c4, c5) x) (fun _ => false) (by kernel_rfl) ?_
  change Hid (Ks3 w.heap.size (a1, a2, a3, a4, a5) (b1, b2, b3, b4, b5) (c1, c2, c3, c4, c5) z0.drew) at HLz
  change Hid (Below w.heap.size w z0.drew) at HBz
  generalize z0.drew = u0 at *
  -- take 0
  refine gk_take (i := 0) (v := ?_) rfl (by kernel_rfl) (by kernel_rfl) (by kernel_rfl) (by kernel_rfl) (fun _ _ _ h => h) (Or.inl ⟨by kernel_rfl, ?_⟩) HLz.out ?_
  rotate_left
  · ((intro x hx; obtain ⟨f0, f1, f2, f3, f4⟩ := hx.atb; go_simp) <;> with_reducible rfl)
  try simp only [Act.put, List.setIfInBounds_toArray, List.set_cons_zero, List.set_cons_succ]
  -- take 1
  refine gk_take (i := 1) (v := ?_) rfl (by kernel_rfl) (by kernel_rfl) (by kernel_rfl) (by kernel_rfl) (fun _ _ _ h => h) (Or.inl ⟨by kernel_rfl, ?_⟩) HLz.out ?_
  rotate_left
  · ((intro x hx; obtain ⟨f0, f1, f2, f3, f4⟩ := hx.ata; go_simp) <;> with_reducible rfl)
  try simp only [Act.put, List.setIfInBounds_toArray, List.set_cons_zero, List.set_cons_succ]
  -- take 3
  refine gk_take (i := 3) (v := ?_) rfl (by kernel_rfl) (by kernel_rfl) (by kernel_rfl) (by kernel_rfl) (fun _ _ _ h => h) (Or.inl ⟨by kernel_rfl, ?_⟩) HLz.out ?_
  rotate_left
  · ((intro x hx; obtain ⟨f0, f1, f2, f3, f4⟩ := hx.ata; go_simp) <;> with_reducible rfl)
  try simp only [Act.put, List.setIfInBounds_toArray, List.set_cons_zero, List.set_cons_succ]
  -- take 4
  refine gk_take (i := 4) (v := ?_) rfl (by kernel_rfl) (by kernel_rfl) (by kernel_rfl) (by kernel_rfl) (fun _ _ _ h => h) (Or.inl ⟨by kernel_rfl, ?_⟩) HLz.out ?_
  rotate_left
  · ((intro x hx; obtain ⟨f0, f1, f2, f3, f4⟩ := hx.atb; go_simp) <;> with_reducible rfl)
  try simp only [Act.put, List.setIfInBounds_toArray, List.set_cons_zero, List.set_cons_succ]
  refine gk_one (i := 2) rfl (by kernel_rfl) (fun K hK => ?_)
  go_simp
  go_at_call 12
  refine (H5.out _).mono ?_
  rintro e y5 ⟨rfl, hg⟩
  have HL5 := Lib.hid (HLz.out.below hg.b)
  have HB5 := Lib.hid (HBz.out.trans (hg.b.mono HBz.out.size))
  clear hg HLz HBz
  refine hK _ _ (fun _ => HL5.out) ?_
  clear hK K
  try simp only [Act.put, List.setIfInBounds_toArray, List.set_cons_zero, List.set_cons_succ]
  refine gk_one (i := 5) rfl (by kernel_rfl) (fun K hK => ?_)
  go_simp
  go_at_call 12
  refine (H1.out _).mono ?_
  rintro e y6 ⟨rfl, hg⟩
  have HL6 := Lib.hid (HL5.out.below hg.b)
  have HB6 := Lib.hid (HB5.out.trans (hg.b.mono HB5.out.size))
  clear hg HL5 HB5
  refine hK _ _ (fun _ => HL6.out) ?_
  clear hK K
  try simp only [Act.put, List.setIfInBounds_toArray, List.set_cons_zero, List.set_cons_succ]
  -- take 6
  refine gk_take (i := 6) (v := .int .i64 (-p)) rfl (by kernel_rfl) (by kernel_rfl) (by kernel_rfl) (by kernel_rfl) (fun _ _ _ h => h) (Or.inl ⟨by kernel_rfl, ?_⟩) HL6.out ?_
  · intro x hx; clear hx; go_simp; try simp [hw, hp]
  try simp only [Act.put, List.setIfInBounds_toArray, List.set_cons_zero, List.set_cons_succ]
  -- take 7
  refine gk_take (i := 7) (v := .bool true) rfl (by kernel_rfl) (by kernel_rfl) (by kernel_rfl) (by kernel_rfl) (fun _ _ _ h => h) (Or.inl ⟨by kernel_rfl, ?_⟩) HL6.out ?_
  · intro x hx; clear hx; go_simp; try simp [hw, hp]
  try simp only [Act.put, List.setIfInBounds_toArray, List.set_cons_zero, List.set_cons_succ]
  -- take 8
  refine gk_take (i := 8) (v := .bool true) rfl (by kernel_rfl) (by kernel_rfl) (by kernel_rfl) (by kernel_rfl) (fun _ _ _ h => h) (Or.inl ⟨by kernel_rfl, ?_⟩) HL6.out ?_
  · intro x hx; clear hx; go_simp; try simp [hw, hp]
  try simp only [Act.put, List.setIfInBounds_toArray, List.set_cons_zero, List.set_cons_succ]
  -- take 9
  refine gk_take (i := 9) (v := ?_) rfl (by kernel_rfl) (by kernel_rfl) (by kernel_rfl) (by kernel_rfl) (fun _ _ _ h => h) (Or.inl ⟨by kernel_rfl, ?_⟩) HL6.out ?_
  rotate_left
  · ((intro x hx; obtain ⟨f0, f1, f2, f3, f4⟩ := hx.ata; go_simp) <;> with_reducible rfl)
  try simp only [Act.put, List.setIfInBounds_toArray, List.set_cons_zero, List.set_cons_succ]
  -- take 10
  refine gk_take (i := 10) (v := ?_) rfl (by kernel_rfl) (by kernel_rfl) (by kernel_rfl) (by kernel_rfl) (fun _ _ _ h => h) (Or.inl ⟨by kernel_rfl, ?_⟩) HL6.out ?_
  rotate_left
  · ((intro x hx; obtain ⟨f0, f1, f2, f3, f4⟩ := hx.atb; go_simp) <;> with_reducible rfl)
  try simp only [Act.put, List.setIfInBounds_toArray, List.set_cons_zero, List.set_cons_succ]
  refine gk_one (i := 11) rfl (by kernel_rfl) (fun K hK => ?_)
  go_simp
  go_at_call 12
  refine (H1.out _).mono ?_
  rintro e y7 ⟨rfl, hg⟩
  have HL7 := Lib.hid (HL6.out.below hg.b)
  have HB7 := Lib.hid (HB6.out.trans (hg.b.mono HB6.out.size))
  clear hg HL6 HB6
  refine hK _ _ (fun _ => HL7.out) ?_
  clear hK K
  try simp only [Act.put, List.setIfInBounds_toArray, List.set_cons_zero, List.set_cons_succ]
  -- take 12
  refine gk_take (i := 12) (v := .bool true) rfl (by kernel_rfl) (by kernel_rfl) (by kernel_rfl) (by kernel_rfl) (fun _ _ _ h => h) (Or.inl ⟨by kernel_rfl, ?_⟩) HL7.out ?_
  · intro x hx; clear hx; go_simp; try simp [hw, hp]
  try simp only [Act.put, List.setIfInBounds_toArray, List.set_cons_zero, List.set_cons_succ]
  -- take 13
  refine gk_take (i := 13) (v := .bool true) rfl (by kernel_rfl) (by kernel_rfl) (by kernel_rfl) (by kernel_rfl) (fun _ _ _ h => h) (Or.inl ⟨by kernel_rfl, ?_⟩) HL7.out ?_
  · intro x hx; clear hx; go_simp; try simp [hw, hp]
  try simp only [Act.put, List.setIfInBounds_toArray, List.set_cons_zero, List.set_cons_succ]
  -- skip 14
  refine gk_take (i := 14) (v := undef) rfl (by kernel_rfl) (by kernel_rfl) (by kernel_rfl) (by kernel_rfl) (fun _ _ _ h => h) (Or.inr ⟨by kernel_rfl, rfl⟩) HL7.out ?_
  try simp only [Act.put, List.setIfInBounds_toArray, List.set_cons_zero, List.set_cons_succ]
  -- skip 15
  refine gk_take (i := 15) (v := undef) rfl (by kernel_rfl) (by kernel_rfl) (by kernel_rfl) (by kernel_rfl) (fun _ _ _ h => h) (Or.inr ⟨by kernel_rfl, rfl⟩) HL7.out ?_
  try simp only [Act.put, List.setIfInBounds_toArray, List.set_cons_zero, List.set_cons_succ]
  refine gk_one (i := 16) rfl (by kernel_rfl) (fun K hK => ?_)
  go_simp
  refine hK _ _ (fun _ => HL7.out) ?_
  clear hK K
  try simp only [Act.put, List.setIfInBounds_toArray, List.set_cons_zero, List.set_cons_succ]
  -- skip 17
  refine gk_take (i := 17) (v := undef) rfl (by kernel_rfl) (by kernel_rfl) (by kernel_rfl) (by kernel_rfl) (fun _ _ _ h => h) (Or.inr ⟨by kernel_rfl, rfl⟩) HL7.out ?_
  try simp only [Act.put, List.setIfInBounds_toArray, List.set_cons_zero, List.set_cons_succ]
  -- take 18
  refine gk_take (i := 18) (v := .bool true) rfl (by kernel_rfl) (by kernel_rfl) (by kernel_rfl) (by kernel_rfl) (fun _ _ _ h => h) (Or.inl ⟨by kernel_rfl, ?_⟩) HL7.out ?_
  · intro x hx; clear hx; go_simp; try simp [hw, hp]
  try simp only [Act.put, List.setIfInBounds_toArray, List.set_cons_zero, List.set_cons_succ]
  -- take 19
  refine gk_take (i := 19) (v := .bool true) rfl (by kernel_rfl) (by kernel_rfl) (by kernel_rfl) (by kernel_rfl) (fun _ _ _ h => h) (Or.inl ⟨by kernel_rfl, ?_⟩) HL7.out ?_
  · intro x hx; clear hx; go_simp; try simp [hw, hp]
  try simp only [Act.put, List.setIfInBounds_toArray, List.set_cons_zero, List.set_cons_succ]
  -- skip 20
  refine gk_take (i := 20) (v := undef) rfl (by kernel_rfl) (by kernel_rfl) (by kernel_rfl) (by kernel_rfl) (fun _ _ _ h => h) (Or.inr ⟨by kernel_rfl, rfl⟩) HL7.out ?_
  try simp only [Act.put, List.setIfInBounds_toArray, List.set_cons_zero, List.set_cons_succ]
  -- skip 21
  refine gk_take (i := 21) (v := undef) rfl (by kernel_rfl) (by kernel_rfl) (by kernel_rfl) (by kernel_rfl) (fun _ _ _ h => h) (Or.inr ⟨by kernel_rfl, rfl⟩) HL7.out ?_
  try simp only [Act.put, List.setIfInBounds_toArray, List.set_cons_zero, List.set_cons_succ]
  refine gk_one (i := 22) rfl (by kernel_rfl) (fun K hK => ?_)
  go_simp
  refine hK _ _ (fun _ => HL7.out) ?_
  clear hK K
  try simp only [Act.put, List.setIfInBounds_toArray, List.set_cons_zero, List.set_cons_succ]
  -- skip 23
  refine gk_take (i := 23) (v := undef) rfl (by kernel_rfl) (by kernel_rfl) (by kernel_rfl) (by kernel_rfl) (fun _ _ _ h => h) (Or.inr ⟨by kernel_rfl, rfl⟩) HL7.out ?_
  try simp only [Act.put, List.setIfInBounds_toArray, List.set_cons_zero, List.set_cons_succ]
  -- take 24
  refine gk_take (i := 24) (v := .bool true) rfl (by kernel_rfl) (by kernel_rfl) (by kernel_rfl) (by kernel_rfl) (fun _ _ _ h => h) (Or.inl ⟨by kernel_rfl, ?_⟩) HL7.out ?_
  · intro x hx; clear hx; go_simp; try simp [hw, hp]
  try simp only [Act.put, List.setIfInBounds_toArray, List.set_cons_zero, List.set_cons_succ]
  -- take 25
  refine gk_take (i := 25) (v := .bool true) rfl (by kernel_rfl) (by kernel_rfl) (by kernel_rfl) (by kernel_rfl) (fun _ _ _ h => h) (Or.inl ⟨by kernel_rfl, ?_⟩) HL7.out ?_
  · intro x hx; clear hx; go_simp; try simp [hw, hp]
  try simp only [Act.put, List.setIfInBounds_toArray, List.set_cons_zero, List.set_cons_succ]
  -- take 26
  refine gk_take (i := 26) (v := .bool true) rfl (by kernel_rfl) (by kernel_rfl) (by kernel_rfl) (by kernel_rfl) (fun _ _ _ h => h) (Or.inl ⟨by kernel_rfl, ?_⟩) HL7.out ?_
  · intro x hx; clear hx; go_simp; try simp [hw, hp]
  try simp only [Act.put, List.setIfInBounds_toArray, List.set_cons_zero, List.set_cons_succ]
  refine gk_done (by kernel_rfl) ?_ _
  try simp only [Act.put, List.setIfInBounds_toArray, List.set_cons_zero, List.set_cons_succ]
  clear HL7 H1 H2 H3 H4 H5 H6 H7 HLi
  try go_simp
  all_goals
    go_wp2
    go_ret
    exact ⟨rfl, HB7.out⟩
set_option maxRecDepth 100000 in
set_option maxHeartbeats 6000000 in
theorem ord_b (a1 a2 a3 a4 a5 b1 b2 b3 b4 b5 c1 c2 c3 c4 c5 : ByteArray) (p q r : Int) (m : Bool) (w : World) (p0 : -1 ≤ p) (p1 : p ≤ 1) (hp : ¬ 0 < p) (hq : 0 < q)
    (h1 : ∀ W, Calls Try.prog 12 #[.agg #[.string a1, .string a2, .string a3, .string a4, .string a5], .agg #[.string b1, .string b2, .string b3, .string b4, .string b5]] W fun e w' => e = .returned (.int .i64 p) ∧ Gb W w') (h2 : ∀ W, Calls Try.prog 13 #[.agg #[.string a1, .string a2, .string a3, .string a4, .string a5], .agg #[.string b1, .string b2, .string b3, .string b4, .string b5]] W fun e w' => e = .returned (.int .i64 p) ∧ Gb W w')
    (h3 : ∀ W, Calls Try.prog 14 #[.agg #[.string a1, .string a2, .string a3, .string a4, .string a5], .agg #[.string b1, .string b2, .string b3, .string b4, .string b5]] W fun e w' => e = .returned (.bool m) ∧ Gb W w') (h4 : ∀ W, Calls Try.prog 15 #[.agg #[.string a1, .string a2, .string a3, .string a4, .string a5], .agg #[.string b1, .string b2, .string b3, .string b4, .string b5]] W fun e w' => e = .returned (.bool m) ∧ Gb W w')
    (h5 : ∀ W, Calls Try.prog 12 #[.agg #[.string b1, .string b2, .string b3, .string b4, .string b5], .agg #[.string a1, .string a2, .string a3, .string a4, .string a5]] W fun e w' => e = .returned (.int .i64 (-p)) ∧ Gb W w') (h6 : ∀ W, Calls Try.prog 12 #[.agg #[.string b1, .string b2, .string b3, .string b4, .string b5], .agg #[.string c1, .string c2, .string c3, .string c4, .string c5]] W fun e w' => e = .returned (.int .i64 q) ∧ Gb W w') (h7 : ∀ W, Calls Try.prog 12 #[.agg #[.string a1, .string a2, .string a3, .string a4, .string a5], .agg #[.string c1, .string c2, .string c3, .string c4, .string c5]] W fun e w' => e = .returned (.int .i64 r) ∧ Gb W w') :
    Calls Try.prog 3 #[.agg #[.string a1, .string a2, .string a3, .string a4, .string a5], .agg #[.string b1, .string b2, .string b3, .string b4, .string b5], .agg #[.string c1, .string c2, .string c3, .string c4, .string c5]] w fun e w' => e = .returned (.bool true) ∧ Below w.heap.size w w' := by
  have H1 := Lib.hid h1
  have H2 := Lib.hid h2
  have H3 := Lib.hid h3
  have H4 := Lib.hid h4
  have H5 := Lib.hid h5
  have H6 := Lib.hid h6
  have H7 := Lib.hid h7
  have HLi := Lib.hid lives_any
  have hw : IntKind.i64.wrap (-p) = -p := by rw [IntKind.wrap_i64]; omega
  have ka := Q5.alloc w (.string a1) (.string a2) (.string a3) (.string a4) (.string a5) 23
  have kb := Q5.alloc (w.alloc (Obj.cells #[.string a1, .string a2, .string a3, .string a4, .string a5] 23)) (.string b1) (.string b2) (.string b3) (.string b4) (.string b5) 23
  have kc := Q5.alloc ((w.alloc (Obj.cells #[.string a1, .string a2, .string a3, .string a4, .string a5] 23)).alloc (Obj.cells #[.string b1, .string b2, .string b3, .string b4, .string b5] 23)) (.string c1) (.string c2) (.string c3) (.string c4) (.string c5) 23
  rw [World.size_alloc] at kb
  rw [World.size_alloc, World.size_alloc] at kc
  have ga : Below w.heap.size w (w.alloc (Obj.cells #[.string a1, .string a2, .string a3, .string a4, .string a5] 23)) := (Below.refl _ _).alloc (Nat.le_refl _) _
  have gb : Below (w.alloc (Obj.cells #[.string a1, .string a2, .string a3, .string a4, .string a5] 23)).heap.size (w.alloc (Obj.cells #[.string a1, .string a2, .string a3, .string a4, .string a5] 23)) ((w.alloc (Obj.cells #[.string a1, .string a2, .string a3, .string a4, .string a5] 23)).alloc (Obj.cells #[.string b1, .string b2, .string b3, .string b4, .string b5] 23)) := (Below.refl _ _).alloc (Nat.le_refl _) _
  have gc : Below ((w.alloc (Obj.cells #[.string a1, .string a2, .string a3, .string a4, .string a5] 23)).alloc (Obj.cells #[.string b1, .string b2, .string b3, .string b4, .string b5] 23)).heap.size ((w.alloc (Obj.cells #[.string a1, .string a2, .string a3, .string a4, .string a5] 23)).alloc (Obj.cells #[.string b1, .string b2, .string b3, .string b4, .string b5] 23)) (((w.alloc (Obj.cells #[.string a1, .string a2, .string a3, .string a4, .string a5] 23)).alloc (Obj.cells #[.string b1, .string b2, .string b3, .string b4, .string b5] 23)).alloc (Obj.cells #[.string c1, .string c2, .string c3, .string c4, .string c5] 23)) := (Below.refl _ _).alloc (Nat.le_refl _) _
  have gd : Below (((w.alloc (Obj.cells #[.string a1, .string a2, .string a3, .string a4, .string a5] 23)).alloc (Obj.cells #[.string b1, .string b2, .string b3, .string b4, .string b5] 23)).alloc (Obj.cells #[.string c1, .string c2, .string c3, .string c4, .string c5] 23)).heap.size (((w.alloc (Obj.cells #[.string a1, .string a2, .string a3, .string a4, .string a5] 23)).alloc (Obj.cells #[.string b1, .string b2, .string b3, .string b4, .string b5] 23)).alloc (Obj.cells #[.string c1, .string c2, .string c3, .string c4, .string c5] 23)) ((((w.alloc (Obj.cells #[.string a1, .string a2, .string a3, .string a4, .string a5] 23)).alloc (Obj.cells #[.string b1, .string b2, .string b3, .string b4, .string b5] 23)).alloc (Obj.cells #[.string c1, .string c2, .string c3, .string c4, .string c5] 23)).drewN 1) := below_drewN (Below.refl _ _) 1
  have HL0 := Lib.hid (show Ks3 w.heap.size (a1, a2, a3, a4, a5) (b1, b2, b3, b4, b5) (c1, c2, c3, c4, c5) ((((w.alloc (Obj.cells #[.string a1, .string a2, .string a3, .string a4, .string a5] 23)).alloc (Obj.cells #[.string b1, .string b2, .string b3, .string b4, .string b5] 23)).alloc (Obj.cells #[.string c1, .string c2, .string c3, .string c4, .string c5] 23)).drewN 1) from Ks3.below ⟨(ka.below gb).below gc, kb.below gc, kc⟩ gd)
  have HB0 := Lib.hid (show Below w.heap.size w ((((w.alloc (Obj.cells #[.string a1, .string a2, .string a3, .string a4, .string a5] 23)).alloc (Obj.cells #[.string b1, .string b2, .string b3, .string b4, .string b5] 23)).alloc (Obj.cells #[.string c1, .string c2, .string c3, .string c4, .string c5] 23)).drewN 1) from (((ga.trans (gb.mono ga.size)).trans (gc.mono (ga.trans (gb.mono ga.size)).size)).trans (gd.mono ((ga.trans (gb.mono ga.size)).trans (gc.mono (ga.trans (gb.mono ga.size)).size)).size)))
  clear h1 h2 h3 h4 h5 h6 h7 ka kb kc ga gb gc gd
  go_enter Try.func3, Try.ntmps3
  go_wp2_with fail
  refine gk_region (fun x => Ks3 w.heap.size (a1, a2, a3, a4, a5) (b1, b2, b3, b4, b5) (c1, c2, c3, c4, c5) x) (fun _ => false) (by kernel_rfl) ?_
  change Hid (Ks3 w.heap.size (a1, a2, a3, a4, a5) (b1, b2, b3, b4, b5) (c1, c2, c3, c4, c5) (((w.alloc (Obj.cells #[.string a1, .string a2, .string a3, .string a4, .string a5] 23)).alloc (Obj.cells #[.string b1, .string b2, .string b3, .string b4, .string b5] 23)).alloc (Obj.cells #[.string c1, .string c2, .string c3, .string c4, .string c5] 23)).drew) at HL0
  change Hid (Below w.heap.size w (((w.alloc (Obj.cells #[.string a1, .string a2, .string a3, .string a4, .string a5] 23)).alloc (Obj.cells #[.string b1, .string b2, .string b3, .string b4, .string b5] 23)).alloc (Obj.cells #[.string c1, .string c2, .string c3, .string c4, .string c5] 23)).drew) at HB0
  generalize (((w.alloc (Obj.cells #[.string a1, .string a2, .string a3, .string a4, .string a5] 23)).alloc (Obj.cells #[.string b1, .string b2, .string b3, .string b4, .string b5] 23)).alloc (Obj.cells #[.string c1, .string c2, .string c3, .string c4, .string c5] 23)).drew = x0 at *
  -- take 0
  refine gk_take (i := 0) (v := ?_) rfl (by kernel_rfl) (by kernel_rfl) (by kernel_rfl) (by kernel_rfl) (fun _ _ _ h => h) (Or.inl ⟨by kernel_rfl, ?_⟩) HL0.out ?_
  rotate_left
  · ((intro x hx; obtain ⟨f0, f1, f2, f3, f4⟩ := hx.ata; go_simp) <;> with_reducible rfl)
  try simp only [Act.put, List.setIfInBounds_toArray, List.set_cons_zero, List.set_cons_succ]
  -- take 1
  refine gk_take (i := 1) (v := ?_) rfl (by kernel_rfl) (by kernel_rfl) (by kernel_rfl) (by kernel_rfl) (fun _ _ _ h => h) (Or.inl ⟨by kernel_rfl, ?_⟩) HL0.out ?_
  rotate_left
  · ((intro x hx; obtain ⟨f0, f1, f2, f3, f4⟩ := hx.atb; go_simp) <;> with_reducible rfl)
  try simp only [Act.put, List.setIfInBounds_toArray, List.set_cons_zero, List.set_cons_succ]
  -- take 3
  refine gk_take (i := 3) (v := ?_) rfl (by kernel_rfl) (by kernel_rfl) (by kernel_rfl) (by kernel_rfl) (fun _ _ _ h => h) (Or.inl ⟨by kernel_rfl, ?_⟩) HL0.out ?_
  rotate_left
  · ((intro x hx; obtain ⟨f0, f1, f2, f3, f4⟩ := hx.ata; go_simp) <;> with_reducible rfl)
  try simp only [Act.put, List.setIfInBounds_toArray, List.set_cons_zero, List.set_cons_succ]
  -- take 4
  refine gk_take (i := 4) (v := ?_) rfl (by kernel_rfl) (by kernel_rfl) (by kernel_rfl) (by kernel_rfl) (fun _ _ _ h => h) (Or.inl ⟨by kernel_rfl, ?_⟩) HL0.out ?_
  rotate_left
  · ((intro x hx; obtain ⟨f0, f1, f2, f3, f4⟩ := hx.atb; go_simp) <;> with_reducible rfl)
  try simp only [Act.put, List.setIfInBounds_toArray, List.set_cons_zero, List.set_cons_succ]
  refine gk_one (i := 2) rfl (by kernel_rfl) (fun K hK => ?_)
  go_simp
  go_at_call 12
  refine (H1.out _).mono ?_
  rintro e y1 ⟨rfl, hg⟩
  have HL1 := Lib.hid (HL0.out.below hg.b)
  have HB1 := Lib.hid (HB0.out.trans (hg.b.mono HB0.out.size))
  clear hg HL0 HB0
  refine hK _ _ (fun _ => HL1.out) ?_
  clear hK K
  try simp only [Act.put, List.setIfInBounds_toArray, List.set_cons_zero, List.set_cons_succ]
  refine gk_one (i := 5) rfl (by kernel_rfl) (fun K hK => ?_)
  go_simp
  go_at_call 13
  refine (H2.out _).mono ?_
  rintro e y2 ⟨rfl, hg⟩
  have HL2 := Lib.hid (HL1.out.below hg.b)
  have HB2 := Lib.hid (HB1.out.trans (hg.b.mono HB1.out.size))
  clear hg HL1 HB1
  refine hK _ _ (fun _ => HL2.out) ?_
  clear hK K
  try simp only [Act.put, List.setIfInBounds_toArray, List.set_cons_zero, List.set_cons_succ]
  -- take 6
  refine gk_take (i := 6) (v := ?_) rfl (by kernel_rfl) (by kernel_rfl) (by kernel_rfl) (by kernel_rfl) (fun _ _ _ h => h) (Or.inl ⟨by kernel_rfl, ?_⟩) HL2.out ?_
  rotate_left
  · ((intro x hx; clear hx; go_simp) <;> with_reducible rfl)
  try simp only [Act.put, List.setIfInBounds_toArray, List.set_cons_zero, List.set_cons_succ]
  -- take 7
  refine gk_take (i := 7) (v := ?_) rfl (by kernel_rfl) (by kernel_rfl) (by kernel_rfl) (by kernel_rfl) (fun _ _ _ h => h) (Or.inl ⟨by kernel_rfl, ?_⟩) HL2.out ?_
  rotate_left
  · ((intro x hx; clear hx; go_simp) <;> with_reducible rfl)
  try simp only [Act.put, List.setIfInBounds_toArray, List.set_cons_zero, List.set_cons_succ]
  -- take 8
  refine gk_take (i := 8) (v := ?_) rfl (by kernel_rfl) (by kernel_rfl) (by kernel_rfl) (by kernel_rfl) (fun _ _ _ h => h) (Or.inl ⟨by kernel_rfl, ?_⟩) HL2.out ?_
  rotate_left
  · ((intro x hx; obtain ⟨f0, f1, f2, f3, f4⟩ := hx.ata; go_simp) <;> with_reducible rfl)
  try simp only [Act.put, List.setIfInBounds_toArray, List.set_cons_zero, List.set_cons_succ]
  -- take 9
  refine gk_take (i := 9) (v := ?_) rfl (by kernel_rfl) (by kernel_rfl) (by kernel_rfl) (by kernel_rfl) (fun _ _ _ h => h) (Or.inl ⟨by kernel_rfl, ?_⟩) HL2.out ?_
  rotate_left
  · ((intro x hx; obtain ⟨f0, f1, f2, f3, f4⟩ := hx.atb; go_simp) <;> with_reducible rfl)
  try simp only [Act.put, List.setIfInBounds_toArray, List.set_cons_zero, List.set_cons_succ]
  -- take 11
  refine gk_take (i := 11) (v := ?_) rfl (by kernel_rfl) (by kernel_rfl) (by kernel_rfl) (by kernel_rfl) (fun _ _ _ h => h) (Or.inl ⟨by kernel_rfl, ?_⟩) HL2.out ?_
  rotate_left
  · ((intro x hx; obtain ⟨f0, f1, f2, f3, f4⟩ := hx.ata; go_simp) <;> with_reducible rfl)
  try simp only [Act.put, List.setIfInBounds_toArray, List.set_cons_zero, List.set_cons_succ]
  -- take 12
  refine gk_take (i := 12) (v := ?_) rfl (by kernel_rfl) (by kernel_rfl) (by kernel_rfl) (by kernel_rfl) (fun _ _ _ h => h) (Or.inl ⟨by kernel_rfl, ?_⟩) HL2.out ?_
  rotate_left
  · ((intro x hx; obtain ⟨f0, f1, f2, f3, f4⟩ := hx.atb; go_simp) <;> with_reducible rfl)
  try simp only [Act.put, List.setIfInBounds_toArray, List.set_cons_zero, List.set_cons_succ]
  refine gk_one (i := 10) rfl (by kernel_rfl) (fun K hK => ?_)
  go_simp
  go_at_call 14
  refine (H3.out _).mono ?_
  rintro e y3 ⟨rfl, hg⟩
  have HL3 := Lib.hid (HL2.out.below hg.b)
  have HB3 := Lib.hid (HB2.out.trans (hg.b.mono HB2.out.size))
  clear hg HL2 HB2
  refine hK _ _ (fun _ => HL3.out) ?_
  clear hK K
  try simp only [Act.put, List.setIfInBounds_toArray, List.set_cons_zero, List.set_cons_succ]
  refine gk_one (i := 13) rfl (by kernel_rfl) (fun K hK => ?_)
  go_simp
  go_at_call 15
  refine (H4.out _).mono ?_
  rintro e y4 ⟨rfl, hg⟩
  have HL4 := Lib.hid (HL3.out.below hg.b)
  have HB4 := Lib.hid (HB3.out.trans (hg.b.mono HB3.out.size))
  clear hg HL3 HB3
  refine hK _ _ (fun _ => HL4.out) ?_
  clear hK K
  try simp only [Act.put, List.setIfInBounds_toArray, List.set_cons_zero, List.set_cons_succ]
  -- take 14
  refine gk_take (i := 14) (v := ?_) rfl (by kernel_rfl) (by kernel_rfl) (by kernel_rfl) (by kernel_rfl) (fun _ _ _ h => h) (Or.inl ⟨by kernel_rfl, ?_⟩) HL4.out ?_
  rotate_left
  · ((intro x hx; clear hx; go_simp) <;> with_reducible rfl)
  try simp only [Act.put, List.setIfInBounds_toArray, List.set_cons_zero, List.set_cons_succ]
  -- take 15
  refine gk_take (i := 15) (v := ?_) rfl (by kernel_rfl) (by kernel_rfl) (by kernel_rfl) (by kernel_rfl) (fun _ _ _ h => h) (Or.inl ⟨by kernel_rfl, ?_⟩) HL4.out ?_
  rotate_left
  · ((intro x hx; clear hx; go_simp) <;> with_reducible rfl)
  try simp only [Act.put, List.setIfInBounds_toArray, List.set_cons_zero, List.set_cons_succ]
  -- take 16
  refine gk_take (i := 16) (v := ?_) rfl (by kernel_rfl) (by kernel_rfl) (by kernel_rfl) (by kernel_rfl) (fun _ _ _ h => h) (Or.inl ⟨by kernel_rfl, ?_⟩) HL4.out ?_
  rotate_left
  · ((intro x hx; clear hx; go_simp) <;> with_reducible rfl)
  try simp only [Act.put, List.setIfInBounds_toArray, List.set_cons_zero, List.set_cons_succ]
  refine gk_one (i := 17) rfl (by kernel_rfl) (fun K hK => ?_)
  go_simp
  go_at_call 16
  refine (HLi.out _).mono ?_
  rintro e z0 ⟨rfl, hb⟩
  have HL0 := Lib.hid (HL4.out.below hb)
  have HB0 := Lib.hid (HB4.out.trans (hb.mono HB4.out.size))
  clear hb HL4 HB4
  refine hK _ _ (fun _ => HL0.out) ?_
  clear hK K
  try simp only [Act.put, List.setIfInBounds_toArray, List.set_cons_zero, List.set_cons_succ]
  -- take 18
  refine gk_take (i := 18) (v := ?_) rfl (by kernel_rfl) (by kernel_rfl) (by kernel_rfl) (by kernel_rfl) (fun _ _ _ h => h) (Or.inl ⟨by kernel_rfl, ?_⟩) HL0.out ?_
  rotate_left
  · ((intro x hx; clear hx; go_simp) <;> with_reducible rfl)
  try simp only [Act.put, List.setIfInBounds_toArray, List.set_cons_zero, List.set_cons_succ]
  -- take 19
  refine gk_take (i := 19) (v := ?_) rfl (by kernel_rfl) (by kernel_rfl) (by kernel_rfl) (by kernel_rfl) (fun _ _ _ h => h) (Or.inl ⟨by kernel_rfl, ?_⟩) HL0.out ?_
  rotate_left
  · ((intro x hx; clear hx; go_simp) <;> with_reducible rfl)
  try simp only [Act.put, List.setIfInBounds_toArray, List.set_cons_zero, List.set_cons_succ]
  refine gk_done (by kernel_rfl) ?_ _
  try simp only [Act.put, List.setIfInBounds_toArray, List.set_cons_zero, List.set_cons_succ]
  try go_simp
  go_wp2_with fail
  have hz : Below z0.heap.size z0 (z0.drewN 1) := below_drewN (Below.refl _ _) 1
  have HLz := Lib.hid (HL0.out.below hz)
  have HBz := Lib.hid (HB0.out.trans (hz.mono HB0.out.size))
  clear hz HL0 HB0
  refine gk_region (fun x => Ks3 w.heap.size (a1, a2, a3, a4, a5) (b1, b2, b3, b4, b5) (c1, c2, c3, c4, c5) x) (fun _ => false) (by kernel_rfl) ?_
  change Hid (Ks3 w.heap.size (a1, a2, a3, a4, a5) (b1, b2, b3, b4, b5) (c1, c2, c3, c4, c5) z0.drew) at HLz
  change Hid (Below w.heap.size w z0.drew) at HBz
  generalize z0.drew = u0 at *
  -- take 0
  refine gk_take (i := 0) (v := ?_) rfl (by kernel_rfl) (by kernel_rfl) (by kernel_rfl) (by kernel_rfl) (fun _ _ _ h => h) (Or.inl ⟨by kernel_rfl, ?_⟩) HLz.out ?_
  rotate_left
  · ((intro x hx; obtain ⟨f0, f1, f2, f3, f4⟩ := hx.atb; go_simp) <;> with_reducible rfl)
  try simp only [Act.put, List.setIfInBounds_toArray, List.set_cons_zero, List.set_cons_succ]
  -- take 1
  refine gk_take (i := 1) (v := ?_) rfl (by kernel_rfl) (by kernel_rfl) (by kernel_rfl) (by kernel_rfl) (fun _ _ _ h => h) (Or.inl ⟨by kernel_rfl, ?_⟩) HLz.out ?_
  rotate_left
  · ((intro x hx; obtain ⟨f0, f1, f2, f3, f4⟩ := hx.ata; go_simp) <;> with_reducible rfl)
  try simp only [Act.put, List.setIfInBounds_toArray, List.set_cons_zero, List.set_cons_succ]
  -- take 3
  refine gk_take (i := 3) (v := ?_) rfl (by kernel_rfl) (by kernel_rfl) (by kernel_rfl) (by kernel_rfl) (fun _ _ _ h => h) (Or.inl ⟨by kernel_rfl, ?_⟩) HLz.out ?_
  rotate_left
  · ((intro x hx; obtain ⟨f0, f1, f2, f3, f4⟩ := hx.ata; go_simp) <;> with_reducible rfl)
  try simp only [Act.put, List.setIfInBounds_toArray, List.set_cons_zero, List.set_cons_succ]
  -- take 4
  refine gk_take (i := 4) (v := ?_) rfl (by kernel_rfl) (by kernel_rfl) (by kernel_rfl) (by kernel_rfl) (fun _ _ _ h => h) (Or.inl ⟨by kernel_rfl, ?_⟩) HLz.out ?_
  rotate_left
  · ((intro x hx; obtain ⟨f0, f1, f2, f3, f4⟩ := hx.atb; go_simp) <;> with_reducible rfl)
  try simp only [Act.put, List.setIfInBounds_toArray, List.set_cons_zero, List.set_cons_succ]
  refine gk_one (i := 2) rfl (by kernel_rfl) (fun K hK => ?_)
  go_simp
  go_at_call 12
  refine (H5.out _).mono ?_
  rintro e y5 ⟨rfl, hg⟩
  have HL5 := Lib.hid (HLz.out.below hg.b)
  have HB5 := Lib.hid (HBz.out.trans (hg.b.mono HBz.out.size))
  clear hg HLz HBz
  refine hK _ _ (fun _ => HL5.out) ?_
  clear hK K
  try simp only [Act.put, List.setIfInBounds_toArray, List.set_cons_zero, List.set_cons_succ]
  refine gk_one (i := 5) rfl (by kernel_rfl) (fun K hK => ?_)
  go_simp
  go_at_call 12
  refine (H1.out _).mono ?_
  rintro e y6 ⟨rfl, hg⟩
  have HL6 := Lib.hid (HL5.out.below hg.b)
  have HB6 := Lib.hid (HB5.out.trans (hg.b.mono HB5.out.size))
  clear hg HL5 HB5
  refine hK _ _ (fun _ => HL6.out) ?_
  clear hK K
  try simp only [Act.put, List.setIfInBounds_toArray, List.set_cons_zero, List.set_cons_succ]
  -- take 6
  refine gk_take (i := 6) (v := .int .i64 (-p)) rfl (by kernel_rfl) (by kernel_rfl) (by kernel_rfl) (by kernel_rfl) (fun _ _ _ h => h) (Or.inl ⟨by kernel_rfl, ?_⟩) HL6.out ?_
  · intro x hx; clear hx; go_simp; try simp [hw, hp, hq]
  try simp only [Act.put, List.setIfInBounds_toArray, List.set_cons_zero, List.set_cons_succ]
  -- take 7
  refine gk_take (i := 7) (v := .bool true) rfl (by kernel_rfl) (by kernel_rfl) (by kernel_rfl) (by kernel_rfl) (fun _ _ _ h => h) (Or.inl ⟨by kernel_rfl, ?_⟩) HL6.out ?_
  · intro x hx; clear hx; go_simp; try simp [hw, hp, hq]
  try simp only [Act.put, List.setIfInBounds_toArray, List.set_cons_zero, List.set_cons_succ]
  -- take 8
  refine gk_take (i := 8) (v := .bool true) rfl (by kernel_rfl) (by kernel_rfl) (by kernel_rfl) (by kernel_rfl) (fun _ _ _ h => h) (Or.inl ⟨by kernel_rfl, ?_⟩) HL6.out ?_
  · intro x hx; clear hx; go_simp; try simp [hw, hp, hq]
  try simp only [Act.put, List.setIfInBounds_toArray, List.set_cons_zero, List.set_cons_succ]
  -- take 9
  refine gk_take (i := 9) (v := ?_) rfl (by kernel_rfl) (by kernel_rfl) (by kernel_rfl) (by kernel_rfl) (fun _ _ _ h => h) (Or.inl ⟨by kernel_rfl, ?_⟩) HL6.out ?_
  rotate_left
  · ((intro x hx; obtain ⟨f0, f1, f2, f3, f4⟩ := hx.ata; go_simp) <;> with_reducible rfl)
  try simp only [Act.put, List.setIfInBounds_toArray, List.set_cons_zero, List.set_cons_succ]
  -- take 10
  refine gk_take (i := 10) (v := ?_) rfl (by kernel_rfl) (by kernel_rfl) (by kernel_rfl) (by kernel_rfl) (fun _ _ _ h => h) (Or.inl ⟨by kernel_rfl, ?_⟩) HL6.out ?_
  rotate_left
  · ((intro x hx; obtain ⟨f0, f1, f2, f3, f4⟩ := hx.atb; go_simp) <;> with_reducible rfl)
  try simp only [Act.put, List.setIfInBounds_toArray, List.set_cons_zero, List.set_cons_succ]
  refine gk_one (i := 11) rfl (by kernel_rfl) (fun K hK => ?_)
  go_simp
  go_at_call 12
  refine (H1.out _).mono ?_
  rintro e y7 ⟨rfl, hg⟩
  have HL7 := Lib.hid (HL6.out.below hg.b)
  have HB7 := Lib.hid (HB6.out.trans (hg.b.mono HB6.out.size))
  clear hg HL6 HB6
  refine hK _ _ (fun _ => HL7.out) ?_
  clear hK K
  try simp only [Act.put, List.setIfInBounds_toArray, List.set_cons_zero, List.set_cons_succ]
  -- take 12
  refine gk_take (i := 12) (v := .bool false) rfl (by kernel_rfl) (by kernel_rfl) (by kernel_rfl) (by kernel_rfl) (fun _ _ _ h => h) (Or.inl ⟨by kernel_rfl, ?_⟩) HL7.out ?_
  · intro x hx; clear hx; go_simp; try simp [hw, hp, hq]
  try simp only [Act.put, List.setIfInBounds_toArray, List.set_cons_zero, List.set_cons_succ]
  -- take 13
  refine gk_take (i := 13) (v := .bool false) rfl (by kernel_rfl) (by kernel_rfl) (by kernel_rfl) (by kernel_rfl) (fun _ _ _ h => h) (Or.inl ⟨by kernel_rfl, ?_⟩) HL7.out ?_
  · intro x hx; clear hx; go_simp; try simp [hw, hp, hq]
  try simp only [Act.put, List.setIfInBounds_toArray, List.set_cons_zero, List.set_cons_succ]
  -- take 14
  refine gk_take (i := 14) (v := ?_) rfl (by kernel_rfl) (by kernel_rfl) (by kernel_rfl) (by kernel_rfl) (fun _ _ _ h => h) (Or.inl ⟨by kernel_rfl, ?_⟩) HL7.out ?_
  rotate_left
  · ((intro x hx; obtain ⟨f0, f1, f2, f3, f4⟩ := hx.atb; go_simp) <;> with_reducible rfl)
  try simp only [Act.put, List.setIfInBounds_toArray, List.set_cons_zero, List.set_cons_succ]
  -- take 15
  refine gk_take (i := 15) (v := ?_) rfl (by kernel_rfl) (by kernel_rfl) (by kernel_rfl) (by kernel_rfl) (fun _ _ _ h => h) (Or.inl ⟨by kernel_rfl, ?_⟩) HL7.out ?_
  rotate_left
  · ((intro x hx; obtain ⟨f0, f1, f2, f3, f4⟩ := hx.atc; go_simp) <;> with_reducible rfl)
  try simp only [Act.put, List.setIfInBounds_toArray, List.set_cons_zero, List.set_cons_succ]
  refine gk_one (i := 16) rfl (by kernel_rfl) (fun K hK => ?_)
  go_simp
  go_at_call 12
  refine (H6.out _).mono ?_
  rintro e y8 ⟨rfl, hg⟩
  have HL8 := Lib.hid (HL7.out.below hg.b)
  have HB8 := Lib.hid (HB7.out.trans (hg.b.mono HB7.out.size))
  clear hg HL7 HB7
  refine hK _ _ (fun _ => HL8.out) ?_
  clear hK K
  try simp only [Act.put, List.setIfInBounds_toArray, List.set_cons_zero, List.set_cons_succ]
  -- take 17
  refine gk_take (i := 17) (v := .bool true) rfl (by kernel_rfl) (by kernel_rfl) (by kernel_rfl) (by kernel_rfl) (fun _ _ _ h => h) (Or.inl ⟨by kernel_rfl, ?_⟩) HL8.out ?_
  · intro x hx; clear hx; go_simp; try simp [hw, hp, hq]
  try simp only [Act.put, List.setIfInBounds_toArray, List.set_cons_zero, List.set_cons_succ]
  -- take 18
  refine gk_take (i := 18) (v := .bool true) rfl (by kernel_rfl) (by kernel_rfl) (by kernel_rfl) (by kernel_rfl) (fun _ _ _ h => h) (Or.inl ⟨by kernel_rfl, ?_⟩) HL8.out ?_
  · intro x hx; clear hx; go_simp; try simp [hw, hp, hq]
  try simp only [Act.put, List.setIfInBounds_toArray, List.set_cons_zero, List.set_cons_succ]
  -- take 19
  refine gk_take (i := 19) (v := .bool true) rfl (by kernel_rfl) (by kernel_rfl) (by kernel_rfl) (by kernel_rfl) (fun _ _ _ h => h) (Or.inl ⟨by kernel_rfl, ?_⟩) HL8.out ?_
  · intro x hx; clear hx; go_simp; try simp [hw, hp, hq]
  try simp only [Act.put, List.setIfInBounds_toArray, List.set_cons_zero, List.set_cons_succ]
  -- skip 20
  refine gk_take (i := 20) (v := undef) rfl (by kernel_rfl) (by kernel_rfl) (by kernel_rfl) (by kernel_rfl) (fun _ _ _ h => h) (Or.inr ⟨by kernel_rfl, rfl⟩) HL8.out ?_
  try simp only [Act.put, List.setIfInBounds_toArray, List.set_cons_zero, List.set_cons_succ]
  -- skip 21
  refine gk_take (i := 21) (v := undef) rfl (by kernel_rfl) (by kernel_rfl) (by kernel_rfl) (by kernel_rfl) (fun _ _ _ h => h) (Or.inr ⟨by kernel_rfl, rfl⟩) HL8.out ?_
  try simp only [Act.put, List.setIfInBounds_toArray, List.set_cons_zero, List.set_cons_succ]
  refine gk_one (i := 22) rfl (by kernel_rfl) (fun K hK => ?_)
  go_simp
  refine hK _ _ (fun _ => HL8.out) ?_
  clear hK K
  try simp only [Act.put, List.setIfInBounds_toArray, List.set_cons_zero, List.set_cons_succ]
  -- skip 23
  refine gk_take (i := 23) (v := undef) rfl (by kernel_rfl) (by kernel_rfl) (by kernel_rfl) (by kernel_rfl) (fun _ _ _ h => h) (Or.inr ⟨by kernel_rfl, rfl⟩) HL8.out ?_
  try simp only [Act.put, List.setIfInBounds_toArray, List.set_cons_zero, List.set_cons_succ]
  -- take 24
  refine gk_take (i := 24) (v := .bool true) rfl (by kernel_rfl) (by kernel_rfl) (by kernel_rfl) (by kernel_rfl) (fun _ _ _ h => h) (Or.inl ⟨by kernel_rfl, ?_⟩) HL8.out ?_
  · intro x hx; clear hx; go_simp; try simp [hw, hp, hq]
  try simp only [Act.put, List.setIfInBounds_toArray, List.set_cons_zero, List.set_cons_succ]
  -- take 25
  refine gk_take (i := 25) (v := .bool true) rfl (by kernel_rfl) (by kernel_rfl) (by kernel_rfl) (by kernel_rfl) (fun _ _ _ h => h) (Or.inl ⟨by kernel_rfl, ?_⟩) HL8.out ?_
  · intro x hx; clear hx; go_simp; try simp [hw, hp, hq]
  try simp only [Act.put, List.setIfInBounds_toArray, List.set_cons_zero, List.set_cons_succ]
  -- take 26
  refine gk_take (i := 26) (v := .bool true) rfl (by kernel_rfl) (by kernel_rfl) (by kernel_rfl) (by kernel_rfl) (fun _ _ _ h => h) (Or.inl ⟨by kernel_rfl, ?_⟩) HL8.out ?_
  · intro x hx; clear hx; go_simp; try simp [hw, hp, hq]
  try simp only [Act.put, List.setIfInBounds_toArray, List.set_cons_zero, List.set_cons_succ]
  refine gk_done (by kernel_rfl) ?_ _
  try simp only [Act.put, List.setIfInBounds_toArray, List.set_cons_zero, List.set_cons_succ]
  clear HL8 H1 H2 H3 H4 H5 H6 H7 HLi
  try go_simp
  all_goals
    go_wp2
    go_ret
    exact ⟨rfl, HB8.out⟩
set_option maxRecDepth 100000 in
set_option maxHeartbeats 6000000 in
theorem ord_c (a1 a2 a3 a4 a5 b1 b2 b3 b4 b5 c1 c2 c3 c4 c5 : ByteArray) (p q r : Int) (m : Bool) (w : World) (p0 : -1 ≤ p) (p1 : p ≤ 1) (hp : ¬ 0 < p) (hq : ¬ 0 < q) (hr : r ≤ 0)
    (h1 : ∀ W, Calls Try.prog 12 #[.agg #[.string a1, .string a2, .string a3, .string a4, .string a5], .agg #[.string b1, .string b2, .string b3, .string b4, .string b5]] W fun e w' => e = .returned (.int .i64 p) ∧ Gb W w') (h2 : ∀ W, Calls Try.prog 13 #[.agg #[.string a1, .string a2, .string a3, .string a4, .string a5], .agg #[.string b1, .string b2, .string b3, .string b4, .string b5]] W fun e w' => e = .returned (.int .i64 p) ∧ Gb W w')
    (h3 : ∀ W, Calls Try.prog 14 #[.agg #[.string a1, .string a2, .string a3, .string a4, .string a5], .agg #[.string b1, .string b2, .string b3, .string b4, .string b5]] W fun e w' => e = .returned (.bool m) ∧ Gb W w') (h4 : ∀ W, Calls Try.prog 15 #[.agg #[.string a1, .string a2, .string a3, .string a4, .string a5], .agg #[.string b1, .string b2, .string b3, .string b4, .string b5]] W fun e w' => e = .returned (.bool m) ∧ Gb W w')
    (h5 : ∀ W, Calls Try.prog 12 #[.agg #[.string b1, .string b2, .string b3, .string b4, .string b5], .agg #[.string a1, .string a2, .string a3, .string a4, .string a5]] W fun e w' => e = .returned (.int .i64 (-p)) ∧ Gb W w') (h6 : ∀ W, Calls Try.prog 12 #[.agg #[.string b1, .string b2, .string b3, .string b4, .string b5], .agg #[.string c1, .string c2, .string c3, .string c4, .string c5]] W fun e w' => e = .returned (.int .i64 q) ∧ Gb W w') (h7 : ∀ W, Calls Try.prog 12 #[.agg #[.string a1, .string a2, .string a3, .string a4, .string a5], .agg #[.string c1, .string c2, .string c3, .string c4, .string c5]] W fun e w' => e = .returned (.int .i64 r) ∧ Gb W w') :
    Calls Try.prog 3 #[.agg #[.string a1, .string a2, .string a3, .string a4, .string a5], .agg #[.string b1, .string b2, .string b3, .string b4, .string b5], .agg #[.string c1, .string c2, .string c3, .string c4, .string c5]] w fun e w' => e = .returned (.bool true) ∧ Below w.heap.size w w' := by
  have H1 := Lib.hid h1
  have H2 := Lib.hid h2
  have H3 := Lib.hid h3
  have H4 := Lib.hid h4
  have H5 := Lib.hid h5
  have H6 := Lib.hid h6
  have H7 := Lib.hid h7
  have HLi := Lib.hid lives_any
  have hw : IntKind.i64.wrap (-p) = -p := by rw [IntKind.wrap_i64]; omega
  have ka := Q5.alloc w (.string a1) (.string a2) (.string a3) (.string a4) (.string a5) 23
  have kb := Q5.alloc (w.alloc (Obj.cells #[.string a1, .string a2, .string a3, .string a4, .string a5] 23)) (.string b1) (.string b2) (.string b3) (.string b4) (.string b5) 23
  have kc := Q5.alloc ((w.alloc (Obj.cells #[.string a1, .string a2, .string a3, .string a4, .string a5] 23)).alloc (Obj.cells #[.string b1, .string b2, .string b3, .string b4, .string b5] 23)) (.string c1) (.string c2) (.string c3) (.string c4) (.string c5) 23
  rw [World.size_alloc] at kb
  rw [World.size_alloc, World.size_alloc] at kc
  have ga : Below w.heap.size w (w.alloc (Obj.cells #[.string a1, .string a2, .string a3, .string a4, .string a5] 23)) := (Below.refl _ _).alloc (Nat.le_refl _) _
  have gb : Below (w.alloc (Obj.cells #[.string a1, .string a2, .string a3, .string a4, .string a5] 23)).heap.size (w.alloc (Obj.cells #[.string a1, .string a2, .string a3, .string a4, .string a5] 23)) ((w.alloc (Obj.cells #[.string a1, .string a2, .string a3, .string a4, .string a5] 23)).alloc (Obj.cells #[.string b1, .string b2, .string b3, .string b4, .string b5] 23)) := (Below.refl _ _).alloc (Nat.le_refl _) _
  have gc : Below ((w.alloc (Obj.cells #[.string a1, .string a2, .string a3, .string a4, .string a5] 23)).alloc (Obj.cells #[.string b1, .string b2, .string b3, .string b4, .string b5] 23)).heap.size ((w.alloc (Obj.cells #[.string a1, .string a2, .string a3, .string a4, .string a5] 23)).alloc (Obj.cells #[.string b1, .string b2, .string b3, .string b4, .string b5] 23)) (((w.alloc (Obj.cells #[.string a1, .string a2, .string a3, .string a4, .string a5] 23)).alloc (Obj.cells #[.string b1, .string b2, .string b3, .string b4, .string b5] 23)).alloc (Obj.cells #[.string c1, .string c2, .string c3, .string c4, .string c5] 23)) := (Below.refl _ _).alloc (Nat.le_refl _) _
  have gd : Below (((w.alloc (Obj.cells #[.string a1, .string a2, .string a3, .string a4, .string a5] 23)).alloc (Obj.cells #[.string b1, .string b2, .string b3, .string b4, .string b5] 23)).alloc (Obj.cells #[.string c1, .string c2, .string c3, .string c4, .string c5] 23)).heap.size (((w.alloc (Obj.cells #[.string a1, .string a2, .string a3, .string a4, .string a5] 23)).alloc (Obj.cells #[.string b1, .string b2, .string b3, .string b4, .string b5] 23)).alloc (Obj.cells #[.string c1, .string c2, .string c3, .string c4, .string c5] 23)) ((((w.alloc (Obj.cells #[.string a1, .string a2, .string a3, .string a4, .string a5] 23)).alloc (Obj.cells #[.string b1, .string b2, .string b3, .string b4, .string b5] 23)).alloc (Obj.cells #[.string c1, .string c2, .string c3, .string c4, .string c5] 23)).drewN 1) := below_drewN (Below.refl _ _) 1
  have HL0 := Lib.hid (show Ks3 w.heap.size (a1, a2, a3, a4, a5) (b1, b2, b3, b4, b5) (c1, c2, c3, c4, c5) ((((w.alloc (Obj.cells #[.string a1, .string a2, .string a3, .string a4, .string a5] 23)).alloc (Obj.cells #[.string b1, .string b2, .string b3, .string b4, .string b5] 23)).alloc (Obj.cells #[.string c1, .string c2, .string c3, .string c4, .string c5] 23)).drewN 1) from Ks3.below ⟨(ka.below gb).below gc, kb.below gc, kc⟩ gd)
  have HB0 := Lib.hid (show Below w.heap.size w ((((w.alloc (Obj.cells #[.string a1, .string a2, .string a3, .string a4, .string a5] 23)).alloc (Obj.cells #[.string b1, .string b2, .string b3, .string b4, .string b5] 23)).alloc (Obj.cells #[.string c1, .string c2, .string c3, .string c4, .string c5] 23)).drewN 1) from (((ga.trans (gb.mono ga.size)).trans (gc.mono (ga.trans (gb.mono ga.size)).size)).trans (gd.mono ((ga.trans (gb.mono ga.size)).trans (gc.mono (ga.trans (gb.mono ga.size)).size)).size)))
  clear h1 h2 h3 h4 h5 h6 h7 ka kb kc ga gb gc gd
  go_enter Try.func3, Try.ntmps3
  go_wp2_with fail
  refine gk_region (fun x => Ks3 w.heap.size (a1, a2, a3, a4, a5) (b1, b2, b3, b4, b5) (c1, c2, c3, c4, c5) x) (fun _ => false) (by kernel_rfl) ?_
  change Hid (Ks3 w.heap.size (a1, a2, a3, a4, a5) (b1, b2, b3, b4, b5) (c1, c2, c3, c4, c5) (((w.alloc (Obj.cells #[.string a1, .string a2, .string a3, .string a4, .string a5] 23)).alloc (Obj.cells #[.string b1, .string b2, .string b3, .string b4, .string b5] 23)).alloc (Obj.cells #[.string c1, .string c2, .string c3, .string c4, .string c5] 23)).drew) at HL0
  change Hid (Below w.heap.size w (((w.alloc (Obj.cells #[.string a1, .string a2, .string a3, .string a4, .string a5] 23)).alloc (Obj.cells #[.string b1, .string b2, .string b3, .string b4, .string b5] 23)).alloc (Obj.cells #[.string c1, .string c2, .string c3, .string c4, .string c5] 23)).drew) at HB0
  generalize (((w.alloc (Obj.cells #[.string a1, .string a2, .string a3, .string a4, .string a5] 23)).alloc (Obj.cells #[.string b1, .string b2, .string b3, .string b4, .string b5] 23)).alloc (Obj.cells #[.string c1, .string c2, .string c3, .string c4, .string c5] 23)).drew = x0 at *
  -- take 0
  refine gk_take (i := 0) (v := ?_) rfl (by kernel_rfl) (by kernel_rfl) (by kernel_rfl) (by kernel_rfl) (fun _ _ _ h => h) (Or.inl ⟨by kernel_rfl, ?_⟩) HL0.out ?_
  rotate_left
  · ((intro x hx; obtain ⟨f0, f1, f2, f3, f4⟩ := hx.ata; go_simp) <;> with_reducible rfl)
  try simp only [Act.put, List.setIfInBounds_toArray, List.set_cons_zero, List.set_cons_succ]
  -- take 1
  refine gk_take (i := 1) (v := ?_) rfl (by kernel_rfl) (by kernel_rfl) (by kernel_rfl) (by kernel_rfl) (fun _ _ _ h => h) (Or.inl ⟨by kernel_rfl, ?_⟩) HL0.out ?_
  rotate_left
  · ((intro x hx; obtain ⟨f0, f1, f2, f3, f4⟩ := hx.atb; go_simp) <;> with_reducible rfl)
  try simp only [Act.put, List.setIfInBounds_toArray, List.set_cons_zero, List.set_cons_succ]
  -- take 3
  refine gk_take (i := 3) (v := ?_) rfl (by kernel_rfl) (by kernel_rfl) (by kernel_rfl) (by kernel_rfl) (fun _ _ _ h => h) (Or.inl ⟨by kernel_rfl, ?_⟩) HL0.out ?_
  rotate_left
  · ((intro x hx; obtain ⟨f0, f1, f2, f3, f4⟩ := hx.ata; go_simp) <;> with_reducible rfl)
  try simp only [Act.put, List.setIfInBounds_toArray, List.set_cons_zero, List.set_cons_succ]
  -- take 4
  refine gk_take (i := 4) (v := ?_) rfl (by kernel_rfl) (by kernel_rfl) (by kernel_rfl) (by kernel_rfl) (fun _ _ _ h => h) (Or.inl ⟨by kernel_rfl, ?_⟩) HL0.out ?_
  rotate_left
  · ((intro x hx; obtain ⟨f0, f1, f2, f3, f4⟩ := hx.atb; go_simp) <;> with_reducible rfl)
  try simp only [Act.put, List.setIfInBounds_toArray, List.set_cons_zero, List.set_cons_succ]
  refine gk_one (i := 2) rfl (by kernel_rfl) (fun K hK => ?_)
  go_simp
  go_at_call 12
  refine (H1.out _).mono ?_
  rintro e y1 ⟨rfl, hg⟩
  have HL1 := Lib.hid (HL0.out.below hg.b)
  have HB1 := Lib.hid (HB0.out.trans (hg.b.mono HB0.out.size))
  clear hg HL0 HB0
  refine hK _ _ (fun _ => HL1.out) ?_
  clear hK K
  try simp only [Act.put, List.setIfInBounds_toArray, List.set_cons_zero, List.set_cons_succ]
  refine gk_one (i := 5) rfl (by kernel_rfl) (fun K hK => ?_)
  go_simp
  go_at_call 13
  refine (H2.out _).mono ?_
  rintro e y2 ⟨rfl, hg⟩
  have HL2 := Lib.hid (HL1.out.below hg.b)
  have HB2 := Lib.hid (HB1.out.trans (hg.b.mono HB1.out.size))
  clear hg HL1 HB1
  refine hK _ _ (fun _ => HL2.out) ?_
  clear hK K
  try simp only [Act.put, List.setIfInBounds_toArray, List.set_cons_zero, List.set_cons_succ]
  -- take 6
  refine gk_take (i := 6) (v := ?_) rfl (by kernel_rfl) (by kernel_rfl) (by kernel_rfl) (by kernel_rfl) (fun _ _ _ h => h) (Or.inl ⟨by kernel_rfl, ?_⟩) HL2.out ?_
  rotate_left
  · ((intro x hx; clear hx; go_simp) <;> with_reducible rfl)
  try simp only [Act.put, List.setIfInBounds_toArray, List.set_cons_zero, List.set_cons_succ]
  -- take 7
  refine gk_take (i := 7) (v := ?_) rfl (by kernel_rfl) (by kernel_rfl) (by kernel_rfl) (by kernel_rfl) (fun _ _ _ h => h) (Or.inl ⟨by kernel_rfl, ?_⟩) HL2.out ?_
  rotate_left
  · ((intro x hx; clear hx; go_simp) <;> with_reducible rfl)
  try simp only [Act.put, List.setIfInBounds_toArray, List.set_cons_zero, List.set_cons_succ]
  -- take 8
  refine gk_take (i := 8) (v := ?_) rfl (by kernel_rfl) (by kernel_rfl) (by kernel_rfl) (by kernel_rfl) (fun _ _ _ h => h) (Or.inl ⟨by kernel_rfl, ?_⟩) HL2.out ?_
  rotate_left
  · ((intro x hx; obtain ⟨f0, f1, f2, f3, f4⟩ := hx.ata; go_simp) <;> with_reducible rfl)
  try simp only [Act.put, List.setIfInBounds_toArray, List.set_cons_zero, List.set_cons_succ]
  -- take 9
  refine gk_take (i := 9) (v := ?_) rfl (by kernel_rfl) (by kernel_rfl) (by kernel_rfl) (by kernel_rfl) (fun _ _ _ h => h) (Or.inl ⟨by kernel_rfl, ?_⟩) HL2.out ?_
  rotate_left
  · ((intro x hx; obtain ⟨f0, f1, f2, f3, f4⟩ := hx.atb; go_simp) <;> with_reducible rfl)
  try simp only [Act.put, List.setIfInBounds_toArray, List.set_cons_zero, List.set_cons_succ]
  -- take 11
  refine gk_take (i := 11) (v := ?_) rfl (by kernel_rfl) (by kernel_rfl) (by kernel_rfl) (by kernel_rfl) (fun _ _ _ h => h) (Or.inl ⟨by kernel_rfl, ?_⟩) HL2.out ?_
  rotate_left
  · ((intro x hx; obtain ⟨f0, f1, f2, f3, f4⟩ := hx.ata; go_simp) <;> with_reducible rfl)
  try simp only [Act.put, List.setIfInBounds_toArray, List.set_cons_zero, List.set_cons_succ]
  -- take 12
  refine gk_take (i := 12) (v := ?_) rfl (by kernel_rfl) (by kernel_rfl) (by kernel_rfl) (by kernel_rfl) (fun _ _ _ h => h) (Or.inl ⟨by kernel_rfl, ?_⟩) HL2.out ?_
  rotate_left
  · ((intro x hx; obtain ⟨f0, f1, f2, f3, f4⟩ := hx.atb; go_simp) <;> with_reducible rfl)
  try simp only [Act.put, List.setIfInBounds_toArray, List.set_cons_zero, List.set_cons_succ]
  refine gk_one (i := 10) rfl (by kernel_rfl) (fun K hK => ?_)
  go_simp
  go_at_call 14
  refine (H3.out _).mono ?_
  rintro e y3 ⟨rfl, hg⟩
  have HL3 := Lib.hid (HL2.out.below hg.b)
  have HB3 := Lib.hid (HB2.out.trans (hg.b.mono HB2.out.size))
  clear hg HL2 HB2
  refine hK _ _ (fun _ => HL3.out) ?_
  clear hK K
  try simp only [Act.put, List.setIfInBounds_toArray, List.set_cons_zero, List.set_cons_succ]
  refine gk_one (i := 13) rfl (by kernel_rfl) (fun K hK => ?_)
  go_simp
  go_at_call 15
  refine (H4.out _).mono ?_
  rintro e y4 ⟨rfl, hg⟩
  have HL4 := Lib.hid (HL3.out.below hg.b)
  have HB4 := Lib.hid (HB3.out.trans (hg.b.mono HB3.out.size))
  clear hg HL3 HB3
  refine hK _ _ (fun _ => HL4.out) ?_
  clear hK K
  try simp only [Act.put, List.setIfInBounds_toArray, List.set_cons_zero, List.set_cons_succ]
  -- take 14
  refine gk_take (i := 14) (v := ?_) rfl (by kernel_rfl) (by kernel_rfl) (by kernel_rfl) (by kernel_rfl) (fun _ _ _ h => h) (Or.inl ⟨by kernel_rfl, ?_⟩) HL4.out ?_
  rotate_left
  · ((intro x hx; clear hx; go_simp) <;> with_reducible rfl)
  try simp only [Act.put, List.setIfInBounds_toArray, List.set_cons_zero, List.set_cons_succ]
  -- take 15
  refine gk_take (i := 15) (v := ?_) rfl (by kernel_rfl) (by kernel_rfl) (by kernel_rfl) (by kernel_rfl) (fun _ _ _ h => h) (Or.inl ⟨by kernel_rfl, ?_⟩) HL4.out ?_
  rotate_left
  · ((intro x hx; clear hx; go_simp) <;> with_reducible rfl)
  try simp only [Act.put, List.setIfInBounds_toArray, List.set_cons_zero, List.set_cons_succ]
  -- take 16
  refine gk_take (i := 16) (v := ?_) rfl (by kernel_rfl) (by kernel_rfl) (by kernel_rfl) (by kernel_rfl) (fun _ _ _ h => h) (Or.inl ⟨by kernel_rfl, ?_⟩) HL4.out ?_
  rotate_left
  · ((intro x hx; clear hx; go_simp) <;> with_reducible rfl)
  try simp only [Act.put, List.setIfInBounds_toArray, List.set_cons_zero, List.set_cons_succ]
  refine gk_one (i := 17) rfl (by kernel_rfl) (fun K hK => ?_)
  go_simp
  go_at_call 16
  refine (HLi.out _).mono ?_
  rintro e z0 ⟨rfl, hb⟩
  have HL0 := Lib.hid (HL4.out.below hb)
  have HB0 := Lib.hid (HB4.out.trans (hb.mono HB4.out.size))
  clear hb HL4 HB4
  refine hK _ _ (fun _ => HL0.out) ?_
  clear hK K
  try simp only [Act.put, List.setIfInBounds_toArray, List.set_cons_zero, List.set_cons_succ]
  -- take 18
  refine gk_take (i := 18) (v := ?_) rfl (by kernel_rfl) (by kernel_rfl) (by kernel_rfl) (by kernel_rfl) (fun _ _ _ h => h) (Or.inl ⟨by kernel_rfl, ?_⟩) HL0.out ?_
  rotate_left
  · ((intro x hx; clear hx; go_simp) <;> with_reducible rfl)
  try simp only [Act.put, List.setIfInBounds_toArray, List.set_cons_zero, List.set_cons_succ]
  -- take 19
  refine gk_take (i := 19) (v := ?_) rfl (by kernel_rfl) (by kernel_rfl) (by kernel_rfl) (by kernel_rfl) (fun _ _ _ h => h) (Or.inl ⟨by kernel_rfl, ?_⟩) HL0.out ?_
  rotate_left
  · ((intro x hx; clear hx; go_simp) <;> with_reducible rfl)
  try simp only [Act.put, List.setIfInBounds_toArray, List.set_cons_zero, List.set_cons_succ]
  refine gk_done (by kernel_rfl) ?_ _
  try simp only [Act.put, List.setIfInBounds_toArray, List.set_cons_zero, List.set_cons_succ]
  try go_simp
  go_wp2_with fail
  have hz : Below z0.heap.size z0 (z0.drewN 1) := below_drewN (Below.refl _ _) 1
  have HLz := Lib.hid (HL0.out.below hz)
  have HBz := Lib.hid (HB0.out.trans (hz.mono HB0.out.size))
  clear hz HL0 HB0
  refine gk_region (fun x => Ks3 w.heap.size (a1, a2, a3, a4, a5) (b1, b2, b3, b4, b5) (c1, c2, c3, c4, c5) x) (fun _ => false) (by kernel_rfl) ?_
  change Hid (Ks3 w.heap.size (a1, a2, a3, a4, a5) (b1, b2, b3, b4, b5) (c1, c2, c3, c4, c5) z0.drew) at HLz
  change Hid (Below w.heap.size w z0.drew) at HBz
  generalize z0.drew = u0 at *
  -- take 0
  refine gk_take (i := 0) (v := ?_) rfl (by kernel_rfl) (by kernel_rfl) (by kernel_rfl) (by kernel_rfl) (fun _ _ _ h => h) (Or.inl ⟨by kernel_rfl, ?_⟩) HLz.out ?_
  rotate_left
  · ((intro x hx; obtain ⟨f0, f1, f2, f3, f4⟩ := hx.atb; go_simp) <;> with_reducible rfl)
  try simp only [Act.put, List.setIfInBounds_toArray, List.set_cons_zero, List.set_cons_succ]
  -- take 1
  refine gk_take (i := 1) (v := ?_) rfl (by kernel_rfl) (by kernel_rfl) (by kernel_rfl) (by kernel_rfl) (fun _ _ _ h => h) (Or.inl ⟨by kernel_rfl, ?_⟩) HLz.out ?_
  rotate_left
  · ((intro x hx; obtain ⟨f0, f1, f2, f3, f4⟩ := hx.ata; go_simp) <;> with_reducible rfl)
  try simp only [Act.put, List.setIfInBounds_toArray, List.set_cons_zero, List.set_cons_succ]
  -- take 3
  refine gk_take (i := 3) (v := ?_) rfl (by kernel_rfl) (by kernel_rfl) (by kernel_rfl) (by kernel_rfl) (fun _ _ _ h => h) (Or.inl ⟨by kernel_rfl, ?_⟩) HLz.out ?_
  rotate_left
  · ((intro x hx; obtain ⟨f0, f1, f2, f3, f4⟩ := hx.ata; go_simp) <;> with_reducible rfl)
  try simp only [Act.put, List.setIfInBounds_toArray, List.set_cons_zero, List.set_cons_succ]
  -- take 4
  refine gk_take (i := 4) (v := ?_) rfl (by kernel_rfl) (by kernel_rfl) (by kernel_rfl) (by kernel_rfl) (fun _ _ _ h => h) (Or.inl ⟨by kernel_rfl, ?_⟩) HLz.out ?_
  rotate_left
  · ((intro x hx; obtain ⟨f0, f1, f2, f3, f4⟩ := hx.atb; go_simp) <;> with_reducible rfl)
  try simp only [Act.put, List.setIfInBounds_toArray, List.set_cons_zero, List.set_cons_succ]
  refine gk_one (i := 2) rfl (by kernel_rfl) (fun K hK => ?_)
  go_simp
  go_at_call 12
  refine (H5.out _).mono ?_
  rintro e y5 ⟨rfl, hg⟩
  have HL5 := Lib.hid (HLz.out.below hg.b)
  have HB5 := Lib.hid (HBz.out.trans (hg.b.mono HBz.out.size))
  clear hg HLz HBz
  refine hK _ _ (fun _ => HL5.out) ?_
  clear hK K
  try simp only [Act.put, List.setIfInBounds_toArray, List.set_cons_zero, List.set_cons_succ]
  refine gk_one (i := 5) rfl (by kernel_rfl) (fun K hK => ?_)
  go_simp
  go_at_call 12
  refine (H1.out _).mono ?_
  rintro e y6 ⟨rfl, hg⟩
  have HL6 := Lib.hid (HL5.out.below hg.b)
  have HB6 := Lib.hid (HB5.out.trans (hg.b.mono HB5.out.size))
  clear hg HL5 HB5
  refine hK _ _ (fun _ => HL6.out) ?_
  clear hK K
  try simp only [Act.put, List.setIfInBounds_toArray, List.set_cons_zero, List.set_cons_succ]
  -- take 6
  refine gk_take (i := 6) (v := .int .i64 (-p)) rfl (by kernel_rfl) (by kernel_rfl) (by kernel_rfl) (by kernel_rfl) (fun _ _ _ h => h) (Or.inl ⟨by kernel_rfl, ?_⟩) HL6.out ?_
  · intro x hx; clear hx; go_simp; try simp [hw, hp, hq, hr]
  try simp only [Act.put, List.setIfInBounds_toArray, List.set_cons_zero, List.set_cons_succ]
  -- take 7
  refine gk_take (i := 7) (v := .bool true) rfl (by kernel_rfl) (by kernel_rfl) (by kernel_rfl) (by kernel_rfl) (fun _ _ _ h => h) (Or.inl ⟨by kernel_rfl, ?_⟩) HL6.out ?_
  · intro x hx; clear hx; go_simp; try simp [hw, hp, hq, hr]
  try simp only [Act.put, List.setIfInBounds_toArray, List.set_cons_zero, List.set_cons_succ]
  -- take 8
  refine gk_take (i := 8) (v := .bool true) rfl (by kernel_rfl) (by kernel_rfl) (by kernel_rfl) (by kernel_rfl) (fun _ _ _ h => h) (Or.inl ⟨by kernel_rfl, ?_⟩) HL6.out ?_
  · intro x hx; clear hx; go_simp; try simp [hw, hp, hq, hr]
  try simp only [Act.put, List.setIfInBounds_toArray, List.set_cons_zero, List.set_cons_succ]
  -- take 9
  refine gk_take (i := 9) (v := ?_) rfl (by kernel_rfl) (by kernel_rfl) (by kernel_rfl) (by kernel_rfl) (fun _ _ _ h => h) (Or.inl ⟨by kernel_rfl, ?_⟩) HL6.out ?_
  rotate_left
  · ((intro x hx; obtain ⟨f0, f1, f2, f3, f4⟩ := hx.ata; go_simp) <;> with_reducible rfl)
  try simp only [Act.put, List.setIfInBounds_toArray, List.set_cons_zero, List.set_cons_succ]
  -- take 10
  refine gk_take (i := 10) (v := ?_) rfl (by kernel_rfl) (by kernel_rfl) (by kernel_rfl) (by kernel_rfl) (fun _ _ _ h => h) (Or.inl ⟨by kernel_rfl, ?_⟩) HL6.out ?_
  rotate_left
  · ((intro x hx; obtain ⟨f0, f1, f2, f3, f4⟩ := hx.atb; go_simp) <;> with_reducible rfl)
  try simp only [Act.put, List.setIfInBounds_toArray, List.set_cons_zero, List.set_cons_succ]
  refine gk_one (i := 11) rfl (by kernel_rfl) (fun K hK => ?_)
  go_simp
  go_at_call 12
  refine (H1.out _).mono ?_
  rintro e y7 ⟨rfl, hg⟩
  have HL7 := Lib.hid (HL6.out.below hg.b)
  have HB7 := Lib.hid (HB6.out.trans (hg.b.mono HB6.out.size))
  clear hg HL6 HB6
  refine hK _ _ (fun _ => HL7.out) ?_
  clear hK K
  try simp only [Act.put, List.setIfInBounds_toArray, List.set_cons_zero, List.set_cons_succ]
  -- take 12
  refine gk_take (i := 12) (v := .bool false) rfl (by kernel_rfl) (by kernel_rfl) (by kernel_rfl) (by kernel_rfl) (fun _ _ _ h => h) (Or.inl ⟨by kernel_rfl, ?_⟩) HL7.out ?_
  · intro x hx; clear hx; go_simp; try simp [hw, hp, hq, hr]
  try simp only [Act.put, List.setIfInBounds_toArray, List.set_cons_zero, List.set_cons_succ]
  -- take 13
  refine gk_take (i := 13) (v := .bool false) rfl (by kernel_rfl) (by kernel_rfl) (by kernel_rfl) (by kernel_rfl) (fun _ _ _ h => h) (Or.inl ⟨by kernel_rfl, ?_⟩) HL7.out ?_
  · intro x hx; clear hx; go_simp; try simp [hw, hp, hq, hr]
  try simp only [Act.put, List.setIfInBounds_toArray, List.set_cons_zero, List.set_cons_succ]
  -- take 14
  refine gk_take (i := 14) (v := ?_) rfl (by kernel_rfl) (by kernel_rfl) (by kernel_rfl) (by kernel_rfl) (fun _ _ _ h => h) (Or.inl ⟨by kernel_rfl, ?_⟩) HL7.out ?_
  rotate_left
  · ((intro x hx; obtain ⟨f0, f1, f2, f3, f4⟩ := hx.atb; go_simp) <;> with_reducible rfl)
  try simp only [Act.put, List.setIfInBounds_toArray, List.set_cons_zero, List.set_cons_succ]
  -- take 15
  refine gk_take (i := 15) (v := ?_) rfl (by kernel_rfl) (by kernel_rfl) (by kernel_rfl) (by kernel_rfl) (fun _ _ _ h => h) (Or.inl ⟨by kernel_rfl, ?_⟩) HL7.out ?_
  rotate_left
  · ((intro x hx; obtain ⟨f0, f1, f2, f3, f4⟩ := hx.atc; go_simp) <;> with_reducible rfl)
  try simp only [Act.put, List.setIfInBounds_toArray, List.set_cons_zero, List.set_cons_succ]
  refine gk_one (i := 16) rfl (by kernel_rfl) (fun K hK => ?_)
  go_simp
  go_at_call 12
  refine (H6.out _).mono ?_
  rintro e y8 ⟨rfl, hg⟩
  have HL8 := Lib.hid (HL7.out.below hg.b)
  have HB8 := Lib.hid (HB7.out.trans (hg.b.mono HB7.out.size))
  clear hg HL7 HB7
  refine hK _ _ (fun _ => HL8.out) ?_
  clear hK K
  try simp only [Act.put, List.setIfInBounds_toArray, List.set_cons_zero, List.set_cons_succ]
  -- take 17
  refine gk_take (i := 17) (v := .bool false) rfl (by kernel_rfl) (by kernel_rfl) (by kernel_rfl) (by kernel_rfl) (fun _ _ _ h => h) (Or.inl ⟨by kernel_rfl, ?_⟩) HL8.out ?_
  · intro x hx; clear hx; go_simp; try simp [hw, hp, hq, hr]
  try simp only [Act.put, List.setIfInBounds_toArray, List.set_cons_zero, List.set_cons_succ]
  -- take 18
  refine gk_take (i := 18) (v := .bool false) rfl (by kernel_rfl) (by kernel_rfl) (by kernel_rfl) (by kernel_rfl) (fun _ _ _ h => h) (Or.inl ⟨by kernel_rfl, ?_⟩) HL8.out ?_
  · intro x hx; clear hx; go_simp; try simp [hw, hp, hq, hr]
  try simp only [Act.put, List.setIfInBounds_toArray, List.set_cons_zero, List.set_cons_succ]
  -- take 19
  refine gk_take (i := 19) (v := .bool false) rfl (by kernel_rfl) (by kernel_rfl) (by kernel_rfl) (by kernel_rfl) (fun _ _ _ h => h) (Or.inl ⟨by kernel_rfl, ?_⟩) HL8.out ?_
  · intro x hx; clear hx; go_simp; try simp [hw, hp, hq, hr]
  try simp only [Act.put, List.setIfInBounds_toArray, List.set_cons_zero, List.set_cons_succ]
  -- take 20
  refine gk_take (i := 20) (v := ?_) rfl (by kernel_rfl) (by kernel_rfl) (by kernel_rfl) (by kernel_rfl) (fun _ _ _ h => h) (Or.inl ⟨by kernel_rfl, ?_⟩) HL8.out ?_
  rotate_left
  · ((intro x hx; obtain ⟨f0, f1, f2, f3, f4⟩ := hx.ata; go_simp) <;> with_reducible rfl)
  try simp only [Act.put, List.setIfInBounds_toArray, List.set_cons_zero, List.set_cons_succ]
  -- take 21
  refine gk_take (i := 21) (v := ?_) rfl (by kernel_rfl) (by kernel_rfl) (by kernel_rfl) (by kernel_rfl) (fun _ _ _ h => h) (Or.inl ⟨by kernel_rfl, ?_⟩) HL8.out ?_
  rotate_left
  · ((intro x hx; obtain ⟨f0, f1, f2, f3, f4⟩ := hx.atc; go_simp) <;> with_reducible rfl)
  try simp only [Act.put, List.setIfInBounds_toArray, List.set_cons_zero, List.set_cons_succ]
  refine gk_one (i := 22) rfl (by kernel_rfl) (fun K hK => ?_)
  go_simp
  go_at_call 12
  refine (H7.out _).mono ?_
  rintro e y9 ⟨rfl, hg⟩
  have HL9 := Lib.hid (HL8.out.below hg.b)
  have HB9 := Lib.hid (HB8.out.trans (hg.b.mono HB8.out.size))
  clear hg HL8 HB8
  refine hK _ _ (fun _ => HL9.out) ?_
  clear hK K
  try simp only [Act.put, List.setIfInBounds_toArray, List.set_cons_zero, List.set_cons_succ]
  -- take 23
  refine gk_take (i := 23) (v := .bool true) rfl (by kernel_rfl) (by kernel_rfl) (by kernel_rfl) (by kernel_rfl) (fun _ _ _ h => h) (Or.inl ⟨by kernel_rfl, ?_⟩) HL9.out ?_
  · intro x hx; clear hx; go_simp; try simp [hw, hp, hq, hr]
  try simp only [Act.put, List.setIfInBounds_toArray, List.set_cons_zero, List.set_cons_succ]
  -- take 24
  refine gk_take (i := 24) (v := .bool true) rfl (by kernel_rfl) (by kernel_rfl) (by kernel_rfl) (by kernel_rfl) (fun _ _ _ h => h) (Or.inl ⟨by kernel_rfl, ?_⟩) HL9.out ?_
  · intro x hx; clear hx; go_simp; try simp [hw, hp, hq, hr]
  try simp only [Act.put, List.setIfInBounds_toArray, List.set_cons_zero, List.set_cons_succ]
  -- take 25
  refine gk_take (i := 25) (v := .bool true) rfl (by kernel_rfl) (by kernel_rfl) (by kernel_rfl) (by kernel_rfl) (fun _ _ _ h => h) (Or.inl ⟨by kernel_rfl, ?_⟩) HL9.out ?_
  · intro x hx; clear hx; go_simp; try simp [hw, hp, hq, hr]
  try simp only [Act.put, List.setIfInBounds_toArray, List.set_cons_zero, List.set_cons_succ]
  -- take 26
  refine gk_take (i := 26) (v := .bool true) rfl (by kernel_rfl) (by kernel_rfl) (by kernel_rfl) (by kernel_rfl) (fun _ _ _ h => h) (Or.inl ⟨by kernel_rfl, ?_⟩) HL9.out ?_
  · intro x hx; clear hx; go_simp; try simp [hw, hp, hq, hr]
  try simp only [Act.put, List.setIfInBounds_toArray, List.set_cons_zero, List.set_cons_succ]
  refine gk_done (by kernel_rfl) ?_ _
  try simp only [Act.put, List.setIfInBounds_toArray, List.set_cons_zero, List.set_cons_succ]
  clear HL9 H1 H2 H3 H4 H5 H6 H7 HLi
  try go_simp
  all_goals
    go_wp2
    go_ret
    exact ⟨rfl, HB9.out⟩
theorem sheetOrders_walk (a1 a2 a3 a4 a5 b1 b2 b3 b4 b5 c1 c2 c3 c4 c5 : ByteArray) (w : World) :
    Calls Try.prog 3 #[.agg #[.string a1, .string a2, .string a3, .string a4, .string a5], .agg #[.string b1, .string b2, .string b3, .string b4, .string b5], .agg #[.string c1, .string c2, .string c3, .string c4, .string c5]] w fun e w' => e = .returned (.bool true) ∧ Below w.heap.size w w' := by
  obtain ⟨p0, p1⟩ := cmpK_bd (a1, a2, a3, a4, a5) (b1, b2, b3, b4, b5)
  have hs := cmpK_swap (a1, a2, a3, a4, a5) (b1, b2, b3, b4, b5)
  have h5 := cmp5_any b1 b2 b3 b4 b5 a1 a2 a3 a4 a5
  rw [hs] at h5
  have h1 := cmp5_any a1 a2 a3 a4 a5 b1 b2 b3 b4 b5
  have h2 := rCmp5_any a1 a2 a3 a4 a5 b1 b2 b3 b4 b5
  have h3 := match5_any a1 a2 a3 a4 a5 b1 b2 b3 b4 b5
  have h4 := rMatch5_any a1 a2 a3 a4 a5 b1 b2 b3 b4 b5
  have h6 := cmp5_any b1 b2 b3 b4 b5 c1 c2 c3 c4 c5
  have h7 := cmp5_any a1 a2 a3 a4 a5 c1 c2 c3 c4 c5
  by_cases hp : 0 < cmpK (a1, a2, a3, a4, a5) (b1, b2, b3, b4, b5)
  · exact ord_a a1 a2 a3 a4 a5 b1 b2 b3 b4 b5 c1 c2 c3 c4 c5 _ _ _ _ w p0 p1 hp h1 h2 h3 h4 h5 h6 h7
  · by_cases hq : 0 < cmpK (b1, b2, b3, b4, b5) (c1, c2, c3, c4, c5)
    · exact ord_b a1 a2 a3 a4 a5 b1 b2 b3 b4 b5 c1 c2 c3 c4 c5 _ _ _ _ w p0 p1 hp hq h1 h2 h3 h4 h5 h6 h7
    · exact ord_c a1 a2 a3 a4 a5 b1 b2 b3 b4 b5 c1 c2 c3 c4 c5 _ _ _ _ w p0 p1 hp hq (cmpK_trans (a := (a1, a2, a3, a4, a5)) (b := (b1, b2, b3, b4, b5)) (c := (c1, c2, c3, c4, c5)) (by omega) (by omega)) h1 h2 h3 h4 h5 h6 h7
end Go.Proofs.Ytenhnnfemehbcaa
