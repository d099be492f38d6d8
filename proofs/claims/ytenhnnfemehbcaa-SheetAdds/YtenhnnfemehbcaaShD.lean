/- Keys compared by package sheet. Written by wip/mk_shd.py. -/
import Derived.Test.YtenhnnfemehbcaaShC
namespace Go.Proofs.Ytenhnnfemehbcaa
open Go.RowKit Go.Sort
set_option linter.unusedVariables false
set_option linter.unusedSimpArgs false

/-- two keys laid from the block N on, in what has become of W. -/
structure Two (W : World) (N : Nat) (a1 a2 a3 a4 a5 b1 b2 b3 b4 b5 : ByteArray) (x : World) : Prop where
  a : Q5 x N (.string a1) (.string a2) (.string a3) (.string a4) (.string a5)
  b : Q5 x (N + 1) (.string b1) (.string b2) (.string b3) (.string b4) (.string b5)
  g : Gb W x
  s : N + 2 ≤ x.heap.size
theorem Two.step {W x y : World} {N : Nat} {a1 a2 a3 a4 a5 b1 b2 b3 b4 b5 : ByteArray} (h : Two W N a1 a2 a3 a4 a5 b1 b2 b3 b4 b5 x) (g : Gb x y) : Two W N a1 a2 a3 a4 a5 b1 b2 b3 b4 b5 y :=
  ⟨h.a.below g.b, h.b.below g.b, h.g.trans g, Nat.le_trans h.s g.b.size⟩
theorem Two.set {W x : World} {N : Nat} {a1 a2 a3 a4 a5 b1 b2 b3 b4 b5 : ByteArray} (h : Two W N a1 a2 a3 a4 a5 b1 b2 b3 b4 b5 x) (hN : W.heap.size ≤ N) {p : Nat} (hp : N + 2 ≤ p) (i : Nat) (v : Value) : Two W N a1 a2 a3 a4 a5 b1 b2 b3 b4 b5 (x.setCell ⟨p, i, none⟩ v) :=
  ⟨h.a.far (by omega) v, h.b.far (by omega) v, h.g.set (by show W.heap.size ≤ p; omega) v, by simpa using h.s⟩
/-- the two lists of fields in memory. -/
def Flds (W : World) (a1 a2 a3 a4 a5 b1 b2 b3 b4 b5 : ByteArray) (p q : Nat) (x : World) : Prop :=
  Q5 x p (.string a1) (.string a2) (.string a3) (.string a4) (.string a5) ∧ Q5 x q (.string b1) (.string b2) (.string b3) (.string b4) (.string b5) ∧ Gb W x
theorem Flds.at {W x : World} {a1 a2 a3 a4 a5 b1 b2 b3 b4 b5 : ByteArray} {p q : Nat} (h : Flds W a1 a2 a3 a4 a5 b1 b2 b3 b4 b5 p q x) {i : Nat} (hi : i < 5) :
    x.cell? ⟨p, i, none⟩ = some (.string (kyL (a1, a2, a3, a4, a5))[i]!) ∧ x.cell? ⟨q, i, none⟩ = some (.string (kyL (b1, b2, b3, b4, b5))[i]!) := by
  obtain ⟨h1, h2, _⟩ := h
  match i, hi with
  | 0, _ => exact ⟨h1.c0, h2.c0⟩
  | 1, _ => exact ⟨h1.c1, h2.c1⟩
  | 2, _ => exact ⟨h1.c2, h2.c2⟩
  | 3, _ => exact ⟨h1.c3, h2.c3⟩
  | 4, _ => exact ⟨h1.c4, h2.c4⟩
theorem Flds.step {W x y : World} {a1 a2 a3 a4 a5 b1 b2 b3 b4 b5 : ByteArray} {p q : Nat} (h : Flds W a1 a2 a3 a4 a5 b1 b2 b3 b4 b5 p q x) (g : Gb x y) : Flds W a1 a2 a3 a4 a5 b1 b2 b3 b4 b5 p q y :=
  ⟨h.1.below g.b, h.2.1.below g.b, h.2.2.trans g⟩
theorem cmpL_at {x y : List ByteArray} {i : Nat} (hx : i < x.length) (hy : i < y.length) : cmpL (x.drop i) (y.drop i) = if cmpS x[i]! y[i]! = 0 then cmpL (x.drop (i + 1)) (y.drop (i + 1)) else cmpS x[i]! y[i]! := by
  rw [List.drop_eq_getElem_cons hx, List.drop_eq_getElem_cons hy, getElem!_pos x i hx, getElem!_pos y i hy]
  rfl
theorem Q5.fill {w : World} {B : Nat} {a b c d p : Value} (h : Q5 w B a b c d p) (v0 v1 v2 v3 v4 : Value) : Q5 (((((w.setCell ⟨B, 0, none⟩ v0).setCell ⟨B, 1, none⟩ v1).setCell ⟨B, 2, none⟩ v2).setCell ⟨B, 3, none⟩ v3).setCell ⟨B, 4, none⟩ v4) B v0 v1 v2 v3 v4 := ((((h.set0 v0).set1 v1).set2 v2).set3 v3).set4 v4
theorem Q5.fillFar {w : World} {B' B : Nat} {a b c d p : Value} (h : Q5 w B a b c d p) (hB : B ≠ B') (v0 v1 v2 v3 v4 : Value) : Q5 (((((w.setCell ⟨B', 0, none⟩ v0).setCell ⟨B', 1, none⟩ v1).setCell ⟨B', 2, none⟩ v2).setCell ⟨B', 3, none⟩ v3).setCell ⟨B', 4, none⟩ v4) B a b c d p := ((((h.far hB v0).far hB v1).far hB v2).far hB v3).far hB v4
theorem Two.fill {W x : World} {N : Nat} {a1 a2 a3 a4 a5 b1 b2 b3 b4 b5 : ByteArray} (h : Two W N a1 a2 a3 a4 a5 b1 b2 b3 b4 b5 x) (hN : W.heap.size ≤ N) {p : Nat} (hp : N + 2 ≤ p) (v0 v1 v2 v3 v4 : Value) : Two W N a1 a2 a3 a4 a5 b1 b2 b3 b4 b5 (((((x.setCell ⟨p, 0, none⟩ v0).setCell ⟨p, 1, none⟩ v1).setCell ⟨p, 2, none⟩ v2).setCell ⟨p, 3, none⟩ v3).setCell ⟨p, 4, none⟩ v4) :=
  ((((h.set hN hp 0 v0).set hN hp 1 v1).set hN hp 2 v2).set hN hp 3 v3).set hN hp 4 v4
theorem Gb.drewN (w : World) (n : Nat) : Gb w (w.drewN n) := ⟨⟨rfl, rfl, rfl, Nat.le_refl _, fun _ _ => rfl⟩, by show w.drawn ≤ w.drawn + n; omega⟩
set_option maxRecDepth 100000 in
set_option maxHeartbeats 1000000 in
theorem cmp5_any (a1 a2 a3 a4 a5 b1 b2 b3 b4 b5 : ByteArray) (w : World) :
    Calls Try.prog 12 #[.agg #[.string a1, .string a2, .string a3, .string a4, .string a5], .agg #[.string b1, .string b2, .string b3, .string b4, .string b5]] w fun e w' => e = .returned (.int .i64 (cmpK (a1, a2, a3, a4, a5) (b1, b2, b3, b4, b5))) ∧ Gb w w' := by
  have HV : Hid (cmpL ((kyL (a1, a2, a3, a4, a5)).drop 0) ((kyL (b1, b2, b3, b4, b5)).drop 0) = cmpK (a1, a2, a3, a4, a5) (b1, b2, b3, b4, b5)) := Lib.hid rfl
  generalize cmpK (a1, a2, a3, a4, a5) (b1, b2, b3, b4, b5) = V at *
  have HT := Lib.hid (show Two w w.heap.size a1 a2 a3 a4 a5 b1 b2 b3 b4 b5 ((w.alloc (Obj.cells #[.string a1, .string a2, .string a3, .string a4, .string a5] 23)).alloc (Obj.cells #[.string b1, .string b2, .string b3, .string b4, .string b5] 23)).drew from by
    have h1 := Q5.alloc w (.string a1) (.string a2) (.string a3) (.string a4) (.string a5) 23
    have h2 := Q5.alloc (w.alloc (Obj.cells #[.string a1, .string a2, .string a3, .string a4, .string a5] 23)) (.string b1) (.string b2) (.string b3) (.string b4) (.string b5) 23
    rw [World.size_alloc] at h2
    have g1 := Gb.alloc w (Obj.cells #[.string a1, .string a2, .string a3, .string a4, .string a5] 23)
    have g2 := Gb.alloc (w.alloc (Obj.cells #[.string a1, .string a2, .string a3, .string a4, .string a5] 23)) (Obj.cells #[.string b1, .string b2, .string b3, .string b4, .string b5] 23)
    have g3 := Gb.drew ((w.alloc (Obj.cells #[.string a1, .string a2, .string a3, .string a4, .string a5] 23)).alloc (Obj.cells #[.string b1, .string b2, .string b3, .string b4, .string b5] 23))
    exact ⟨(h1.below g2.b).below g3.b, h2.below g3.b, (g1.trans g2).trans g3, by show w.heap.size + 2 ≤ ((w.alloc (Obj.cells #[.string a1, .string a2, .string a3, .string a4, .string a5] 23)).alloc (Obj.cells #[.string b1, .string b2, .string b3, .string b4, .string b5] 23)).heap.size; simp⟩)
  have HF := Lib.hid fields_any
  go_enter Try.func12, Try.ntmps12
  go_upto_region 1 with fail
  go_cut [5, 6] from 8 (fun x y wx => ∃ p q, x = .pointer (some ⟨p, 0, none⟩) ∧ y = .pointer (some ⟨q, 0, none⟩) ∧ Flds w a1 a2 a3 a4 a5 b1 b2 b3 b4 b5 p q wx)
  case first =>
    refine gk_region (fun x => Two w w.heap.size a1 a2 a3 a4 a5 b1 b2 b3 b4 b5 x) (fun _ => false) (by kernel_rfl) ?_
    have HT0 := HT
    clear HT
    generalize ((w.alloc (Obj.cells #[.string a1, .string a2, .string a3, .string a4, .string a5] 23)).alloc (Obj.cells #[.string b1, .string b2, .string b3, .string b4, .string b5] 23)).drew = x0 at *
    refine gk_take (i := 0) (v := ?_) rfl (by kernel_rfl) (by kernel_rfl) (by kernel_rfl) (by kernel_rfl) (fun _ _ _ h => h) (Or.inl ⟨by kernel_rfl, ?_⟩) HT0.out ?_
    rotate_left
    · ((intro x hx; have x0 := hx.a.c0; have x1 := hx.a.c1; have x2 := hx.a.c2; have x3 := hx.a.c3; have x4 := hx.a.c4; go_simp) <;> with_reducible rfl)
    try simp only [Act.put, List.setIfInBounds_toArray, List.set_cons_zero, List.set_cons_succ]
    refine gk_take (i := 2) (v := ?_) rfl (by kernel_rfl) (by kernel_rfl) (by kernel_rfl) (by kernel_rfl) (fun _ _ _ h => h) (Or.inl ⟨by kernel_rfl, ?_⟩) HT0.out ?_
    rotate_left
    · ((intro x hx; have x0 := hx.b.c0; have x1 := hx.b.c1; have x2 := hx.b.c2; have x3 := hx.b.c3; have x4 := hx.b.c4; go_simp) <;> with_reducible rfl)
    try simp only [Act.put, List.setIfInBounds_toArray, List.set_cons_zero, List.set_cons_succ]
    refine gk_three (i := 1) (j := 4) (m := 5) rfl rfl rfl (by kernel_rfl) (fun K hK => ?_) (fun K hK => ?_) (fun K hK => ?_)
    · go_simp
      go_at_call 37
      refine (HF.out a1 a2 a3 a4 a5 _).mono ?_
      rintro e w1 ⟨rfl, hg⟩
      have HT1 := Lib.hid (HT0.out.step hg)
      clear hg HT0
      refine hK _ _ (fun _ => HT1.out) ?_
      clear hK K
      try simp only [Act.put, List.setIfInBounds_toArray, List.set_cons_zero, List.set_cons_succ]
      refine gk_three (i := 3) (j := 4) (m := 5) rfl rfl rfl (by kernel_rfl) (fun K hK => ?_) (fun K hK => ?_) (fun K hK => ?_)
      · go_simp
        go_at_call 37
        refine (HF.out b1 b2 b3 b4 b5 _).mono ?_
        rintro e w2 ⟨rfl, hg⟩
        have HT2 := Lib.hid (HT1.out.step hg)
        clear hg HT1
        refine hK _ _ (fun _ => HT2.out) ?_
        clear hK K
        try simp only [Act.put, List.setIfInBounds_toArray, List.set_cons_zero, List.set_cons_succ]
        refine gk_two (i := 4) (j := 5) rfl rfl (by kernel_rfl) (fun K hK => ?_) (fun K hK => ?_)
        · go_simp
          have ha := Gb.alloc w2 (Obj.cells #[.string ⟨#[]⟩, .string ⟨#[]⟩, .string ⟨#[]⟩, .string ⟨#[]⟩, .string ⟨#[]⟩] 53)
          have hs3 := HT2.out.s
          have HT3 := Lib.hid (HT2.out.step ha)
          have HX3 := Lib.hid (show Q5 (w2.alloc (Obj.cells #[.string ⟨#[]⟩, .string ⟨#[]⟩, .string ⟨#[]⟩, .string ⟨#[]⟩, .string ⟨#[]⟩] 53)) w2.heap.size (.string ⟨#[]⟩) (.string ⟨#[]⟩) (.string ⟨#[]⟩) (.string ⟨#[]⟩) (.string ⟨#[]⟩) from Q5.alloc w2 (.string ⟨#[]⟩) (.string ⟨#[]⟩) (.string ⟨#[]⟩) (.string ⟨#[]⟩) (.string ⟨#[]⟩) 53)
          clear ha HT2
          refine hK _ _ (fun _ => HT3.out) ?_
          clear hK K
          try simp only [Act.put, List.setIfInBounds_toArray, List.set_cons_zero, List.set_cons_succ]
          generalize w2.alloc (Obj.cells #[.string ⟨#[]⟩, .string ⟨#[]⟩, .string ⟨#[]⟩, .string ⟨#[]⟩, .string ⟨#[]⟩] 53) = w3 at *
          generalize w2.heap.size = p3 at *
          refine gk_one (i := 5) rfl (by kernel_rfl) (fun K hK => ?_)
          go_simp
          have ha := Gb.alloc w3 (Obj.cells #[.string ⟨#[]⟩, .string ⟨#[]⟩, .string ⟨#[]⟩, .string ⟨#[]⟩, .string ⟨#[]⟩] 53)
          have hs4 := HT3.out.s
          have hl4 := HX3.out.lt
          have HT4 := Lib.hid (HT3.out.step ha)
          have HX4 := Lib.hid (HX3.out.below ha.b)
          have HY4 := Lib.hid (show Q5 (w3.alloc (Obj.cells #[.string ⟨#[]⟩, .string ⟨#[]⟩, .string ⟨#[]⟩, .string ⟨#[]⟩, .string ⟨#[]⟩] 53)) w3.heap.size (.string ⟨#[]⟩) (.string ⟨#[]⟩) (.string ⟨#[]⟩) (.string ⟨#[]⟩) (.string ⟨#[]⟩) from Q5.alloc w3 (.string ⟨#[]⟩) (.string ⟨#[]⟩) (.string ⟨#[]⟩) (.string ⟨#[]⟩) (.string ⟨#[]⟩) 53)
          clear ha HT3 HX3
          refine hK _ _ (fun _ => HT4.out) ?_
          clear hK K
          try simp only [Act.put, List.setIfInBounds_toArray, List.set_cons_zero, List.set_cons_succ]
          generalize w3.alloc (Obj.cells #[.string ⟨#[]⟩, .string ⟨#[]⟩, .string ⟨#[]⟩, .string ⟨#[]⟩, .string ⟨#[]⟩] 53) = w4 at *
          generalize w3.heap.size = p4 at *
          refine gk_one (i := 6) rfl (by kernel_rfl) (fun K hK => ?_)
          have f0 := HX4.out.f0
          have f1 := HX4.out.f1
          have f2 := HX4.out.f2
          have f3 := HX4.out.f3
          have f4 := HX4.out.f4
          have c0 := HX4.out.c0
          have c1 := HX4.out.c1
          have c2 := HX4.out.c2
          have c3 := HX4.out.c3
          have c4 := HX4.out.c4
          go_simp
          clear f0 f1 f2 f3 f4 c0 c1 c2 c3 c4
          have HT5 := Lib.hid (HT4.out.fill (Nat.le_refl _) (p := p3) (by omega) (.string a1) (.string a2) (.string a3) (.string a4) (.string a5))
          have HX5 := Lib.hid (HX4.out.fill (.string a1) (.string a2) (.string a3) (.string a4) (.string a5))
          have HY5 := Lib.hid (HY4.out.fillFar (B' := p3) (by omega) (.string a1) (.string a2) (.string a3) (.string a4) (.string a5))
          clear HT4 HX4 HY4
          refine hK _ _ (fun _ => HT5.out) ?_
          clear hK K
          try simp only [Act.put, List.setIfInBounds_toArray, List.set_cons_zero, List.set_cons_succ]
          refine gk_one (i := 7) rfl (by kernel_rfl) (fun K hK => ?_)
          have f0 := HY5.out.f0
          have f1 := HY5.out.f1
          have f2 := HY5.out.f2
          have f3 := HY5.out.f3
          have f4 := HY5.out.f4
          have c0 := HY5.out.c0
          have c1 := HY5.out.c1
          have c2 := HY5.out.c2
          have c3 := HY5.out.c3
          have c4 := HY5.out.c4
          go_simp
          clear f0 f1 f2 f3 f4 c0 c1 c2 c3 c4
          have HT6 := Lib.hid (HT5.out.fill (Nat.le_refl _) (p := p4) (by omega) (.string b1) (.string b2) (.string b3) (.string b4) (.string b5))
          have HY6 := Lib.hid (HY5.out.fill (.string b1) (.string b2) (.string b3) (.string b4) (.string b5))
          have HX6 := Lib.hid (HX5.out.fillFar (B' := p4) (by omega) (.string b1) (.string b2) (.string b3) (.string b4) (.string b5))
          clear HT5 HX5 HY5
          refine hK _ _ (fun _ => HT6.out) ?_
          clear hK K
          try simp only [Act.put, List.setIfInBounds_toArray, List.set_cons_zero, List.set_cons_succ]
          refine gk_done (by kernel_rfl) ?_ _
          try simp only [Act.put, List.setIfInBounds_toArray, List.set_cons_zero, List.set_cons_succ]
          go_wp2_with fail
          go_meet
          exact ⟨p3, p4, rfl, rfl, HX6.out, HY6.out, HT6.out.g⟩
        · go_simp
          have ha := Gb.alloc w2 (Obj.cells #[.string ⟨#[]⟩, .string ⟨#[]⟩, .string ⟨#[]⟩, .string ⟨#[]⟩, .string ⟨#[]⟩] 53)
          have hs7 := HT2.out.s
          have HT7 := Lib.hid (HT2.out.step ha)
          have HY7 := Lib.hid (show Q5 (w2.alloc (Obj.cells #[.string ⟨#[]⟩, .string ⟨#[]⟩, .string ⟨#[]⟩, .string ⟨#[]⟩, .string ⟨#[]⟩] 53)) w2.heap.size (.string ⟨#[]⟩) (.string ⟨#[]⟩) (.string ⟨#[]⟩) (.string ⟨#[]⟩) (.string ⟨#[]⟩) from Q5.alloc w2 (.string ⟨#[]⟩) (.string ⟨#[]⟩) (.string ⟨#[]⟩) (.string ⟨#[]⟩) (.string ⟨#[]⟩) 53)
          clear ha HT2
          refine hK _ _ (fun _ => HT7.out) ?_
          clear hK K
          try simp only [Act.put, List.setIfInBounds_toArray, List.set_cons_zero, List.set_cons_succ]
          generalize w2.alloc (Obj.cells #[.string ⟨#[]⟩, .string ⟨#[]⟩, .string ⟨#[]⟩, .string ⟨#[]⟩, .string ⟨#[]⟩] 53) = w7 at *
          generalize w2.heap.size = p7 at *
          refine gk_one (i := 4) rfl (by kernel_rfl) (fun K hK => ?_)
          go_simp
          have ha := Gb.alloc w7 (Obj.cells #[.string ⟨#[]⟩, .string ⟨#[]⟩, .string ⟨#[]⟩, .string ⟨#[]⟩, .string ⟨#[]⟩] 53)
          have hs8 := HT7.out.s
          have hl8 := HY7.out.lt
          have HT8 := Lib.hid (HT7.out.step ha)
          have HY8 := Lib.hid (HY7.out.below ha.b)
          have HX8 := Lib.hid (show Q5 (w7.alloc (Obj.cells #[.string ⟨#[]⟩, .string ⟨#[]⟩, .string ⟨#[]⟩, .string ⟨#[]⟩, .string ⟨#[]⟩] 53)) w7.heap.size (.string ⟨#[]⟩) (.string ⟨#[]⟩) (.string ⟨#[]⟩) (.string ⟨#[]⟩) (.string ⟨#[]⟩) from Q5.alloc w7 (.string ⟨#[]⟩) (.string ⟨#[]⟩) (.string ⟨#[]⟩) (.string ⟨#[]⟩) (.string ⟨#[]⟩) 53)
          clear ha HT7 HY7
          refine hK _ _ (fun _ => HT8.out) ?_
          clear hK K
          try simp only [Act.put, List.setIfInBounds_toArray, List.set_cons_zero, List.set_cons_succ]
          generalize w7.alloc (Obj.cells #[.string ⟨#[]⟩, .string ⟨#[]⟩, .string ⟨#[]⟩, .string ⟨#[]⟩, .string ⟨#[]⟩] 53) = w8 at *
          generalize w7.heap.size = p8 at *
          refine gk_one (i := 6) rfl (by kernel_rfl) (fun K hK => ?_)
          have f0 := HX8.out.f0
          have f1 := HX8.out.f1
          have f2 := HX8.out.f2
          have f3 := HX8.out.f3
          have f4 := HX8.out.f4
          have c0 := HX8.out.c0
          have c1 := HX8.out.c1
          have c2 := HX8.out.c2
          have c3 := HX8.out.c3
          have c4 := HX8.out.c4
          go_simp
          clear f0 f1 f2 f3 f4 c0 c1 c2 c3 c4
          have HT9 := Lib.hid (HT8.out.fill (Nat.le_refl _) (p := p8) (by omega) (.string a1) (.string a2) (.string a3) (.string a4) (.string a5))
          have HX9 := Lib.hid (HX8.out.fill (.string a1) (.string a2) (.string a3) (.string a4) (.string a5))
          have HY9 := Lib.hid (HY8.out.fillFar (B' := p8) (by omega) (.string a1) (.string a2) (.string a3) (.string a4) (.string a5))
          clear HT8 HX8 HY8
          refine hK _ _ (fun _ => HT9.out) ?_
          clear hK K
          try simp only [Act.put, List.setIfInBounds_toArray, List.set_cons_zero, List.set_cons_succ]
          refine gk_one (i := 7) rfl (by kernel_rfl) (fun K hK => ?_)
          have f0 := HY9.out.f0
          have f1 := HY9.out.f1
          have f2 := HY9.out.f2
          have f3 := HY9.out.f3
          have f4 := HY9.out.f4
          have c0 := HY9.out.c0
          have c1 := HY9.out.c1
          have c2 := HY9.out.c2
          have c3 := HY9.out.c3
          have c4 := HY9.out.c4
          go_simp
          clear f0 f1 f2 f3 f4 c0 c1 c2 c3 c4
          have HT10 := Lib.hid (HT9.out.fill (Nat.le_refl _) (p := p7) (by omega) (.string b1) (.string b2) (.string b3) (.string b4) (.string b5))
          have HY10 := Lib.hid (HY9.out.fill (.string b1) (.string b2) (.string b3) (.string b4) (.string b5))
          have HX10 := Lib.hid (HX9.out.fillFar (B' := p7) (by omega) (.string b1) (.string b2) (.string b3) (.string b4) (.string b5))
          clear HT9 HX9 HY9
          refine hK _ _ (fun _ => HT10.out) ?_
          clear hK K
          try simp only [Act.put, List.setIfInBounds_toArray, List.set_cons_zero, List.set_cons_succ]
          refine gk_done (by kernel_rfl) ?_ _
          try simp only [Act.put, List.setIfInBounds_toArray, List.set_cons_zero, List.set_cons_succ]
          go_wp2_with fail
          go_meet
          exact ⟨p8, p7, rfl, rfl, HX10.out, HY10.out, HT10.out.g⟩
      · go_simp
        have ha := Gb.alloc w1 (Obj.cells #[.string ⟨#[]⟩, .string ⟨#[]⟩, .string ⟨#[]⟩, .string ⟨#[]⟩, .string ⟨#[]⟩] 53)
        have hs11 := HT1.out.s
        have HT11 := Lib.hid (HT1.out.step ha)
        have HX11 := Lib.hid (show Q5 (w1.alloc (Obj.cells #[.string ⟨#[]⟩, .string ⟨#[]⟩, .string ⟨#[]⟩, .string ⟨#[]⟩, .string ⟨#[]⟩] 53)) w1.heap.size (.string ⟨#[]⟩) (.string ⟨#[]⟩) (.string ⟨#[]⟩) (.string ⟨#[]⟩) (.string ⟨#[]⟩) from Q5.alloc w1 (.string ⟨#[]⟩) (.string ⟨#[]⟩) (.string ⟨#[]⟩) (.string ⟨#[]⟩) (.string ⟨#[]⟩) 53)
        clear ha HT1
        refine hK _ _ (fun _ => HT11.out) ?_
        clear hK K
        try simp only [Act.put, List.setIfInBounds_toArray, List.set_cons_zero, List.set_cons_succ]
        generalize w1.alloc (Obj.cells #[.string ⟨#[]⟩, .string ⟨#[]⟩, .string ⟨#[]⟩, .string ⟨#[]⟩, .string ⟨#[]⟩] 53) = w11 at *
        generalize w1.heap.size = p11 at *
        refine gk_two (i := 3) (j := 5) rfl rfl (by kernel_rfl) (fun K hK => ?_) (fun K hK => ?_)
        · go_simp
          go_at_call 37
          refine (HF.out b1 b2 b3 b4 b5 _).mono ?_
          rintro e w12 ⟨rfl, hg⟩
          have HT12 := Lib.hid (HT11.out.step hg)
          have HX12 := Lib.hid (HX11.out.below hg.b)
          clear hg HT11 HX11
          refine hK _ _ (fun _ => HT12.out) ?_
          clear hK K
          try simp only [Act.put, List.setIfInBounds_toArray, List.set_cons_zero, List.set_cons_succ]
          refine gk_one (i := 5) rfl (by kernel_rfl) (fun K hK => ?_)
          go_simp
          have ha := Gb.alloc w12 (Obj.cells #[.string ⟨#[]⟩, .string ⟨#[]⟩, .string ⟨#[]⟩, .string ⟨#[]⟩, .string ⟨#[]⟩] 53)
          have hs13 := HT12.out.s
          have hl13 := HX12.out.lt
          have HT13 := Lib.hid (HT12.out.step ha)
          have HX13 := Lib.hid (HX12.out.below ha.b)
          have HY13 := Lib.hid (show Q5 (w12.alloc (Obj.cells #[.string ⟨#[]⟩, .string ⟨#[]⟩, .string ⟨#[]⟩, .string ⟨#[]⟩, .string ⟨#[]⟩] 53)) w12.heap.size (.string ⟨#[]⟩) (.string ⟨#[]⟩) (.string ⟨#[]⟩) (.string ⟨#[]⟩) (.string ⟨#[]⟩) from Q5.alloc w12 (.string ⟨#[]⟩) (.string ⟨#[]⟩) (.string ⟨#[]⟩) (.string ⟨#[]⟩) (.string ⟨#[]⟩) 53)
          clear ha HT12 HX12
          refine hK _ _ (fun _ => HT13.out) ?_
          clear hK K
          try simp only [Act.put, List.setIfInBounds_toArray, List.set_cons_zero, List.set_cons_succ]
          generalize w12.alloc (Obj.cells #[.string ⟨#[]⟩, .string ⟨#[]⟩, .string ⟨#[]⟩, .string ⟨#[]⟩, .string ⟨#[]⟩] 53) = w13 at *
          generalize w12.heap.size = p13 at *
          refine gk_one (i := 6) rfl (by kernel_rfl) (fun K hK => ?_)
          have f0 := HX13.out.f0
          have f1 := HX13.out.f1
          have f2 := HX13.out.f2
          have f3 := HX13.out.f3
          have f4 := HX13.out.f4
          have c0 := HX13.out.c0
          have c1 := HX13.out.c1
          have c2 := HX13.out.c2
          have c3 := HX13.out.c3
          have c4 := HX13.out.c4
          go_simp
          clear f0 f1 f2 f3 f4 c0 c1 c2 c3 c4
          have HT14 := Lib.hid (HT13.out.fill (Nat.le_refl _) (p := p11) (by omega) (.string a1) (.string a2) (.string a3) (.string a4) (.string a5))
          have HX14 := Lib.hid (HX13.out.fill (.string a1) (.string a2) (.string a3) (.string a4) (.string a5))
          have HY14 := Lib.hid (HY13.out.fillFar (B' := p11) (by omega) (.string a1) (.string a2) (.string a3) (.string a4) (.string a5))
          clear HT13 HX13 HY13
          refine hK _ _ (fun _ => HT14.out) ?_
          clear hK K
          try simp only [Act.put, List.setIfInBounds_toArray, List.set_cons_zero, List.set_cons_succ]
          refine gk_one (i := 7) rfl (by kernel_rfl) (fun K hK => ?_)
          have f0 := HY14.out.f0
          have f1 := HY14.out.f1
          have f2 := HY14.out.f2
          have f3 := HY14.out.f3
          have f4 := HY14.out.f4
          have c0 := HY14.out.c0
          have c1 := HY14.out.c1
          have c2 := HY14.out.c2
          have c3 := HY14.out.c3
          have c4 := HY14.out.c4
          go_simp
          clear f0 f1 f2 f3 f4 c0 c1 c2 c3 c4
          have HT15 := Lib.hid (HT14.out.fill (Nat.le_refl _) (p := p13) (by omega) (.string b1) (.string b2) (.string b3) (.string b4) (.string b5))
          have HY15 := Lib.hid (HY14.out.fill (.string b1) (.string b2) (.string b3) (.string b4) (.string b5))
          have HX15 := Lib.hid (HX14.out.fillFar (B' := p13) (by omega) (.string b1) (.string b2) (.string b3) (.string b4) (.string b5))
          clear HT14 HX14 HY14
          refine hK _ _ (fun _ => HT15.out) ?_
          clear hK K
          try simp only [Act.put, List.setIfInBounds_toArray, List.set_cons_zero, List.set_cons_succ]
          refine gk_done (by kernel_rfl) ?_ _
          try simp only [Act.put, List.setIfInBounds_toArray, List.set_cons_zero, List.set_cons_succ]
          go_wp2_with fail
          go_meet
          exact ⟨p11, p13, rfl, rfl, HX15.out, HY15.out, HT15.out.g⟩
        · go_simp
          have ha := Gb.alloc w11 (Obj.cells #[.string ⟨#[]⟩, .string ⟨#[]⟩, .string ⟨#[]⟩, .string ⟨#[]⟩, .string ⟨#[]⟩] 53)
          have hs16 := HT11.out.s
          have hl16 := HX11.out.lt
          have HT16 := Lib.hid (HT11.out.step ha)
          have HX16 := Lib.hid (HX11.out.below ha.b)
          have HY16 := Lib.hid (show Q5 (w11.alloc (Obj.cells #[.string ⟨#[]⟩, .string ⟨#[]⟩, .string ⟨#[]⟩, .string ⟨#[]⟩, .string ⟨#[]⟩] 53)) w11.heap.size (.string ⟨#[]⟩) (.string ⟨#[]⟩) (.string ⟨#[]⟩) (.string ⟨#[]⟩) (.string ⟨#[]⟩) from Q5.alloc w11 (.string ⟨#[]⟩) (.string ⟨#[]⟩) (.string ⟨#[]⟩) (.string ⟨#[]⟩) (.string ⟨#[]⟩) 53)
          clear ha HT11 HX11
          refine hK _ _ (fun _ => HT16.out) ?_
          clear hK K
          try simp only [Act.put, List.setIfInBounds_toArray, List.set_cons_zero, List.set_cons_succ]
          generalize w11.alloc (Obj.cells #[.string ⟨#[]⟩, .string ⟨#[]⟩, .string ⟨#[]⟩, .string ⟨#[]⟩, .string ⟨#[]⟩] 53) = w16 at *
          generalize w11.heap.size = p16 at *
          refine gk_one (i := 3) rfl (by kernel_rfl) (fun K hK => ?_)
          go_simp
          go_at_call 37
          refine (HF.out b1 b2 b3 b4 b5 _).mono ?_
          rintro e w17 ⟨rfl, hg⟩
          have HT17 := Lib.hid (HT16.out.step hg)
          have HX17 := Lib.hid (HX16.out.below hg.b)
          have HY17 := Lib.hid (HY16.out.below hg.b)
          clear hg HT16 HX16 HY16
          refine hK _ _ (fun _ => HT17.out) ?_
          clear hK K
          try simp only [Act.put, List.setIfInBounds_toArray, List.set_cons_zero, List.set_cons_succ]
          refine gk_one (i := 6) rfl (by kernel_rfl) (fun K hK => ?_)
          have f0 := HX17.out.f0
          have f1 := HX17.out.f1
          have f2 := HX17.out.f2
          have f3 := HX17.out.f3
          have f4 := HX17.out.f4
          have c0 := HX17.out.c0
          have c1 := HX17.out.c1
          have c2 := HX17.out.c2
          have c3 := HX17.out.c3
          have c4 := HX17.out.c4
          go_simp
          clear f0 f1 f2 f3 f4 c0 c1 c2 c3 c4
          have HT18 := Lib.hid (HT17.out.fill (Nat.le_refl _) (p := p11) (by omega) (.string a1) (.string a2) (.string a3) (.string a4) (.string a5))
          have HX18 := Lib.hid (HX17.out.fill (.string a1) (.string a2) (.string a3) (.string a4) (.string a5))
          have HY18 := Lib.hid (HY17.out.fillFar (B' := p11) (by omega) (.string a1) (.string a2) (.string a3) (.string a4) (.string a5))
          clear HT17 HX17 HY17
          refine hK _ _ (fun _ => HT18.out) ?_
          clear hK K
          try simp only [Act.put, List.setIfInBounds_toArray, List.set_cons_zero, List.set_cons_succ]
          refine gk_one (i := 7) rfl (by kernel_rfl) (fun K hK => ?_)
          have f0 := HY18.out.f0
          have f1 := HY18.out.f1
          have f2 := HY18.out.f2
          have f3 := HY18.out.f3
          have f4 := HY18.out.f4
          have c0 := HY18.out.c0
          have c1 := HY18.out.c1
          have c2 := HY18.out.c2
          have c3 := HY18.out.c3
          have c4 := HY18.out.c4
          go_simp
          clear f0 f1 f2 f3 f4 c0 c1 c2 c3 c4
          have HT19 := Lib.hid (HT18.out.fill (Nat.le_refl _) (p := p16) (by omega) (.string b1) (.string b2) (.string b3) (.string b4) (.string b5))
          have HY19 := Lib.hid (HY18.out.fill (.string b1) (.string b2) (.string b3) (.string b4) (.string b5))
          have HX19 := Lib.hid (HX18.out.fillFar (B' := p16) (by omega) (.string b1) (.string b2) (.string b3) (.string b4) (.string b5))
          clear HT18 HX18 HY18
          refine hK _ _ (fun _ => HT19.out) ?_
          clear hK K
          try simp only [Act.put, List.setIfInBounds_toArray, List.set_cons_zero, List.set_cons_succ]
          refine gk_done (by kernel_rfl) ?_ _
          try simp only [Act.put, List.setIfInBounds_toArray, List.set_cons_zero, List.set_cons_succ]
          go_wp2_with fail
          go_meet
          exact ⟨p11, p16, rfl, rfl, HX19.out, HY19.out, HT19.out.g⟩
      · go_simp
        have ha := Gb.alloc w1 (Obj.cells #[.string ⟨#[]⟩, .string ⟨#[]⟩, .string ⟨#[]⟩, .string ⟨#[]⟩, .string ⟨#[]⟩] 53)
        have hs20 := HT1.out.s
        have HT20 := Lib.hid (HT1.out.step ha)
        have HY20 := Lib.hid (show Q5 (w1.alloc (Obj.cells #[.string ⟨#[]⟩, .string ⟨#[]⟩, .string ⟨#[]⟩, .string ⟨#[]⟩, .string ⟨#[]⟩] 53)) w1.heap.size (.string ⟨#[]⟩) (.string ⟨#[]⟩) (.string ⟨#[]⟩) (.string ⟨#[]⟩) (.string ⟨#[]⟩) from Q5.alloc w1 (.string ⟨#[]⟩) (.string ⟨#[]⟩) (.string ⟨#[]⟩) (.string ⟨#[]⟩) (.string ⟨#[]⟩) 53)
        clear ha HT1
        refine hK _ _ (fun _ => HT20.out) ?_
        clear hK K
        try simp only [Act.put, List.setIfInBounds_toArray, List.set_cons_zero, List.set_cons_succ]
        generalize w1.alloc (Obj.cells #[.string ⟨#[]⟩, .string ⟨#[]⟩, .string ⟨#[]⟩, .string ⟨#[]⟩, .string ⟨#[]⟩] 53) = w20 at *
        generalize w1.heap.size = p20 at *
        refine gk_two (i := 3) (j := 4) rfl rfl (by kernel_rfl) (fun K hK => ?_) (fun K hK => ?_)
        · go_simp
          go_at_call 37
          refine (HF.out b1 b2 b3 b4 b5 _).mono ?_
          rintro e w21 ⟨rfl, hg⟩
          have HT21 := Lib.hid (HT20.out.step hg)
          have HY21 := Lib.hid (HY20.out.below hg.b)
          clear hg HT20 HY20
          refine hK _ _ (fun _ => HT21.out) ?_
          clear hK K
          try simp only [Act.put, List.setIfInBounds_toArray, List.set_cons_zero, List.set_cons_succ]
          refine gk_one (i := 4) rfl (by kernel_rfl) (fun K hK => ?_)
          go_simp
          have ha := Gb.alloc w21 (Obj.cells #[.string ⟨#[]⟩, .string ⟨#[]⟩, .string ⟨#[]⟩, .string ⟨#[]⟩, .string ⟨#[]⟩] 53)
          have hs22 := HT21.out.s
          have hl22 := HY21.out.lt
          have HT22 := Lib.hid (HT21.out.step ha)
          have HY22 := Lib.hid (HY21.out.below ha.b)
          have HX22 := Lib.hid (show Q5 (w21.alloc (Obj.cells #[.string ⟨#[]⟩, .string ⟨#[]⟩, .string ⟨#[]⟩, .string ⟨#[]⟩, .string ⟨#[]⟩] 53)) w21.heap.size (.string ⟨#[]⟩) (.string ⟨#[]⟩) (.string ⟨#[]⟩) (.string ⟨#[]⟩) (.string ⟨#[]⟩) from Q5.alloc w21 (.string ⟨#[]⟩) (.string ⟨#[]⟩) (.string ⟨#[]⟩) (.string ⟨#[]⟩) (.string ⟨#[]⟩) 53)
          clear ha HT21 HY21
          refine hK _ _ (fun _ => HT22.out) ?_
          clear hK K
          try simp only [Act.put, List.setIfInBounds_toArray, List.set_cons_zero, List.set_cons_succ]
          generalize w21.alloc (Obj.cells #[.string ⟨#[]⟩, .string ⟨#[]⟩, .string ⟨#[]⟩, .string ⟨#[]⟩, .string ⟨#[]⟩] 53) = w22 at *
          generalize w21.heap.size = p22 at *
          refine gk_one (i := 6) rfl (by kernel_rfl) (fun K hK => ?_)
          have f0 := HX22.out.f0
          have f1 := HX22.out.f1
          have f2 := HX22.out.f2
          have f3 := HX22.out.f3
          have f4 := HX22.out.f4
          have c0 := HX22.out.c0
          have c1 := HX22.out.c1
          have c2 := HX22.out.c2
          have c3 := HX22.out.c3
          have c4 := HX22.out.c4
          go_simp
          clear f0 f1 f2 f3 f4 c0 c1 c2 c3 c4
          have HT23 := Lib.hid (HT22.out.fill (Nat.le_refl _) (p := p22) (by omega) (.string a1) (.string a2) (.string a3) (.string a4) (.string a5))
          have HX23 := Lib.hid (HX22.out.fill (.string a1) (.string a2) (.string a3) (.string a4) (.string a5))
          have HY23 := Lib.hid (HY22.out.fillFar (B' := p22) (by omega) (.string a1) (.string a2) (.string a3) (.string a4) (.string a5))
          clear HT22 HX22 HY22
          refine hK _ _ (fun _ => HT23.out) ?_
          clear hK K
          try simp only [Act.put, List.setIfInBounds_toArray, List.set_cons_zero, List.set_cons_succ]
          refine gk_one (i := 7) rfl (by kernel_rfl) (fun K hK => ?_)
          have f0 := HY23.out.f0
          have f1 := HY23.out.f1
          have f2 := HY23.out.f2
          have f3 := HY23.out.f3
          have f4 := HY23.out.f4
          have c0 := HY23.out.c0
          have c1 := HY23.out.c1
          have c2 := HY23.out.c2
          have c3 := HY23.out.c3
          have c4 := HY23.out.c4
          go_simp
          clear f0 f1 f2 f3 f4 c0 c1 c2 c3 c4
          have HT24 := Lib.hid (HT23.out.fill (Nat.le_refl _) (p := p20) (by omega) (.string b1) (.string b2) (.string b3) (.string b4) (.string b5))
          have HY24 := Lib.hid (HY23.out.fill (.string b1) (.string b2) (.string b3) (.string b4) (.string b5))
          have HX24 := Lib.hid (HX23.out.fillFar (B' := p20) (by omega) (.string b1) (.string b2) (.string b3) (.string b4) (.string b5))
          clear HT23 HX23 HY23
          refine hK _ _ (fun _ => HT24.out) ?_
          clear hK K
          try simp only [Act.put, List.setIfInBounds_toArray, List.set_cons_zero, List.set_cons_succ]
          refine gk_done (by kernel_rfl) ?_ _
          try simp only [Act.put, List.setIfInBounds_toArray, List.set_cons_zero, List.set_cons_succ]
          go_wp2_with fail
          go_meet
          exact ⟨p22, p20, rfl, rfl, HX24.out, HY24.out, HT24.out.g⟩
        · go_simp
          have ha := Gb.alloc w20 (Obj.cells #[.string ⟨#[]⟩, .string ⟨#[]⟩, .string ⟨#[]⟩, .string ⟨#[]⟩, .string ⟨#[]⟩] 53)
          have hs25 := HT20.out.s
          have hl25 := HY20.out.lt
          have HT25 := Lib.hid (HT20.out.step ha)
          have HY25 := Lib.hid (HY20.out.below ha.b)
          have HX25 := Lib.hid (show Q5 (w20.alloc (Obj.cells #[.string ⟨#[]⟩, .string ⟨#[]⟩, .string ⟨#[]⟩, .string ⟨#[]⟩, .string ⟨#[]⟩] 53)) w20.heap.size (.string ⟨#[]⟩) (.string ⟨#[]⟩) (.string ⟨#[]⟩) (.string ⟨#[]⟩) (.string ⟨#[]⟩) from Q5.alloc w20 (.string ⟨#[]⟩) (.string ⟨#[]⟩) (.string ⟨#[]⟩) (.string ⟨#[]⟩) (.string ⟨#[]⟩) 53)
          clear ha HT20 HY20
          refine hK _ _ (fun _ => HT25.out) ?_
          clear hK K
          try simp only [Act.put, List.setIfInBounds_toArray, List.set_cons_zero, List.set_cons_succ]
          generalize w20.alloc (Obj.cells #[.string ⟨#[]⟩, .string ⟨#[]⟩, .string ⟨#[]⟩, .string ⟨#[]⟩, .string ⟨#[]⟩] 53) = w25 at *
          generalize w20.heap.size = p25 at *
          refine gk_one (i := 3) rfl (by kernel_rfl) (fun K hK => ?_)
          go_simp
          go_at_call 37
          refine (HF.out b1 b2 b3 b4 b5 _).mono ?_
          rintro e w26 ⟨rfl, hg⟩
          have HT26 := Lib.hid (HT25.out.step hg)
          have HX26 := Lib.hid (HX25.out.below hg.b)
          have HY26 := Lib.hid (HY25.out.below hg.b)
          clear hg HT25 HX25 HY25
          refine hK _ _ (fun _ => HT26.out) ?_
          clear hK K
          try simp only [Act.put, List.setIfInBounds_toArray, List.set_cons_zero, List.set_cons_succ]
          refine gk_one (i := 6) rfl (by kernel_rfl) (fun K hK => ?_)
          have f0 := HX26.out.f0
          have f1 := HX26.out.f1
          have f2 := HX26.out.f2
          have f3 := HX26.out.f3
          have f4 := HX26.out.f4
          have c0 := HX26.out.c0
          have c1 := HX26.out.c1
          have c2 := HX26.out.c2
          have c3 := HX26.out.c3
          have c4 := HX26.out.c4
          go_simp
          clear f0 f1 f2 f3 f4 c0 c1 c2 c3 c4
          have HT27 := Lib.hid (HT26.out.fill (Nat.le_refl _) (p := p25) (by omega) (.string a1) (.string a2) (.string a3) (.string a4) (.string a5))
          have HX27 := Lib.hid (HX26.out.fill (.string a1) (.string a2) (.string a3) (.string a4) (.string a5))
          have HY27 := Lib.hid (HY26.out.fillFar (B' := p25) (by omega) (.string a1) (.string a2) (.string a3) (.string a4) (.string a5))
          clear HT26 HX26 HY26
          refine hK _ _ (fun _ => HT27.out) ?_
          clear hK K
          try simp only [Act.put, List.setIfInBounds_toArray, List.set_cons_zero, List.set_cons_succ]
          refine gk_one (i := 7) rfl (by kernel_rfl) (fun K hK => ?_)
          have f0 := HY27.out.f0
          have f1 := HY27.out.f1
          have f2 := HY27.out.f2
          have f3 := HY27.out.f3
          have f4 := HY27.out.f4
          have c0 := HY27.out.c0
          have c1 := HY27.out.c1
          have c2 := HY27.out.c2
          have c3 := HY27.out.c3
          have c4 := HY27.out.c4
          go_simp
          clear f0 f1 f2 f3 f4 c0 c1 c2 c3 c4
          have HT28 := Lib.hid (HT27.out.fill (Nat.le_refl _) (p := p20) (by omega) (.string b1) (.string b2) (.string b3) (.string b4) (.string b5))
          have HY28 := Lib.hid (HY27.out.fill (.string b1) (.string b2) (.string b3) (.string b4) (.string b5))
          have HX28 := Lib.hid (HX27.out.fillFar (B' := p20) (by omega) (.string b1) (.string b2) (.string b3) (.string b4) (.string b5))
          clear HT27 HX27 HY27
          refine hK _ _ (fun _ => HT28.out) ?_
          clear hK K
          try simp only [Act.put, List.setIfInBounds_toArray, List.set_cons_zero, List.set_cons_succ]
          refine gk_done (by kernel_rfl) ?_ _
          try simp only [Act.put, List.setIfInBounds_toArray, List.set_cons_zero, List.set_cons_succ]
          go_wp2_with fail
          go_meet
          exact ⟨p25, p20, rfl, rfl, HX28.out, HY28.out, HT28.out.g⟩
    · go_simp
      have ha := Gb.alloc x0 (Obj.cells #[.string ⟨#[]⟩, .string ⟨#[]⟩, .string ⟨#[]⟩, .string ⟨#[]⟩, .string ⟨#[]⟩] 53)
      have hs29 := HT0.out.s
      have HT29 := Lib.hid (HT0.out.step ha)
      have HX29 := Lib.hid (show Q5 (x0.alloc (Obj.cells #[.string ⟨#[]⟩, .string ⟨#[]⟩, .string ⟨#[]⟩, .string ⟨#[]⟩, .string ⟨#[]⟩] 53)) x0.heap.size (.string ⟨#[]⟩) (.string ⟨#[]⟩) (.string ⟨#[]⟩) (.string ⟨#[]⟩) (.string ⟨#[]⟩) from Q5.alloc x0 (.string ⟨#[]⟩) (.string ⟨#[]⟩) (.string ⟨#[]⟩) (.string ⟨#[]⟩) (.string ⟨#[]⟩) 53)
      clear ha HT0
      refine hK _ _ (fun _ => HT29.out) ?_
      clear hK K
      try simp only [Act.put, List.setIfInBounds_toArray, List.set_cons_zero, List.set_cons_succ]
      generalize x0.alloc (Obj.cells #[.string ⟨#[]⟩, .string ⟨#[]⟩, .string ⟨#[]⟩, .string ⟨#[]⟩, .string ⟨#[]⟩] 53) = w29 at *
      generalize x0.heap.size = p29 at *
      refine gk_two (i := 1) (j := 5) rfl rfl (by kernel_rfl) (fun K hK => ?_) (fun K hK => ?_)
      · go_simp
        go_at_call 37
        refine (HF.out a1 a2 a3 a4 a5 _).mono ?_
        rintro e w30 ⟨rfl, hg⟩
        have HT30 := Lib.hid (HT29.out.step hg)
        have HX30 := Lib.hid (HX29.out.below hg.b)
        clear hg HT29 HX29
        refine hK _ _ (fun _ => HT30.out) ?_
        clear hK K
        try simp only [Act.put, List.setIfInBounds_toArray, List.set_cons_zero, List.set_cons_succ]
        refine gk_two (i := 3) (j := 5) rfl rfl (by kernel_rfl) (fun K hK => ?_) (fun K hK => ?_)
        · go_simp
          go_at_call 37
          refine (HF.out b1 b2 b3 b4 b5 _).mono ?_
          rintro e w31 ⟨rfl, hg⟩
          have HT31 := Lib.hid (HT30.out.step hg)
          have HX31 := Lib.hid (HX30.out.below hg.b)
          clear hg HT30 HX30
          refine hK _ _ (fun _ => HT31.out) ?_
          clear hK K
          try simp only [Act.put, List.setIfInBounds_toArray, List.set_cons_zero, List.set_cons_succ]
          refine gk_one (i := 5) rfl (by kernel_rfl) (fun K hK => ?_)
          go_simp
          have ha := Gb.alloc w31 (Obj.cells #[.string ⟨#[]⟩, .string ⟨#[]⟩, .string ⟨#[]⟩, .string ⟨#[]⟩, .string ⟨#[]⟩] 53)
          have hs32 := HT31.out.s
          have hl32 := HX31.out.lt
          have HT32 := Lib.hid (HT31.out.step ha)
          have HX32 := Lib.hid (HX31.out.below ha.b)
          have HY32 := Lib.hid (show Q5 (w31.alloc (Obj.cells #[.string ⟨#[]⟩, .string ⟨#[]⟩, .string ⟨#[]⟩, .string ⟨#[]⟩, .string ⟨#[]⟩] 53)) w31.heap.size (.string ⟨#[]⟩) (.string ⟨#[]⟩) (.string ⟨#[]⟩) (.string ⟨#[]⟩) (.string ⟨#[]⟩) from Q5.alloc w31 (.string ⟨#[]⟩) (.string ⟨#[]⟩) (.string ⟨#[]⟩) (.string ⟨#[]⟩) (.string ⟨#[]⟩) 53)
          clear ha HT31 HX31
          refine hK _ _ (fun _ => HT32.out) ?_
          clear hK K
          try simp only [Act.put, List.setIfInBounds_toArray, List.set_cons_zero, List.set_cons_succ]
          generalize w31.alloc (Obj.cells #[.string ⟨#[]⟩, .string ⟨#[]⟩, .string ⟨#[]⟩, .string ⟨#[]⟩, .string ⟨#[]⟩] 53) = w32 at *
          generalize w31.heap.size = p32 at *
          refine gk_one (i := 6) rfl (by kernel_rfl) (fun K hK => ?_)
          have f0 := HX32.out.f0
          have f1 := HX32.out.f1
          have f2 := HX32.out.f2
          have f3 := HX32.out.f3
          have f4 := HX32.out.f4
          have c0 := HX32.out.c0
          have c1 := HX32.out.c1
          have c2 := HX32.out.c2
          have c3 := HX32.out.c3
          have c4 := HX32.out.c4
          go_simp
          clear f0 f1 f2 f3 f4 c0 c1 c2 c3 c4
          have HT33 := Lib.hid (HT32.out.fill (Nat.le_refl _) (p := p29) (by omega) (.string a1) (.string a2) (.string a3) (.string a4) (.string a5))
          have HX33 := Lib.hid (HX32.out.fill (.string a1) (.string a2) (.string a3) (.string a4) (.string a5))
          have HY33 := Lib.hid (HY32.out.fillFar (B' := p29) (by omega) (.string a1) (.string a2) (.string a3) (.string a4) (.string a5))
          clear HT32 HX32 HY32
          refine hK _ _ (fun _ => HT33.out) ?_
          clear hK K
          try simp only [Act.put, List.setIfInBounds_toArray, List.set_cons_zero, List.set_cons_succ]
          refine gk_one (i := 7) rfl (by kernel_rfl) (fun K hK => ?_)
          have f0 := HY33.out.f0
          have f1 := HY33.out.f1
          have f2 := HY33.out.f2
          have f3 := HY33.out.f3
          have f4 := HY33.out.f4
          have c0 := HY33.out.c0
          have c1 := HY33.out.c1
          have c2 := HY33.out.c2
          have c3 := HY33.out.c3
          have c4 := HY33.out.c4
          go_simp
          clear f0 f1 f2 f3 f4 c0 c1 c2 c3 c4
          have HT34 := Lib.hid (HT33.out.fill (Nat.le_refl _) (p := p32) (by omega) (.string b1) (.string b2) (.string b3) (.string b4) (.string b5))
          have HY34 := Lib.hid (HY33.out.fill (.string b1) (.string b2) (.string b3) (.string b4) (.string b5))
          have HX34 := Lib.hid (HX33.out.fillFar (B' := p32) (by omega) (.string b1) (.string b2) (.string b3) (.string b4) (.string b5))
          clear HT33 HX33 HY33
          refine hK _ _ (fun _ => HT34.out) ?_
          clear hK K
          try simp only [Act.put, List.setIfInBounds_toArray, List.set_cons_zero, List.set_cons_succ]
          refine gk_done (by kernel_rfl) ?_ _
          try simp only [Act.put, List.setIfInBounds_toArray, List.set_cons_zero, List.set_cons_succ]
          go_wp2_with fail
          go_meet
          exact ⟨p29, p32, rfl, rfl, HX34.out, HY34.out, HT34.out.g⟩
        · go_simp
          have ha := Gb.alloc w30 (Obj.cells #[.string ⟨#[]⟩, .string ⟨#[]⟩, .string ⟨#[]⟩, .string ⟨#[]⟩, .string ⟨#[]⟩] 53)
          have hs35 := HT30.out.s
          have hl35 := HX30.out.lt
          have HT35 := Lib.hid (HT30.out.step ha)
          have HX35 := Lib.hid (HX30.out.below ha.b)
          have HY35 := Lib.hid (show Q5 (w30.alloc (Obj.cells #[.string ⟨#[]⟩, .string ⟨#[]⟩, .string ⟨#[]⟩, .string ⟨#[]⟩, .string ⟨#[]⟩] 53)) w30.heap.size (.string ⟨#[]⟩) (.string ⟨#[]⟩) (.string ⟨#[]⟩) (.string ⟨#[]⟩) (.string ⟨#[]⟩) from Q5.alloc w30 (.string ⟨#[]⟩) (.string ⟨#[]⟩) (.string ⟨#[]⟩) (.string ⟨#[]⟩) (.string ⟨#[]⟩) 53)
          clear ha HT30 HX30
          refine hK _ _ (fun _ => HT35.out) ?_
          clear hK K
          try simp only [Act.put, List.setIfInBounds_toArray, List.set_cons_zero, List.set_cons_succ]
          generalize w30.alloc (Obj.cells #[.string ⟨#[]⟩, .string ⟨#[]⟩, .string ⟨#[]⟩, .string ⟨#[]⟩, .string ⟨#[]⟩] 53) = w35 at *
          generalize w30.heap.size = p35 at *
          refine gk_one (i := 3) rfl (by kernel_rfl) (fun K hK => ?_)
          go_simp
          go_at_call 37
          refine (HF.out b1 b2 b3 b4 b5 _).mono ?_
          rintro e w36 ⟨rfl, hg⟩
          have HT36 := Lib.hid (HT35.out.step hg)
          have HX36 := Lib.hid (HX35.out.below hg.b)
          have HY36 := Lib.hid (HY35.out.below hg.b)
          clear hg HT35 HX35 HY35
          refine hK _ _ (fun _ => HT36.out) ?_
          clear hK K
          try simp only [Act.put, List.setIfInBounds_toArray, List.set_cons_zero, List.set_cons_succ]
          refine gk_one (i := 6) rfl (by kernel_rfl) (fun K hK => ?_)
          have f0 := HX36.out.f0
          have f1 := HX36.out.f1
          have f2 := HX36.out.f2
          have f3 := HX36.out.f3
          have f4 := HX36.out.f4
          have c0 := HX36.out.c0
          have c1 := HX36.out.c1
          have c2 := HX36.out.c2
          have c3 := HX36.out.c3
          have c4 := HX36.out.c4
          go_simp
          clear f0 f1 f2 f3 f4 c0 c1 c2 c3 c4
          have HT37 := Lib.hid (HT36.out.fill (Nat.le_refl _) (p := p29) (by omega) (.string a1) (.string a2) (.string a3) (.string a4) (.string a5))
          have HX37 := Lib.hid (HX36.out.fill (.string a1) (.string a2) (.string a3) (.string a4) (.string a5))
          have HY37 := Lib.hid (HY36.out.fillFar (B' := p29) (by omega) (.string a1) (.string a2) (.string a3) (.string a4) (.string a5))
          clear HT36 HX36 HY36
          refine hK _ _ (fun _ => HT37.out) ?_
          clear hK K
          try simp only [Act.put, List.setIfInBounds_toArray, List.set_cons_zero, List.set_cons_succ]
          refine gk_one (i := 7) rfl (by kernel_rfl) (fun K hK => ?_)
          have f0 := HY37.out.f0
          have f1 := HY37.out.f1
          have f2 := HY37.out.f2
          have f3 := HY37.out.f3
          have f4 := HY37.out.f4
          have c0 := HY37.out.c0
          have c1 := HY37.out.c1
          have c2 := HY37.out.c2
          have c3 := HY37.out.c3
          have c4 := HY37.out.c4
          go_simp
          clear f0 f1 f2 f3 f4 c0 c1 c2 c3 c4
          have HT38 := Lib.hid (HT37.out.fill (Nat.le_refl _) (p := p35) (by omega) (.string b1) (.string b2) (.string b3) (.string b4) (.string b5))
          have HY38 := Lib.hid (HY37.out.fill (.string b1) (.string b2) (.string b3) (.string b4) (.string b5))
          have HX38 := Lib.hid (HX37.out.fillFar (B' := p35) (by omega) (.string b1) (.string b2) (.string b3) (.string b4) (.string b5))
          clear HT37 HX37 HY37
          refine hK _ _ (fun _ => HT38.out) ?_
          clear hK K
          try simp only [Act.put, List.setIfInBounds_toArray, List.set_cons_zero, List.set_cons_succ]
          refine gk_done (by kernel_rfl) ?_ _
          try simp only [Act.put, List.setIfInBounds_toArray, List.set_cons_zero, List.set_cons_succ]
          go_wp2_with fail
          go_meet
          exact ⟨p29, p35, rfl, rfl, HX38.out, HY38.out, HT38.out.g⟩
      · go_simp
        have ha := Gb.alloc w29 (Obj.cells #[.string ⟨#[]⟩, .string ⟨#[]⟩, .string ⟨#[]⟩, .string ⟨#[]⟩, .string ⟨#[]⟩] 53)
        have hs39 := HT29.out.s
        have hl39 := HX29.out.lt
        have HT39 := Lib.hid (HT29.out.step ha)
        have HX39 := Lib.hid (HX29.out.below ha.b)
        have HY39 := Lib.hid (show Q5 (w29.alloc (Obj.cells #[.string ⟨#[]⟩, .string ⟨#[]⟩, .string ⟨#[]⟩, .string ⟨#[]⟩, .string ⟨#[]⟩] 53)) w29.heap.size (.string ⟨#[]⟩) (.string ⟨#[]⟩) (.string ⟨#[]⟩) (.string ⟨#[]⟩) (.string ⟨#[]⟩) from Q5.alloc w29 (.string ⟨#[]⟩) (.string ⟨#[]⟩) (.string ⟨#[]⟩) (.string ⟨#[]⟩) (.string ⟨#[]⟩) 53)
        clear ha HT29 HX29
        refine hK _ _ (fun _ => HT39.out) ?_
        clear hK K
        try simp only [Act.put, List.setIfInBounds_toArray, List.set_cons_zero, List.set_cons_succ]
        generalize w29.alloc (Obj.cells #[.string ⟨#[]⟩, .string ⟨#[]⟩, .string ⟨#[]⟩, .string ⟨#[]⟩, .string ⟨#[]⟩] 53) = w39 at *
        generalize w29.heap.size = p39 at *
        refine gk_one (i := 1) rfl (by kernel_rfl) (fun K hK => ?_)
        go_simp
        go_at_call 37
        refine (HF.out a1 a2 a3 a4 a5 _).mono ?_
        rintro e w40 ⟨rfl, hg⟩
        have HT40 := Lib.hid (HT39.out.step hg)
        have HX40 := Lib.hid (HX39.out.below hg.b)
        have HY40 := Lib.hid (HY39.out.below hg.b)
        clear hg HT39 HX39 HY39
        refine hK _ _ (fun _ => HT40.out) ?_
        clear hK K
        try simp only [Act.put, List.setIfInBounds_toArray, List.set_cons_zero, List.set_cons_succ]
        refine gk_one (i := 3) rfl (by kernel_rfl) (fun K hK => ?_)
        go_simp
        go_at_call 37
        refine (HF.out b1 b2 b3 b4 b5 _).mono ?_
        rintro e w41 ⟨rfl, hg⟩
        have HT41 := Lib.hid (HT40.out.step hg)
        have HX41 := Lib.hid (HX40.out.below hg.b)
        have HY41 := Lib.hid (HY40.out.below hg.b)
        clear hg HT40 HX40 HY40
        refine hK _ _ (fun _ => HT41.out) ?_
        clear hK K
        try simp only [Act.put, List.setIfInBounds_toArray, List.set_cons_zero, List.set_cons_succ]
        refine gk_one (i := 6) rfl (by kernel_rfl) (fun K hK => ?_)
        have f0 := HX41.out.f0
        have f1 := HX41.out.f1
        have f2 := HX41.out.f2
        have f3 := HX41.out.f3
        have f4 := HX41.out.f4
        have c0 := HX41.out.c0
        have c1 := HX41.out.c1
        have c2 := HX41.out.c2
        have c3 := HX41.out.c3
        have c4 := HX41.out.c4
        go_simp
        clear f0 f1 f2 f3 f4 c0 c1 c2 c3 c4
        have HT42 := Lib.hid (HT41.out.fill (Nat.le_refl _) (p := p29) (by omega) (.string a1) (.string a2) (.string a3) (.string a4) (.string a5))
        have HX42 := Lib.hid (HX41.out.fill (.string a1) (.string a2) (.string a3) (.string a4) (.string a5))
        have HY42 := Lib.hid (HY41.out.fillFar (B' := p29) (by omega) (.string a1) (.string a2) (.string a3) (.string a4) (.string a5))
        clear HT41 HX41 HY41
        refine hK _ _ (fun _ => HT42.out) ?_
        clear hK K
        try simp only [Act.put, List.setIfInBounds_toArray, List.set_cons_zero, List.set_cons_succ]
        refine gk_one (i := 7) rfl (by kernel_rfl) (fun K hK => ?_)
        have f0 := HY42.out.f0
        have f1 := HY42.out.f1
        have f2 := HY42.out.f2
        have f3 := HY42.out.f3
        have f4 := HY42.out.f4
        have c0 := HY42.out.c0
        have c1 := HY42.out.c1
        have c2 := HY42.out.c2
        have c3 := HY42.out.c3
        have c4 := HY42.out.c4
        go_simp
        clear f0 f1 f2 f3 f4 c0 c1 c2 c3 c4
        have HT43 := Lib.hid (HT42.out.fill (Nat.le_refl _) (p := p39) (by omega) (.string b1) (.string b2) (.string b3) (.string b4) (.string b5))
        have HY43 := Lib.hid (HY42.out.fill (.string b1) (.string b2) (.string b3) (.string b4) (.string b5))
        have HX43 := Lib.hid (HX42.out.fillFar (B' := p39) (by omega) (.string b1) (.string b2) (.string b3) (.string b4) (.string b5))
        clear HT42 HX42 HY42
        refine hK _ _ (fun _ => HT43.out) ?_
        clear hK K
        try simp only [Act.put, List.setIfInBounds_toArray, List.set_cons_zero, List.set_cons_succ]
        refine gk_done (by kernel_rfl) ?_ _
        try simp only [Act.put, List.setIfInBounds_toArray, List.set_cons_zero, List.set_cons_succ]
        go_wp2_with fail
        go_meet
        exact ⟨p29, p39, rfl, rfl, HX43.out, HY43.out, HT43.out.g⟩
    · go_simp
      have ha := Gb.alloc x0 (Obj.cells #[.string ⟨#[]⟩, .string ⟨#[]⟩, .string ⟨#[]⟩, .string ⟨#[]⟩, .string ⟨#[]⟩] 53)
      have hs44 := HT0.out.s
      have HT44 := Lib.hid (HT0.out.step ha)
      have HY44 := Lib.hid (show Q5 (x0.alloc (Obj.cells #[.string ⟨#[]⟩, .string ⟨#[]⟩, .string ⟨#[]⟩, .string ⟨#[]⟩, .string ⟨#[]⟩] 53)) x0.heap.size (.string ⟨#[]⟩) (.string ⟨#[]⟩) (.string ⟨#[]⟩) (.string ⟨#[]⟩) (.string ⟨#[]⟩) from Q5.alloc x0 (.string ⟨#[]⟩) (.string ⟨#[]⟩) (.string ⟨#[]⟩) (.string ⟨#[]⟩) (.string ⟨#[]⟩) 53)
      clear ha HT0
      refine hK _ _ (fun _ => HT44.out) ?_
      clear hK K
      try simp only [Act.put, List.setIfInBounds_toArray, List.set_cons_zero, List.set_cons_succ]
      generalize x0.alloc (Obj.cells #[.string ⟨#[]⟩, .string ⟨#[]⟩, .string ⟨#[]⟩, .string ⟨#[]⟩, .string ⟨#[]⟩] 53) = w44 at *
      generalize x0.heap.size = p44 at *
      refine gk_two (i := 1) (j := 4) rfl rfl (by kernel_rfl) (fun K hK => ?_) (fun K hK => ?_)
      · go_simp
        go_at_call 37
        refine (HF.out a1 a2 a3 a4 a5 _).mono ?_
        rintro e w45 ⟨rfl, hg⟩
        have HT45 := Lib.hid (HT44.out.step hg)
        have HY45 := Lib.hid (HY44.out.below hg.b)
        clear hg HT44 HY44
        refine hK _ _ (fun _ => HT45.out) ?_
        clear hK K
        try simp only [Act.put, List.setIfInBounds_toArray, List.set_cons_zero, List.set_cons_succ]
        refine gk_two (i := 3) (j := 4) rfl rfl (by kernel_rfl) (fun K hK => ?_) (fun K hK => ?_)
        · go_simp
          go_at_call 37
          refine (HF.out b1 b2 b3 b4 b5 _).mono ?_
          rintro e w46 ⟨rfl, hg⟩
          have HT46 := Lib.hid (HT45.out.step hg)
          have HY46 := Lib.hid (HY45.out.below hg.b)
          clear hg HT45 HY45
          refine hK _ _ (fun _ => HT46.out) ?_
          clear hK K
          try simp only [Act.put, List.setIfInBounds_toArray, List.set_cons_zero, List.set_cons_succ]
          refine gk_one (i := 4) rfl (by kernel_rfl) (fun K hK => ?_)
          go_simp
          have ha := Gb.alloc w46 (Obj.cells #[.string ⟨#[]⟩, .string ⟨#[]⟩, .string ⟨#[]⟩, .string ⟨#[]⟩, .string ⟨#[]⟩] 53)
          have hs47 := HT46.out.s
          have hl47 := HY46.out.lt
          have HT47 := Lib.hid (HT46.out.step ha)
          have HY47 := Lib.hid (HY46.out.below ha.b)
          have HX47 := Lib.hid (show Q5 (w46.alloc (Obj.cells #[.string ⟨#[]⟩, .string ⟨#[]⟩, .string ⟨#[]⟩, .string ⟨#[]⟩, .string ⟨#[]⟩] 53)) w46.heap.size (.string ⟨#[]⟩) (.string ⟨#[]⟩) (.string ⟨#[]⟩) (.string ⟨#[]⟩) (.string ⟨#[]⟩) from Q5.alloc w46 (.string ⟨#[]⟩) (.string ⟨#[]⟩) (.string ⟨#[]⟩) (.string ⟨#[]⟩) (.string ⟨#[]⟩) 53)
          clear ha HT46 HY46
          refine hK _ _ (fun _ => HT47.out) ?_
          clear hK K
          try simp only [Act.put, List.setIfInBounds_toArray, List.set_cons_zero, List.set_cons_succ]
          generalize w46.alloc (Obj.cells #[.string ⟨#[]⟩, .string ⟨#[]⟩, .string ⟨#[]⟩, .string ⟨#[]⟩, .string ⟨#[]⟩] 53) = w47 at *
          generalize w46.heap.size = p47 at *
          refine gk_one (i := 6) rfl (by kernel_rfl) (fun K hK => ?_)
          have f0 := HX47.out.f0
          have f1 := HX47.out.f1
          have f2 := HX47.out.f2
          have f3 := HX47.out.f3
          have f4 := HX47.out.f4
          have c0 := HX47.out.c0
          have c1 := HX47.out.c1
          have c2 := HX47.out.c2
          have c3 := HX47.out.c3
          have c4 := HX47.out.c4
          go_simp
          clear f0 f1 f2 f3 f4 c0 c1 c2 c3 c4
          have HT48 := Lib.hid (HT47.out.fill (Nat.le_refl _) (p := p47) (by omega) (.string a1) (.string a2) (.string a3) (.string a4) (.string a5))
          have HX48 := Lib.hid (HX47.out.fill (.string a1) (.string a2) (.string a3) (.string a4) (.string a5))
          have HY48 := Lib.hid (HY47.out.fillFar (B' := p47) (by omega) (.string a1) (.string a2) (.string a3) (.string a4) (.string a5))
          clear HT47 HX47 HY47
          refine hK _ _ (fun _ => HT48.out) ?_
          clear hK K
          try simp only [Act.put, List.setIfInBounds_toArray, List.set_cons_zero, List.set_cons_succ]
          refine gk_one (i := 7) rfl (by kernel_rfl) (fun K hK => ?_)
          have f0 := HY48.out.f0
          have f1 := HY48.out.f1
          have f2 := HY48.out.f2
          have f3 := HY48.out.f3
          have f4 := HY48.out.f4
          have c0 := HY48.out.c0
          have c1 := HY48.out.c1
          have c2 := HY48.out.c2
          have c3 := HY48.out.c3
          have c4 := HY48.out.c4
          go_simp
          clear f0 f1 f2 f3 f4 c0 c1 c2 c3 c4
          have HT49 := Lib.hid (HT48.out.fill (Nat.le_refl _) (p := p44) (by omega) (.string b1) (.string b2) (.string b3) (.string b4) (.string b5))
          have HY49 := Lib.hid (HY48.out.fill (.string b1) (.string b2) (.string b3) (.string b4) (.string b5))
          have HX49 := Lib.hid (HX48.out.fillFar (B' := p44) (by omega) (.string b1) (.string b2) (.string b3) (.string b4) (.string b5))
          clear HT48 HX48 HY48
          refine hK _ _ (fun _ => HT49.out) ?_
          clear hK K
          try simp only [Act.put, List.setIfInBounds_toArray, List.set_cons_zero, List.set_cons_succ]
          refine gk_done (by kernel_rfl) ?_ _
          try simp only [Act.put, List.setIfInBounds_toArray, List.set_cons_zero, List.set_cons_succ]
          go_wp2_with fail
          go_meet
          exact ⟨p47, p44, rfl, rfl, HX49.out, HY49.out, HT49.out.g⟩
        · go_simp
          have ha := Gb.alloc w45 (Obj.cells #[.string ⟨#[]⟩, .string ⟨#[]⟩, .string ⟨#[]⟩, .string ⟨#[]⟩, .string ⟨#[]⟩] 53)
          have hs50 := HT45.out.s
          have hl50 := HY45.out.lt
          have HT50 := Lib.hid (HT45.out.step ha)
          have HY50 := Lib.hid (HY45.out.below ha.b)
          have HX50 := Lib.hid (show Q5 (w45.alloc (Obj.cells #[.string ⟨#[]⟩, .string ⟨#[]⟩, .string ⟨#[]⟩, .string ⟨#[]⟩, .string ⟨#[]⟩] 53)) w45.heap.size (.string ⟨#[]⟩) (.string ⟨#[]⟩) (.string ⟨#[]⟩) (.string ⟨#[]⟩) (.string ⟨#[]⟩) from Q5.alloc w45 (.string ⟨#[]⟩) (.string ⟨#[]⟩) (.string ⟨#[]⟩) (.string ⟨#[]⟩) (.string ⟨#[]⟩) 53)
          clear ha HT45 HY45
          refine hK _ _ (fun _ => HT50.out) ?_
          clear hK K
          try simp only [Act.put, List.setIfInBounds_toArray, List.set_cons_zero, List.set_cons_succ]
          generalize w45.alloc (Obj.cells #[.string ⟨#[]⟩, .string ⟨#[]⟩, .string ⟨#[]⟩, .string ⟨#[]⟩, .string ⟨#[]⟩] 53) = w50 at *
          generalize w45.heap.size = p50 at *
          refine gk_one (i := 3) rfl (by kernel_rfl) (fun K hK => ?_)
          go_simp
          go_at_call 37
          refine (HF.out b1 b2 b3 b4 b5 _).mono ?_
          rintro e w51 ⟨rfl, hg⟩
          have HT51 := Lib.hid (HT50.out.step hg)
          have HX51 := Lib.hid (HX50.out.below hg.b)
          have HY51 := Lib.hid (HY50.out.below hg.b)
          clear hg HT50 HX50 HY50
          refine hK _ _ (fun _ => HT51.out) ?_
          clear hK K
          try simp only [Act.put, List.setIfInBounds_toArray, List.set_cons_zero, List.set_cons_succ]
          refine gk_one (i := 6) rfl (by kernel_rfl) (fun K hK => ?_)
          have f0 := HX51.out.f0
          have f1 := HX51.out.f1
          have f2 := HX51.out.f2
          have f3 := HX51.out.f3
          have f4 := HX51.out.f4
          have c0 := HX51.out.c0
          have c1 := HX51.out.c1
          have c2 := HX51.out.c2
          have c3 := HX51.out.c3
          have c4 := HX51.out.c4
          go_simp
          clear f0 f1 f2 f3 f4 c0 c1 c2 c3 c4
          have HT52 := Lib.hid (HT51.out.fill (Nat.le_refl _) (p := p50) (by omega) (.string a1) (.string a2) (.string a3) (.string a4) (.string a5))
          have HX52 := Lib.hid (HX51.out.fill (.string a1) (.string a2) (.string a3) (.string a4) (.string a5))
          have HY52 := Lib.hid (HY51.out.fillFar (B' := p50) (by omega) (.string a1) (.string a2) (.string a3) (.string a4) (.string a5))
          clear HT51 HX51 HY51
          refine hK _ _ (fun _ => HT52.out) ?_
          clear hK K
          try simp only [Act.put, List.setIfInBounds_toArray, List.set_cons_zero, List.set_cons_succ]
          refine gk_one (i := 7) rfl (by kernel_rfl) (fun K hK => ?_)
          have f0 := HY52.out.f0
          have f1 := HY52.out.f1
          have f2 := HY52.out.f2
          have f3 := HY52.out.f3
          have f4 := HY52.out.f4
          have c0 := HY52.out.c0
          have c1 := HY52.out.c1
          have c2 := HY52.out.c2
          have c3 := HY52.out.c3
          have c4 := HY52.out.c4
          go_simp
          clear f0 f1 f2 f3 f4 c0 c1 c2 c3 c4
          have HT53 := Lib.hid (HT52.out.fill (Nat.le_refl _) (p := p44) (by omega) (.string b1) (.string b2) (.string b3) (.string b4) (.string b5))
          have HY53 := Lib.hid (HY52.out.fill (.string b1) (.string b2) (.string b3) (.string b4) (.string b5))
          have HX53 := Lib.hid (HX52.out.fillFar (B' := p44) (by omega) (.string b1) (.string b2) (.string b3) (.string b4) (.string b5))
          clear HT52 HX52 HY52
          refine hK _ _ (fun _ => HT53.out) ?_
          clear hK K
          try simp only [Act.put, List.setIfInBounds_toArray, List.set_cons_zero, List.set_cons_succ]
          refine gk_done (by kernel_rfl) ?_ _
          try simp only [Act.put, List.setIfInBounds_toArray, List.set_cons_zero, List.set_cons_succ]
          go_wp2_with fail
          go_meet
          exact ⟨p50, p44, rfl, rfl, HX53.out, HY53.out, HT53.out.g⟩
      · go_simp
        have ha := Gb.alloc w44 (Obj.cells #[.string ⟨#[]⟩, .string ⟨#[]⟩, .string ⟨#[]⟩, .string ⟨#[]⟩, .string ⟨#[]⟩] 53)
        have hs54 := HT44.out.s
        have hl54 := HY44.out.lt
        have HT54 := Lib.hid (HT44.out.step ha)
        have HY54 := Lib.hid (HY44.out.below ha.b)
        have HX54 := Lib.hid (show Q5 (w44.alloc (Obj.cells #[.string ⟨#[]⟩, .string ⟨#[]⟩, .string ⟨#[]⟩, .string ⟨#[]⟩, .string ⟨#[]⟩] 53)) w44.heap.size (.string ⟨#[]⟩) (.string ⟨#[]⟩) (.string ⟨#[]⟩) (.string ⟨#[]⟩) (.string ⟨#[]⟩) from Q5.alloc w44 (.string ⟨#[]⟩) (.string ⟨#[]⟩) (.string ⟨#[]⟩) (.string ⟨#[]⟩) (.string ⟨#[]⟩) 53)
        clear ha HT44 HY44
        refine hK _ _ (fun _ => HT54.out) ?_
        clear hK K
        try simp only [Act.put, List.setIfInBounds_toArray, List.set_cons_zero, List.set_cons_succ]
        generalize w44.alloc (Obj.cells #[.string ⟨#[]⟩, .string ⟨#[]⟩, .string ⟨#[]⟩, .string ⟨#[]⟩, .string ⟨#[]⟩] 53) = w54 at *
        generalize w44.heap.size = p54 at *
        refine gk_one (i := 1) rfl (by kernel_rfl) (fun K hK => ?_)
        go_simp
        go_at_call 37
        refine (HF.out a1 a2 a3 a4 a5 _).mono ?_
        rintro e w55 ⟨rfl, hg⟩
        have HT55 := Lib.hid (HT54.out.step hg)
        have HX55 := Lib.hid (HX54.out.below hg.b)
        have HY55 := Lib.hid (HY54.out.below hg.b)
        clear hg HT54 HX54 HY54
        refine hK _ _ (fun _ => HT55.out) ?_
        clear hK K
        try simp only [Act.put, List.setIfInBounds_toArray, List.set_cons_zero, List.set_cons_succ]
        refine gk_one (i := 3) rfl (by kernel_rfl) (fun K hK => ?_)
        go_simp
        go_at_call 37
        refine (HF.out b1 b2 b3 b4 b5 _).mono ?_
        rintro e w56 ⟨rfl, hg⟩
        have HT56 := Lib.hid (HT55.out.step hg)
        have HX56 := Lib.hid (HX55.out.below hg.b)
        have HY56 := Lib.hid (HY55.out.below hg.b)
        clear hg HT55 HX55 HY55
        refine hK _ _ (fun _ => HT56.out) ?_
        clear hK K
        try simp only [Act.put, List.setIfInBounds_toArray, List.set_cons_zero, List.set_cons_succ]
        refine gk_one (i := 6) rfl (by kernel_rfl) (fun K hK => ?_)
        have f0 := HX56.out.f0
        have f1 := HX56.out.f1
        have f2 := HX56.out.f2
        have f3 := HX56.out.f3
        have f4 := HX56.out.f4
        have c0 := HX56.out.c0
        have c1 := HX56.out.c1
        have c2 := HX56.out.c2
        have c3 := HX56.out.c3
        have c4 := HX56.out.c4
        go_simp
        clear f0 f1 f2 f3 f4 c0 c1 c2 c3 c4
        have HT57 := Lib.hid (HT56.out.fill (Nat.le_refl _) (p := p54) (by omega) (.string a1) (.string a2) (.string a3) (.string a4) (.string a5))
        have HX57 := Lib.hid (HX56.out.fill (.string a1) (.string a2) (.string a3) (.string a4) (.string a5))
        have HY57 := Lib.hid (HY56.out.fillFar (B' := p54) (by omega) (.string a1) (.string a2) (.string a3) (.string a4) (.string a5))
        clear HT56 HX56 HY56
        refine hK _ _ (fun _ => HT57.out) ?_
        clear hK K
        try simp only [Act.put, List.setIfInBounds_toArray, List.set_cons_zero, List.set_cons_succ]
        refine gk_one (i := 7) rfl (by kernel_rfl) (fun K hK => ?_)
        have f0 := HY57.out.f0
        have f1 := HY57.out.f1
        have f2 := HY57.out.f2
        have f3 := HY57.out.f3
        have f4 := HY57.out.f4
        have c0 := HY57.out.c0
        have c1 := HY57.out.c1
        have c2 := HY57.out.c2
        have c3 := HY57.out.c3
        have c4 := HY57.out.c4
        go_simp
        clear f0 f1 f2 f3 f4 c0 c1 c2 c3 c4
        have HT58 := Lib.hid (HT57.out.fill (Nat.le_refl _) (p := p44) (by omega) (.string b1) (.string b2) (.string b3) (.string b4) (.string b5))
        have HY58 := Lib.hid (HY57.out.fill (.string b1) (.string b2) (.string b3) (.string b4) (.string b5))
        have HX58 := Lib.hid (HX57.out.fillFar (B' := p44) (by omega) (.string b1) (.string b2) (.string b3) (.string b4) (.string b5))
        clear HT57 HX57 HY57
        refine hK _ _ (fun _ => HT58.out) ?_
        clear hK K
        try simp only [Act.put, List.setIfInBounds_toArray, List.set_cons_zero, List.set_cons_succ]
        refine gk_done (by kernel_rfl) ?_ _
        try simp only [Act.put, List.setIfInBounds_toArray, List.set_cons_zero, List.set_cons_succ]
        go_wp2_with fail
        go_meet
        exact ⟨p54, p44, rfl, rfl, HX58.out, HY58.out, HT58.out.g⟩
  case rest =>
  obtain ⟨p, q, rfl, rfl, hf⟩ := hcut
  have HFl := Lib.hid hf
  clear hf HT HF
  have HC := Lib.hid compare_any
  go_wp2
  go_loopw [12] (fun x wr => ∃ k : Nat, k ≤ 5 ∧ x = .int .i64 k ∧ Hid (cmpL ((kyL (a1, a2, a3, a4, a5)).drop k) ((kyL (b1, b2, b3, b4, b5)).drop k) = V) ∧ Hid (Flds w a1 a2 a3 a4 a5 b1 b2 b3 b4 b5 p q wr)) (fun x _ => 5 - (intOf x).toNat)
  case atStart => exact ⟨0, by omega, rfl, HV, HFl⟩
  case round =>
    clear HV HFl
    obtain ⟨k, hk, rfl, HV, HFl⟩ := hrel
    by_cases h : k < 5
    · have h' : (k : Int) < 5 := by omega
      have hat := HFl.out.at h
      obtain ⟨z1, z2⟩ := hat
      have HN := Lib.hid (cmpL_at (x := kyL (a1, a2, a3, a4, a5)) (y := kyL (b1, b2, b3, b4, b5)) (i := k) (by exact h) (by exact h))
      generalize (kyL (a1, a2, a3, a4, a5))[k]! = s1 at *
      generalize (kyL (b1, b2, b3, b4, b5))[k]! = s2 at *
      have HC1 := Lib.hid (fun W => HC.out s1 s2 W)
      obtain ⟨c, hc⟩ : ∃ c, cmpS s1 s2 = c := ⟨_, rfl⟩
      rw [hc] at HC1
      have HE := Lib.hid (show cmpL ((kyL (a1, a2, a3, a4, a5)).drop k) ((kyL (b1, b2, b3, b4, b5)).drop k) = if c = 0 then cmpL ((kyL (a1, a2, a3, a4, a5)).drop (k + 1)) ((kyL (b1, b2, b3, b4, b5)).drop (k + 1)) else c from by rw [HN.out, hc])
      clear hc HN
      by_cases e : c = 0
      · subst e
        have HV1 := Lib.hid (show cmpL ((kyL (a1, a2, a3, a4, a5)).drop (k + 1)) ((kyL (b1, b2, b3, b4, b5)).drop (k + 1)) = V from by rw [← HV.out, HE.out, if_pos rfl])
        go_wp2_with fail
        go_quiet ((go_at_call 38; exact Calls.quiet_of_same (HC1.out _)))
        have HD := Lib.hid (HFl.out.step (Gb.drewN wr nq))
        clear HFl
        go_wp2
        go_roundw
        case rel => exact ⟨k + 1, by omega, by go_num, HV1, HD⟩
        case measure => simp [intOf]; omega
      · have HV1 := Lib.hid (show c = V from by rw [← HV.out, HE.out, if_neg e])
        have e' : (c != 0) = true := by simpa using e
        go_wp2_with fail
        go_quiet ((go_at_call 38; exact Calls.quiet_of_same (HC1.out _)))
        have HD := Lib.hid (HFl.out.step (Gb.drewN wr nq))
        clear HFl
        go_wp2
        go_ret
        exact ⟨ret_int HV1.out, HD.out.2.2⟩
    · obtain rfl : k = 5 := by omega
      have HV1 := Lib.hid (show (0 : Int) = V from by rw [← HV.out]; rfl)
      go_wp2
      go_ret
      exact ⟨ret_int HV1.out, HFl.out.2.2⟩
theorem cmp_any (a b : Ky) (w : World) : Calls Try.prog 12 #[.agg (kyC a).toArray, .agg (kyC b).toArray] w fun e w' => e = .returned (.int .i64 (cmpK a b)) ∧ Gb w w' := by
  obtain ⟨a1, a2, a3, a4, a5⟩ := a
  obtain ⟨b1, b2, b3, b4, b5⟩ := b
  exact cmp5_any a1 a2 a3 a4 a5 b1 b2 b3 b4 b5 w
/-- the fields match: those of the pattern that are not empty. -/
def mtL : List ByteArray → List ByteArray → Bool
  | a :: x, b :: y => if a ≠ ⟨#[]⟩ ∧ a ≠ b then false else mtL x y
  | _, _ => true
def mtK (a b : Ky) : Bool := mtL (kyL a) (kyL b)
theorem mtL_at {x y : List ByteArray} {i : Nat} (hx : i < x.length) (hy : i < y.length) : mtL (x.drop i) (y.drop i) = if x[i]! ≠ ⟨#[]⟩ ∧ x[i]! ≠ y[i]! then false else mtL (x.drop (i + 1)) (y.drop (i + 1)) := by
  rw [List.drop_eq_getElem_cons hx, List.drop_eq_getElem_cons hy, getElem!_pos x i hx, getElem!_pos y i hy]
  rfl
end Go.Proofs.Ytenhnnfemehbcaa
