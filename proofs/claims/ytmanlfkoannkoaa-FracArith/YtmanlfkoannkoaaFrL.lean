/- What reduce of package frac returns for 25 and 100, and Parse for 0.25 and -0. -/
import Derived.Test.YtmanlfkoannkoaaFrK
import Derived.Test.YtmanlfkoannkoaaOrd
namespace Go.Proofs.Ytmanlfkoannkoaa
open Go.RowKit Go.Sort
set_option linter.unusedVariables false
set_option linter.unusedSimpArgs false

/-- the variables of reduce. -/
structure RedS (w wr : World) (a b : Value) (p q r t : Int) : Prop where
  P0 : Cell2 wr w.heap.size (.int .i64 0) (.int .i64 0)
  P1 : Cell2 wr (w.heap.size + 1) a b
  P2 : Cell2 wr (w.heap.size + 2) (.int .i64 p) (.int .i64 q)
  P3 : Cell2 wr (w.heap.size + 3) (.int .i64 r) (.int .i64 t)
  B : Below w.heap.size w wr
def redM (w wr : World) : Nat := match wr.cell? ⟨w.heap.size + 3, 1, none⟩ with
  | some (.int _ 0) => 2
  | some (.int _ 1) => 1
  | _ => 0
set_option maxRecDepth 100000 in
set_option maxHeartbeats 8000000 in
theorem reduce_a (X Y cx cy : Nat) (w : World) (hcx : 1 ≤ cx) (hcy : 1 ≤ cy) (hx : w.cell? ⟨X, 0, none⟩ = some (.int .i64 25)) (hy : w.cell? ⟨Y, 0, none⟩ = some (.int .i64 100)) (lx : X < w.heap.size) (ly : Y < w.heap.size) :
    Calls Try.prog 51 #[.slice (some ⟨X, 0, none⟩) 1 cx, .slice (some ⟨Y, 0, none⟩) 1 cy] w fun e w' => e = .returned (.tuple #[.agg #[.int .i64 1, .int .i64 4], .bool true]) ∧ Below w.heap.size w w' := by
  have HX := Lib.hid hx
  have HY := Lib.hid hy
  have HLX := Lib.hid lx
  have HLY := Lib.hid ly
  clear hx hy lx ly
  go_enter Try.func51, Try.ntmps51
  go_wp2_with fail
  have P0_1 := Lib.hid (show Cell2 ((((w.alloc (Obj.cells #[(.int .i64 0), (.int .i64 0)] 23)).alloc (Obj.cells #[(.slice (some ⟨X, 0, none⟩) 1 cx), (.slice (some ⟨Y, 0, none⟩) 1 cy)] 92)).alloc (Obj.cells #[(.int .i64 0), (.int .i64 1)] 93)).alloc (Obj.cells #[(.int .i64 1), (.int .i64 0)] 93)) (w.heap.size) (.int .i64 0) (.int .i64 0) from by have q := Cell2.alloc w (.int .i64 0) (.int .i64 0) 23; exact q.below (N := w.heap.size + 1) ((((Below.refl _ _).alloc (by simp <;> omega) (Obj.cells #[(.slice (some ⟨X, 0, none⟩) 1 cx), (.slice (some ⟨Y, 0, none⟩) 1 cy)] 92)).alloc (by simp <;> omega) (Obj.cells #[(.int .i64 0), (.int .i64 1)] 93)).alloc (by simp <;> omega) (Obj.cells #[(.int .i64 1), (.int .i64 0)] 93)) (by omega))
  have P1_1 := Lib.hid (show Cell2 ((((w.alloc (Obj.cells #[(.int .i64 0), (.int .i64 0)] 23)).alloc (Obj.cells #[(.slice (some ⟨X, 0, none⟩) 1 cx), (.slice (some ⟨Y, 0, none⟩) 1 cy)] 92)).alloc (Obj.cells #[(.int .i64 0), (.int .i64 1)] 93)).alloc (Obj.cells #[(.int .i64 1), (.int .i64 0)] 93)) (w.heap.size + 1) (.slice (some ⟨X, 0, none⟩) 1 cx) (.slice (some ⟨Y, 0, none⟩) 1 cy) from by have q := Cell2.alloc (w.alloc (Obj.cells #[(.int .i64 0), (.int .i64 0)] 23)) (.slice (some ⟨X, 0, none⟩) 1 cx) (.slice (some ⟨Y, 0, none⟩) 1 cy) 92; try simp only [World.size_alloc] at q; exact q.below (N := w.heap.size + 1 + 1) (((Below.refl _ _).alloc (by simp <;> omega) (Obj.cells #[(.int .i64 0), (.int .i64 1)] 93)).alloc (by simp <;> omega) (Obj.cells #[(.int .i64 1), (.int .i64 0)] 93)) (by omega))
  have P2_1 := Lib.hid (show Cell2 ((((w.alloc (Obj.cells #[(.int .i64 0), (.int .i64 0)] 23)).alloc (Obj.cells #[(.slice (some ⟨X, 0, none⟩) 1 cx), (.slice (some ⟨Y, 0, none⟩) 1 cy)] 92)).alloc (Obj.cells #[(.int .i64 0), (.int .i64 1)] 93)).alloc (Obj.cells #[(.int .i64 1), (.int .i64 0)] 93)) (w.heap.size + 2) (.int .i64 0) (.int .i64 1) from by have q := Cell2.alloc ((w.alloc (Obj.cells #[(.int .i64 0), (.int .i64 0)] 23)).alloc (Obj.cells #[(.slice (some ⟨X, 0, none⟩) 1 cx), (.slice (some ⟨Y, 0, none⟩) 1 cy)] 92)) (.int .i64 0) (.int .i64 1) 93; try simp only [World.size_alloc] at q; exact q.below (N := w.heap.size + 2 + 1) ((Below.refl _ _).alloc (by simp <;> omega) (Obj.cells #[(.int .i64 1), (.int .i64 0)] 93)) (by omega))
  have P3_1 := Lib.hid (show Cell2 ((((w.alloc (Obj.cells #[(.int .i64 0), (.int .i64 0)] 23)).alloc (Obj.cells #[(.slice (some ⟨X, 0, none⟩) 1 cx), (.slice (some ⟨Y, 0, none⟩) 1 cy)] 92)).alloc (Obj.cells #[(.int .i64 0), (.int .i64 1)] 93)).alloc (Obj.cells #[(.int .i64 1), (.int .i64 0)] 93)) (w.heap.size + 3) (.int .i64 1) (.int .i64 0) from by simpa using Cell2.alloc (((w.alloc (Obj.cells #[(.int .i64 0), (.int .i64 0)] 23)).alloc (Obj.cells #[(.slice (some ⟨X, 0, none⟩) 1 cx), (.slice (some ⟨Y, 0, none⟩) 1 cy)] 92)).alloc (Obj.cells #[(.int .i64 0), (.int .i64 1)] 93)) (.int .i64 1) (.int .i64 0) 93)
  have HB1 := Lib.hid (((((Below.refl w.heap.size w).alloc (Nat.le_refl _) (Obj.cells #[(.int .i64 0), (.int .i64 0)] 23)).alloc (by simp) (Obj.cells #[(.slice (some ⟨X, 0, none⟩) 1 cx), (.slice (some ⟨Y, 0, none⟩) 1 cy)] 92)).alloc (by simp; omega) (Obj.cells #[(.int .i64 0), (.int .i64 1)] 93)).alloc (by simp; omega) (Obj.cells #[(.int .i64 1), (.int .i64 0)] 93))
  generalize ((((w.alloc (Obj.cells #[(.int .i64 0), (.int .i64 0)] 23)).alloc (Obj.cells #[(.slice (some ⟨X, 0, none⟩) 1 cx), (.slice (some ⟨Y, 0, none⟩) 1 cy)] 92)).alloc (Obj.cells #[(.int .i64 0), (.int .i64 1)] 93)).alloc (Obj.cells #[(.int .i64 1), (.int .i64 0)] 93)) = W1 at *
  have HS0 := Lib.hid (RedS.mk P0_1.out P1_1.out P2_1.out P3_1.out HB1.out)
  go_loopw [] (fun wr => Hid (RedS w wr (.slice (some ⟨X, 0, none⟩) 1 cx) (.slice (some ⟨Y, 0, none⟩) 1 cy) 0 1 1 0) ∨ (∃ Z cz, 1 ≤ cz ∧ Hid (RedS w wr (.slice (some ⟨Y, 0, none⟩) 1 cy) (.slice (some ⟨Z, 0, none⟩) 1 cz) 1 0 0 1) ∧ Hid (w.heap.size + 4 ≤ Z ∧ Z < wr.heap.size ∧ wr.cell? ⟨Z, 0, none⟩ = some (.int .i64 25))) ∨ (∃ a ao c, Hid (RedS w wr a (.slice ao 0 c) 0 1 1 4))) (fun wr => redM w wr)
  case atStart => exact .inl HS0
  case round =>
    rcases hrel with HS | ⟨Z, cz, hcz, HS, HZ⟩ | ⟨a, ao, c, HS⟩
    · have P0_0 := Lib.hid HS.out.P0
      have P1_0 := Lib.hid HS.out.P1
      have P2_0 := Lib.hid HS.out.P2
      have P3_0 := Lib.hid HS.out.P3
      have HB_0 := Lib.hid HS.out.B
      have HV := Lib.hid (divide_one X Y cx cy 25 100 0 25 wr (by omega) (by omega) (by omega) (by decide) (by decide) (by omega) hcx hcy (by rw [HB_0.out.cell HLX.out]; exact HX.out) (by rw [HB_0.out.cell HLY.out]; exact HY.out) (Nat.lt_of_lt_of_le HLX.out HB_0.out.size) (Nat.lt_of_lt_of_le HLY.out HB_0.out.size))
      have hlz := HS.out.P3.lt
      have hm0 := HS.out.P3.c1
      clear HS
      have lP0_0 := P0_0.out.lt
      have cP0_0_0 := P0_0.out.c0
      have cP0_0_1 := P0_0.out.c1
      have lP1_0 := P1_0.out.lt
      have cP1_0_0 := P1_0.out.c0
      have cP1_0_1 := P1_0.out.c1
      have lP2_0 := P2_0.out.lt
      have cP2_0_0 := P2_0.out.c0
      have cP2_0_1 := P2_0.out.c1
      have lP3_0 := P3_0.out.lt
      have cP3_0_0 := P3_0.out.c0
      have cP3_0_1 := P3_0.out.c1
      go_wp2_with fail
      refine HV.out.mono ?_
      rintro e w2 ⟨v, rfl, hv, hb⟩
      have hsh : ∃ Z cz, v = .slice (some ⟨Z, 0, none⟩) 1 cz := by
        rcases hv with ⟨e0, _⟩ | ⟨_, _, Z, cz, _, _, e1, _⟩
        · omega
        · exact ⟨Z, cz, e1⟩
      obtain ⟨Z, cz, rfl⟩ := hsh
      have HN := Lib.hid (hv.lower (M' := w.heap.size + 4) hlz)
      have HBm := Lib.hid hb
      clear hv HV
      clear lP0_0 cP0_0_0 cP0_0_1 lP1_0 cP1_0_0 cP1_0_1 lP2_0 cP2_0_0 cP2_0_1 lP3_0 cP3_0_0 cP3_0_1
      have HB2 := Lib.hid (HB_0.out.trans ((hb).mono HB_0.out.size))
      have P0_2 := Lib.hid (P0_0.out.below (hb) P0_0.out.lt)
      have P1_2 := Lib.hid (P1_0.out.below (hb) P1_0.out.lt)
      have P2_2 := Lib.hid (P2_0.out.below (hb) P2_0.out.lt)
      have P3_2 := Lib.hid (P3_0.out.below (hb) P3_0.out.lt)
      clear HB_0 P0_0 P1_0 P2_0 P3_0 hb
      have lP0_2 := P0_2.out.lt
      have cP0_2_0 := P0_2.out.c0
      have cP0_2_1 := P0_2.out.c1
      have lP1_2 := P1_2.out.lt
      have cP1_2_0 := P1_2.out.c0
      have cP1_2_1 := P1_2.out.c1
      have lP2_2 := P2_2.out.lt
      have cP2_2_0 := P2_2.out.c0
      have cP2_2_1 := P2_2.out.c1
      have lP3_2 := P3_2.out.lt
      have cP3_2_0 := P3_2.out.c0
      have cP3_2_1 := P3_2.out.c1
      have fP1_2_0 := P1_2.out.f0
      have fP1_2_1 := P1_2.out.f1
      go_wp2_with fail
      have HN2 := Lib.hid ((HN.out.set ⟨w.heap.size + 1, 0, none⟩ (by simp) (.slice (some ⟨Y, 0, none⟩) 1 cy)).set ⟨w.heap.size + 1, 1, none⟩ (by simp) (.slice (some ⟨Z, 0, none⟩) 1 cz))
      clear HN
      have P0_3 := Lib.hid (P0_2.out.far (B' := w.heap.size + 1) (by omega) 0 (.slice (some ⟨Y, 0, none⟩) 1 cy))
      have P1_3 := Lib.hid (P1_2.out.set0 (.slice (some ⟨Y, 0, none⟩) 1 cy))
      have P2_3 := Lib.hid (P2_2.out.far (B' := w.heap.size + 1) (by omega) 0 (.slice (some ⟨Y, 0, none⟩) 1 cy))
      have P3_3 := Lib.hid (P3_2.out.far (B' := w.heap.size + 1) (by omega) 0 (.slice (some ⟨Y, 0, none⟩) 1 cy))
      have HB3 := Lib.hid (HB2.out.setCell (p := ⟨w.heap.size + 1, 0, none⟩) (by simp <;> omega) (.slice (some ⟨Y, 0, none⟩) 1 cy))
      have P0_4 := Lib.hid (P0_3.out.far (B' := w.heap.size + 1) (by omega) 1 (.slice (some ⟨Z, 0, none⟩) 1 cz))
      have P1_4 := Lib.hid (P1_3.out.set1 (.slice (some ⟨Z, 0, none⟩) 1 cz))
      have P2_4 := Lib.hid (P2_3.out.far (B' := w.heap.size + 1) (by omega) 1 (.slice (some ⟨Z, 0, none⟩) 1 cz))
      have P3_4 := Lib.hid (P3_3.out.far (B' := w.heap.size + 1) (by omega) 1 (.slice (some ⟨Z, 0, none⟩) 1 cz))
      have HB4 := Lib.hid (HB3.out.setCell (p := ⟨w.heap.size + 1, 1, none⟩) (by simp <;> omega) (.slice (some ⟨Z, 0, none⟩) 1 cz))
      clear lP0_2 cP0_2_0 cP0_2_1 lP1_2 cP1_2_0 cP1_2_1 lP2_2 cP2_2_0 cP2_2_1 lP3_2 cP3_2_0 cP3_2_1 fP1_2_0 fP1_2_1
      clear P0_2 P1_2 P2_2 P3_2 HB2 P0_3 P1_3 P2_3 P3_3 HB3
      generalize (w2.setCell ⟨w.heap.size + 1, 0, none⟩ (.slice (some ⟨Y, 0, none⟩) 1 cy)).setCell ⟨w.heap.size + 1, 1, none⟩ (.slice (some ⟨Z, 0, none⟩) 1 cz) = W5 at *
      have lP0_4 := P0_4.out.lt
      have cP0_4_0 := P0_4.out.c0
      have cP0_4_1 := P0_4.out.c1
      have lP1_4 := P1_4.out.lt
      have cP1_4_0 := P1_4.out.c0
      have cP1_4_1 := P1_4.out.c1
      have lP2_4 := P2_4.out.lt
      have cP2_4_0 := P2_4.out.c0
      have cP2_4_1 := P2_4.out.c1
      have lP3_4 := P3_4.out.lt
      have cP3_4_0 := P3_4.out.c0
      have cP3_4_1 := P3_4.out.c1
      have fP2_4_0 := P2_4.out.f0
      have fP2_4_1 := P2_4.out.f1
      have fP3_4_0 := P3_4.out.f0
      have fP3_4_1 := P3_4.out.f1
      have HSS := Lib.hid (show W5.drew.cell? ⟨w.heap.size + 3, 0, none⟩ = some (.int .i64 1) ∧ W5.drew.cell? ⟨w.heap.size + 3, 1, none⟩ = some (.int .i64 0) from ⟨P3_4.out.c0, P3_4.out.c1⟩)
      have HST := Lib.hid (show ((W5.setCell ⟨w.heap.size + 2, 0, none⟩ (.int .i64 1)).setCell ⟨w.heap.size + 2, 1, none⟩ (.int .i64 0)).drew.cell? ⟨w.heap.size + 3, 0, none⟩ = some (.int .i64 1) ∧ ((W5.setCell ⟨w.heap.size + 2, 0, none⟩ (.int .i64 1)).setCell ⟨w.heap.size + 2, 1, none⟩ (.int .i64 0)).drew.cell? ⟨w.heap.size + 3, 1, none⟩ = some (.int .i64 0) from ⟨((P3_4.out.far (B' := w.heap.size + 2) (by omega) 0 _).far (B' := w.heap.size + 2) (by omega) 1 _).c0, ((P3_4.out.far (B' := w.heap.size + 2) (by omega) 0 _).far (B' := w.heap.size + 2) (by omega) 1 _).c1⟩)
      refine goes_region (fun x => x.cell? ⟨w.heap.size + 3, 0, none⟩ = some (.int .i64 1) ∧ x.cell? ⟨w.heap.size + 3, 1, none⟩ = some (.int .i64 0)) 17 (by kernel_rfl) ?_
      refine goes_take (i := 0) (v := ?_) rfl (by kernel_rfl) (by kernel_rfl) (by decide) (by kernel_rfl) (by kernel_rfl) (fun _ _ _ h => h) (Or.inl ⟨by kernel_rfl, ?_⟩) HSS.out ?_
      rotate_left
      · ((intro x hx; have hx0 := hx.1; have hx1 := hx.2; clear hx; go_simp) <;> with_reducible rfl)
      try simp only [Act.put, List.setIfInBounds_toArray, List.set_cons_zero, List.set_cons_succ]
      refine goes_take (i := 1) (v := ?_) rfl (by kernel_rfl) (by kernel_rfl) (by decide) (by kernel_rfl) (by kernel_rfl) (fun _ _ _ h => h) (Or.inl ⟨by kernel_rfl, ?_⟩) HSS.out ?_
      rotate_left
      · ((intro x hx; have hx0 := hx.1; have hx1 := hx.2; clear hx; go_simp) <;> with_reducible rfl)
      try simp only [Act.put, List.setIfInBounds_toArray, List.set_cons_zero, List.set_cons_succ]
      refine goes_take (i := 2) (v := ?_) rfl (by kernel_rfl) (by kernel_rfl) (by decide) (by kernel_rfl) (by kernel_rfl) (fun _ _ _ h => h) (Or.inl ⟨by kernel_rfl, ?_⟩) HSS.out ?_
      rotate_left
      · ((intro x hx; have hx0 := hx.1; have hx1 := hx.2; clear hx; go_simp) <;> with_reducible rfl)
      try simp only [Act.put, List.setIfInBounds_toArray, List.set_cons_zero, List.set_cons_succ]
      refine goes_take (i := 3) (v := ?_) rfl (by kernel_rfl) (by kernel_rfl) (by decide) (by kernel_rfl) (by kernel_rfl) (fun _ _ _ h => h) (Or.inl ⟨by kernel_rfl, ?_⟩) HSS.out ?_
      rotate_left
      · ((intro x hx; have hx0 := hx.1; have hx1 := hx.2; clear hx; go_simp) <;> with_reducible rfl)
      try simp only [Act.put, List.setIfInBounds_toArray, List.set_cons_zero, List.set_cons_succ]
      refine goes_take (i := 4) (v := ?_) rfl (by kernel_rfl) (by kernel_rfl) (by decide) (by kernel_rfl) (by kernel_rfl) (fun _ _ _ h => h) (Or.inl ⟨by kernel_rfl, ?_⟩) HSS.out ?_
      rotate_left
      · ((intro x hx; have hx0 := hx.1; have hx1 := hx.2; clear hx; go_simp) <;> with_reducible rfl)
      try simp only [Act.put, List.setIfInBounds_toArray, List.set_cons_zero, List.set_cons_succ]
      refine goes_take (i := 5) (v := ?_) rfl (by kernel_rfl) (by kernel_rfl) (by decide) (by kernel_rfl) (by kernel_rfl) (fun _ _ _ h => h) (Or.inl ⟨by kernel_rfl, ?_⟩) HSS.out ?_
      rotate_left
      · ((intro x hx; have hx0 := hx.1; have hx1 := hx.2; clear hx; go_simp) <;> with_reducible rfl)
      try simp only [Act.put, List.setIfInBounds_toArray, List.set_cons_zero, List.set_cons_succ]
      refine goes_take (i := 8) (v := ?_) rfl (by kernel_rfl) (by kernel_rfl) (by decide) (by kernel_rfl) (by kernel_rfl) (fun _ _ _ h => h) (Or.inl ⟨by kernel_rfl, ?_⟩) HSS.out ?_
      rotate_left
      · ((intro x hx; have hx0 := hx.1; have hx1 := hx.2; clear hx; go_simp) <;> with_reducible rfl)
      try simp only [Act.put, List.setIfInBounds_toArray, List.set_cons_zero, List.set_cons_succ]
      refine goes_take (i := 9) (v := ?_) rfl (by kernel_rfl) (by kernel_rfl) (by decide) (by kernel_rfl) (by kernel_rfl) (fun _ _ _ h => h) (Or.inl ⟨by kernel_rfl, ?_⟩) HSS.out ?_
      rotate_left
      · ((intro x hx; have hx0 := hx.1; have hx1 := hx.2; clear hx; go_simp) <;> with_reducible rfl)
      try simp only [Act.put, List.setIfInBounds_toArray, List.set_cons_zero, List.set_cons_succ]
      refine goes_take (i := 10) (v := ?_) rfl (by kernel_rfl) (by kernel_rfl) (by decide) (by kernel_rfl) (by kernel_rfl) (fun _ _ _ h => h) (Or.inl ⟨by kernel_rfl, ?_⟩) HSS.out ?_
      rotate_left
      · ((intro x hx; have hx0 := hx.1; have hx1 := hx.2; clear hx; go_simp) <;> with_reducible rfl)
      try simp only [Act.put, List.setIfInBounds_toArray, List.set_cons_zero, List.set_cons_succ]
      refine goes_take (i := 11) (v := ?_) rfl (by kernel_rfl) (by kernel_rfl) (by decide) (by kernel_rfl) (by kernel_rfl) (fun _ _ _ h => h) (Or.inl ⟨by kernel_rfl, ?_⟩) HSS.out ?_
      rotate_left
      · ((intro x hx; have hx0 := hx.1; have hx1 := hx.2; clear hx; go_simp) <;> with_reducible rfl)
      try simp only [Act.put, List.setIfInBounds_toArray, List.set_cons_zero, List.set_cons_succ]
      refine goes_take (i := 12) (v := ?_) rfl (by kernel_rfl) (by kernel_rfl) (by decide) (by kernel_rfl) (by kernel_rfl) (fun _ _ _ h => h) (Or.inl ⟨by kernel_rfl, ?_⟩) HSS.out ?_
      rotate_left
      · ((intro x hx; have hx0 := hx.1; have hx1 := hx.2; clear hx; go_simp) <;> with_reducible rfl)
      try simp only [Act.put, List.setIfInBounds_toArray, List.set_cons_zero, List.set_cons_succ]
      refine goes_two (i := 6) (j := 13) rfl rfl (by kernel_rfl) (fun K hK => ?_) (fun K hK => ?_)
      · skip
        go_simp
        refine hK _ _ (fun _ => HSS.out) ?_
        clear hK K
        try simp only [Act.put, List.setIfInBounds_toArray, List.set_cons_zero, List.set_cons_succ]
        refine goes_take (i := 7) (v := ?_) rfl (by kernel_rfl) (by kernel_rfl) (by decide) (by kernel_rfl) (by kernel_rfl) (fun _ _ _ h => h) (Or.inl ⟨by kernel_rfl, ?_⟩) HSS.out ?_
        rotate_left
        · ((intro x hx; have hx0 := hx.1; have hx1 := hx.2; clear hx; go_simp) <;> with_reducible rfl)
        try simp only [Act.put, List.setIfInBounds_toArray, List.set_cons_zero, List.set_cons_succ]
        refine goes_one (i := 13) rfl (by kernel_rfl) (fun K hK => ?_)
        go_simp
        refine hK _ _ (fun _ => HSS.out) ?_
        clear hK K
        try simp only [Act.put, List.setIfInBounds_toArray, List.set_cons_zero, List.set_cons_succ]
        refine goes_take (i := 14) (v := ?_) rfl (by kernel_rfl) (by kernel_rfl) (by decide) (by kernel_rfl) (by kernel_rfl) (fun _ _ _ h => h) (Or.inl ⟨by kernel_rfl, ?_⟩) HSS.out ?_
        rotate_left
        · ((intro x hx; have hx0 := hx.1; have hx1 := hx.2; clear hx; go_simp) <;> with_reducible rfl)
        try simp only [Act.put, List.setIfInBounds_toArray, List.set_cons_zero, List.set_cons_succ]
        refine goes_take (i := 15) (v := ?_) rfl (by kernel_rfl) (by kernel_rfl) (by decide) (by kernel_rfl) (by kernel_rfl) (fun _ _ _ h => h) (Or.inl ⟨by kernel_rfl, ?_⟩) HSS.out ?_
        rotate_left
        · ((intro x hx; have hx0 := hx.1; have hx1 := hx.2; clear hx; go_simp) <;> with_reducible rfl)
        try simp only [Act.put, List.setIfInBounds_toArray, List.set_cons_zero, List.set_cons_succ]
        refine goes_one (i := 16) rfl (by kernel_rfl) (fun K hK => ?_)
        go_simp
        refine hK _ _ (fun _ => HST.out) ?_
        clear hK K
        try simp only [Act.put, List.setIfInBounds_toArray, List.set_cons_zero, List.set_cons_succ]
        refine goes_one (i := 17) rfl (by kernel_rfl) (fun K hK => ?_)
        go_simp
        refine hK _ _ (fun h => absurd rfl h) ?_
        clear hK K
        try simp only [Act.put, List.setIfInBounds_toArray, List.set_cons_zero, List.set_cons_succ]
        refine goes_done (by kernel_rfl) ?_ _
        try simp only [Act.put, List.setIfInBounds_toArray, List.set_cons_zero, List.set_cons_succ]
        try go_simp
        try simp only [(by decide : IntKind.i64.wrap 0 = 0), (by decide : IntKind.i64.wrap 1 = 1), (by decide : IntKind.i64.wrap 4 = 4), Int.reduceAdd, Int.reduceMul, Int.add_zero, Int.zero_add, Int.mul_zero, Int.mul_one, Int.zero_mul]
        rw [show (((W5.setCell ⟨w.heap.size + 1 + 1, 0, none⟩ (.int .i64 1)).setCell ⟨w.heap.size + 1 + 1, 1, none⟩ (.int .i64 0)).setCell ⟨w.heap.size + 1 + 1 + 1, 0, none⟩ (.int .i64 0)).setCell ⟨w.heap.size + 1 + 1 + 1, 1, none⟩ (.int .i64 1) = (((W5.setCell ⟨w.heap.size + 2, 0, none⟩ (.int .i64 1)).setCell ⟨w.heap.size + 2, 1, none⟩ (.int .i64 0)).setCell ⟨w.heap.size + 3, 0, none⟩ (.int .i64 0)).setCell ⟨w.heap.size + 3, 1, none⟩ (.int .i64 1) from rfl]
        have HN4 := Lib.hid ((((HN2.out.set ⟨w.heap.size + 2, 0, none⟩ (by simp) (.int .i64 1)).set ⟨w.heap.size + 2, 1, none⟩ (by simp) (.int .i64 0)).set ⟨w.heap.size + 3, 0, none⟩ (by simp) (.int .i64 0)).set ⟨w.heap.size + 3, 1, none⟩ (by simp) (.int .i64 1))
        clear HN2 HSS HST
        have P0_6 := Lib.hid (P0_4.out.far (B' := w.heap.size + 2) (by omega) 0 (.int .i64 1))
        have P1_6 := Lib.hid (P1_4.out.far (B' := w.heap.size + 2) (by omega) 0 (.int .i64 1))
        have P2_6 := Lib.hid (P2_4.out.set0 (.int .i64 1))
        have P3_6 := Lib.hid (P3_4.out.far (B' := w.heap.size + 2) (by omega) 0 (.int .i64 1))
        have HB6 := Lib.hid (HB4.out.setCell (p := ⟨w.heap.size + 2, 0, none⟩) (by simp <;> omega) (.int .i64 1))
        have P0_7 := Lib.hid (P0_6.out.far (B' := w.heap.size + 2) (by omega) 1 (.int .i64 0))
        have P1_7 := Lib.hid (P1_6.out.far (B' := w.heap.size + 2) (by omega) 1 (.int .i64 0))
        have P2_7 := Lib.hid (P2_6.out.set1 (.int .i64 0))
        have P3_7 := Lib.hid (P3_6.out.far (B' := w.heap.size + 2) (by omega) 1 (.int .i64 0))
        have HB7 := Lib.hid (HB6.out.setCell (p := ⟨w.heap.size + 2, 1, none⟩) (by simp <;> omega) (.int .i64 0))
        have P0_8 := Lib.hid (P0_7.out.far (B' := w.heap.size + 3) (by omega) 0 (.int .i64 0))
        have P1_8 := Lib.hid (P1_7.out.far (B' := w.heap.size + 3) (by omega) 0 (.int .i64 0))
        have P2_8 := Lib.hid (P2_7.out.far (B' := w.heap.size + 3) (by omega) 0 (.int .i64 0))
        have P3_8 := Lib.hid (P3_7.out.set0 (.int .i64 0))
        have HB8 := Lib.hid (HB7.out.setCell (p := ⟨w.heap.size + 3, 0, none⟩) (by simp <;> omega) (.int .i64 0))
        have P0_9 := Lib.hid (P0_8.out.far (B' := w.heap.size + 3) (by omega) 1 (.int .i64 1))
        have P1_9 := Lib.hid (P1_8.out.far (B' := w.heap.size + 3) (by omega) 1 (.int .i64 1))
        have P2_9 := Lib.hid (P2_8.out.far (B' := w.heap.size + 3) (by omega) 1 (.int .i64 1))
        have P3_9 := Lib.hid (P3_8.out.set1 (.int .i64 1))
        have HB9 := Lib.hid (HB8.out.setCell (p := ⟨w.heap.size + 3, 1, none⟩) (by simp <;> omega) (.int .i64 1))
        clear lP0_4 cP0_4_0 cP0_4_1 lP1_4 cP1_4_0 cP1_4_1 lP2_4 cP2_4_0 cP2_4_1 lP3_4 cP3_4_0 cP3_4_1 fP2_4_0 fP2_4_1 fP3_4_0 fP3_4_1
        clear P0_4 P1_4 P2_4 P3_4 HB4 P0_6 P1_6 P2_6 P3_6 HB6 P0_7 P1_7 P2_7 P3_7 HB7 P0_8 P1_8 P2_8 P3_8 HB8
        generalize (((W5.setCell ⟨w.heap.size + 2, 0, none⟩ (.int .i64 1)).setCell ⟨w.heap.size + 2, 1, none⟩ (.int .i64 0)).setCell ⟨w.heap.size + 3, 0, none⟩ (.int .i64 0)).setCell ⟨w.heap.size + 3, 1, none⟩ (.int .i64 1) = W10 at *
        have hbW : Below W10.heap.size W10 W10.drew := (Below.refl _ _).drew
        have HN5 := Lib.hid (HN4.out.below hbW (Nat.le_refl _))
        clear HN4
        generalize W10.drew = WW at *
        have HB11 := Lib.hid (HB9.out.trans ((hbW).mono HB9.out.size))
        have P0_11 := Lib.hid (P0_9.out.below (hbW) P0_9.out.lt)
        have P1_11 := Lib.hid (P1_9.out.below (hbW) P1_9.out.lt)
        have P2_11 := Lib.hid (P2_9.out.below (hbW) P2_9.out.lt)
        have P3_11 := Lib.hid (P3_9.out.below (hbW) P3_9.out.lt)
        clear HB9 P0_9 P1_9 P2_9 P3_9 hbW
        have lP0_11 := P0_11.out.lt
        have cP0_11_0 := P0_11.out.c0
        have cP0_11_1 := P0_11.out.c1
        have lP1_11 := P1_11.out.lt
        have cP1_11_0 := P1_11.out.c0
        have cP1_11_1 := P1_11.out.c1
        have lP2_11 := P2_11.out.lt
        have cP2_11_0 := P2_11.out.c0
        have cP2_11_1 := P2_11.out.c1
        have lP3_11 := P3_11.out.lt
        have cP3_11_0 := P3_11.out.c0
        have cP3_11_1 := P3_11.out.c1
        go_wp2
        go_roundw
        case rel =>
          rcases HN5.out with ⟨e0, _⟩ | ⟨_, _, Z', cz', z1, z2, zz, z3, z4⟩
          · omega
          · injection zz with zz1 zz2 zz3
            injection zz1 with zz1
            injection zz1 with zz1
            subst zz1 zz3
            exact .inr (.inl ⟨Z, cz, z2, Lib.hid ⟨P0_11.out, P1_11.out, P2_11.out, P3_11.out, HB11.out⟩, Lib.hid ⟨z1, z3, z4⟩⟩)
        case measure =>
          have hm1 := P3_11.out.c1
          simp only [redM, hm0, hm1]
          decide
      · skip
        go_simp
        refine hK _ _ (fun _ => HSS.out) ?_
        clear hK K
        try simp only [Act.put, List.setIfInBounds_toArray, List.set_cons_zero, List.set_cons_succ]
        refine goes_take (i := 14) (v := ?_) rfl (by kernel_rfl) (by kernel_rfl) (by decide) (by kernel_rfl) (by kernel_rfl) (fun _ _ _ h => h) (Or.inl ⟨by kernel_rfl, ?_⟩) HSS.out ?_
        rotate_left
        · ((intro x hx; have hx0 := hx.1; have hx1 := hx.2; clear hx; go_simp) <;> with_reducible rfl)
        try simp only [Act.put, List.setIfInBounds_toArray, List.set_cons_zero, List.set_cons_succ]
        refine goes_one (i := 6) rfl (by kernel_rfl) (fun K hK => ?_)
        go_simp
        refine hK _ _ (fun _ => HSS.out) ?_
        clear hK K
        try simp only [Act.put, List.setIfInBounds_toArray, List.set_cons_zero, List.set_cons_succ]
        refine goes_take (i := 7) (v := ?_) rfl (by kernel_rfl) (by kernel_rfl) (by decide) (by kernel_rfl) (by kernel_rfl) (fun _ _ _ h => h) (Or.inl ⟨by kernel_rfl, ?_⟩) HSS.out ?_
        rotate_left
        · ((intro x hx; have hx0 := hx.1; have hx1 := hx.2; clear hx; go_simp) <;> with_reducible rfl)
        try simp only [Act.put, List.setIfInBounds_toArray, List.set_cons_zero, List.set_cons_succ]
        refine goes_take (i := 15) (v := ?_) rfl (by kernel_rfl) (by kernel_rfl) (by decide) (by kernel_rfl) (by kernel_rfl) (fun _ _ _ h => h) (Or.inl ⟨by kernel_rfl, ?_⟩) HSS.out ?_
        rotate_left
        · ((intro x hx; have hx0 := hx.1; have hx1 := hx.2; clear hx; go_simp) <;> with_reducible rfl)
        try simp only [Act.put, List.setIfInBounds_toArray, List.set_cons_zero, List.set_cons_succ]
        refine goes_one (i := 16) rfl (by kernel_rfl) (fun K hK => ?_)
        go_simp
        refine hK _ _ (fun _ => HST.out) ?_
        clear hK K
        try simp only [Act.put, List.setIfInBounds_toArray, List.set_cons_zero, List.set_cons_succ]
        refine goes_one (i := 17) rfl (by kernel_rfl) (fun K hK => ?_)
        go_simp
        refine hK _ _ (fun h => absurd rfl h) ?_
        clear hK K
        try simp only [Act.put, List.setIfInBounds_toArray, List.set_cons_zero, List.set_cons_succ]
        refine goes_done (by kernel_rfl) ?_ _
        try simp only [Act.put, List.setIfInBounds_toArray, List.set_cons_zero, List.set_cons_succ]
        try go_simp
        try simp only [(by decide : IntKind.i64.wrap 0 = 0), (by decide : IntKind.i64.wrap 1 = 1), (by decide : IntKind.i64.wrap 4 = 4), Int.reduceAdd, Int.reduceMul, Int.add_zero, Int.zero_add, Int.mul_zero, Int.mul_one, Int.zero_mul]
        rw [show (((W5.setCell ⟨w.heap.size + 1 + 1, 0, none⟩ (.int .i64 1)).setCell ⟨w.heap.size + 1 + 1, 1, none⟩ (.int .i64 0)).setCell ⟨w.heap.size + 1 + 1 + 1, 0, none⟩ (.int .i64 0)).setCell ⟨w.heap.size + 1 + 1 + 1, 1, none⟩ (.int .i64 1) = (((W5.setCell ⟨w.heap.size + 2, 0, none⟩ (.int .i64 1)).setCell ⟨w.heap.size + 2, 1, none⟩ (.int .i64 0)).setCell ⟨w.heap.size + 3, 0, none⟩ (.int .i64 0)).setCell ⟨w.heap.size + 3, 1, none⟩ (.int .i64 1) from rfl]
        have HN4 := Lib.hid ((((HN2.out.set ⟨w.heap.size + 2, 0, none⟩ (by simp) (.int .i64 1)).set ⟨w.heap.size + 2, 1, none⟩ (by simp) (.int .i64 0)).set ⟨w.heap.size + 3, 0, none⟩ (by simp) (.int .i64 0)).set ⟨w.heap.size + 3, 1, none⟩ (by simp) (.int .i64 1))
        clear HN2 HSS HST
        have P0_12 := Lib.hid (P0_4.out.far (B' := w.heap.size + 2) (by omega) 0 (.int .i64 1))
        have P1_12 := Lib.hid (P1_4.out.far (B' := w.heap.size + 2) (by omega) 0 (.int .i64 1))
        have P2_12 := Lib.hid (P2_4.out.set0 (.int .i64 1))
        have P3_12 := Lib.hid (P3_4.out.far (B' := w.heap.size + 2) (by omega) 0 (.int .i64 1))
        have HB12 := Lib.hid (HB4.out.setCell (p := ⟨w.heap.size + 2, 0, none⟩) (by simp <;> omega) (.int .i64 1))
        have P0_13 := Lib.hid (P0_12.out.far (B' := w.heap.size + 2) (by omega) 1 (.int .i64 0))
        have P1_13 := Lib.hid (P1_12.out.far (B' := w.heap.size + 2) (by omega) 1 (.int .i64 0))
        have P2_13 := Lib.hid (P2_12.out.set1 (.int .i64 0))
        have P3_13 := Lib.hid (P3_12.out.far (B' := w.heap.size + 2) (by omega) 1 (.int .i64 0))
        have HB13 := Lib.hid (HB12.out.setCell (p := ⟨w.heap.size + 2, 1, none⟩) (by simp <;> omega) (.int .i64 0))
        have P0_14 := Lib.hid (P0_13.out.far (B' := w.heap.size + 3) (by omega) 0 (.int .i64 0))
        have P1_14 := Lib.hid (P1_13.out.far (B' := w.heap.size + 3) (by omega) 0 (.int .i64 0))
        have P2_14 := Lib.hid (P2_13.out.far (B' := w.heap.size + 3) (by omega) 0 (.int .i64 0))
        have P3_14 := Lib.hid (P3_13.out.set0 (.int .i64 0))
        have HB14 := Lib.hid (HB13.out.setCell (p := ⟨w.heap.size + 3, 0, none⟩) (by simp <;> omega) (.int .i64 0))
        have P0_15 := Lib.hid (P0_14.out.far (B' := w.heap.size + 3) (by omega) 1 (.int .i64 1))
        have P1_15 := Lib.hid (P1_14.out.far (B' := w.heap.size + 3) (by omega) 1 (.int .i64 1))
        have P2_15 := Lib.hid (P2_14.out.far (B' := w.heap.size + 3) (by omega) 1 (.int .i64 1))
        have P3_15 := Lib.hid (P3_14.out.set1 (.int .i64 1))
        have HB15 := Lib.hid (HB14.out.setCell (p := ⟨w.heap.size + 3, 1, none⟩) (by simp <;> omega) (.int .i64 1))
        clear lP0_4 cP0_4_0 cP0_4_1 lP1_4 cP1_4_0 cP1_4_1 lP2_4 cP2_4_0 cP2_4_1 lP3_4 cP3_4_0 cP3_4_1 fP2_4_0 fP2_4_1 fP3_4_0 fP3_4_1
        clear P0_4 P1_4 P2_4 P3_4 HB4 P0_12 P1_12 P2_12 P3_12 HB12 P0_13 P1_13 P2_13 P3_13 HB13 P0_14 P1_14 P2_14 P3_14 HB14
        generalize (((W5.setCell ⟨w.heap.size + 2, 0, none⟩ (.int .i64 1)).setCell ⟨w.heap.size + 2, 1, none⟩ (.int .i64 0)).setCell ⟨w.heap.size + 3, 0, none⟩ (.int .i64 0)).setCell ⟨w.heap.size + 3, 1, none⟩ (.int .i64 1) = W16 at *
        have hbW : Below W16.heap.size W16 W16.drew := (Below.refl _ _).drew
        have HN5 := Lib.hid (HN4.out.below hbW (Nat.le_refl _))
        clear HN4
        generalize W16.drew = WW at *
        have HB17 := Lib.hid (HB15.out.trans ((hbW).mono HB15.out.size))
        have P0_17 := Lib.hid (P0_15.out.below (hbW) P0_15.out.lt)
        have P1_17 := Lib.hid (P1_15.out.below (hbW) P1_15.out.lt)
        have P2_17 := Lib.hid (P2_15.out.below (hbW) P2_15.out.lt)
        have P3_17 := Lib.hid (P3_15.out.below (hbW) P3_15.out.lt)
        clear HB15 P0_15 P1_15 P2_15 P3_15 hbW
        have lP0_17 := P0_17.out.lt
        have cP0_17_0 := P0_17.out.c0
        have cP0_17_1 := P0_17.out.c1
        have lP1_17 := P1_17.out.lt
        have cP1_17_0 := P1_17.out.c0
        have cP1_17_1 := P1_17.out.c1
        have lP2_17 := P2_17.out.lt
        have cP2_17_0 := P2_17.out.c0
        have cP2_17_1 := P2_17.out.c1
        have lP3_17 := P3_17.out.lt
        have cP3_17_0 := P3_17.out.c0
        have cP3_17_1 := P3_17.out.c1
        go_wp2
        go_roundw
        case rel =>
          rcases HN5.out with ⟨e0, _⟩ | ⟨_, _, Z', cz', z1, z2, zz, z3, z4⟩
          · omega
          · injection zz with zz1 zz2 zz3
            injection zz1 with zz1
            injection zz1 with zz1
            subst zz1 zz3
            exact .inr (.inl ⟨Z, cz, z2, Lib.hid ⟨P0_17.out, P1_17.out, P2_17.out, P3_17.out, HB17.out⟩, Lib.hid ⟨z1, z3, z4⟩⟩)
        case measure =>
          have hm1 := P3_17.out.c1
          simp only [redM, hm0, hm1]
          decide
    · have P0_0 := Lib.hid HS.out.P0
      have P1_0 := Lib.hid HS.out.P1
      have P2_0 := Lib.hid HS.out.P2
      have P3_0 := Lib.hid HS.out.P3
      have HB_0 := Lib.hid HS.out.B
      have HV := Lib.hid (divide_one Y Z cy cz 100 25 4 0 wr (by omega) (by omega) (by omega) (by decide) (by decide) (by omega) hcy hcz (by rw [HB_0.out.cell HLY.out]; exact HY.out) HZ.out.2.2 (Nat.lt_of_lt_of_le HLY.out HB_0.out.size) HZ.out.2.1)
      have hlz := HS.out.P3.lt
      have hm0 := HS.out.P3.c1
      clear HS
      have lP0_0 := P0_0.out.lt
      have cP0_0_0 := P0_0.out.c0
      have cP0_0_1 := P0_0.out.c1
      have lP1_0 := P1_0.out.lt
      have cP1_0_0 := P1_0.out.c0
      have cP1_0_1 := P1_0.out.c1
      have lP2_0 := P2_0.out.lt
      have cP2_0_0 := P2_0.out.c0
      have cP2_0_1 := P2_0.out.c1
      have lP3_0 := P3_0.out.lt
      have cP3_0_0 := P3_0.out.c0
      have cP3_0_1 := P3_0.out.c1
      go_wp2_with fail
      refine HV.out.mono ?_
      rintro e w2 ⟨v, rfl, hv, hb⟩
      have hsh : ∃ ao c, v = .slice ao 0 c := by
        rcases hv with ⟨_, ao, c, e1⟩ | ⟨h0, _⟩
        · exact ⟨ao, c, e1⟩
        · omega
      obtain ⟨ao, c, rfl⟩ := hsh
      have HN := Lib.hid (hv.lower (M' := w.heap.size + 4) hlz)
      have HBm := Lib.hid hb
      clear hv HV
      clear lP0_0 cP0_0_0 cP0_0_1 lP1_0 cP1_0_0 cP1_0_1 lP2_0 cP2_0_0 cP2_0_1 lP3_0 cP3_0_0 cP3_0_1
      have HB18 := Lib.hid (HB_0.out.trans ((hb).mono HB_0.out.size))
      have P0_18 := Lib.hid (P0_0.out.below (hb) P0_0.out.lt)
      have P1_18 := Lib.hid (P1_0.out.below (hb) P1_0.out.lt)
      have P2_18 := Lib.hid (P2_0.out.below (hb) P2_0.out.lt)
      have P3_18 := Lib.hid (P3_0.out.below (hb) P3_0.out.lt)
      clear HB_0 P0_0 P1_0 P2_0 P3_0 hb
      have lP0_18 := P0_18.out.lt
      have cP0_18_0 := P0_18.out.c0
      have cP0_18_1 := P0_18.out.c1
      have lP1_18 := P1_18.out.lt
      have cP1_18_0 := P1_18.out.c0
      have cP1_18_1 := P1_18.out.c1
      have lP2_18 := P2_18.out.lt
      have cP2_18_0 := P2_18.out.c0
      have cP2_18_1 := P2_18.out.c1
      have lP3_18 := P3_18.out.lt
      have cP3_18_0 := P3_18.out.c0
      have cP3_18_1 := P3_18.out.c1
      have fP1_18_0 := P1_18.out.f0
      have fP1_18_1 := P1_18.out.f1
      go_wp2_with fail
      have HN2 := Lib.hid ((HN.out.set ⟨w.heap.size + 1, 0, none⟩ (by simp) (.slice (some ⟨Z, 0, none⟩) 1 cz)).set ⟨w.heap.size + 1, 1, none⟩ (by simp) (.slice ao 0 c))
      clear HN
      have P0_19 := Lib.hid (P0_18.out.far (B' := w.heap.size + 1) (by omega) 0 (.slice (some ⟨Z, 0, none⟩) 1 cz))
      have P1_19 := Lib.hid (P1_18.out.set0 (.slice (some ⟨Z, 0, none⟩) 1 cz))
      have P2_19 := Lib.hid (P2_18.out.far (B' := w.heap.size + 1) (by omega) 0 (.slice (some ⟨Z, 0, none⟩) 1 cz))
      have P3_19 := Lib.hid (P3_18.out.far (B' := w.heap.size + 1) (by omega) 0 (.slice (some ⟨Z, 0, none⟩) 1 cz))
      have HB19 := Lib.hid (HB18.out.setCell (p := ⟨w.heap.size + 1, 0, none⟩) (by simp <;> omega) (.slice (some ⟨Z, 0, none⟩) 1 cz))
      have P0_20 := Lib.hid (P0_19.out.far (B' := w.heap.size + 1) (by omega) 1 (.slice ao 0 c))
      have P1_20 := Lib.hid (P1_19.out.set1 (.slice ao 0 c))
      have P2_20 := Lib.hid (P2_19.out.far (B' := w.heap.size + 1) (by omega) 1 (.slice ao 0 c))
      have P3_20 := Lib.hid (P3_19.out.far (B' := w.heap.size + 1) (by omega) 1 (.slice ao 0 c))
      have HB20 := Lib.hid (HB19.out.setCell (p := ⟨w.heap.size + 1, 1, none⟩) (by simp <;> omega) (.slice ao 0 c))
      clear lP0_18 cP0_18_0 cP0_18_1 lP1_18 cP1_18_0 cP1_18_1 lP2_18 cP2_18_0 cP2_18_1 lP3_18 cP3_18_0 cP3_18_1 fP1_18_0 fP1_18_1
      clear P0_18 P1_18 P2_18 P3_18 HB18 P0_19 P1_19 P2_19 P3_19 HB19
      generalize (w2.setCell ⟨w.heap.size + 1, 0, none⟩ (.slice (some ⟨Z, 0, none⟩) 1 cz)).setCell ⟨w.heap.size + 1, 1, none⟩ (.slice ao 0 c) = W21 at *
      have lP0_20 := P0_20.out.lt
      have cP0_20_0 := P0_20.out.c0
      have cP0_20_1 := P0_20.out.c1
      have lP1_20 := P1_20.out.lt
      have cP1_20_0 := P1_20.out.c0
      have cP1_20_1 := P1_20.out.c1
      have lP2_20 := P2_20.out.lt
      have cP2_20_0 := P2_20.out.c0
      have cP2_20_1 := P2_20.out.c1
      have lP3_20 := P3_20.out.lt
      have cP3_20_0 := P3_20.out.c0
      have cP3_20_1 := P3_20.out.c1
      have fP2_20_0 := P2_20.out.f0
      have fP2_20_1 := P2_20.out.f1
      have fP3_20_0 := P3_20.out.f0
      have fP3_20_1 := P3_20.out.f1
      have HSS := Lib.hid (show W21.drew.cell? ⟨w.heap.size + 3, 0, none⟩ = some (.int .i64 0) ∧ W21.drew.cell? ⟨w.heap.size + 3, 1, none⟩ = some (.int .i64 1) from ⟨P3_20.out.c0, P3_20.out.c1⟩)
      have HST := Lib.hid (show ((W21.setCell ⟨w.heap.size + 2, 0, none⟩ (.int .i64 0)).setCell ⟨w.heap.size + 2, 1, none⟩ (.int .i64 1)).drew.cell? ⟨w.heap.size + 3, 0, none⟩ = some (.int .i64 0) ∧ ((W21.setCell ⟨w.heap.size + 2, 0, none⟩ (.int .i64 0)).setCell ⟨w.heap.size + 2, 1, none⟩ (.int .i64 1)).drew.cell? ⟨w.heap.size + 3, 1, none⟩ = some (.int .i64 1) from ⟨((P3_20.out.far (B' := w.heap.size + 2) (by omega) 0 _).far (B' := w.heap.size + 2) (by omega) 1 _).c0, ((P3_20.out.far (B' := w.heap.size + 2) (by omega) 0 _).far (B' := w.heap.size + 2) (by omega) 1 _).c1⟩)
      refine goes_region (fun x => x.cell? ⟨w.heap.size + 3, 0, none⟩ = some (.int .i64 0) ∧ x.cell? ⟨w.heap.size + 3, 1, none⟩ = some (.int .i64 1)) 17 (by kernel_rfl) ?_
      refine goes_take (i := 0) (v := ?_) rfl (by kernel_rfl) (by kernel_rfl) (by decide) (by kernel_rfl) (by kernel_rfl) (fun _ _ _ h => h) (Or.inl ⟨by kernel_rfl, ?_⟩) HSS.out ?_
      rotate_left
      · ((intro x hx; have hx0 := hx.1; have hx1 := hx.2; clear hx; go_simp) <;> with_reducible rfl)
      try simp only [Act.put, List.setIfInBounds_toArray, List.set_cons_zero, List.set_cons_succ]
      refine goes_take (i := 1) (v := ?_) rfl (by kernel_rfl) (by kernel_rfl) (by decide) (by kernel_rfl) (by kernel_rfl) (fun _ _ _ h => h) (Or.inl ⟨by kernel_rfl, ?_⟩) HSS.out ?_
      rotate_left
      · ((intro x hx; have hx0 := hx.1; have hx1 := hx.2; clear hx; go_simp) <;> with_reducible rfl)
      try simp only [Act.put, List.setIfInBounds_toArray, List.set_cons_zero, List.set_cons_succ]
      refine goes_take (i := 2) (v := ?_) rfl (by kernel_rfl) (by kernel_rfl) (by decide) (by kernel_rfl) (by kernel_rfl) (fun _ _ _ h => h) (Or.inl ⟨by kernel_rfl, ?_⟩) HSS.out ?_
      rotate_left
      · ((intro x hx; have hx0 := hx.1; have hx1 := hx.2; clear hx; go_simp) <;> with_reducible rfl)
      try simp only [Act.put, List.setIfInBounds_toArray, List.set_cons_zero, List.set_cons_succ]
      refine goes_take (i := 3) (v := ?_) rfl (by kernel_rfl) (by kernel_rfl) (by decide) (by kernel_rfl) (by kernel_rfl) (fun _ _ _ h => h) (Or.inl ⟨by kernel_rfl, ?_⟩) HSS.out ?_
      rotate_left
      · ((intro x hx; have hx0 := hx.1; have hx1 := hx.2; clear hx; go_simp) <;> with_reducible rfl)
      try simp only [Act.put, List.setIfInBounds_toArray, List.set_cons_zero, List.set_cons_succ]
      refine goes_take (i := 4) (v := ?_) rfl (by kernel_rfl) (by kernel_rfl) (by decide) (by kernel_rfl) (by kernel_rfl) (fun _ _ _ h => h) (Or.inl ⟨by kernel_rfl, ?_⟩) HSS.out ?_
      rotate_left
      · ((intro x hx; have hx0 := hx.1; have hx1 := hx.2; clear hx; go_simp) <;> with_reducible rfl)
      try simp only [Act.put, List.setIfInBounds_toArray, List.set_cons_zero, List.set_cons_succ]
      refine goes_take (i := 5) (v := ?_) rfl (by kernel_rfl) (by kernel_rfl) (by decide) (by kernel_rfl) (by kernel_rfl) (fun _ _ _ h => h) (Or.inl ⟨by kernel_rfl, ?_⟩) HSS.out ?_
      rotate_left
      · ((intro x hx; have hx0 := hx.1; have hx1 := hx.2; clear hx; go_simp) <;> with_reducible rfl)
      try simp only [Act.put, List.setIfInBounds_toArray, List.set_cons_zero, List.set_cons_succ]
      refine goes_take (i := 8) (v := ?_) rfl (by kernel_rfl) (by kernel_rfl) (by decide) (by kernel_rfl) (by kernel_rfl) (fun _ _ _ h => h) (Or.inl ⟨by kernel_rfl, ?_⟩) HSS.out ?_
      rotate_left
      · ((intro x hx; have hx0 := hx.1; have hx1 := hx.2; clear hx; go_simp) <;> with_reducible rfl)
      try simp only [Act.put, List.setIfInBounds_toArray, List.set_cons_zero, List.set_cons_succ]
      refine goes_take (i := 9) (v := ?_) rfl (by kernel_rfl) (by kernel_rfl) (by decide) (by kernel_rfl) (by kernel_rfl) (fun _ _ _ h => h) (Or.inl ⟨by kernel_rfl, ?_⟩) HSS.out ?_
      rotate_left
      · ((intro x hx; have hx0 := hx.1; have hx1 := hx.2; clear hx; go_simp) <;> with_reducible rfl)
      try simp only [Act.put, List.setIfInBounds_toArray, List.set_cons_zero, List.set_cons_succ]
      refine goes_take (i := 10) (v := ?_) rfl (by kernel_rfl) (by kernel_rfl) (by decide) (by kernel_rfl) (by kernel_rfl) (fun _ _ _ h => h) (Or.inl ⟨by kernel_rfl, ?_⟩) HSS.out ?_
      rotate_left
      · ((intro x hx; have hx0 := hx.1; have hx1 := hx.2; clear hx; go_simp) <;> with_reducible rfl)
      try simp only [Act.put, List.setIfInBounds_toArray, List.set_cons_zero, List.set_cons_succ]
      refine goes_take (i := 11) (v := ?_) rfl (by kernel_rfl) (by kernel_rfl) (by decide) (by kernel_rfl) (by kernel_rfl) (fun _ _ _ h => h) (Or.inl ⟨by kernel_rfl, ?_⟩) HSS.out ?_
      rotate_left
      · ((intro x hx; have hx0 := hx.1; have hx1 := hx.2; clear hx; go_simp) <;> with_reducible rfl)
      try simp only [Act.put, List.setIfInBounds_toArray, List.set_cons_zero, List.set_cons_succ]
      refine goes_take (i := 12) (v := ?_) rfl (by kernel_rfl) (by kernel_rfl) (by decide) (by kernel_rfl) (by kernel_rfl) (fun _ _ _ h => h) (Or.inl ⟨by kernel_rfl, ?_⟩) HSS.out ?_
      rotate_left
      · ((intro x hx; have hx0 := hx.1; have hx1 := hx.2; clear hx; go_simp) <;> with_reducible rfl)
      try simp only [Act.put, List.setIfInBounds_toArray, List.set_cons_zero, List.set_cons_succ]
      refine goes_two (i := 6) (j := 13) rfl rfl (by kernel_rfl) (fun K hK => ?_) (fun K hK => ?_)
      · skip
        go_simp
        refine hK _ _ (fun _ => HSS.out) ?_
        clear hK K
        try simp only [Act.put, List.setIfInBounds_toArray, List.set_cons_zero, List.set_cons_succ]
        refine goes_take (i := 7) (v := ?_) rfl (by kernel_rfl) (by kernel_rfl) (by decide) (by kernel_rfl) (by kernel_rfl) (fun _ _ _ h => h) (Or.inl ⟨by kernel_rfl, ?_⟩) HSS.out ?_
        rotate_left
        · ((intro x hx; have hx0 := hx.1; have hx1 := hx.2; clear hx; go_simp) <;> with_reducible rfl)
        try simp only [Act.put, List.setIfInBounds_toArray, List.set_cons_zero, List.set_cons_succ]
        refine goes_one (i := 13) rfl (by kernel_rfl) (fun K hK => ?_)
        go_simp
        refine hK _ _ (fun _ => HSS.out) ?_
        clear hK K
        try simp only [Act.put, List.setIfInBounds_toArray, List.set_cons_zero, List.set_cons_succ]
        refine goes_take (i := 14) (v := ?_) rfl (by kernel_rfl) (by kernel_rfl) (by decide) (by kernel_rfl) (by kernel_rfl) (fun _ _ _ h => h) (Or.inl ⟨by kernel_rfl, ?_⟩) HSS.out ?_
        rotate_left
        · ((intro x hx; have hx0 := hx.1; have hx1 := hx.2; clear hx; go_simp) <;> with_reducible rfl)
        try simp only [Act.put, List.setIfInBounds_toArray, List.set_cons_zero, List.set_cons_succ]
        refine goes_take (i := 15) (v := ?_) rfl (by kernel_rfl) (by kernel_rfl) (by decide) (by kernel_rfl) (by kernel_rfl) (fun _ _ _ h => h) (Or.inl ⟨by kernel_rfl, ?_⟩) HSS.out ?_
        rotate_left
        · ((intro x hx; have hx0 := hx.1; have hx1 := hx.2; clear hx; go_simp) <;> with_reducible rfl)
        try simp only [Act.put, List.setIfInBounds_toArray, List.set_cons_zero, List.set_cons_succ]
        refine goes_one (i := 16) rfl (by kernel_rfl) (fun K hK => ?_)
        go_simp
        refine hK _ _ (fun _ => HST.out) ?_
        clear hK K
        try simp only [Act.put, List.setIfInBounds_toArray, List.set_cons_zero, List.set_cons_succ]
        refine goes_one (i := 17) rfl (by kernel_rfl) (fun K hK => ?_)
        go_simp
        refine hK _ _ (fun h => absurd rfl h) ?_
        clear hK K
        try simp only [Act.put, List.setIfInBounds_toArray, List.set_cons_zero, List.set_cons_succ]
        refine goes_done (by kernel_rfl) ?_ _
        try simp only [Act.put, List.setIfInBounds_toArray, List.set_cons_zero, List.set_cons_succ]
        try go_simp
        try simp only [(by decide : IntKind.i64.wrap 0 = 0), (by decide : IntKind.i64.wrap 1 = 1), (by decide : IntKind.i64.wrap 4 = 4), Int.reduceAdd, Int.reduceMul, Int.add_zero, Int.zero_add, Int.mul_zero, Int.mul_one, Int.zero_mul]
        rw [show (((W21.setCell ⟨w.heap.size + 1 + 1, 0, none⟩ (.int .i64 0)).setCell ⟨w.heap.size + 1 + 1, 1, none⟩ (.int .i64 1)).setCell ⟨w.heap.size + 1 + 1 + 1, 0, none⟩ (.int .i64 1)).setCell ⟨w.heap.size + 1 + 1 + 1, 1, none⟩ (.int .i64 4) = (((W21.setCell ⟨w.heap.size + 2, 0, none⟩ (.int .i64 0)).setCell ⟨w.heap.size + 2, 1, none⟩ (.int .i64 1)).setCell ⟨w.heap.size + 3, 0, none⟩ (.int .i64 1)).setCell ⟨w.heap.size + 3, 1, none⟩ (.int .i64 4) from rfl]
        have HN4 := Lib.hid ((((HN2.out.set ⟨w.heap.size + 2, 0, none⟩ (by simp) (.int .i64 0)).set ⟨w.heap.size + 2, 1, none⟩ (by simp) (.int .i64 1)).set ⟨w.heap.size + 3, 0, none⟩ (by simp) (.int .i64 1)).set ⟨w.heap.size + 3, 1, none⟩ (by simp) (.int .i64 4))
        clear HN2 HSS HST
        have P0_22 := Lib.hid (P0_20.out.far (B' := w.heap.size + 2) (by omega) 0 (.int .i64 0))
        have P1_22 := Lib.hid (P1_20.out.far (B' := w.heap.size + 2) (by omega) 0 (.int .i64 0))
        have P2_22 := Lib.hid (P2_20.out.set0 (.int .i64 0))
        have P3_22 := Lib.hid (P3_20.out.far (B' := w.heap.size + 2) (by omega) 0 (.int .i64 0))
        have HB22 := Lib.hid (HB20.out.setCell (p := ⟨w.heap.size + 2, 0, none⟩) (by simp <;> omega) (.int .i64 0))
        have P0_23 := Lib.hid (P0_22.out.far (B' := w.heap.size + 2) (by omega) 1 (.int .i64 1))
        have P1_23 := Lib.hid (P1_22.out.far (B' := w.heap.size + 2) (by omega) 1 (.int .i64 1))
        have P2_23 := Lib.hid (P2_22.out.set1 (.int .i64 1))
        have P3_23 := Lib.hid (P3_22.out.far (B' := w.heap.size + 2) (by omega) 1 (.int .i64 1))
        have HB23 := Lib.hid (HB22.out.setCell (p := ⟨w.heap.size + 2, 1, none⟩) (by simp <;> omega) (.int .i64 1))
        have P0_24 := Lib.hid (P0_23.out.far (B' := w.heap.size + 3) (by omega) 0 (.int .i64 1))
        have P1_24 := Lib.hid (P1_23.out.far (B' := w.heap.size + 3) (by omega) 0 (.int .i64 1))
        have P2_24 := Lib.hid (P2_23.out.far (B' := w.heap.size + 3) (by omega) 0 (.int .i64 1))
        have P3_24 := Lib.hid (P3_23.out.set0 (.int .i64 1))
        have HB24 := Lib.hid (HB23.out.setCell (p := ⟨w.heap.size + 3, 0, none⟩) (by simp <;> omega) (.int .i64 1))
        have P0_25 := Lib.hid (P0_24.out.far (B' := w.heap.size + 3) (by omega) 1 (.int .i64 4))
        have P1_25 := Lib.hid (P1_24.out.far (B' := w.heap.size + 3) (by omega) 1 (.int .i64 4))
        have P2_25 := Lib.hid (P2_24.out.far (B' := w.heap.size + 3) (by omega) 1 (.int .i64 4))
        have P3_25 := Lib.hid (P3_24.out.set1 (.int .i64 4))
        have HB25 := Lib.hid (HB24.out.setCell (p := ⟨w.heap.size + 3, 1, none⟩) (by simp <;> omega) (.int .i64 4))
        clear lP0_20 cP0_20_0 cP0_20_1 lP1_20 cP1_20_0 cP1_20_1 lP2_20 cP2_20_0 cP2_20_1 lP3_20 cP3_20_0 cP3_20_1 fP2_20_0 fP2_20_1 fP3_20_0 fP3_20_1
        clear P0_20 P1_20 P2_20 P3_20 HB20 P0_22 P1_22 P2_22 P3_22 HB22 P0_23 P1_23 P2_23 P3_23 HB23 P0_24 P1_24 P2_24 P3_24 HB24
        generalize (((W21.setCell ⟨w.heap.size + 2, 0, none⟩ (.int .i64 0)).setCell ⟨w.heap.size + 2, 1, none⟩ (.int .i64 1)).setCell ⟨w.heap.size + 3, 0, none⟩ (.int .i64 1)).setCell ⟨w.heap.size + 3, 1, none⟩ (.int .i64 4) = W26 at *
        have hbW : Below W26.heap.size W26 W26.drew := (Below.refl _ _).drew
        have HN5 := Lib.hid (HN4.out.below hbW (Nat.le_refl _))
        clear HN4
        generalize W26.drew = WW at *
        have HB27 := Lib.hid (HB25.out.trans ((hbW).mono HB25.out.size))
        have P0_27 := Lib.hid (P0_25.out.below (hbW) P0_25.out.lt)
        have P1_27 := Lib.hid (P1_25.out.below (hbW) P1_25.out.lt)
        have P2_27 := Lib.hid (P2_25.out.below (hbW) P2_25.out.lt)
        have P3_27 := Lib.hid (P3_25.out.below (hbW) P3_25.out.lt)
        clear HB25 P0_25 P1_25 P2_25 P3_25 hbW
        have lP0_27 := P0_27.out.lt
        have cP0_27_0 := P0_27.out.c0
        have cP0_27_1 := P0_27.out.c1
        have lP1_27 := P1_27.out.lt
        have cP1_27_0 := P1_27.out.c0
        have cP1_27_1 := P1_27.out.c1
        have lP2_27 := P2_27.out.lt
        have cP2_27_0 := P2_27.out.c0
        have cP2_27_1 := P2_27.out.c1
        have lP3_27 := P3_27.out.lt
        have cP3_27_0 := P3_27.out.c0
        have cP3_27_1 := P3_27.out.c1
        go_wp2
        go_roundw
        case rel => exact .inr (.inr ⟨_, ao, c, Lib.hid ⟨P0_27.out, P1_27.out, P2_27.out, P3_27.out, HB27.out⟩⟩)
        case measure =>
          have hm1 := P3_27.out.c1
          simp only [redM, hm0, hm1]
          decide
      · skip
        go_simp
        refine hK _ _ (fun _ => HSS.out) ?_
        clear hK K
        try simp only [Act.put, List.setIfInBounds_toArray, List.set_cons_zero, List.set_cons_succ]
        refine goes_take (i := 14) (v := ?_) rfl (by kernel_rfl) (by kernel_rfl) (by decide) (by kernel_rfl) (by kernel_rfl) (fun _ _ _ h => h) (Or.inl ⟨by kernel_rfl, ?_⟩) HSS.out ?_
        rotate_left
        · ((intro x hx; have hx0 := hx.1; have hx1 := hx.2; clear hx; go_simp) <;> with_reducible rfl)
        try simp only [Act.put, List.setIfInBounds_toArray, List.set_cons_zero, List.set_cons_succ]
        refine goes_one (i := 6) rfl (by kernel_rfl) (fun K hK => ?_)
        go_simp
        refine hK _ _ (fun _ => HSS.out) ?_
        clear hK K
        try simp only [Act.put, List.setIfInBounds_toArray, List.set_cons_zero, List.set_cons_succ]
        refine goes_take (i := 7) (v := ?_) rfl (by kernel_rfl) (by kernel_rfl) (by decide) (by kernel_rfl) (by kernel_rfl) (fun _ _ _ h => h) (Or.inl ⟨by kernel_rfl, ?_⟩) HSS.out ?_
        rotate_left
        · ((intro x hx; have hx0 := hx.1; have hx1 := hx.2; clear hx; go_simp) <;> with_reducible rfl)
        try simp only [Act.put, List.setIfInBounds_toArray, List.set_cons_zero, List.set_cons_succ]
        refine goes_take (i := 15) (v := ?_) rfl (by kernel_rfl) (by kernel_rfl) (by decide) (by kernel_rfl) (by kernel_rfl) (fun _ _ _ h => h) (Or.inl ⟨by kernel_rfl, ?_⟩) HSS.out ?_
        rotate_left
        · ((intro x hx; have hx0 := hx.1; have hx1 := hx.2; clear hx; go_simp) <;> with_reducible rfl)
        try simp only [Act.put, List.setIfInBounds_toArray, List.set_cons_zero, List.set_cons_succ]
        refine goes_one (i := 16) rfl (by kernel_rfl) (fun K hK => ?_)
        go_simp
        refine hK _ _ (fun _ => HST.out) ?_
        clear hK K
        try simp only [Act.put, List.setIfInBounds_toArray, List.set_cons_zero, List.set_cons_succ]
        refine goes_one (i := 17) rfl (by kernel_rfl) (fun K hK => ?_)
        go_simp
        refine hK _ _ (fun h => absurd rfl h) ?_
        clear hK K
        try simp only [Act.put, List.setIfInBounds_toArray, List.set_cons_zero, List.set_cons_succ]
        refine goes_done (by kernel_rfl) ?_ _
        try simp only [Act.put, List.setIfInBounds_toArray, List.set_cons_zero, List.set_cons_succ]
        try go_simp
        try simp only [(by decide : IntKind.i64.wrap 0 = 0), (by decide : IntKind.i64.wrap 1 = 1), (by decide : IntKind.i64.wrap 4 = 4), Int.reduceAdd, Int.reduceMul, Int.add_zero, Int.zero_add, Int.mul_zero, Int.mul_one, Int.zero_mul]
        rw [show (((W21.setCell ⟨w.heap.size + 1 + 1, 0, none⟩ (.int .i64 0)).setCell ⟨w.heap.size + 1 + 1, 1, none⟩ (.int .i64 1)).setCell ⟨w.heap.size + 1 + 1 + 1, 0, none⟩ (.int .i64 1)).setCell ⟨w.heap.size + 1 + 1 + 1, 1, none⟩ (.int .i64 4) = (((W21.setCell ⟨w.heap.size + 2, 0, none⟩ (.int .i64 0)).setCell ⟨w.heap.size + 2, 1, none⟩ (.int .i64 1)).setCell ⟨w.heap.size + 3, 0, none⟩ (.int .i64 1)).setCell ⟨w.heap.size + 3, 1, none⟩ (.int .i64 4) from rfl]
        have HN4 := Lib.hid ((((HN2.out.set ⟨w.heap.size + 2, 0, none⟩ (by simp) (.int .i64 0)).set ⟨w.heap.size + 2, 1, none⟩ (by simp) (.int .i64 1)).set ⟨w.heap.size + 3, 0, none⟩ (by simp) (.int .i64 1)).set ⟨w.heap.size + 3, 1, none⟩ (by simp) (.int .i64 4))
        clear HN2 HSS HST
        have P0_28 := Lib.hid (P0_20.out.far (B' := w.heap.size + 2) (by omega) 0 (.int .i64 0))
        have P1_28 := Lib.hid (P1_20.out.far (B' := w.heap.size + 2) (by omega) 0 (.int .i64 0))
        have P2_28 := Lib.hid (P2_20.out.set0 (.int .i64 0))
        have P3_28 := Lib.hid (P3_20.out.far (B' := w.heap.size + 2) (by omega) 0 (.int .i64 0))
        have HB28 := Lib.hid (HB20.out.setCell (p := ⟨w.heap.size + 2, 0, none⟩) (by simp <;> omega) (.int .i64 0))
        have P0_29 := Lib.hid (P0_28.out.far (B' := w.heap.size + 2) (by omega) 1 (.int .i64 1))
        have P1_29 := Lib.hid (P1_28.out.far (B' := w.heap.size + 2) (by omega) 1 (.int .i64 1))
        have P2_29 := Lib.hid (P2_28.out.set1 (.int .i64 1))
        have P3_29 := Lib.hid (P3_28.out.far (B' := w.heap.size + 2) (by omega) 1 (.int .i64 1))
        have HB29 := Lib.hid (HB28.out.setCell (p := ⟨w.heap.size + 2, 1, none⟩) (by simp <;> omega) (.int .i64 1))
        have P0_30 := Lib.hid (P0_29.out.far (B' := w.heap.size + 3) (by omega) 0 (.int .i64 1))
        have P1_30 := Lib.hid (P1_29.out.far (B' := w.heap.size + 3) (by omega) 0 (.int .i64 1))
        have P2_30 := Lib.hid (P2_29.out.far (B' := w.heap.size + 3) (by omega) 0 (.int .i64 1))
        have P3_30 := Lib.hid (P3_29.out.set0 (.int .i64 1))
        have HB30 := Lib.hid (HB29.out.setCell (p := ⟨w.heap.size + 3, 0, none⟩) (by simp <;> omega) (.int .i64 1))
        have P0_31 := Lib.hid (P0_30.out.far (B' := w.heap.size + 3) (by omega) 1 (.int .i64 4))
        have P1_31 := Lib.hid (P1_30.out.far (B' := w.heap.size + 3) (by omega) 1 (.int .i64 4))
        have P2_31 := Lib.hid (P2_30.out.far (B' := w.heap.size + 3) (by omega) 1 (.int .i64 4))
        have P3_31 := Lib.hid (P3_30.out.set1 (.int .i64 4))
        have HB31 := Lib.hid (HB30.out.setCell (p := ⟨w.heap.size + 3, 1, none⟩) (by simp <;> omega) (.int .i64 4))
        clear lP0_20 cP0_20_0 cP0_20_1 lP1_20 cP1_20_0 cP1_20_1 lP2_20 cP2_20_0 cP2_20_1 lP3_20 cP3_20_0 cP3_20_1 fP2_20_0 fP2_20_1 fP3_20_0 fP3_20_1
        clear P0_20 P1_20 P2_20 P3_20 HB20 P0_28 P1_28 P2_28 P3_28 HB28 P0_29 P1_29 P2_29 P3_29 HB29 P0_30 P1_30 P2_30 P3_30 HB30
        generalize (((W21.setCell ⟨w.heap.size + 2, 0, none⟩ (.int .i64 0)).setCell ⟨w.heap.size + 2, 1, none⟩ (.int .i64 1)).setCell ⟨w.heap.size + 3, 0, none⟩ (.int .i64 1)).setCell ⟨w.heap.size + 3, 1, none⟩ (.int .i64 4) = W32 at *
        have hbW : Below W32.heap.size W32 W32.drew := (Below.refl _ _).drew
        have HN5 := Lib.hid (HN4.out.below hbW (Nat.le_refl _))
        clear HN4
        generalize W32.drew = WW at *
        have HB33 := Lib.hid (HB31.out.trans ((hbW).mono HB31.out.size))
        have P0_33 := Lib.hid (P0_31.out.below (hbW) P0_31.out.lt)
        have P1_33 := Lib.hid (P1_31.out.below (hbW) P1_31.out.lt)
        have P2_33 := Lib.hid (P2_31.out.below (hbW) P2_31.out.lt)
        have P3_33 := Lib.hid (P3_31.out.below (hbW) P3_31.out.lt)
        clear HB31 P0_31 P1_31 P2_31 P3_31 hbW
        have lP0_33 := P0_33.out.lt
        have cP0_33_0 := P0_33.out.c0
        have cP0_33_1 := P0_33.out.c1
        have lP1_33 := P1_33.out.lt
        have cP1_33_0 := P1_33.out.c0
        have cP1_33_1 := P1_33.out.c1
        have lP2_33 := P2_33.out.lt
        have cP2_33_0 := P2_33.out.c0
        have cP2_33_1 := P2_33.out.c1
        have lP3_33 := P3_33.out.lt
        have cP3_33_0 := P3_33.out.c0
        have cP3_33_1 := P3_33.out.c1
        go_wp2
        go_roundw
        case rel => exact .inr (.inr ⟨_, ao, c, Lib.hid ⟨P0_33.out, P1_33.out, P2_33.out, P3_33.out, HB33.out⟩⟩)
        case measure =>
          have hm1 := P3_33.out.c1
          simp only [redM, hm0, hm1]
          decide
    · have P0_0 := Lib.hid HS.out.P0
      have P1_0 := Lib.hid HS.out.P1
      have P2_0 := Lib.hid HS.out.P2
      have P3_0 := Lib.hid HS.out.P3
      have HB_0 := Lib.hid HS.out.B
      clear HS
      have lP0_0 := P0_0.out.lt
      have cP0_0_0 := P0_0.out.c0
      have cP0_0_1 := P0_0.out.c1
      have lP1_0 := P1_0.out.lt
      have cP1_0_0 := P1_0.out.c0
      have cP1_0_1 := P1_0.out.c1
      have lP2_0 := P2_0.out.lt
      have cP2_0_0 := P2_0.out.c0
      have cP2_0_1 := P2_0.out.c1
      have lP3_0 := P3_0.out.lt
      have cP3_0_0 := P3_0.out.c0
      have cP3_0_1 := P3_0.out.c1
      have fP0_0_0 := P0_0.out.f0
      have fP0_0_1 := P0_0.out.f1
      go_wp2
      refine bodyPost_ret (v := .tuple #[.agg #[(.int .i64 1), (.int .i64 4)], .bool true]) ?_ rfl ⟨rfl, ((HB_0.out.setCell (p := ⟨w.heap.size, 0, none⟩) (by simp) (.int .i64 1)).setCell (p := ⟨w.heap.size, 1, none⟩) (by simp) (.int .i64 4))⟩
      have u0 := ((P0_0.out.set0 (.int .i64 1)).set1 (.int .i64 4)).c0
      have u1 := ((P0_0.out.set0 (.int .i64 1)).set1 (.int .i64 4)).c1
      rw [results_cell_tmp rfl]
      go_simp
end Go.Proofs.Ytmanlfkoannkoaa
