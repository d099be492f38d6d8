/- The walk of SheetPicks. Written by wip/mk_shz.py. -/
import Derived.Test.YtenhnnfemehbcaaShY
import Derived.Test.YtenhnnfemehbcaaShT
namespace Go.Proofs.Ytenhnnfemehbcaa
open Go.RowKit Go.Sort
set_option linter.unusedVariables false
set_option linter.unusedSimpArgs false

set_option maxRecDepth 100000 in
set_option maxHeartbeats 6000000 in
theorem sheetPicks_walk (A : Option Addr) (len cap : Nat) (L : List Cl) (b1 b2 b3 b4 b5 : ByteArray) (w : World) (h : OkS w A len L) :
    Calls Try.prog 8 #[.slice A len cap, .agg #[.string b1, .string b2, .string b3, .string b4, .string b5]] w fun e w' => e = .returned (.bool true) ∧ Below w.heap.size w w' := by
  obtain ⟨rfl, hR, hBd, hl⟩ := h
  have HLg := Lib.hid (fun W => large_any A L.length cap W hl)
  have g0 : Below w.heap.size w (w.alloc (Obj.cells #[.string b1, .string b2, .string b3, .string b4, .string b5] 23)) := (Below.refl _ _).alloc (Nat.le_refl _) _
  have HR := Lib.hid (hR.below g0)
  have HB0 := Lib.hid g0
  have HP := Lib.hid (Q5.alloc w (.string b1) (.string b2) (.string b3) (.string b4) (.string b5) 23)
  have HLi := Lib.hid lives_any
  clear hR hBd g0
  by_cases g1 : 300 < (L.length : Int)
  · rw [decide_eq_true g1] at HLg
    go_enter Try.func8, Try.ntmps8
    have xP0 := HP.out.c0
    have xP1 := HP.out.c1
    have xP2 := HP.out.c2
    have xP3 := HP.out.c3
    have xP4 := HP.out.c4
    go_wp2_with fail
    refine (HLg.out _).mono ?_
    rintro e w_ ⟨rfl, rfl⟩
    go_wp2
    go_ret
    exact ⟨rfl, HB0.out⟩
  rw [decide_eq_false g1] at HLg
  have HG1 := Lib.hid (fun W (hr : RowS W A L) => get_any A cap L b1 b2 b3 b4 b5 W hr (by omega))
  have HG2 := Lib.hid (fun W (hr : RowS W A L) => rGet_any A cap L b1 b2 b3 b4 b5 W hr (by omega))
  have HK1 := Lib.hid (fun W (hr : RowS W A L) => pick_any A cap L b1 b2 b3 b4 b5 W hr (by omega))
  have HK2 := Lib.hid (fun W (hr : RowS W A L) => rPick_any A cap L b1 b2 b3 b4 b5 W hr (by omega))
  have hX := pck_len (b1, b2, b3, b4, b5) L L.length
  rw [List.take_length] at hX
  have HK3 := Lib.hid (show ∀ W, RowS W A L → Calls Try.prog 31 #[.slice A L.length cap, .agg #[.string ⟨#[]⟩, .string ⟨#[]⟩, .string ⟨#[]⟩, .string ⟨#[]⟩, .string ⟨#[]⟩]] W fun e w' => ∃ v, e = .returned v ∧ OwnS w' W.heap.size v L ∧ Below W.heap.size W w' from fun W hr => by
    have q := pick_any A cap L ⟨#[]⟩ ⟨#[]⟩ ⟨#[]⟩ ⟨#[]⟩ ⟨#[]⟩ W hr (by omega)
    rw [pck_all] at q
    exact q)
  generalize getV L (b1, b2, b3, b4, b5) = V at *
  generalize pckL (b1, b2, b3, b4, b5) L = X at *
  obtain ⟨v1, v2⟩ := V
  have hS : ∀ M : List Cl, M.length ≤ 10000 → ∀ ao co bo cp (W : World), RowS W ao M → RowS W bo M → Calls Try.prog 20 #[.slice ao M.length co, .slice bo M.length cp] W fun e w' => e = .returned (.bool true) ∧ Below W.heap.size W w' := fun M hM ao co bo cp W h1 h2 => by
    have q := rSame_any ao bo co cp M M W h1 h2 hM hM
    rw [show smB M M = true from decide_eq_true rfl] at q
    exact q
  have HSm := Lib.hid (hS X (by omega))
  have HSl := Lib.hid (hS L (by omega))
  clear hS
  go_enter Try.func8, Try.ntmps8
  have xP0 := HP.out.c0
  have xP1 := HP.out.c1
  have xP2 := HP.out.c2
  have xP3 := HP.out.c3
  have xP4 := HP.out.c4
  go_wp2_with fail
  refine (HLg.out _).mono ?_
  rintro e w_ ⟨rfl, rfl⟩
  go_wp2_with fail
  refine (HG1.out _ HR.out).mono ?_
  rintro e w1 ⟨rfl, hb⟩
  clear xP0 xP1 xP2 xP3 xP4
  have HB1 := Lib.hid (HB0.out.trans ((hb).mono HB0.out.size))
  have P_1 := Lib.hid (HP.out.below hb)
  have R_1 := Lib.hid (HR.out.below hb)
  clear hb HP HR
  have xP0 := P_1.out.c0
  have xP1 := P_1.out.c1
  have xP2 := P_1.out.c2
  have xP3 := P_1.out.c3
  have xP4 := P_1.out.c4
  go_wp2_with fail
  refine (HG2.out _ R_1.out).mono ?_
  rintro e w2 ⟨rfl, hb⟩
  clear xP0 xP1 xP2 xP3 xP4
  have HB2 := Lib.hid (HB1.out.trans ((hb).mono HB1.out.size))
  have P_2 := Lib.hid (P_1.out.below hb)
  have R_2 := Lib.hid (R_1.out.below hb)
  clear hb HB1 P_1 R_1
  have xP0 := P_2.out.c0
  have xP1 := P_2.out.c1
  have xP2 := P_2.out.c2
  have xP3 := P_2.out.c3
  have xP4 := P_2.out.c4
  have hPl := P_2.out.lt
  have HS := Lib.hid (show Below w2.heap.size w2 (w2.drewN 1) from below_drewN (Below.refl _ _) 1)
  go_wp2_with fail
  refine gk_region (fun x => Below w2.heap.size w2 x) (fun _ => false) (by kernel_rfl) ?_
  change Hid (Below w2.heap.size w2 w2.drew) at HS
  generalize w2.drew = y0 at *
  -- take 0
  refine gk_take (i := 0) (v := ?_) rfl (by kernel_rfl) (by kernel_rfl) (by kernel_rfl) (by kernel_rfl) (fun _ _ _ h => h) (Or.inl ⟨by kernel_rfl, ?_⟩) HS.out ?_
  rotate_left
  · ((intro x hx; clear hx; go_simp) <;> with_reducible rfl)
  try simp only [Act.put, List.setIfInBounds_toArray, List.set_cons_zero, List.set_cons_succ]
  -- take 1
  refine gk_take (i := 1) (v := ?_) rfl (by kernel_rfl) (by kernel_rfl) (by kernel_rfl) (by kernel_rfl) (fun _ _ _ h => h) (Or.inl ⟨by kernel_rfl, ?_⟩) HS.out ?_
  rotate_left
  · ((intro x hx; clear hx; go_simp) <;> with_reducible rfl)
  try simp only [Act.put, List.setIfInBounds_toArray, List.set_cons_zero, List.set_cons_succ]
  -- take 2
  refine gk_take (i := 2) (v := ?_) rfl (by kernel_rfl) (by kernel_rfl) (by kernel_rfl) (by kernel_rfl) (fun _ _ _ h => h) (Or.inl ⟨by kernel_rfl, ?_⟩) HS.out ?_
  rotate_left
  · ((intro x hx; clear hx; go_simp) <;> with_reducible rfl)
  try simp only [Act.put, List.setIfInBounds_toArray, List.set_cons_zero, List.set_cons_succ]
  -- take 3
  refine gk_take (i := 3) (v := ?_) rfl (by kernel_rfl) (by kernel_rfl) (by kernel_rfl) (by kernel_rfl) (fun _ _ _ h => h) (Or.inl ⟨by kernel_rfl, ?_⟩) HS.out ?_
  rotate_left
  · ((intro x hx; clear hx; go_simp) <;> with_reducible rfl)
  try simp only [Act.put, List.setIfInBounds_toArray, List.set_cons_zero, List.set_cons_succ]
  -- take 4
  refine gk_take (i := 4) (v := ?_) rfl (by kernel_rfl) (by kernel_rfl) (by kernel_rfl) (by kernel_rfl) (fun _ _ _ h => h) (Or.inl ⟨by kernel_rfl, ?_⟩) HS.out ?_
  rotate_left
  · ((intro x hx; clear hx; go_simp) <;> with_reducible rfl)
  try simp only [Act.put, List.setIfInBounds_toArray, List.set_cons_zero, List.set_cons_succ]
  -- take 5
  refine gk_take (i := 5) (v := ?_) rfl (by kernel_rfl) (by kernel_rfl) (by kernel_rfl) (by kernel_rfl) (fun _ _ _ h => h) (Or.inl ⟨by kernel_rfl, ?_⟩) HS.out ?_
  rotate_left
  · ((intro x hx; clear hx; go_simp) <;> with_reducible rfl)
  try simp only [Act.put, List.setIfInBounds_toArray, List.set_cons_zero, List.set_cons_succ]
  -- take 6
  refine gk_take (i := 6) (v := ?_) rfl (by kernel_rfl) (by kernel_rfl) (by kernel_rfl) (by kernel_rfl) (fun _ _ _ h => h) (Or.inl ⟨by kernel_rfl, ?_⟩) HS.out ?_
  rotate_left
  · ((intro x hx; clear hx; go_simp) <;> with_reducible rfl)
  try simp only [Act.put, List.setIfInBounds_toArray, List.set_cons_zero, List.set_cons_succ]
  -- take 7
  refine gk_take (i := 7) (v := ?_) rfl (by kernel_rfl) (by kernel_rfl) (by kernel_rfl) (by kernel_rfl) (fun _ _ _ h => h) (Or.inl ⟨by kernel_rfl, ?_⟩) HS.out ?_
  rotate_left
  · ((intro x hx; clear hx; go_simp) <;> with_reducible rfl)
  try simp only [Act.put, List.setIfInBounds_toArray, List.set_cons_zero, List.set_cons_succ]
  -- take 8
  refine gk_take (i := 8) (v := ?_) rfl (by kernel_rfl) (by kernel_rfl) (by kernel_rfl) (by kernel_rfl) (fun _ _ _ h => h) (Or.inl ⟨by kernel_rfl, ?_⟩) HS.out ?_
  rotate_left
  · ((intro x hx; clear hx; go_simp) <;> with_reducible rfl)
  try simp only [Act.put, List.setIfInBounds_toArray, List.set_cons_zero, List.set_cons_succ]
  -- take 9
  refine gk_take (i := 9) (v := ?_) rfl (by kernel_rfl) (by kernel_rfl) (by kernel_rfl) (by kernel_rfl) (fun _ _ _ h => h) (Or.inl ⟨by kernel_rfl, ?_⟩) HS.out ?_
  rotate_left
  · ((intro x hx; clear hx; go_simp) <;> with_reducible rfl)
  try simp only [Act.put, List.setIfInBounds_toArray, List.set_cons_zero, List.set_cons_succ]
  -- take 10
  refine gk_take (i := 10) (v := ?_) rfl (by kernel_rfl) (by kernel_rfl) (by kernel_rfl) (by kernel_rfl) (fun _ _ _ h => h) (Or.inl ⟨by kernel_rfl, ?_⟩) HS.out ?_
  rotate_left
  · ((intro x hx; have f0 := (hx.cell hPl).trans P_2.out.c0; have f1 := (hx.cell hPl).trans P_2.out.c1; have f2 := (hx.cell hPl).trans P_2.out.c2; have f3 := (hx.cell hPl).trans P_2.out.c3; have f4 := (hx.cell hPl).trans P_2.out.c4; go_simp) <;> with_reducible rfl)
  try simp only [Act.put, List.setIfInBounds_toArray, List.set_cons_zero, List.set_cons_succ]
  -- take 12
  refine gk_take (i := 12) (v := ?_) rfl (by kernel_rfl) (by kernel_rfl) (by kernel_rfl) (by kernel_rfl) (fun _ _ _ h => h) (Or.inl ⟨by kernel_rfl, ?_⟩) HS.out ?_
  rotate_left
  · ((intro x hx; clear hx; go_simp) <;> with_reducible rfl)
  try simp only [Act.put, List.setIfInBounds_toArray, List.set_cons_zero, List.set_cons_succ]
  -- take 13
  refine gk_take (i := 13) (v := ?_) rfl (by kernel_rfl) (by kernel_rfl) (by kernel_rfl) (by kernel_rfl) (fun _ _ _ h => h) (Or.inl ⟨by kernel_rfl, ?_⟩) HS.out ?_
  rotate_left
  · ((intro x hx; have f0 := (hx.cell hPl).trans P_2.out.c0; have f1 := (hx.cell hPl).trans P_2.out.c1; have f2 := (hx.cell hPl).trans P_2.out.c2; have f3 := (hx.cell hPl).trans P_2.out.c3; have f4 := (hx.cell hPl).trans P_2.out.c4; go_simp) <;> with_reducible rfl)
  try simp only [Act.put, List.setIfInBounds_toArray, List.set_cons_zero, List.set_cons_succ]
  refine gk_one (i := 11) rfl (by kernel_rfl) (fun K hK => ?_)
  go_simp
  go_at_call 31
  refine (HK1.out _ (R_2.out.below HS.out)).mono ?_
  rintro e y1 ⟨v, rfl, ho, hb⟩
  obtain ⟨ao1, co1, rfl, _, _, hr, _⟩ := ho.shape
  have HO1 := Lib.hid hr
  clear ho hr
  have HS1 := Lib.hid (HS.out.trans (hb.mono HS.out.size))
  clear hb HS
  refine hK _ _ (fun _ => HS1.out) ?_
  clear hK K
  try simp only [Act.put, List.setIfInBounds_toArray, List.set_cons_zero, List.set_cons_succ]
  refine gk_one (i := 14) rfl (by kernel_rfl) (fun K hK => ?_)
  go_simp
  go_at_call 32
  refine (HK2.out _ (R_2.out.below HS1.out)).mono ?_
  rintro e y2 ⟨v, rfl, ho, hb⟩
  obtain ⟨ao2, co2, rfl, _, _, hr, _⟩ := ho.shape
  have HO2 := Lib.hid hr
  clear ho hr
  have HS2 := Lib.hid (HS1.out.trans (hb.mono HS1.out.size))
  replace HO1 := Lib.hid (HO1.out.below hb)
  clear hb HS1
  refine hK _ _ (fun _ => HS2.out) ?_
  clear hK K
  try simp only [Act.put, List.setIfInBounds_toArray, List.set_cons_zero, List.set_cons_succ]
  refine gk_one (i := 15) rfl (by kernel_rfl) (fun K hK => ?_)
  go_simp
  go_at_call 20
  refine (HSm.out ao1 co1 ao2 co2 _ HO1.out HO2.out).mono ?_
  rintro e y3 ⟨rfl, hb⟩
  have HS3 := Lib.hid (HS2.out.trans (hb.mono HS2.out.size))
  clear hb HS2
  refine hK _ _ (fun _ => HS3.out) ?_
  clear hK K
  try simp only [Act.put, List.setIfInBounds_toArray, List.set_cons_zero, List.set_cons_succ]
  -- take 16
  refine gk_take (i := 16) (v := ?_) rfl (by kernel_rfl) (by kernel_rfl) (by kernel_rfl) (by kernel_rfl) (fun _ _ _ h => h) (Or.inl ⟨by kernel_rfl, ?_⟩) HS3.out ?_
  rotate_left
  · ((intro x hx; clear hx; go_simp) <;> with_reducible rfl)
  try simp only [Act.put, List.setIfInBounds_toArray, List.set_cons_zero, List.set_cons_succ]
  -- take 17
  refine gk_take (i := 17) (v := ?_) rfl (by kernel_rfl) (by kernel_rfl) (by kernel_rfl) (by kernel_rfl) (fun _ _ _ h => h) (Or.inl ⟨by kernel_rfl, ?_⟩) HS3.out ?_
  rotate_left
  · ((intro x hx; clear hx; go_simp) <;> with_reducible rfl)
  try simp only [Act.put, List.setIfInBounds_toArray, List.set_cons_zero, List.set_cons_succ]
  -- take 18
  refine gk_take (i := 18) (v := ?_) rfl (by kernel_rfl) (by kernel_rfl) (by kernel_rfl) (by kernel_rfl) (fun _ _ _ h => h) (Or.inl ⟨by kernel_rfl, ?_⟩) HS3.out ?_
  rotate_left
  · ((intro x hx; clear hx; go_simp) <;> with_reducible rfl)
  try simp only [Act.put, List.setIfInBounds_toArray, List.set_cons_zero, List.set_cons_succ]
  -- take 19
  refine gk_take (i := 19) (v := ?_) rfl (by kernel_rfl) (by kernel_rfl) (by kernel_rfl) (by kernel_rfl) (fun _ _ _ h => h) (Or.inl ⟨by kernel_rfl, ?_⟩) HS3.out ?_
  rotate_left
  · ((intro x hx; clear hx; go_simp) <;> with_reducible rfl)
  try simp only [Act.put, List.setIfInBounds_toArray, List.set_cons_zero, List.set_cons_succ]
  -- take 21
  refine gk_take (i := 21) (v := ?_) rfl (by kernel_rfl) (by kernel_rfl) (by kernel_rfl) (by kernel_rfl) (fun _ _ _ h => h) (Or.inl ⟨by kernel_rfl, ?_⟩) HS3.out ?_
  rotate_left
  · ((intro x hx; clear hx; go_simp) <;> with_reducible rfl)
  try simp only [Act.put, List.setIfInBounds_toArray, List.set_cons_zero, List.set_cons_succ]
  refine gk_one (i := 20) rfl (by kernel_rfl) (fun K hK => ?_)
  go_simp
  go_at_call 31
  refine (HK3.out _ (R_2.out.below HS3.out)).mono ?_
  rintro e y4 ⟨v, rfl, ho, hb⟩
  obtain ⟨ao3, co3, rfl, _, _, hr, _⟩ := ho.shape
  have HO3 := Lib.hid hr
  clear ho hr
  have HS4 := Lib.hid (HS3.out.trans (hb.mono HS3.out.size))
  clear hb HS3
  refine hK _ _ (fun _ => HS4.out) ?_
  clear hK K
  try simp only [Act.put, List.setIfInBounds_toArray, List.set_cons_zero, List.set_cons_succ]
  refine gk_one (i := 22) rfl (by kernel_rfl) (fun K hK => ?_)
  go_simp
  go_at_call 20
  refine (HSl.out ao3 co3 A cap _ HO3.out (R_2.out.below HS4.out)).mono ?_
  rintro e y5 ⟨rfl, hb⟩
  have HS5 := Lib.hid (HS4.out.trans (hb.mono HS4.out.size))
  clear hb HS4
  refine hK _ _ (fun _ => HS5.out) ?_
  clear hK K
  try simp only [Act.put, List.setIfInBounds_toArray, List.set_cons_zero, List.set_cons_succ]
  -- take 23
  refine gk_take (i := 23) (v := ?_) rfl (by kernel_rfl) (by kernel_rfl) (by kernel_rfl) (by kernel_rfl) (fun _ _ _ h => h) (Or.inl ⟨by kernel_rfl, ?_⟩) HS5.out ?_
  rotate_left
  · ((intro x hx; clear hx; go_simp) <;> with_reducible rfl)
  try simp only [Act.put, List.setIfInBounds_toArray, List.set_cons_zero, List.set_cons_succ]
  -- take 24
  refine gk_take (i := 24) (v := ?_) rfl (by kernel_rfl) (by kernel_rfl) (by kernel_rfl) (by kernel_rfl) (fun _ _ _ h => h) (Or.inl ⟨by kernel_rfl, ?_⟩) HS5.out ?_
  rotate_left
  · ((intro x hx; clear hx; go_simp) <;> with_reducible rfl)
  try simp only [Act.put, List.setIfInBounds_toArray, List.set_cons_zero, List.set_cons_succ]
  refine gk_one (i := 25) rfl (by kernel_rfl) (fun K hK => ?_)
  go_simp
  go_at_call 16
  refine (HLi.out _).mono ?_
  rintro e y6 ⟨rfl, hb⟩
  have HS6 := Lib.hid (HS5.out.trans (hb.mono HS5.out.size))
  clear hb HS5
  refine hK _ _ (fun _ => HS6.out) ?_
  clear hK K
  try simp only [Act.put, List.setIfInBounds_toArray, List.set_cons_zero, List.set_cons_succ]
  -- take 26
  refine gk_take (i := 26) (v := ?_) rfl (by kernel_rfl) (by kernel_rfl) (by kernel_rfl) (by kernel_rfl) (fun _ _ _ h => h) (Or.inl ⟨by kernel_rfl, ?_⟩) HS6.out ?_
  rotate_left
  · ((intro x hx; clear hx; go_simp) <;> with_reducible rfl)
  try simp only [Act.put, List.setIfInBounds_toArray, List.set_cons_zero, List.set_cons_succ]
  -- take 27
  refine gk_take (i := 27) (v := ?_) rfl (by kernel_rfl) (by kernel_rfl) (by kernel_rfl) (by kernel_rfl) (fun _ _ _ h => h) (Or.inl ⟨by kernel_rfl, ?_⟩) HS6.out ?_
  rotate_left
  · ((intro x hx; clear hx; go_simp) <;> with_reducible rfl)
  try simp only [Act.put, List.setIfInBounds_toArray, List.set_cons_zero, List.set_cons_succ]
  refine gk_done (by kernel_rfl) ?_ _
  try simp only [Act.put, List.setIfInBounds_toArray, List.set_cons_zero, List.set_cons_succ]
  have HBe := Lib.hid (HB2.out.trans (HS6.out.mono HB2.out.size))
  clear HS6 HLi HSm HSl
  try go_simp
  all_goals
    go_wp2
    go_ret
    exact ⟨rfl, HBe.out⟩
end Go.Proofs.Ytenhnnfemehbcaa
