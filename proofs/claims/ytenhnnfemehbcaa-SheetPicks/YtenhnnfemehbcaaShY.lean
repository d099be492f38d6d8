/- Pick of the reference. Written by wip/mk_shx.py. -/
import Derived.Test.YtenhnnfemehbcaaShX
namespace Go.Proofs.Ytenhnnfemehbcaa
open Go.RowKit Go.Sort
set_option linter.unusedVariables false
set_option linter.unusedSimpArgs false

set_option maxRecDepth 100000 in
set_option maxHeartbeats 2000000 in
theorem rPick_any (A : Option Addr) (c : Nat) (L : List Cl) (b1 b2 b3 b4 b5 : ByteArray) (w : World) (hR : RowS w A L) (hl : L.length ≤ 2000) :
    Calls Try.prog 32 #[.slice A L.length c, .agg #[.string b1, .string b2, .string b3, .string b4, .string b5]] w fun e w' => ∃ v, e = .returned v ∧ OwnS w' w.heap.size v (pckL (b1, b2, b3, b4, b5) L) ∧ Below w.heap.size w w' := by
  have g1 : Below w.heap.size w (w.alloc (Obj.cells #[.string b1, .string b2, .string b3, .string b4, .string b5] 23)) := (Below.refl _ _).alloc (Nat.le_refl _) _
  have HB0 := Lib.hid g1
  have HQ0 := Lib.hid (Q5.alloc w (.string b1) (.string b2) (.string b3) (.string b4) (.string b5) 23)
  have HR := Lib.hid (hR.below g1)
  clear hR g1
  go_enter Try.func32, Try.ntmps32
  go_wp2
  go_loopw [5, 6] (fun v x wr => ∃ (vo : Value) (k : Nat), vo = v ∧ k ≤ L.length ∧ x = .int .i64 k ∧ Hid (OwnS wr (w.heap.size + 1) vo (pckL (b1, b2, b3, b4, b5) (L.take k))) ∧ Hid (Below w.heap.size w wr) ∧ Hid (Below (w.heap.size + 1) (w.alloc (Obj.cells #[.string b1, .string b2, .string b3, .string b4, .string b5] 23)) wr)) (fun _ x _ => L.length - (intOf x).toNat)
  case atStart => exact ⟨_, 0, rfl, Nat.zero_le _, rfl, Lib.hid (OwnS.nil _ _), HB0, Lib.hid (Below.refl _ _)⟩
  case round =>
    obtain ⟨vo, k, rfl, hk, rfl, HO, HB, HC⟩ := hrel
    have hsz : w.heap.size + 1 ≤ wr.heap.size := by
      have q := HC.out.size
      rw [World.size_alloc] at q
      exact q
    have HCC := Lib.hid (show Below (w.alloc (Obj.cells #[.string b1, .string b2, .string b3, .string b4, .string b5] 23)).heap.size (w.alloc (Obj.cells #[.string b1, .string b2, .string b3, .string b4, .string b5] 23)) wr from by rw [World.size_alloc]; exact HC.out)
    by_cases h : k < L.length
    · have h' : (k : Int) < (L.length : Int) := by omega
      have h'' : (0 : Int) ≤ (k : Int) := by omega
      have HQ := Lib.hid (HQ0.out.below HCC.out)
      obtain ⟨b, off, rfl, hbl, c0, c1, c2, c3, c4, c5, c6⟩ := (HR.out.below HCC.out).at h
      have HY := Lib.hid (fun z => pck_yes (p := (b1, b2, b3, b4, b5)) h z)
      have HN := Lib.hid (fun z => pck_no (p := (b1, b2, b3, b4, b5)) h z)
      have hpl := pck_len (b1, b2, b3, b4, b5) L k
      obtain ⟨x, hx⟩ : ∃ x, L[k] = x := ⟨_, rfl⟩
      rw [hx] at c0 c1 c2 c3 c4 c5 c6 HY HN
      clear hx
      obtain ⟨⟨a1, a2, a3, a4, a5⟩, m, n⟩ := x
      dsimp only at c0 c1 c2 c3 c4 c5 c6 HY HN
      have hNl : w.heap.size < wr.heap.size := hsz
      have HM := Lib.hid (rMatch5_any b1 b2 b3 b4 b5 a1 a2 a3 a4 a5)
      obtain ⟨M, hM⟩ : ∃ M, mtK (b1, b2, b3, b4, b5) (a1, a2, a3, a4, a5) = M := ⟨_, rfl⟩
      rw [hM] at HM HY HN
      clear hM
      have q0 := HQ.out.c0
      have q1 := HQ.out.c1
      have q2 := HQ.out.c2
      have q3 := HQ.out.c3
      have q4 := HQ.out.c4
      have hwr : Below wr.heap.size wr (wr.drewN 1) := below_drewN (Below.refl _ _) 1
      have HS0 := Lib.hid hwr
      clear hwr
      go_wp2_with fail
      refine gk_region (fun x => Below wr.heap.size wr x) (fun _ => false) (by kernel_rfl) ?_
      change Hid (Below wr.heap.size wr wr.drew) at HS0
      generalize wr.drew = x0 at *
      -- take 0
      refine gk_take (i := 0) (v := ?_) rfl (by kernel_rfl) (by kernel_rfl) (by kernel_rfl) (by kernel_rfl) (fun _ _ _ h => h) (Or.inl ⟨by kernel_rfl, ?_⟩) HS0.out ?_
      rotate_left
      · ((intro x hx; have f0 := (hx.cell hNl).trans q0; have f1 := (hx.cell hNl).trans q1; have f2 := (hx.cell hNl).trans q2; have f3 := (hx.cell hNl).trans q3; have f4 := (hx.cell hNl).trans q4; clear hx; go_simp) <;> with_reducible rfl)
      try simp only [Act.put, List.setIfInBounds_toArray, List.set_cons_zero, List.set_cons_succ]
      -- take 1
      refine gk_take (i := 1) (v := ?_) rfl (by kernel_rfl) (by kernel_rfl) (by kernel_rfl) (by kernel_rfl) (fun _ _ _ h => h) (Or.inl ⟨by kernel_rfl, ?_⟩) HS0.out ?_
      rotate_left
      · ((intro x hx; clear hx; go_simp) <;> with_reducible rfl)
      try simp only [Act.put, List.setIfInBounds_toArray, List.set_cons_zero, List.set_cons_succ]
      -- take 2
      refine gk_take (i := 2) (v := ?_) rfl (by kernel_rfl) (by kernel_rfl) (by kernel_rfl) (by kernel_rfl) (fun _ _ _ h => h) (Or.inl ⟨by kernel_rfl, ?_⟩) HS0.out ?_
      rotate_left
      · ((intro x hx; clear hx; go_simp) <;> with_reducible rfl)
      try simp only [Act.put, List.setIfInBounds_toArray, List.set_cons_zero, List.set_cons_succ]
      -- take 3
      refine gk_take (i := 3) (v := ?_) rfl (by kernel_rfl) (by kernel_rfl) (by kernel_rfl) (by kernel_rfl) (fun _ _ _ h => h) (Or.inl ⟨by kernel_rfl, ?_⟩) HS0.out ?_
      rotate_left
      · ((intro x hx; clear hx; go_simp) <;> with_reducible rfl)
      try simp only [Act.put, List.setIfInBounds_toArray, List.set_cons_zero, List.set_cons_succ]
      -- take 4
      refine gk_take (i := 4) (v := ?_) rfl (by kernel_rfl) (by kernel_rfl) (by kernel_rfl) (by kernel_rfl) (fun _ _ _ h => h) (Or.inl ⟨by kernel_rfl, ?_⟩) HS0.out ?_
      rotate_left
      · ((intro x hx; clear hx; go_simp) <;> with_reducible rfl)
      try simp only [Act.put, List.setIfInBounds_toArray, List.set_cons_zero, List.set_cons_succ]
      -- take 5
      refine gk_take (i := 5) (v := ?_) rfl (by kernel_rfl) (by kernel_rfl) (by kernel_rfl) (by kernel_rfl) (fun _ _ _ h => h) (Or.inl ⟨by kernel_rfl, ?_⟩) HS0.out ?_
      rotate_left
      · ((intro x hx; have f0 := (hx.cell hbl).trans c0; have f1 := (hx.cell hbl).trans c1; have f2 := (hx.cell hbl).trans c2; have f3 := (hx.cell hbl).trans c3; have f4 := (hx.cell hbl).trans c4; clear hx; go_simp) <;> with_reducible rfl)
      try simp only [Act.put, List.setIfInBounds_toArray, List.set_cons_zero, List.set_cons_succ]
      refine gk_one (i := 6) rfl (by kernel_rfl) (fun K hK => ?_)
      go_simp
      go_at_call 15
      refine (HM.out _).mono ?_
      rintro e w5 ⟨rfl, hg⟩
      have HS5 := Lib.hid (HS0.out.trans (hg.b.mono HS0.out.size))
      have HB5 := Lib.hid (HB.out.trans (HS5.out.mono HB.out.size))
      have HC5 := Lib.hid (HC.out.trans (HS5.out.mono hsz))
      have HO5 := Lib.hid (HO.out.below HS5.out)
      have d0 := (HS5.out.cell hbl).trans c0
      have d1 := (HS5.out.cell hbl).trans c1
      have d2 := (HS5.out.cell hbl).trans c2
      have d3 := (HS5.out.cell hbl).trans c3
      have d4 := (HS5.out.cell hbl).trans c4
      have d5 := (HS5.out.cell hbl).trans c5
      have d6 := (HS5.out.cell hbl).trans c6
      refine hK _ _ (fun _ => HS5.out) ?_
      clear hK K hg HS0 HB HC HO c0 c1 c2 c3 c4 c5 c6 q0 q1 q2 q3 q4 HS5
      try simp only [Act.put, List.setIfInBounds_toArray, List.set_cons_zero, List.set_cons_succ]
      refine gk_done (by kernel_rfl) ?_ _
      try simp only [Act.put, List.setIfInBounds_toArray, List.set_cons_zero, List.set_cons_succ]
      try go_simp
      cases M
      · have HO6 := Lib.hid (show OwnS w5 (w.heap.size + 1) vo (pckL (b1, b2, b3, b4, b5) (L.take (k + 1))) from by rw [HN.out rfl]; exact HO5.out)
        clear HO5 HY HN
        go_wp2
        go_roundw
        case rel => exact ⟨_, k + 1, rfl, by omega, by go_num, HO6, HB5, HC5⟩
        case measure => simp [intOf]; omega
      · have HP := Lib.hid (HY.out rfl)
        have hA : Below w5.heap.size w5 (w5.alloc (Obj.cells #[.string a1, .string a2, .string a3, .string a4, .string a5, .int .i64 m, .int .i64 n] 37)) := (Below.refl _ _).alloc (Nat.le_refl _) _
        have HO6 := Lib.hid (HO5.out.below hA)
        have HB6 := Lib.hid (HB5.out.trans (hA.mono HB5.out.size))
        have HC6 := Lib.hid (HC5.out.trans (hA.mono (sz_up HC5.out)))
        have hs6 : w.heap.size + 1 ≤ (w5.alloc (Obj.cells #[.string a1, .string a2, .string a3, .string a4, .string a5, .int .i64 m, .int .i64 n] 37)).heap.size := sz_up HC6.out
        have HRc := Lib.hid (row_cell w5 ((a1, a2, a3, a4, a5), m, n) 37)
        clear hA HO5 HB5 HC5 HY HN
        go_wp2_with (at_builtin; (refine wpList_cell rfl (.tmp 20) (.tmp 25) rfl (w.heap.size + 1) vo (pckL (b1, b2, b3, b4, b5) (L.take k)) ((a1, a2, a3, a4, a5), m, n) rfl HO6.out ⟨w5.heap.size, 0, none⟩ 1 rfl HRc.out (by omega) hs6 ?_; intro v7 w7 o7 hb7))
        have HO7 := Lib.hid (show OwnS w7 (w.heap.size + 1) v7 (pckL (b1, b2, b3, b4, b5) (L.take (k + 1))) from by rw [HP.out]; exact o7)
        have HC7 := Lib.hid (HC6.out.trans hb7)
        have HB7 := Lib.hid (HB6.out.trans (hb7.mono (Nat.le_succ _)))
        clear o7 hb7 HO6 HB6 HC6 HP HRc
        go_wp2
        go_roundw
        case rel => exact ⟨_, k + 1, rfl, by omega, by go_num, HO7, HB7, HC7⟩
        case measure => simp [intOf]; omega
    · have h' : ¬ (k : Int) < (L.length : Int) := by omega
      have HOf := Lib.hid (show OwnS wr w.heap.size vo (pckL (b1, b2, b3, b4, b5) L) from by
        have q := HO.out
        rw [List.take_of_length_le (by omega)] at q
        exact q.lower (Nat.le_succ _))
      clear HO HC
      go_wp2
      go_ret
      exact ⟨_, rfl, HOf.out, HB.out⟩
end Go.Proofs.Ytenhnnfemehbcaa
