/- What lives of package accountinglaw25 returns. Written by wip/mk_txk.py. -/
import Derived.Test.YtelahgmnkhkgkaaTxK
namespace Go.Proofs.Ytelahgmnkhkgkaa
open Go.RowKit Go.Sort
set_option linter.unusedVariables false
set_option linter.unusedSimpArgs false

theorem lnL_row (w : World) : RowL (w.alloc (Obj.cells #[.int .i64 103, .string ⟨#[115, 116, 100]⟩, .int .i64 50, .string ⟨#[]⟩, .int .i64 103, .string ⟨#[115, 116, 100]⟩] 49)) (some ⟨w.heap.size, 0, none⟩) lnL := by
  refine fun _ => ⟨w.heap.size, 0, rfl, by simp, fun i hi => ?_⟩
  have hi : i < 3 := hi
  match i, hi with
  | 0, _ => exact ⟨by rw [World.cell?_alloc_at _ _ _ _ rfl]; rfl, by rw [World.cell?_alloc_at _ _ _ _ rfl]; rfl⟩
  | 1, _ => exact ⟨by rw [World.cell?_alloc_at _ _ _ _ rfl]; rfl, by rw [World.cell?_alloc_at _ _ _ _ rfl]; rfl⟩
  | 2, _ => exact ⟨by rw [World.cell?_alloc_at _ _ _ _ rfl]; rfl, by rw [World.cell?_alloc_at _ _ _ _ rfl]; rfl⟩
theorem ints_row (w : World) : RowV (w.alloc (Obj.cells #[.int .i64 103, .int .i64 50, .int .i64 103] 3)) (some ⟨w.heap.size, 0, none⟩) ([103, 50, 103].map inV1) :=
  RowV.block (by simp) fun i x hx => by rw [World.cell?_alloc_at _ _ _ _ rfl]; simpa [inV1] using hx
theorem sum_row (w : World) (t : Int) : RowS (w.alloc (Obj.cells #[.string ⟨#[115, 116, 100]⟩, .int .i64 206, .int .i64 t] 51)) (some ⟨w.heap.size, 0, none⟩) [(bStd, 206, t)] := by
  refine fun _ => ⟨w.heap.size, 0, rfl, by simp, fun i hi => ?_⟩
  have hi : i < 1 := hi
  match i, hi with
  | 0, _ => exact ⟨by rw [World.cell?_alloc_at _ _ _ _ rfl]; rfl, by rw [World.cell?_alloc_at _ _ _ _ rfl]; rfl, by rw [World.cell?_alloc_at _ _ _ _ rfl]; rfl⟩
set_option maxRecDepth 100000 in
set_option maxHeartbeats 4000000 in
theorem lives_any (w : World) : Calls Try.prog 12 #[] w fun e w' => e = .returned (.bool true) ∧ Below w.heap.size w w' := by
  have H1 := Lib.hid (fun W => on_any 250 19 100 3 W (by decide) (by decide) (by decide) (by decide) (by decide) (by decide))
  rw [ex6] at H1
  have H2 := Lib.hid (fun W => in_any 119 19 100 3 W (by decide) (by decide) (by decide) (by decide) (by decide) (by decide))
  rw [ex7] at H2
  have H4 := Lib.hid (fun A B c d W hl hr => of_any A B c d lnL rtL 1 3 W hl lnL_bd hr rtL_bd (by decide) ⟨by decide, by decide⟩)
  rw [ex1, ex2, ex3] at H4
  have H6 := Lib.hid (fun A B c d W hl hr => of_any A B c d lnL rtL 2 3 W hl lnL_bd hr rtL_bd (by decide) ⟨by decide, by decide⟩)
  rw [ex4, ex5] at H6
  have HB0 := Lib.hid (Below.refl w.heap.size w)
  go_enter Try.func12, Try.ntmps12
  go_wp2_with fail
  refine (H1.out _).mono ?_
  rintro e u1 ⟨rfl, hb⟩
  have HB1 := Lib.hid (HB0.out.trans (hb.mono HB0.out.size))
  clear hb
  go_wp2_with fail
  refine (H2.out _).mono ?_
  rintro e u2 ⟨rfl, hb⟩
  have HB2 := Lib.hid (HB1.out.trans (hb.mono HB1.out.size))
  clear hb
  have HB2b := Lib.hid (HB2.out.trans (((Below.refl u2.heap.size u2).alloc (Nat.le_refl _) (Obj.cells #[.int .i64 103, .string ⟨#[115, 116, 100]⟩, .int .i64 50, .string ⟨#[]⟩, .int .i64 103, .string ⟨#[115, 116, 100]⟩] 49)).mono HB2.out.size))
  have RL_2 := Lib.hid (lnL_row u2)
  go_wp2_with fail
  refine (rates_any _).mono ?_
  rintro e u3 ⟨A3, c3, rfl, hr, hb⟩
  have HB3 := Lib.hid (HB2b.out.trans (hb.mono HB2b.out.size))
  have RL_3 := Lib.hid (RL_2.out.below hb)
  have RR_3 := Lib.hid hr
  clear hb hr
  go_wp2_with fail
  refine (H4.out _ _ _ _ _ RL_3.out RR_3.out).mono ?_
  rintro e u4 ⟨v4, s4, rfl, hi, hs, hb⟩
  have HB4 := Lib.hid (HB3.out.trans (hb.mono HB3.out.size))
  have RL_4 := Lib.hid (RL_3.out.below hb)
  obtain ⟨vi, ci, rfl⟩ := hi.shape
  obtain ⟨vs, cs, rfl⟩ := hs.shape
  have RI_4 := Lib.hid (show RowV u4 vi ([103, 50, 103].map inV1) from OwnV.row hi)
  have RS_4 := Lib.hid hs.row
  clear hi hs
  clear hb
  go_wp2_with fail
  refine (rates_any _).mono ?_
  rintro e u5 ⟨A5, c5, rfl, hr, hb⟩
  have HB5 := Lib.hid (HB4.out.trans (hb.mono HB4.out.size))
  have RL_5 := Lib.hid (RL_4.out.below hb)
  have RI_5 := Lib.hid (RI_4.out.below hb)
  have RS_5 := Lib.hid (RS_4.out.below hb)
  have RR_5 := Lib.hid hr
  clear hb hr
  go_wp2_with fail
  refine (H6.out _ _ _ _ _ RL_5.out RR_5.out).mono ?_
  rintro e u6 ⟨v6, s6, rfl, hi, hs, hb⟩
  have HB6 := Lib.hid (HB5.out.trans (hb.mono HB5.out.size))
  have RI_6 := Lib.hid (RI_5.out.below hb)
  have RS_6 := Lib.hid (RS_5.out.below hb)
  obtain ⟨vt, ct, rfl⟩ := hs.shape
  have RT_6 := Lib.hid hs.row
  clear hi hs
  clear hb
  go_wp2_with fail
  have hb : Below u6.heap.size u6 (u6.alloc (Obj.cells #[.int .i64 103, .int .i64 50, .int .i64 103] 3)) := (Below.refl _ _).alloc (Nat.le_refl _) _
  refine (sameI_any _ _ _ _ [103, 50, 103] _ (RI_6.out.below hb) (ints_row u6) (by decide)).mono ?_
  have HB6b := Lib.hid (HB6.out.trans (hb.mono HB6.out.size))
  have RS_6b := Lib.hid (RS_6.out.below hb)
  have RT_6b := Lib.hid (RT_6.out.below hb)
  clear hb
  rintro e u7 ⟨rfl, hb⟩
  have HB7 := Lib.hid (HB6b.out.trans (hb.mono HB6b.out.size))
  have RS_7 := Lib.hid (RS_6b.out.below hb)
  have RT_7 := Lib.hid (RT_6b.out.below hb)
  clear hb
  go_wp2_with fail
  have hb : Below u7.heap.size u7 (u7.alloc (Obj.cells #[.string ⟨#[115, 116, 100]⟩, .int .i64 206, .int .i64 40] 51)) := (Below.refl _ _).alloc (Nat.le_refl _) _
  refine (sameS_any _ _ _ _ [(bStd, 206, 40)] _ (RS_7.out.below hb) (sum_row u7 40) (by decide)).mono ?_
  have HB7b := Lib.hid (HB7.out.trans (hb.mono HB7.out.size))
  have RT_7b := Lib.hid (RT_7.out.below hb)
  clear hb
  rintro e u8 ⟨rfl, hb⟩
  have HB8 := Lib.hid (HB7b.out.trans (hb.mono HB7b.out.size))
  have RT_8 := Lib.hid (RT_7b.out.below hb)
  clear hb
  go_wp2_with fail
  have hb : Below u8.heap.size u8 (u8.alloc (Obj.cells #[.string ⟨#[115, 116, 100]⟩, .int .i64 206, .int .i64 39] 51)) := (Below.refl _ _).alloc (Nat.le_refl _) _
  refine (sameS_any _ _ _ _ [(bStd, 206, 39)] _ (RT_8.out.below hb) (sum_row u8 39) (by decide)).mono ?_
  have HB8b := Lib.hid (HB8.out.trans (hb.mono HB8.out.size))
  clear hb
  rintro e u9 ⟨rfl, hb⟩
  have HB9 := Lib.hid (HB8b.out.trans (hb.mono HB8b.out.size))
  clear hb
  go_wp2
  go_ret
  exact ⟨rfl, HB9.out⟩
end Go.Proofs.Ytelahgmnkhkgkaa
