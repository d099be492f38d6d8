/- What lives of package accountinglaw11 returns. Written by wip/mk_fxk.py. -/
import Derived.Test.YtdeoplbdgbgimaaFxJ
namespace Go.Proofs.Ytdeoplbdgbgimaa
open Go.RowKit Go.Sort
set_option linter.unusedVariables false
set_option linter.unusedSimpArgs false

theorem eqFr (a b x y : Int) (w : World) : (Op.equalIn 10000 37 (.agg #[.int .i64 a, .int .i64 b]) (.agg #[.int .i64 x, .int .i64 y])).run Try.prog w = .ok (a == x && b == y) w := by
  have u3 := Try.underlying3
  have a3 := Try.isAgg3
  have z3 := Try.sizeOf3
  have hS : Try.prog.underlying 37 = some (.struct (Try.prog.fieldsOf 37)) := by kernel_rfl
  rw [show (10000 : Nat) = 9999 + 1 from rfl, run_equalIn_agg w 9999 37 _ _ hS (by kernel_rfl)]
  simp only [Program.fieldsOf, Try.underlying37]
  go_simp
  by_cases h1 : a = x <;> by_cases h2 : b = y <;> simp [h1, h2]
theorem new_ok (base : ByteArray) (A : Option Addr) (c : Nat) (L : List Rt) (w : World) (hs : base.size ≤ maxLen) (hR : RowR w A L) (hBd : BdR L) (hn : L.length ≤ maxLen) (hc : (chk base L).2 = 0) :
    Calls Try.prog 12 #[.string base, .slice A L.length c] w fun e w' => ∃ B, e = .returned (.tuple #[.pointer (some ⟨B, 0, none⟩), .int .i64 0, .int .i64 0]) ∧ TabT w' w.heap.size B base L ∧ Below w.heap.size w w' := by
  refine (new_any base A c L w hs hR hBd hn).mono ?_
  rintro e w1 ⟨t, rfl, _, hT, hb⟩
  obtain ⟨B, rfl, hT2⟩ := hT hc
  refine ⟨B, ?_, hT2, hb⟩
  rw [chk_zero hc]
theorem new_bad (base : ByteArray) (A : Option Addr) (c : Nat) (L : List Rt) (w : World) (hs : base.size ≤ maxLen) (hR : RowR w A L) (hBd : BdR L) (hn : L.length ≤ maxLen) (hc : (chk base L).2 ≠ 0) :
    Calls Try.prog 12 #[.string base, .slice A L.length c] w fun e w' => e = .returned (.tuple #[.pointer none, .int .i64 (chk base L).1, .int .i64 (chk base L).2]) ∧ Below w.heap.size w w' := by
  refine (new_any base A c L w hs hR hBd hn).mono ?_
  rintro e w1 ⟨t, rfl, ht, _, hb⟩
  obtain rfl := ht hc
  exact ⟨rfl, hb⟩
def eur : ByteArray := ⟨#[69, 85, 82]⟩
def usd : ByteArray := ⟨#[85, 83, 68]⟩
def jpy : ByteArray := ⟨#[74, 80, 89]⟩
def L3 : List Rt := [(⟨#[85, 83, 68]⟩, 1, 10, 9, 10), (⟨#[85, 83, 68]⟩, 1, 20, 4, 5), (⟨#[74, 80, 89]⟩, 1, 1, 3, 5)]
def L2 : List Rt := [(⟨#[85, 83, 68]⟩, 1, 10, 1, 1), (⟨#[69, 85, 82]⟩, 1, 10, 1, 1)]
theorem ex1 : chk eur L3 = (0, 0) := by decide +kernel
theorem ex2 : fnd eur L3 usd 1 19 = (9, 10, 0) := by decide +kernel
theorem ex3 : fnd eur L3 usd 1 9 = (0, 0, 20) := by decide +kernel
theorem ex4 : crs eur L3 usd jpy 1 20 = (4, 3, 0) := by decide +kernel
theorem ex5 : cnv eur L3 101 usd jpy 1 20 3 = (135, 0) := by decide +kernel
theorem ex6 : chk eur L2 = (1, 13) := by decide +kernel
theorem bd3 : BdR L3 := by
  intro r hr
  simp [L3] at hr
  rcases hr with rfl | rfl | rfl <;> exact ⟨by decide, ⟨by decide, by decide⟩, ⟨by decide, by decide⟩, ⟨by decide, by decide⟩, by decide, by decide⟩
theorem bd2 : BdR L2 := by
  intro r hr
  simp [L2] at hr
  rcases hr with rfl | rfl <;> exact ⟨by decide, ⟨by decide, by decide⟩, ⟨by decide, by decide⟩, ⟨by decide, by decide⟩, by decide, by decide⟩
theorem size3 : eur.size = 3 ∧ usd.size = 3 ∧ jpy.size = 3 := ⟨rfl, rfl, rfl⟩
theorem row3 (w : World) : RowR (w.alloc (Obj.cells #[.string ⟨#[85, 83, 68]⟩, .int .i64 1, .int .i64 10, .int .i64 9, .int .i64 10, .string ⟨#[85, 83, 68]⟩, .int .i64 1, .int .i64 20, .int .i64 4, .int .i64 5, .string ⟨#[74, 80, 89]⟩, .int .i64 1, .int .i64 1, .int .i64 3, .int .i64 5] 51)) (some ⟨w.heap.size, 0, none⟩) L3 := by
  refine fun _ => ⟨w.heap.size, 0, rfl, by simp, fun i hi => ?_⟩
  have hi : i < 3 := hi
  match i, hi with
  | 0, _ => exact ⟨by rw [World.cell?_alloc_at _ _ _ _ rfl]; rfl, by rw [World.cell?_alloc_at _ _ _ _ rfl]; rfl, by rw [World.cell?_alloc_at _ _ _ _ rfl]; rfl, by rw [World.cell?_alloc_at _ _ _ _ rfl]; rfl, by rw [World.cell?_alloc_at _ _ _ _ rfl]; rfl⟩
  | 1, _ => exact ⟨by rw [World.cell?_alloc_at _ _ _ _ rfl]; rfl, by rw [World.cell?_alloc_at _ _ _ _ rfl]; rfl, by rw [World.cell?_alloc_at _ _ _ _ rfl]; rfl, by rw [World.cell?_alloc_at _ _ _ _ rfl]; rfl, by rw [World.cell?_alloc_at _ _ _ _ rfl]; rfl⟩
  | 2, _ => exact ⟨by rw [World.cell?_alloc_at _ _ _ _ rfl]; rfl, by rw [World.cell?_alloc_at _ _ _ _ rfl]; rfl, by rw [World.cell?_alloc_at _ _ _ _ rfl]; rfl, by rw [World.cell?_alloc_at _ _ _ _ rfl]; rfl, by rw [World.cell?_alloc_at _ _ _ _ rfl]; rfl⟩
theorem row2 (w : World) : RowR (w.alloc (Obj.cells #[.string ⟨#[85, 83, 68]⟩, .int .i64 1, .int .i64 10, .int .i64 1, .int .i64 1, .string ⟨#[69, 85, 82]⟩, .int .i64 1, .int .i64 10, .int .i64 1, .int .i64 1] 51)) (some ⟨w.heap.size, 0, none⟩) L2 := by
  refine fun _ => ⟨w.heap.size, 0, rfl, by simp, fun i hi => ?_⟩
  have hi : i < 2 := hi
  match i, hi with
  | 0, _ => exact ⟨by rw [World.cell?_alloc_at _ _ _ _ rfl]; rfl, by rw [World.cell?_alloc_at _ _ _ _ rfl]; rfl, by rw [World.cell?_alloc_at _ _ _ _ rfl]; rfl, by rw [World.cell?_alloc_at _ _ _ _ rfl]; rfl, by rw [World.cell?_alloc_at _ _ _ _ rfl]; rfl⟩
  | 1, _ => exact ⟨by rw [World.cell?_alloc_at _ _ _ _ rfl]; rfl, by rw [World.cell?_alloc_at _ _ _ _ rfl]; rfl, by rw [World.cell?_alloc_at _ _ _ _ rfl]; rfl, by rw [World.cell?_alloc_at _ _ _ _ rfl]; rfl, by rw [World.cell?_alloc_at _ _ _ _ rfl]; rfl⟩
set_option maxRecDepth 100000 in
set_option maxHeartbeats 4000000 in
theorem lives_any (w : World) : Calls Try.prog 11 #[] w fun e w' => e = .returned (.bool true) ∧ Below w.heap.size w w' := by
  have hO : OkR eur L3 := chk_ok.1 (by rw [ex1])
  have z : (3 : Nat) ≤ maxLen := by decide
  have H1 := Lib.hid (fun A c W hr => new_ok eur A c L3 W (by rw [size3.1]; exact z) hr bd3 (by decide) (by rw [ex1]))
  have H6 := Lib.hid (fun A c W hr => new_bad eur A c L2 W (by rw [size3.1]; exact z) hr bd2 (by decide) (by rw [ex6]; decide))
  rw [ex6] at H6
  have H2 := Lib.hid (fun N B W hT => find_any N B eur L3 usd 1 19 W hT hO (by rw [size3.2.1]; exact z) ⟨by decide, by decide⟩ ⟨by decide, by decide⟩)
  rw [ex2] at H2
  have H3 := Lib.hid (fun N B W hT => find_any N B eur L3 usd 1 9 W hT hO (by rw [size3.2.1]; exact z) ⟨by decide, by decide⟩ ⟨by decide, by decide⟩)
  rw [ex3] at H3
  have H4 := Lib.hid (fun N B W hT => cross_any N B eur L3 usd jpy 1 20 W hT hO (by rw [size3.2.1]; exact z) (by rw [size3.2.2]; exact z) ⟨by decide, by decide⟩ ⟨by decide, by decide⟩)
  rw [ex4] at H4
  have H5 := Lib.hid (fun N B W hT => convert_any N B eur L3 101 usd jpy 1 20 3 W hT hO ⟨by decide, by decide⟩ (by rw [size3.2.1]; exact z) (by rw [size3.2.2]; exact z) ⟨by decide, by decide⟩ ⟨by decide, by decide⟩ ⟨by decide, by decide⟩)
  rw [ex5] at H5
  have hR1 := row3 w
  have HBa := Lib.hid ((Below.refl w.heap.size w).alloc (Nat.le_refl _) (Obj.cells #[.string ⟨#[85, 83, 68]⟩, .int .i64 1, .int .i64 10, .int .i64 9, .int .i64 10, .string ⟨#[85, 83, 68]⟩, .int .i64 1, .int .i64 20, .int .i64 4, .int .i64 5, .string ⟨#[74, 80, 89]⟩, .int .i64 1, .int .i64 1, .int .i64 3, .int .i64 5] 51))
  have hE := eqFr
  go_enter Try.func11, Try.ntmps11
  go_wp2_with fail
  refine (H1.out _ _ _ hR1).mono ?_
  rintro e w1 ⟨B, rfl, hT, hb⟩
  have HB1 := Lib.hid (HBa.out.trans (hb.mono HBa.out.size))
  have HT1 := Lib.hid hT
  clear hb hT hR1
  obtain ⟨_, M, hq, _⟩ := HT1.out
  have HBs := Lib.hid (base_any B _ _ _ (⟨#[69, 85, 82]⟩) rfl w1 hq)
  have HLn := Lib.hid (len_any B _ _ _ (3 : Int) rfl w1 hq)
  clear hq
  go_wp2_with fail
  refine HBs.out.mono ?_
  rintro e w_ ⟨rfl, rfl⟩
  go_wp2_with fail
  refine HLn.out.mono ?_
  rintro e w_ ⟨rfl, rfl⟩
  go_wp2_with fail
  refine (H2.out _ _ _ HT1.out).mono ?_
  rintro e w2 ⟨rfl, hb⟩
  have ha : Below w2.heap.size w2 (w2.alloc (Obj.cells #[.int .i64 9, .int .i64 10] 37)) := (Below.refl _ _).alloc (Nat.le_refl _) _
  have HB2 := Lib.hid ((HB1.out.trans (hb.mono HB1.out.size)).trans (ha.mono (Nat.le_trans HB1.out.size hb.size)))
  have HT2 := Lib.hid ((HT1.out.below hb).below ha)
  have HF2 := Lib.hid (Q2.alloc w2 (.int .i64 9) (.int .i64 10) 37)
  clear hb ha
  go_wp2_with fail
  refine (H3.out _ _ _ HT2.out).mono ?_
  rintro e w3 ⟨rfl, hb⟩
  have ha : Below w3.heap.size w3 (w3.alloc (Obj.cells #[.int .i64 0, .int .i64 0] 37)) := (Below.refl _ _).alloc (Nat.le_refl _) _
  have HB3 := Lib.hid ((HB2.out.trans (hb.mono HB2.out.size)).trans (ha.mono (Nat.le_trans HB2.out.size hb.size)))
  have HT3 := Lib.hid ((HT2.out.below hb).below ha)
  have HF3 := Lib.hid ((HF2.out.below hb).below ha)
  clear hb ha
  go_wp2_with fail
  refine (H4.out _ _ _ HT3.out).mono ?_
  rintro e w4 ⟨rfl, hb⟩
  have HB4 := Lib.hid (HB3.out.trans (hb.mono HB3.out.size))
  have HT4 := Lib.hid (HT3.out.below hb)
  have HF4 := Lib.hid (HF3.out.below hb)
  clear hb
  go_wp2_with fail
  refine (H5.out _ _ _ HT4.out).mono ?_
  rintro e w5 ⟨rfl, hb⟩
  have ha : Below w5.heap.size w5 (w5.alloc (Obj.cells #[.string ⟨#[85, 83, 68]⟩, .int .i64 1, .int .i64 10, .int .i64 1, .int .i64 1, .string ⟨#[69, 85, 82]⟩, .int .i64 1, .int .i64 10, .int .i64 1, .int .i64 1] 51)) := (Below.refl _ _).alloc (Nat.le_refl _) _
  have HB5 := Lib.hid ((HB4.out.trans (hb.mono HB4.out.size)).trans (ha.mono (Nat.le_trans HB4.out.size hb.size)))
  have HF5 := Lib.hid ((HF4.out.below hb).below ha)
  clear hb ha
  go_wp2_with fail
  refine (H6.out _ _ _ (row2 w5)).mono ?_
  rintro e w6 ⟨rfl, hb⟩
  have HB6 := Lib.hid (HB5.out.trans (hb.mono HB5.out.size))
  have hf := HF5.out.below hb
  have x0 := hf.c0
  have x1 := hf.c1
  clear hb hf
  go_wp2
  go_ret
  exact ⟨rfl, HB6.out⟩
end Go.Proofs.Ytdeoplbdgbgimaa
