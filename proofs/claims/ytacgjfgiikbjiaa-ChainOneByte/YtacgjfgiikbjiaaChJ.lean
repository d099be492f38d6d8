/- The examples of chapter 14. -/
import Derived.Test.YtacgjfgiikbjiaaChI
namespace Go.Proofs.Ytacgjfgiikbjiaa
open Go.RowKit Go.Sort
set_option linter.unusedVariables false
set_option linter.unusedSimpArgs false

theorem rowB_lit (w : World) (T : TypeId) (l : List UInt8) : RowB (w.alloc (.cells (l.map byV).toArray T)) (some ⟨w.heap.size, 0, none⟩) l := by
  refine RowV.block (by simp) fun i x hx => ?_
  rw [World.cell?_alloc_at _ _ _ _ rfl, Nat.zero_add]
  simpa using hx
theorem recs2 {W : World} {B B1 c0 c1 : Nat} {a0 : Option Addr} (hB : B < W.heap.size) (h0 : W.cell? ⟨B, 0, none⟩ = some (.slice a0 0 c0)) (h1 : W.cell? ⟨B, 1, none⟩ = some (.slice (some ⟨B1, 0, none⟩) 1 c1)) (hB1 : B1 < W.heap.size) (h2 : W.cell? ⟨B1, 0, none⟩ = some (.int .u8 1)) :
    Recs W (some ⟨B, 0, none⟩) [[], [1]] := by
  intro i l hl
  match i, hl with
  | 0, hl => simp at hl; subst hl; exact ⟨B, 0, a0, c0, rfl, hB, h0, RowV.nil _ _⟩
  | 1, hl =>
    simp at hl; subst hl
    refine ⟨B, 0, some ⟨B1, 0, none⟩, c1, rfl, hB, h1, RowV.block hB1 fun i x hx => ?_⟩
    match i, hx with
    | 0, hx => simp [byV] at hx; subst hx; exact h2
theorem chV_self : ∀ (R : List (List UInt8)) (h : Int) (i : Nat), chV h R (alV h R) i = -1
  | [], h, i => rfl
  | l :: R, h, i => by
    show chV h (l :: R) (nxV h l :: alV (nxV h l) R) i = -1
    rw [chV, if_pos rfl, chV_self R]
theorem live_next : nxV 0 [0] = 1099511628211 := by decide +kernel
theorem live_text : bs (txL (spL 258)) = ⟨#[48, 48, 48, 48, 48, 48, 48, 48, 48, 48, 48, 48, 48, 49, 48, 50]⟩ := by decide +kernel
theorem live_p1 : paV ⟨#[48, 48, 48, 48, 48, 48, 48, 48, 48, 48, 48, 48, 48, 48, 102, 102]⟩ = 255 ∧ paE ⟨#[48, 48, 48, 48, 48, 48, 48, 48, 48, 48, 48, 48, 48, 48, 102, 102]⟩ = 0 := by decide +kernel
theorem live_p2 : paV ⟨#[48, 48, 48, 48, 48, 48, 48, 48, 48, 48, 48, 48, 48, 48, 70, 70]⟩ = 0 ∧ paE ⟨#[48, 48, 48, 48, 48, 48, 48, 48, 48, 48, 48, 48, 48, 48, 70, 70]⟩ = 5 := by decide +kernel
theorem live_s1 : smV [0, 0, 0, 0, 0, 0, 1, 2] = 258 ∧ smE [0, 0, 0, 0, 0, 0, 1, 2] = 0 := by decide +kernel
theorem live_s2 : smV [1] = 0 ∧ smE [1] = 6 := by decide +kernel
theorem live_s3 : smV [0, 0, 0, 0, 0, 0, 1, 2, 3] = 0 ∧ smE [0, 0, 0, 0, 0, 0, 1, 2, 3] = 5 := by decide +kernel
def w2 (W : World) : World := ((W.alloc (Obj.cells #[] 5)).alloc (Obj.cells #[.int .u8 1] 5)).alloc (Obj.cells #[.slice (some ⟨W.heap.size, 0, none⟩) 0 0, .slice (some ⟨W.heap.size + 1, 0, none⟩) 1 1] 23)
theorem w2_below (W : World) : Below W.heap.size W (w2 W) := (((Below.refl _ _).alloc (Nat.le_refl _) _).alloc (by simp) _).alloc (by simp; omega) _
theorem w2_recs (W : World) : Recs (w2 W) (some ⟨W.heap.size + 1 + 1, 0, none⟩) [[], [1]] :=
  recs2 (c0 := 0) (c1 := 1) (a0 := some ⟨W.heap.size, 0, none⟩) (B1 := W.heap.size + 1) (by simp [w2]) (by unfold w2; rw [World.cell?_alloc_at _ _ _ _ (by simp)]; rfl) (by unfold w2; rw [World.cell?_alloc_at _ _ _ _ (by simp)]; rfl) (by simp [w2]) (by unfold w2; rw [((Below.refl (W.heap.size + 2) ((W.alloc (Obj.cells #[] 5)).alloc (Obj.cells #[.int .u8 1] 5))).alloc (by simp) _).cell (by simp), World.cell?_alloc_at _ _ _ _ (by simp)]; rfl)
theorem all_lit (W : World) : Calls Try.prog 16 #[.slice (some ⟨W.heap.size + 1 + 1, 0, none⟩) 2 2] (w2 W) fun e w' => ∃ av cv, e = .returned (.slice av 2 cv) ∧ RowU w' av (alV st0 [[], [1]]) ∧ Below W.heap.size W w' :=
  (all_any _ 2 [[], [1]] (w2 W) (w2_recs W) (by decide) (by decide)).mono fun e w' ⟨v, he, ho, hb⟩ => by
    obtain ⟨av, cv, hv⟩ := ho.shape
    subst hv
    exact ⟨av, cv, he, ho.row, (w2_below W).trans (hb.mono (w2_below W).size)⟩
theorem chk_lit0 (W : World) (av : Option Addr) (cv : Nat) (h : RowU W av (alV st0 [[], [1]])) : Calls Try.prog 18 #[.slice none 0 0, .slice av 2 cv] W fun e w' => e = .returned (.int .i64 0) ∧ Below W.heap.size W w' :=
  check_any none av 0 cv [] (alV st0 [[], [1]]) W (fun i l h => by simp at h) h (by decide) (by rw [alV_len]; decide) (fun l h => by simp at h)
theorem chk_lit1 (W : World) (av : Option Addr) (cv : Nat) (h : RowU W av (alV st0 [[], [1]])) : Calls Try.prog 18 #[.slice (some ⟨W.heap.size + 1 + 1, 0, none⟩) 2 2, .slice av 2 cv] (w2 W) fun e w' => e = .returned (.int .i64 (-1)) ∧ Below W.heap.size W w' :=
  (check_any _ av 2 cv [[], [1]] (alV st0 [[], [1]]) (w2 W) (w2_recs W) (h.below (w2_below W)) (by decide) (by rw [alV_len]; decide) (by decide)).mono fun e w' ⟨he, hb⟩ => by
    rw [chV_self] at he
    exact ⟨he, (w2_below W).trans (hb.mono (w2_below W).size)⟩
theorem sum_lit (W : World) (l : List UInt8) (c : Nat) (v e : Int) (hv : smV l = v ∧ smE l = e) (hl : l.length ≤ 1000) : Calls Try.prog 20 #[.slice (some ⟨W.heap.size, 0, none⟩) l.length c] (W.alloc (.cells (l.map byV).toArray 5)) fun e' w' => e' = .returned (.tuple #[.int .u64 v, .int .i64 e]) ∧ Below W.heap.size W w' :=
  (sum_any _ c l _ (rowB_lit W _ l) hl).mono fun e' w' ⟨he, hb⟩ => by
    rw [hv.1, hv.2] at he
    exact ⟨he, hb ▸ (Below.refl _ _).alloc (Nat.le_refl _) _⟩
theorem next_lit (W : World) : Calls Try.prog 12 #[.int .u64 0, .slice (some ⟨W.heap.size, 0, none⟩) 1 1] (W.alloc (.cells #[.int .u8 0] 5)) fun e' w' => e' = .returned (.int .u64 1099511628211) ∧ Below W.heap.size W w' :=
  (next_any 0 _ 1 [0] _ (rowB_lit W _ [0]) (by decide)).mono fun e' w' ⟨he, hb⟩ => by
    rw [live_next] at he
    exact ⟨he, ((Below.refl _ _).alloc (Nat.le_refl _) _).trans (hb.mono (by simp))⟩
set_option maxHeartbeats 4000000 in
theorem lives_any (w : World) : Calls Try.prog 11 #[] w fun e w' => e = .returned (.bool true) ∧ Below w.heap.size w w' := by
  have HT := Lib.hid (fun w => text_any 258 w (by omega) (by omega))
  rw [live_text] at HT
  have HP1 := Lib.hid (fun w => parse_any ⟨#[48, 48, 48, 48, 48, 48, 48, 48, 48, 48, 48, 48, 48, 48, 102, 102]⟩ w (by decide))
  rw [live_p1.1, live_p1.2] at HP1
  have HP2 := Lib.hid (fun w => parse_any ⟨#[48, 48, 48, 48, 48, 48, 48, 48, 48, 48, 48, 48, 48, 48, 70, 70]⟩ w (by decide))
  rw [live_p2.1, live_p2.2] at HP2
  go_enter Try.func11, Try.ntmps11
  go_wp2_with fail
  refine (all_lit w).mono ?_
  rintro e W1 ⟨av, cv, rfl, hr, hb⟩
  have HR1 := Lib.hid hr
  have HB1 := Lib.hid hb
  clear hr hb
  go_wp2_with fail
  refine (HT.out _).mono ?_
  rintro e W2 ⟨rfl, hb⟩
  have HR2 := Lib.hid (HR1.out.below hb)
  have HB2 := Lib.hid (HB1.out.trans (hb.mono HB1.out.size))
  clear hb HR1 HB1
  go_wp2_with fail
  refine (HP1.out _).mono ?_
  rintro e w_ ⟨rfl, rfl⟩
  go_wp2_with fail
  refine (HP2.out _).mono ?_
  rintro e w_ ⟨rfl, rfl⟩
  go_wp2_with fail
  refine (sum_lit W2 [0, 0, 0, 0, 0, 0, 1, 2] 8 _ _ live_s1 (by decide)).mono ?_
  rintro e W3 ⟨rfl, hb⟩
  have HR3 := Lib.hid (HR2.out.below hb)
  have HB3 := Lib.hid (HB2.out.trans (hb.mono HB2.out.size))
  clear hb HR2 HB2
  go_wp2_with fail
  refine (sum_lit W3 [1] 1 _ _ live_s2 (by decide)).mono ?_
  rintro e W4 ⟨rfl, hb⟩
  have HR4 := Lib.hid (HR3.out.below hb)
  have HB4 := Lib.hid (HB3.out.trans (hb.mono HB3.out.size))
  clear hb HR3 HB3
  go_wp2_with fail
  refine (sum_lit W4 [0, 0, 0, 0, 0, 0, 1, 2, 3] 9 _ _ live_s3 (by decide)).mono ?_
  rintro e W5 ⟨rfl, hb⟩
  have HR5 := Lib.hid (HR4.out.below hb)
  have HB5 := Lib.hid (HB4.out.trans (hb.mono HB4.out.size))
  clear hb HR4 HB4
  go_wp2_with fail
  refine (next_lit W5).mono ?_
  rintro e W6 ⟨rfl, hb⟩
  have HR6 := Lib.hid (HR5.out.below hb)
  have HB6 := Lib.hid (HB5.out.trans (hb.mono HB5.out.size))
  clear hb HR5 HB5
  go_wp2_with fail
  refine (chk_lit0 W6 av cv HR6.out).mono ?_
  rintro e W7 ⟨rfl, hb⟩
  have HR7 := Lib.hid (HR6.out.below hb)
  have HB7 := Lib.hid (HB6.out.trans (hb.mono HB6.out.size))
  clear hb HR6 HB6
  go_wp2_with fail
  refine (chk_lit1 W7 av cv HR7.out).mono ?_
  rintro e W8 ⟨rfl, hb⟩
  have HB8 := Lib.hid (HB7.out.trans (hb.mono HB7.out.size))
  clear hb HR7 HB7
  go_wp2
  go_ret
  exact ⟨rfl, HB8.out⟩
theorem live_end {w W : World} (hb : Below w.heap.size w W) : Calls Try.prog 11 #[] W fun e w' => e = .returned (.bool true) ∧ Below w.heap.size w w' :=
  (lives_any W).mono fun e w' ⟨he, hb'⟩ => ⟨he, hb.trans (hb'.mono hb.size)⟩
end Go.Proofs.Ytacgjfgiikbjiaa
