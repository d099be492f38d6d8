/- The examples of package deprec: lives returns true. Written by wip/mk_dpk.py. -/
import Derived.Test.YtmehihfdfpnfjaaDpJ
namespace Go.Proofs.Ytmehihfdfpnfjaa
open Go.RowKit Go.Sort
set_option linter.unusedVariables false
set_option linter.unusedSimpArgs false

theorem plf_none {m c s p a b : Int} (w : World) (hm : r64 m) (hc : r64 c) (hs : r64 s) (hp : r64 p) (ha : r64 a) (hb : r64 b) : PlF w m c s p a b none [] := ⟨hm, hc, hs, hp, ha, hb, row_nil _ _⟩
theorem scC (m c s p a b : Int) (us L : List Int) (A : Option Addr) (n uc k : Nat) (w : World) (h : PlF w m c s p a b A us) (hu : us.length = n) (hn : n ≤ 250) (hk : ckE m c s p a b us = 0) (hL : scL m c s p a b us = L) (hl : L.length = k) :
    Calls Try.prog 12 #[.agg #[.int .i64 m, .int .i64 c, .int .i64 s, .int .i64 p, .int .i64 a, .int .i64 b, .slice A n uc]] w fun e w' => ∃ A, e = .returned (.tuple #[.slice A k k, .int .i64 0]) ∧ Row w' A L ∧ Below w.heap.size w w' := by
  subst hu
  refine (schedule_good m c s p a b A uc us w h hn hk).mono ?_
  rintro e w' ⟨_, A2, rfl, h1, h2⟩
  rw [hL] at h1
  exact ⟨A2, by rw [hL, hl], h1, h2⟩
theorem r64_small {x : Int} (h : -1000000 ≤ x) (h2 : x ≤ 1000000) : r64 x := ⟨by omega, by omega⟩
theorem smC (W : World) (A : Option Addr) (ys : List Int) (n : Nat) (hn : ys.length = n) (hl : n ≤ 1000) (hA : Row W A ys) :
    Calls Try.prog 14 #[.slice A n n, .slice (some ⟨W.heap.size, 0, none⟩) n n] (W.alloc (.cells (ys.map (Value.int .i64)).toArray 3)) fun e w' => e = .returned (.bool true) ∧ Below W.heap.size W w' := by
  subst hn
  refine (same_any A _ ys.length ys.length ys ys _ (row_b hA ((Below.refl _ _).alloc (Nat.le_refl _) _)) (row_lit W 3 ys hA.2) hl hl).mono ?_
  rintro e w' ⟨rfl, h⟩
  exact ⟨by simp, ((Below.refl _ _).alloc (Nat.le_refl _) _).trans (h.mono (by simp))⟩
theorem dL_1 : ckE 1 1000 0 3 0 0 [] = 0 ∧ scL 1 1000 0 3 0 0 [] = [333, 334, 333] := by decide +kernel
theorem dL_2 : ckE 2 1000 100 4 2 5 [] = 0 ∧ scL 2 1000 100 4 2 5 [] = [400, 240, 144, 116] := by decide +kernel
theorem dL_3 : ckE 3 600 0 3 0 0 [] = 0 ∧ scL 3 600 0 3 0 0 [] = [300, 200, 100] := by decide +kernel
theorem dL_4 : ckE 4 110 10 3 0 0 [1, 0, 3] = 0 ∧ scL 4 110 10 3 0 0 [1, 0, 3] = [25, 0, 75] := by decide +kernel
theorem dL_5 : afB 3 600 0 3 0 0 [] 2 = 100 ∧ afE 3 600 0 3 0 0 [] 2 = 0 := by decide +kernel
theorem dL_6 : ckE 9 0 0 0 0 0 [] = 10 := by decide +kernel
set_option maxRecDepth 100000 in
set_option maxHeartbeats 4000000 in
theorem lives_any (w : World) : Calls Try.prog 9 #[] w fun e w' => e = .returned (.bool true) ∧ Below w.heap.size w w' := by
  have C1 := Lib.hid (fun W => scC 1 1000 0 3 0 0 [] [333, 334, 333] none 0 0 3 W (plf_none W (r64_small (by omega) (by omega)) (r64_small (by omega) (by omega)) (r64_small (by omega) (by omega)) (r64_small (by omega) (by omega)) (r64_small (by omega) (by omega)) (r64_small (by omega) (by omega))) rfl (by omega) dL_1.1 dL_1.2 rfl)
  have C2 := Lib.hid (fun W => scC 2 1000 100 4 2 5 [] [400, 240, 144, 116] none 0 0 4 W (plf_none W (r64_small (by omega) (by omega)) (r64_small (by omega) (by omega)) (r64_small (by omega) (by omega)) (r64_small (by omega) (by omega)) (r64_small (by omega) (by omega)) (r64_small (by omega) (by omega))) rfl (by omega) dL_2.1 dL_2.2 rfl)
  have C3 := Lib.hid (fun W => scC 3 600 0 3 0 0 [] [300, 200, 100] none 0 0 3 W (plf_none W (r64_small (by omega) (by omega)) (r64_small (by omega) (by omega)) (r64_small (by omega) (by omega)) (r64_small (by omega) (by omega)) (r64_small (by omega) (by omega)) (r64_small (by omega) (by omega))) rfl (by omega) dL_3.1 dL_3.2 rfl)
  have C4 := Lib.hid (fun W => (scC 4 110 10 3 0 0 [1, 0, 3] [25, 0, 75] (some ⟨W.heap.size, 0, none⟩) 3 3 3 (W.alloc (.cells (([1, 0, 3] : List Int).map (Value.int .i64)).toArray 3)) ⟨r64_small (by omega) (by omega), r64_small (by omega) (by omega), r64_small (by omega) (by omega), r64_small (by omega) (by omega), r64_small (by omega) (by omega), r64_small (by omega) (by omega), row_lit W 3 [1, 0, 3] (by simp)⟩ rfl (by omega) dL_4.1 dL_4.2 rfl).mono (fun e w' h => (show ∃ A, e = .returned (.tuple #[.slice A 3 3, .int .i64 0]) ∧ Row w' A [25, 0, 75] ∧ Below W.heap.size W w' from by obtain ⟨A, h1, h2, h3⟩ := h; exact ⟨A, h1, h2, ((Below.refl _ _).alloc (Nat.le_refl _) _).trans (h3.mono (by simp))⟩)))
  have C5 := Lib.hid (fun W => (after_any 3 600 0 3 0 0 none 0 [] 2 W (plf_none W (r64_small (by omega) (by omega)) (r64_small (by omega) (by omega)) (r64_small (by omega) (by omega)) (r64_small (by omega) (by omega)) (r64_small (by omega) (by omega)) (r64_small (by omega) (by omega))) (by simp) (r64_small (by omega) (by omega))).mono (fun e w' h => (show e = .returned (.tuple #[.int .i64 100, .int .i64 0]) ∧ Below W.heap.size W w' from by obtain ⟨_, h1, h2⟩ := h; rw [dL_5.1, dL_5.2] at h1; exact ⟨h1, h2⟩)))
  have C6 := Lib.hid (fun W => (check_any 9 0 0 0 0 0 none 0 [] W (plf_none W (r64_small (by omega) (by omega)) (r64_small (by omega) (by omega)) (r64_small (by omega) (by omega)) (r64_small (by omega) (by omega)) (r64_small (by omega) (by omega)) (r64_small (by omega) (by omega))) (by simp)).mono (fun e w' h => (show e = .returned (.int .i64 10) ∧ Below W.heap.size W w' from by rw [dL_6] at h; exact h)))
  have HS := Lib.hid (fun W A ys n hn hl hA => smC W A ys n hn hl hA)
  simp only [List.length_nil] at C5 C6
  go_enter Try.func9, Try.ntmps9
  go_wp2_with fail
  refine (C1.out _).mono ?_
  rintro e w1 ⟨A1, rfl, hr, hb⟩
  have R1 := Lib.hid hr
  have HB := Lib.hid hb
  clear hb hr
  go_wp2_with fail
  refine (C2.out _).mono ?_
  rintro e w2 ⟨A2, rfl, hr, hb⟩
  have R1 := Lib.hid (row_b R1.out hb)
  have R2 := Lib.hid hr
  have HB := Lib.hid (HB.out.trans (hb.mono HB.out.size))
  clear hb hr
  go_wp2_with fail
  refine (C3.out _).mono ?_
  rintro e w3 ⟨A3, rfl, hr, hb⟩
  have R1 := Lib.hid (row_b R1.out hb)
  have R2 := Lib.hid (row_b R2.out hb)
  have R3 := Lib.hid hr
  have HB := Lib.hid (HB.out.trans (hb.mono HB.out.size))
  clear hb hr
  go_wp2_with fail
  refine (C4.out _).mono ?_
  rintro e w4 ⟨A4, rfl, hr, hb⟩
  have R1 := Lib.hid (row_b R1.out hb)
  have R2 := Lib.hid (row_b R2.out hb)
  have R3 := Lib.hid (row_b R3.out hb)
  have R4 := Lib.hid hr
  have HB := Lib.hid (HB.out.trans (hb.mono HB.out.size))
  clear hb hr
  go_wp2_with fail
  refine (C5.out _).mono ?_
  rintro e w5 ⟨rfl, hb⟩
  have R1 := Lib.hid (row_b R1.out hb)
  have R2 := Lib.hid (row_b R2.out hb)
  have R3 := Lib.hid (row_b R3.out hb)
  have R4 := Lib.hid (row_b R4.out hb)
  have HB := Lib.hid (HB.out.trans (hb.mono HB.out.size))
  clear hb
  go_wp2_with fail
  refine (HS.out _ A1 [333, 334, 333] 3 rfl (by omega) R1.out).mono ?_
  rintro e w6 ⟨rfl, hb⟩
  have R2 := Lib.hid (row_b R2.out hb)
  have R3 := Lib.hid (row_b R3.out hb)
  have R4 := Lib.hid (row_b R4.out hb)
  have HB := Lib.hid (HB.out.trans (hb.mono HB.out.size))
  clear hb
  go_wp2_with fail
  refine (HS.out _ A2 [400, 240, 144, 116] 4 rfl (by omega) R2.out).mono ?_
  rintro e w7 ⟨rfl, hb⟩
  have R3 := Lib.hid (row_b R3.out hb)
  have R4 := Lib.hid (row_b R4.out hb)
  have HB := Lib.hid (HB.out.trans (hb.mono HB.out.size))
  clear hb
  go_wp2_with fail
  refine (HS.out _ A3 [300, 200, 100] 3 rfl (by omega) R3.out).mono ?_
  rintro e w8 ⟨rfl, hb⟩
  have R4 := Lib.hid (row_b R4.out hb)
  have HB := Lib.hid (HB.out.trans (hb.mono HB.out.size))
  clear hb
  go_wp2_with fail
  refine (HS.out _ A4 [25, 0, 75] 3 rfl (by omega) R4.out).mono ?_
  rintro e w9 ⟨rfl, hb⟩
  have HB := Lib.hid (HB.out.trans (hb.mono HB.out.size))
  clear hb
  go_wp2_with fail
  refine (C6.out _).mono ?_
  rintro e w10 ⟨rfl, hb⟩
  have HB := Lib.hid (HB.out.trans (hb.mono HB.out.size))
  clear hb
  go_wp2
  go_ret
  exact ⟨rfl, HB.out⟩
end Go.Proofs.Ytmehihfdfpnfjaa
