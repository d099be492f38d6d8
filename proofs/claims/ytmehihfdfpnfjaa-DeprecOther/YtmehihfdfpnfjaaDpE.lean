/- filler and Schedule of package deprec. Written by wip/mk_dpc.py. -/
import Derived.Test.YtmehihfdfpnfjaaDpD
namespace Go.Proofs.Ytmehihfdfpnfjaa
open Go.RowKit Go.Sort
set_option linter.unusedVariables false
set_option linter.unusedSimpArgs false

theorem straight_any (m c s p a b : Int) (A : Option Addr) (ul uc : Nat) (w : World) :
    Calls Try.prog 33 #[.agg #[.int .i64 m, .int .i64 c, .int .i64 s, .int .i64 p, .int .i64 a, .int .i64 b, .slice A ul uc]] w fun e w' => e = .returned (.func (.func 44) #[] #[.pointer (some ⟨w.heap.size, 0, none⟩)]) ∧ w' = w.alloc (Obj.cells #[.int .i64 m, .int .i64 c, .int .i64 s, .int .i64 p, .int .i64 a, .int .i64 b, .slice A ul uc] 26) := by
  go_enter Try.func33, Try.ntmps33
  go_wp2
  go_ret
  exact ⟨rfl, rfl⟩
theorem declining_any (m c s p a b : Int) (A : Option Addr) (ul uc : Nat) (w : World) :
    Calls Try.prog 34 #[.agg #[.int .i64 m, .int .i64 c, .int .i64 s, .int .i64 p, .int .i64 a, .int .i64 b, .slice A ul uc]] w fun e w' => e = .returned (.func (.func 46) #[] #[.pointer (some ⟨w.heap.size, 0, none⟩)]) ∧ w' = w.alloc (Obj.cells #[.int .i64 m, .int .i64 c, .int .i64 s, .int .i64 p, .int .i64 a, .int .i64 b, .slice A ul uc] 26) := by
  go_enter Try.func34, Try.ntmps34
  go_wp2
  go_ret
  exact ⟨rfl, rfl⟩
theorem shared_any (m c s p a b : Int) (A : Option Addr) (ul uc : Nat) (A2 : Option Addr) (n2 c2 : Nat) (w : World) :
    Calls Try.prog 35 #[.agg #[.int .i64 m, .int .i64 c, .int .i64 s, .int .i64 p, .int .i64 a, .int .i64 b, .slice A ul uc], .slice A2 n2 c2] w fun e w' => e = .returned (.func (.func 48) #[] #[.pointer (some ⟨w.heap.size, 0, none⟩), .pointer (some ⟨w.heap.size + 1, 0, none⟩)]) ∧ w' = (w.alloc (Obj.cells #[.int .i64 m, .int .i64 c, .int .i64 s, .int .i64 p, .int .i64 a, .int .i64 b, .slice A ul uc] 26)).alloc (Obj.cells #[.slice A2 n2 c2] 24) := by
  go_enter Try.func35, Try.ntmps35
  go_wp2
  go_ret
  exact ⟨rfl, rfl⟩
theorem shared_q (m c s p a b : Int) (A : Option Addr) (ul uc : Nat) (A2 : Option Addr) (n2 c2 : Nat) (w : World) :
    Calls Try.prog 35 #[.agg #[.int .i64 m, .int .i64 c, .int .i64 s, .int .i64 p, .int .i64 a, .int .i64 b, .slice A ul uc], .slice A2 n2 c2] w fun e w' => ∃ B C, e = .returned (.func (.func 48) #[] #[.pointer (some ⟨B, 0, none⟩), .pointer (some ⟨C, 0, none⟩)]) ∧ w.heap.size ≤ B ∧ w.heap.size ≤ C ∧ Q7 w' B (.int .i64 m) (.int .i64 c) (.int .i64 s) (.int .i64 p) (.int .i64 a) (.int .i64 b) (.slice A ul uc) ∧ Q1 w' C (.slice A2 n2 c2) ∧ Below w.heap.size w w' := by
  refine (shared_any m c s p a b A ul uc A2 n2 c2 w).mono ?_
  rintro e w' ⟨rfl, rfl⟩
  have h1 := Q7.alloc w (.int .i64 m) (.int .i64 c) (.int .i64 s) (.int .i64 p) (.int .i64 a) (.int .i64 b) (.slice A ul uc) 26
  have h2 := Q1.alloc (w.alloc (Obj.cells #[.int .i64 m, .int .i64 c, .int .i64 s, .int .i64 p, .int .i64 a, .int .i64 b, .slice A ul uc] 26)) (.slice A2 n2 c2) 24
  have e2 : (w.alloc (Obj.cells #[.int .i64 m, .int .i64 c, .int .i64 s, .int .i64 p, .int .i64 a, .int .i64 b, .slice A ul uc] 26)).heap.size = w.heap.size + 1 := by simp
  rw [e2] at h2
  exact ⟨_, _, rfl, Nat.le_refl _, by omega, h1.below ((Below.refl _ _).alloc (Nat.le_refl _) _), h2, ((Below.refl _ _).alloc (Nat.le_refl _) _).alloc (by simp) _⟩
theorem straight_q (m c s p a b : Int) (A : Option Addr) (ul uc : Nat) (w : World) :
    Calls Try.prog 33 #[.agg #[.int .i64 m, .int .i64 c, .int .i64 s, .int .i64 p, .int .i64 a, .int .i64 b, .slice A ul uc]] w fun e w' => ∃ B, e = .returned (.func (.func 44) #[] #[.pointer (some ⟨B, 0, none⟩)]) ∧ w.heap.size ≤ B ∧ Q7 w' B (.int .i64 m) (.int .i64 c) (.int .i64 s) (.int .i64 p) (.int .i64 a) (.int .i64 b) (.slice A ul uc) ∧ Below w.heap.size w w' := by
  refine (straight_any m c s p a b A ul uc w).mono ?_
  rintro e w' ⟨rfl, rfl⟩
  exact ⟨_, rfl, Nat.le_refl _, Q7.alloc w (.int .i64 m) (.int .i64 c) (.int .i64 s) (.int .i64 p) (.int .i64 a) (.int .i64 b) (.slice A ul uc) 26, (Below.refl _ _).alloc (Nat.le_refl _) _⟩
set_option maxRecDepth 100000 in
set_option maxHeartbeats 2000000 in
theorem filler_straight (c s p a b : Int) (A : Option Addr) (ul uc : Nat) (w : World) :
    Calls Try.prog 22 #[.agg #[.int .i64 1, .int .i64 c, .int .i64 s, .int .i64 p, .int .i64 a, .int .i64 b, .slice A ul uc]] w fun e w' => ∃ B, e = .returned (.func (.func 44) #[] #[.pointer (some ⟨B, 0, none⟩)]) ∧ w.heap.size ≤ B ∧ Q7 w' B (.int .i64 1) (.int .i64 c) (.int .i64 s) (.int .i64 p) (.int .i64 a) (.int .i64 b) (.slice A ul uc) ∧ Below w.heap.size w w' := by
  have HP := Lib.hid (Q7.alloc w (.int .i64 1) (.int .i64 c) (.int .i64 s) (.int .i64 p) (.int .i64 a) (.int .i64 b) (.slice A ul uc) 26)
  have HB0 := Lib.hid ((Below.refl w.heap.size w).alloc (Nat.le_refl _) (Obj.cells #[.int .i64 1, .int .i64 c, .int .i64 s, .int .i64 p, .int .i64 a, .int .i64 b, .slice A ul uc] 26))
  have H := Lib.hid (fun W => straight_q 1 c s p a b A ul uc W)
  go_enter Try.func22, Try.ntmps22
  have x0 := HP.out.c0
  have x1 := HP.out.c1
  have x2 := HP.out.c2
  have x3 := HP.out.c3
  have x4 := HP.out.c4
  have x5 := HP.out.c5
  have x6 := HP.out.c6
  go_wp2_with fail
  refine (H.out _).mono ?_
  rintro e w2 ⟨B, rfl, h1, h2, h3⟩
  clear x0 x1 x2 x3 x4 x5 x6
  have HQ := Lib.hid h2
  have HL := Lib.hid (Nat.le_trans HB0.out.size h1)
  have HB := Lib.hid (HB0.out.trans (h3.mono HB0.out.size))
  clear h1 h2 h3 HP HB0 H
  go_wp2
  go_ret
  exact ⟨B, rfl, HL.out, HQ.out, HB.out⟩
theorem declining_q (m c s p a b : Int) (A : Option Addr) (ul uc : Nat) (w : World) :
    Calls Try.prog 34 #[.agg #[.int .i64 m, .int .i64 c, .int .i64 s, .int .i64 p, .int .i64 a, .int .i64 b, .slice A ul uc]] w fun e w' => ∃ B, e = .returned (.func (.func 46) #[] #[.pointer (some ⟨B, 0, none⟩)]) ∧ w.heap.size ≤ B ∧ Q7 w' B (.int .i64 m) (.int .i64 c) (.int .i64 s) (.int .i64 p) (.int .i64 a) (.int .i64 b) (.slice A ul uc) ∧ Below w.heap.size w w' := by
  refine (declining_any m c s p a b A ul uc w).mono ?_
  rintro e w' ⟨rfl, rfl⟩
  exact ⟨_, rfl, Nat.le_refl _, Q7.alloc w (.int .i64 m) (.int .i64 c) (.int .i64 s) (.int .i64 p) (.int .i64 a) (.int .i64 b) (.slice A ul uc) 26, (Below.refl _ _).alloc (Nat.le_refl _) _⟩
set_option maxRecDepth 100000 in
set_option maxHeartbeats 2000000 in
theorem filler_declining (c s p a b : Int) (A : Option Addr) (ul uc : Nat) (w : World) :
    Calls Try.prog 22 #[.agg #[.int .i64 2, .int .i64 c, .int .i64 s, .int .i64 p, .int .i64 a, .int .i64 b, .slice A ul uc]] w fun e w' => ∃ B, e = .returned (.func (.func 46) #[] #[.pointer (some ⟨B, 0, none⟩)]) ∧ w.heap.size ≤ B ∧ Q7 w' B (.int .i64 2) (.int .i64 c) (.int .i64 s) (.int .i64 p) (.int .i64 a) (.int .i64 b) (.slice A ul uc) ∧ Below w.heap.size w w' := by
  have HP := Lib.hid (Q7.alloc w (.int .i64 2) (.int .i64 c) (.int .i64 s) (.int .i64 p) (.int .i64 a) (.int .i64 b) (.slice A ul uc) 26)
  have HB0 := Lib.hid ((Below.refl w.heap.size w).alloc (Nat.le_refl _) (Obj.cells #[.int .i64 2, .int .i64 c, .int .i64 s, .int .i64 p, .int .i64 a, .int .i64 b, .slice A ul uc] 26))
  have H := Lib.hid (fun W => declining_q 2 c s p a b A ul uc W)
  go_enter Try.func22, Try.ntmps22
  have x0 := HP.out.c0
  have x1 := HP.out.c1
  have x2 := HP.out.c2
  have x3 := HP.out.c3
  have x4 := HP.out.c4
  have x5 := HP.out.c5
  have x6 := HP.out.c6
  go_wp2_with fail
  refine (H.out _).mono ?_
  rintro e w2 ⟨B, rfl, h1, h2, h3⟩
  clear x0 x1 x2 x3 x4 x5 x6
  have HQ := Lib.hid h2
  have HL := Lib.hid (Nat.le_trans HB0.out.size h1)
  have HB := Lib.hid (HB0.out.trans (h3.mono HB0.out.size))
  clear h1 h2 h3 HP HB0 H
  go_wp2
  go_ret
  exact ⟨B, rfl, HL.out, HQ.out, HB.out⟩
set_option maxRecDepth 100000 in
set_option maxHeartbeats 2000000 in
theorem filler_usage (c s p a b : Int) (A : Option Addr) (ul uc : Nat) (w : World) :
    Calls Try.prog 22 #[.agg #[.int .i64 4, .int .i64 c, .int .i64 s, .int .i64 p, .int .i64 a, .int .i64 b, .slice A ul uc]] w fun e w' => ∃ B C, e = .returned (.func (.func 48) #[] #[.pointer (some ⟨B, 0, none⟩), .pointer (some ⟨C, 0, none⟩)]) ∧ w.heap.size ≤ B ∧ w.heap.size ≤ C ∧ Q7 w' B (.int .i64 4) (.int .i64 c) (.int .i64 s) (.int .i64 p) (.int .i64 a) (.int .i64 b) (.slice A ul uc) ∧ Q1 w' C (.slice A ul uc) ∧ Below w.heap.size w w' := by
  have HP := Lib.hid (Q7.alloc w (.int .i64 4) (.int .i64 c) (.int .i64 s) (.int .i64 p) (.int .i64 a) (.int .i64 b) (.slice A ul uc) 26)
  have HB0 := Lib.hid ((Below.refl w.heap.size w).alloc (Nat.le_refl _) (Obj.cells #[.int .i64 4, .int .i64 c, .int .i64 s, .int .i64 p, .int .i64 a, .int .i64 b, .slice A ul uc] 26))
  have H := Lib.hid (fun W => shared_q 4 c s p a b A ul uc A ul uc W)
  go_enter Try.func22, Try.ntmps22
  have x0 := HP.out.c0
  have x1 := HP.out.c1
  have x2 := HP.out.c2
  have x3 := HP.out.c3
  have x4 := HP.out.c4
  have x5 := HP.out.c5
  have x6 := HP.out.c6
  go_wp2_with fail
  refine (H.out _).mono ?_
  rintro e w2 ⟨B, C, rfl, h1, h1c, h2, h2c, h3⟩
  clear x0 x1 x2 x3 x4 x5 x6
  have HQ := Lib.hid (And.intro h2 h2c)
  have HL := Lib.hid (And.intro (Nat.le_trans HB0.out.size h1) (Nat.le_trans HB0.out.size h1c))
  have HB := Lib.hid (HB0.out.trans (h3.mono HB0.out.size))
  clear h1 h1c h2 h2c h3 HP HB0 H
  go_wp2
  go_ret
  exact ⟨B, C, rfl, HL.out.1, HL.out.2, HQ.out.1, HQ.out.2, HB.out⟩
set_option maxRecDepth 100000 in
set_option maxHeartbeats 4000000 in
theorem filler_digits (c s p a b : Int) (n : Nat) (A : Option Addr) (ul uc : Nat) (w : World) (hn : (n : Int) = p) (p1 : 1 ≤ p) (p2 : p ≤ 200) :
    Calls Try.prog 22 #[.agg #[.int .i64 3, .int .i64 c, .int .i64 s, .int .i64 p, .int .i64 a, .int .i64 b, .slice A ul uc]] w fun e w' => ∃ B C A2, e = .returned (.func (.func 48) #[] #[.pointer (some ⟨B, 0, none⟩), .pointer (some ⟨C, 0, none⟩)]) ∧ w.heap.size ≤ B ∧ w.heap.size ≤ C ∧ Q7 w' B (.int .i64 3) (.int .i64 c) (.int .i64 s) (.int .i64 p) (.int .i64 a) (.int .i64 b) (.slice A ul uc) ∧ Q1 w' C (.slice A2 n n) ∧ Row w' A2 (fall p) ∧ Below w.heap.size w w' := by
  have HP := Lib.hid (Q7.alloc w (.int .i64 3) (.int .i64 c) (.int .i64 s) (.int .i64 p) (.int .i64 a) (.int .i64 b) (.slice A ul uc) 26)
  have HB0 := Lib.hid ((Below.refl w.heap.size w).alloc (Nat.le_refl _) (Obj.cells #[.int .i64 3, .int .i64 c, .int .i64 s, .int .i64 p, .int .i64 a, .int .i64 b, .slice A ul uc] 26))
  have H := Lib.hid (fun A2 W => shared_q 3 c s p a b A ul uc A2 n n W)
  have HF := Lib.hid (fun W => falling_any p n W hn p1 p2)
  have HSS := Lib.hid (show (w.alloc (Obj.cells #[.int .i64 3, .int .i64 c, .int .i64 s, .int .i64 p, .int .i64 a, .int .i64 b, .slice A ul uc] 26)).drew.cell? ⟨w.heap.size, 0, none⟩ = some (.int .i64 3) ∧ (w.alloc (Obj.cells #[.int .i64 3, .int .i64 c, .int .i64 s, .int .i64 p, .int .i64 a, .int .i64 b, .slice A ul uc] 26)).drew.cell? ⟨w.heap.size, 1, none⟩ = some (.int .i64 c) ∧ (w.alloc (Obj.cells #[.int .i64 3, .int .i64 c, .int .i64 s, .int .i64 p, .int .i64 a, .int .i64 b, .slice A ul uc] 26)).drew.cell? ⟨w.heap.size, 2, none⟩ = some (.int .i64 s) ∧ (w.alloc (Obj.cells #[.int .i64 3, .int .i64 c, .int .i64 s, .int .i64 p, .int .i64 a, .int .i64 b, .slice A ul uc] 26)).drew.cell? ⟨w.heap.size, 3, none⟩ = some (.int .i64 p) ∧ (w.alloc (Obj.cells #[.int .i64 3, .int .i64 c, .int .i64 s, .int .i64 p, .int .i64 a, .int .i64 b, .slice A ul uc] 26)).drew.cell? ⟨w.heap.size, 4, none⟩ = some (.int .i64 a) ∧ (w.alloc (Obj.cells #[.int .i64 3, .int .i64 c, .int .i64 s, .int .i64 p, .int .i64 a, .int .i64 b, .slice A ul uc] 26)).drew.cell? ⟨w.heap.size, 5, none⟩ = some (.int .i64 b) ∧ (w.alloc (Obj.cells #[.int .i64 3, .int .i64 c, .int .i64 s, .int .i64 p, .int .i64 a, .int .i64 b, .slice A ul uc] 26)).drew.cell? ⟨w.heap.size, 6, none⟩ = some (.slice A ul uc) from ⟨(HP.out).c0, (HP.out).c1, (HP.out).c2, (HP.out).c3, (HP.out).c4, (HP.out).c5, (HP.out).c6⟩)
  go_enter Try.func22, Try.ntmps22
  have x0 := HP.out.c0
  have x1 := HP.out.c1
  have x2 := HP.out.c2
  have x3 := HP.out.c3
  have x4 := HP.out.c4
  have x5 := HP.out.c5
  have x6 := HP.out.c6
  go_wp2_with fail
  clear x0 x1 x2 x3 x4 x5 x6
  refine gk_region (fun x => x.cell? ⟨w.heap.size, 0, none⟩ = some (.int .i64 3) ∧ x.cell? ⟨w.heap.size, 1, none⟩ = some (.int .i64 c) ∧ x.cell? ⟨w.heap.size, 2, none⟩ = some (.int .i64 s) ∧ x.cell? ⟨w.heap.size, 3, none⟩ = some (.int .i64 p) ∧ x.cell? ⟨w.heap.size, 4, none⟩ = some (.int .i64 a) ∧ x.cell? ⟨w.heap.size, 5, none⟩ = some (.int .i64 b) ∧ x.cell? ⟨w.heap.size, 6, none⟩ = some (.slice A ul uc)) (fun _ => false) (by kernel_rfl) ?_
  refine gk_take (i := 0) (v := ?_) rfl (by kernel_rfl) (by kernel_rfl) (by kernel_rfl) (by kernel_rfl) (fun _ _ _ h => h) (Or.inl ⟨by kernel_rfl, ?_⟩) HSS.out ?_
  rotate_left
  · ((intro x hx; obtain ⟨hx0, hx1, hx2, hx3, hx4, hx5, hx6⟩ := hx; go_simp) <;> with_reducible rfl)
  try simp only [Act.put, List.setIfInBounds_toArray, List.set_cons_zero, List.set_cons_succ]
  refine gk_take (i := 1) (v := ?_) rfl (by kernel_rfl) (by kernel_rfl) (by kernel_rfl) (by kernel_rfl) (fun _ _ _ h => h) (Or.inl ⟨by kernel_rfl, ?_⟩) HSS.out ?_
  rotate_left
  · ((intro x hx; obtain ⟨hx0, hx1, hx2, hx3, hx4, hx5, hx6⟩ := hx; go_simp) <;> with_reducible rfl)
  try simp only [Act.put, List.setIfInBounds_toArray, List.set_cons_zero, List.set_cons_succ]
  refine gk_take (i := 2) (v := ?_) rfl (by kernel_rfl) (by kernel_rfl) (by kernel_rfl) (by kernel_rfl) (fun _ _ _ h => h) (Or.inl ⟨by kernel_rfl, ?_⟩) HSS.out ?_
  rotate_left
  · ((intro x hx; obtain ⟨hx0, hx1, hx2, hx3, hx4, hx5, hx6⟩ := hx; go_simp) <;> with_reducible rfl)
  try simp only [Act.put, List.setIfInBounds_toArray, List.set_cons_zero, List.set_cons_succ]
  refine gk_one (i := 3) rfl (by kernel_rfl) (fun K hK => ?_)
  go_simp
  go_at_call 36
  refine (HF.out _).mono ?_
  rintro e w6 ⟨P6, rfl, hr6, hb⟩
  have hb : Below (w.alloc (Obj.cells #[.int .i64 3, .int .i64 c, .int .i64 s, .int .i64 p, .int .i64 a, .int .i64 b, .slice A ul uc] 26)).heap.size (w.alloc (Obj.cells #[.int .i64 3, .int .i64 c, .int .i64 s, .int .i64 p, .int .i64 a, .int .i64 b, .slice A ul uc] 26)) w6 := ((Below.refl _ _).drew).trans hb
  have HP6 := Lib.hid (HP.out.below hb)
  have HSS6 := Lib.hid (show w6.cell? ⟨w.heap.size, 0, none⟩ = some (.int .i64 3) ∧ w6.cell? ⟨w.heap.size, 1, none⟩ = some (.int .i64 c) ∧ w6.cell? ⟨w.heap.size, 2, none⟩ = some (.int .i64 s) ∧ w6.cell? ⟨w.heap.size, 3, none⟩ = some (.int .i64 p) ∧ w6.cell? ⟨w.heap.size, 4, none⟩ = some (.int .i64 a) ∧ w6.cell? ⟨w.heap.size, 5, none⟩ = some (.int .i64 b) ∧ w6.cell? ⟨w.heap.size, 6, none⟩ = some (.slice A ul uc) from ⟨(HP6.out).c0, (HP6.out).c1, (HP6.out).c2, (HP6.out).c3, (HP6.out).c4, (HP6.out).c5, (HP6.out).c6⟩)
  have HR6 := Lib.hid hr6
  have HB6 := Lib.hid (HB0.out.trans (hb.mono HB0.out.size))
  clear hb hr6
  refine hK _ _ (fun _ => HSS6.out) ?_
  clear hK K
  try simp only [Act.put, List.setIfInBounds_toArray, List.set_cons_zero, List.set_cons_succ]
  refine gk_one (i := 4) rfl (by kernel_rfl) (fun K hK => ?_)
  go_simp
  go_at_call 35
  refine (H.out (some ⟨P6, 0, none⟩) _).mono ?_
  rintro e w7 ⟨B, C, rfl, h1, h1c, h2, h2c, h3⟩
  have HSS7 := Lib.hid (show w7.cell? ⟨w.heap.size, 0, none⟩ = some (.int .i64 3) ∧ w7.cell? ⟨w.heap.size, 1, none⟩ = some (.int .i64 c) ∧ w7.cell? ⟨w.heap.size, 2, none⟩ = some (.int .i64 s) ∧ w7.cell? ⟨w.heap.size, 3, none⟩ = some (.int .i64 p) ∧ w7.cell? ⟨w.heap.size, 4, none⟩ = some (.int .i64 a) ∧ w7.cell? ⟨w.heap.size, 5, none⟩ = some (.int .i64 b) ∧ w7.cell? ⟨w.heap.size, 6, none⟩ = some (.slice A ul uc) from ⟨(HP6.out.below h3).c0, (HP6.out.below h3).c1, (HP6.out.below h3).c2, (HP6.out.below h3).c3, (HP6.out.below h3).c4, (HP6.out.below h3).c5, (HP6.out.below h3).c6⟩)
  have HQ := Lib.hid (And.intro h2 h2c)
  have HL := Lib.hid (And.intro (Nat.le_trans HB6.out.size h1) (Nat.le_trans HB6.out.size h1c))
  have HR7 := Lib.hid (row_b HR6.out h3)
  have HB7 := Lib.hid (HB6.out.trans (h3.mono HB6.out.size))
  clear h1 h1c h2 h2c h3
  refine hK _ _ (fun _ => HSS7.out) ?_
  clear hK K
  try simp only [Act.put, List.setIfInBounds_toArray, List.set_cons_zero, List.set_cons_succ]
  refine gk_one (i := 5) rfl (by kernel_rfl) (fun K hK => ?_)
  go_simp
  refine hK _ _ (fun _ => HSS7.out) ?_
  clear hK K
  try simp only [Act.put, List.setIfInBounds_toArray, List.set_cons_zero, List.set_cons_succ]
  refine gk_done (by kernel_rfl) ?_ _
  try simp only [Act.put, List.setIfInBounds_toArray, List.set_cons_zero, List.set_cons_succ]
  try go_simp
  clear HSS HSS6 HSS7 HP HP6 HR6 HB6 HB0 H HF
  go_wp2
  go_ret
  exact ⟨B, C, _, rfl, HL.out.1, HL.out.2, HQ.out.1, HQ.out.2, HR7.out, HB7.out⟩

/-- what Schedule returns. -/
def ScQ (m c s p a b : Int) (us : List Int) (w : World) (e : Ending) (w' : World) : Prop :=
  (ckE m c s p a b us = 0 → OrdS m c s p us) ∧ ∃ A, e = .returned (.tuple #[.slice A (scL m c s p a b us).length (scL m c s p a b us).length, .int .i64 (ckE m c s p a b us)]) ∧ Row w' A (scL m c s p a b us) ∧ Below w.heap.size w w'
set_option maxRecDepth 100000 in
set_option maxHeartbeats 4000000 in
theorem schedule_bad (m c s p a b : Int) (A : Option Addr) (uc : Nat) (us : List Int) (w : World) (h : PlF w m c s p a b A us) (hn : us.length ≤ 250) (hk : ¬ ckE m c s p a b us = 0) :
    Calls Try.prog 12 #[.agg #[.int .i64 m, .int .i64 c, .int .i64 s, .int .i64 p, .int .i64 a, .int .i64 b, .slice A us.length uc]] w (ScQ m c s p a b us w) := by
  have HP := Lib.hid (Q7.alloc w (.int .i64 m) (.int .i64 c) (.int .i64 s) (.int .i64 p) (.int .i64 a) (.int .i64 b) (.slice A us.length uc) 26)
  have HB0 := Lib.hid ((Below.refl w.heap.size w).alloc (Nat.le_refl _) (Obj.cells #[.int .i64 m, .int .i64 c, .int .i64 s, .int .i64 p, .int .i64 a, .int .i64 b, .slice A us.length uc] 26))
  have HC := Lib.hid (check_any m c s p a b A uc us _ (h.below ((Below.refl w.heap.size w).alloc (Nat.le_refl _) (Obj.cells #[.int .i64 m, .int .i64 c, .int .i64 s, .int .i64 p, .int .i64 a, .int .i64 b, .slice A us.length uc] 26))) hn)
  have HS := Lib.hid (scL_bad hk)
  have HK := Lib.hid hk
  clear h
  have hk' : (ckE m c s p a b us != 0) = true := by simpa using hk
  unfold ScQ
  rw [HS.out]
  generalize ckE m c s p a b us = er at *
  clear hk
  go_enter Try.func12, Try.ntmps12
  have x0 := HP.out.c0
  have x1 := HP.out.c1
  have x2 := HP.out.c2
  have x3 := HP.out.c3
  have x4 := HP.out.c4
  have x5 := HP.out.c5
  have x6 := HP.out.c6
  go_wp2_with fail
  refine HC.out.mono ?_
  rintro e w1 ⟨rfl, hb⟩
  clear x0 x1 x2 x3 x4 x5 x6
  have HB1 := Lib.hid (HB0.out.trans (hb.mono HB0.out.size))
  clear hb HP HB0 HC
  go_wp2
  go_ret2
  exact ⟨fun q => absurd q HK.out, none, rfl, row_nil _ _, HB1.out⟩
set_option maxRecDepth 100000 in
set_option maxHeartbeats 4000000 in
theorem schedule_straight (c s a b : Int) (n : Nat) (A : Option Addr) (uc : Nat) (us : List Int) (w : World) (h : PlF w 1 c s n a b A us) (hn : us.length ≤ 250) (hk : ckE 1 c s n a b us = 0) :
    Calls Try.prog 12 #[.agg #[.int .i64 1, .int .i64 c, .int .i64 s, .int .i64 (n : Int), .int .i64 a, .int .i64 b, .slice A us.length uc]] w (ScQ 1 c s n a b us w) := by
  obtain ⟨i0, hi, hz0, hz1, hz2⟩ := info_parts inf_int
  have g := good_of hk
  have gn := g.nums
  have p1 := g.p1
  have p2 := g.p2
  have hn2 : n ≤ 200 := by omega
  have HP := Lib.hid (Q7.alloc w (.int .i64 1) (.int .i64 c) (.int .i64 s) (.int .i64 (n : Int)) (.int .i64 a) (.int .i64 b) (.slice A us.length uc) 26)
  have HB0 := Lib.hid ((Below.refl w.heap.size w).alloc (Nat.le_refl _) (Obj.cells #[.int .i64 1, .int .i64 c, .int .i64 s, .int .i64 (n : Int), .int .i64 a, .int .i64 b, .slice A us.length uc] 26))
  have HPl := Lib.hid (h.below ((Below.refl w.heap.size w).alloc (Nat.le_refl _) (Obj.cells #[.int .i64 1, .int .i64 c, .int .i64 s, .int .i64 (n : Int), .int .i64 a, .int .i64 b, .slice A us.length uc] 26)))
  have HC := Lib.hid (check_any 1 c s n a b A uc us _ HPl.out hn)
  rw [hk] at HC
  have HK := Lib.hid hk
  have HL := Lib.hid (show scL 1 c s n a b us = dfL (stG c s n) n by unfold scL; rw [if_pos hk, if_pos rfl]; rfl)
  have HBd := Lib.hid (fun i (hi : i < n) => show -9223372036854775808 ≤ stG c s n (i + 1) - stG c s n i ∧ stG c s n (i + 1) - stG c s n i ≤ 9223372036854775807 by have := stG_bd gn (k := i) (by omega); have := stG_bd gn (k := i + 1) (by omega); omega)
  have HFi := Lib.hid (fun W => filler_straight c s n a b A us.length uc W)
  have HCl := Lib.hid (fun B P N W hQ hP hne hN => straightC_any 1 c s n a b A us.length uc n B P N W gn rfl hQ hP hne hN)
  clear hk g gn h
  go_enter Try.func12, Try.ntmps12
  have x0 := HP.out.c0
  have x1 := HP.out.c1
  have x2 := HP.out.c2
  have x3 := HP.out.c3
  have x4 := HP.out.c4
  have x5 := HP.out.c5
  have x6 := HP.out.c6
  go_wp2_with fail
  refine HC.out.mono ?_
  rintro e w1 ⟨rfl, hb⟩
  clear x0 x1 x2 x3 x4 x5 x6
  have HP1 := Lib.hid (HP.out.below hb)
  have HB1 := Lib.hid (HB0.out.trans (hb.mono HB0.out.size))
  have HR1 := Lib.hid (HPl.out.below hb)
  clear hb HP HB0 HC HPl
  have x0 := HP1.out.c0
  have x1 := HP1.out.c1
  have x2 := HP1.out.c2
  have x3 := HP1.out.c3
  have x4 := HP1.out.c4
  have x5 := HP1.out.c5
  have x6 := HP1.out.c6
  go_wp2_with (at_make; refine wpList_make_full _ rfl _ _ 24 rfl w1.heap.size 3 i0 (.int .i64 0) 1 und_ints hi hz0 hz1 _ _ _ _ n rfl rfl rfl rfl ?_ ?_ ?_ ?_)
  · rw [hz2]; omega
  · unfold maxLen; omega
  · exact Nat.le_refl _
  intro w2 hown hgr
  clear x0 x1 x2 x3 x4 x5 x6
  have HK0 := Lib.hid (blk_made (w := w1) (w1 := w2) (n := n) (by rw [Nat.mul_one]; exact hown))
  have hb : Below w1.heap.size w1 w2 := (Below.refl _ _).grown hgr (Nat.le_refl _) (by simp)
  have HP2 := Lib.hid (HP1.out.below hb)
  have HB2 := Lib.hid (HB1.out.trans (hb.mono HB1.out.size))
  have HR2 := Lib.hid (HR1.out.below hb)
  clear hown hgr hb HP1 HR1
  have x0 := HP2.out.c0
  have x1 := HP2.out.c1
  have x2 := HP2.out.c2
  have x3 := HP2.out.c3
  have x4 := HP2.out.c4
  have x5 := HP2.out.c5
  have x6 := HP2.out.c6
  go_wp2_with fail
  refine (HFi.out _).mono ?_
  rintro e w3 ⟨B, rfl, h1, h2, h3⟩
  clear x0 x1 x2 x3 x4 x5 x6
  have HQ := Lib.hid h2
  have HK3 := Lib.hid (HK0.out.below h3)
  have HNe := Lib.hid (show B ≠ w1.heap.size by have := HK0.out.lt; omega)
  have HB3 := Lib.hid (HB2.out.trans (h3.mono HB2.out.size))
  have HP3 := Lib.hid (show PaV w3 w1.heap.size n (FilI (stG c s n) 0) by
    have q := HK3.out.pav (f := FilI (stG c s n) 0) (fun t ht => by unfold FilI; simp)
    rwa [List.length_replicate] at q)
  clear h1 h2 h3 HP2 HK0 HK3 HR2 HFi
  go_wp2_with fail
  refine (HCl.out B w1.heap.size w1.heap.size _ HQ.out HP3.out HNe.out (Nat.le_refl _)).mono ?_
  rintro e w4 ⟨rfl, h1, h2⟩
  have HR4 := Lib.hid (fil_row h1 HBd.out)
  have HB4 := Lib.hid (HB3.out.trans (h2.mono HB1.out.size))
  clear h1 h2 HP3 HQ HNe HCl HB2 HB3 HB1
  go_wp2
  go_ret2
  refine ⟨fun _ => ⟨fun q => absurd q (by decide), fun q => absurd q (by decide)⟩, some ⟨w1.heap.size, 0, none⟩, ?_, ?_, HB4.out⟩
  · rw [HL.out, HK.out, dfL_len]; first | done | rfl
  · rw [HL.out]; exact HR4.out
set_option maxRecDepth 100000 in
set_option maxHeartbeats 4000000 in
theorem schedule_declining (c s a b : Int) (n : Nat) (A : Option Addr) (uc : Nat) (us : List Int) (w : World) (h : PlF w 2 c s n a b A us) (hn : us.length ≤ 250) (hk : ckE 2 c s n a b us = 0) :
    Calls Try.prog 12 #[.agg #[.int .i64 2, .int .i64 c, .int .i64 s, .int .i64 (n : Int), .int .i64 a, .int .i64 b, .slice A us.length uc]] w (ScQ 2 c s n a b us w) := by
  obtain ⟨i0, hi, hz0, hz1, hz2⟩ := info_parts inf_int
  have g := good_of hk
  have gn := g.nums
  have p1 := g.p1
  have p2 := g.p2
  have hn2 : n ≤ 200 := by omega
  have HP := Lib.hid (Q7.alloc w (.int .i64 2) (.int .i64 c) (.int .i64 s) (.int .i64 (n : Int)) (.int .i64 a) (.int .i64 b) (.slice A us.length uc) 26)
  have HB0 := Lib.hid ((Below.refl w.heap.size w).alloc (Nat.le_refl _) (Obj.cells #[.int .i64 2, .int .i64 c, .int .i64 s, .int .i64 (n : Int), .int .i64 a, .int .i64 b, .slice A us.length uc] 26))
  have HPl := Lib.hid (h.below ((Below.refl w.heap.size w).alloc (Nat.le_refl _) (Obj.cells #[.int .i64 2, .int .i64 c, .int .i64 s, .int .i64 (n : Int), .int .i64 a, .int .i64 b, .slice A us.length uc] 26)))
  have HC := Lib.hid (check_any 2 c s n a b A uc us _ HPl.out hn)
  rw [hk] at HC
  have HK := Lib.hid hk
  have HL := Lib.hid (show scL 2 c s n a b us = dfL (dcG a b c s n) n by unfold scL; rw [if_pos hk, if_neg (by omega), if_pos rfl]; rfl)
  have HBd := Lib.hid (fun i (hi : i < n) => show -9223372036854775808 ≤ dcG a b c s n (i + 1) - dcG a b c s n i ∧ dcG a b c s n (i + 1) - dcG a b c s n i ≤ 9223372036854775807 by have := dcG_bd gn a b (k := i) (by omega); have := dcG_bd gn a b (k := i + 1) (by omega); have := gn.c2; omega)
  have HFi := Lib.hid (fun W => filler_declining c s n a b A us.length uc W)
  have HCl := Lib.hid (fun B P N W hQ hP hne hN => decliningC_any 2 c s n a b A us.length uc n B P N W gn h.a h.b rfl hQ hP hne hN)
  clear hk g gn h
  go_enter Try.func12, Try.ntmps12
  have x0 := HP.out.c0
  have x1 := HP.out.c1
  have x2 := HP.out.c2
  have x3 := HP.out.c3
  have x4 := HP.out.c4
  have x5 := HP.out.c5
  have x6 := HP.out.c6
  go_wp2_with fail
  refine HC.out.mono ?_
  rintro e w1 ⟨rfl, hb⟩
  clear x0 x1 x2 x3 x4 x5 x6
  have HP1 := Lib.hid (HP.out.below hb)
  have HB1 := Lib.hid (HB0.out.trans (hb.mono HB0.out.size))
  have HR1 := Lib.hid (HPl.out.below hb)
  clear hb HP HB0 HC HPl
  have x0 := HP1.out.c0
  have x1 := HP1.out.c1
  have x2 := HP1.out.c2
  have x3 := HP1.out.c3
  have x4 := HP1.out.c4
  have x5 := HP1.out.c5
  have x6 := HP1.out.c6
  go_wp2_with (at_make; refine wpList_make_full _ rfl _ _ 24 rfl w1.heap.size 3 i0 (.int .i64 0) 1 und_ints hi hz0 hz1 _ _ _ _ n rfl rfl rfl rfl ?_ ?_ ?_ ?_)
  · rw [hz2]; omega
  · unfold maxLen; omega
  · exact Nat.le_refl _
  intro w2 hown hgr
  clear x0 x1 x2 x3 x4 x5 x6
  have HK0 := Lib.hid (blk_made (w := w1) (w1 := w2) (n := n) (by rw [Nat.mul_one]; exact hown))
  have hb : Below w1.heap.size w1 w2 := (Below.refl _ _).grown hgr (Nat.le_refl _) (by simp)
  have HP2 := Lib.hid (HP1.out.below hb)
  have HB2 := Lib.hid (HB1.out.trans (hb.mono HB1.out.size))
  have HR2 := Lib.hid (HR1.out.below hb)
  clear hown hgr hb HP1 HR1
  have x0 := HP2.out.c0
  have x1 := HP2.out.c1
  have x2 := HP2.out.c2
  have x3 := HP2.out.c3
  have x4 := HP2.out.c4
  have x5 := HP2.out.c5
  have x6 := HP2.out.c6
  go_wp2_with fail
  refine (HFi.out _).mono ?_
  rintro e w3 ⟨B, rfl, h1, h2, h3⟩
  clear x0 x1 x2 x3 x4 x5 x6
  have HQ := Lib.hid h2
  have HK3 := Lib.hid (HK0.out.below h3)
  have HNe := Lib.hid (show B ≠ w1.heap.size by have := HK0.out.lt; omega)
  have HB3 := Lib.hid (HB2.out.trans (h3.mono HB2.out.size))
  have HP3 := Lib.hid (show PaV w3 w1.heap.size n (FilI (dcG a b c s n) 0) by
    have q := HK3.out.pav (f := FilI (dcG a b c s n) 0) (fun t ht => by unfold FilI; simp)
    rwa [List.length_replicate] at q)
  clear h1 h2 h3 HP2 HK0 HK3 HR2 HFi
  go_wp2_with fail
  refine (HCl.out B w1.heap.size w1.heap.size _ HQ.out HP3.out HNe.out (Nat.le_refl _)).mono ?_
  rintro e w4 ⟨rfl, h1, h2⟩
  have HR4 := Lib.hid (fil_row h1 HBd.out)
  have HB4 := Lib.hid (HB3.out.trans (h2.mono HB1.out.size))
  clear h1 h2 HP3 HQ HNe HCl HB2 HB3 HB1
  go_wp2
  go_ret2
  refine ⟨fun _ => ⟨fun q => absurd q (by decide), fun q => absurd q (by decide)⟩, some ⟨w1.heap.size, 0, none⟩, ?_, ?_, HB4.out⟩
  · rw [HL.out, HK.out, dfL_len]; first | done | rfl
  · rw [HL.out]; exact HR4.out
set_option maxRecDepth 100000 in
set_option maxHeartbeats 4000000 in
theorem schedule_digits (c s a b : Int) (n : Nat) (A : Option Addr) (uc : Nat) (us : List Int) (w : World) (h : PlF w 3 c s n a b A us) (hn : us.length ≤ 250) (hk : ckE 3 c s n a b us = 0) :
    Calls Try.prog 12 #[.agg #[.int .i64 3, .int .i64 c, .int .i64 s, .int .i64 (n : Int), .int .i64 a, .int .i64 b, .slice A us.length uc]] w (ScQ 3 c s n a b us w) := by
  obtain ⟨i0, hi, hz0, hz1, hz2⟩ := info_parts inf_int
  have g := good_of hk
  have gn := g.nums
  have p1 := g.p1
  have p2 := g.p2
  have hn2 : n ≤ 200 := by omega
  have HP := Lib.hid (Q7.alloc w (.int .i64 3) (.int .i64 c) (.int .i64 s) (.int .i64 (n : Int)) (.int .i64 a) (.int .i64 b) (.slice A us.length uc) 26)
  have HB0 := Lib.hid ((Below.refl w.heap.size w).alloc (Nat.le_refl _) (Obj.cells #[.int .i64 3, .int .i64 c, .int .i64 s, .int .i64 (n : Int), .int .i64 a, .int .i64 b, .slice A us.length uc] 26))
  have HPl := Lib.hid (h.below ((Below.refl w.heap.size w).alloc (Nat.le_refl _) (Obj.cells #[.int .i64 3, .int .i64 c, .int .i64 s, .int .i64 (n : Int), .int .i64 a, .int .i64 b, .slice A us.length uc] 26)))
  have HC := Lib.hid (check_any 3 c s n a b A uc us _ HPl.out hn)
  rw [hk] at HC
  have HK := Lib.hid hk
  have hze : shE (c - s) (fall (n : Int)) = 0 := fall_ok p1 p2 (by have := g.sc; omega) (by have := g.c2; have := g.s0; omega)
  have HL := Lib.hid (show scL 3 c s n a b us = shO (c - s) (fall n) by unfold scL; rw [if_pos hk, if_neg (by omega), if_neg (by omega), if_pos rfl])
  have hzl : (fall (n : Int)).length = n := by rw [fall_len]; omega
  have HFi := Lib.hid (fun W => filler_digits c s n a b n A us.length uc W rfl p1 p2)
  have HCl := Lib.hid (fun B C P N A2 W hQ hC hR hP hN => sharedC_any 3 c s n a b A us.length uc n B C P N A2 n (fall (n : Int)) W gn rfl hzl hze hQ (by rw [hzl]; exact hC) hR hP hN)
  have HLn := Lib.hid (show (shO (c - s) (fall (n : Int))).length = n by rw [shO_len hze, hzl])
  have HBn := Lib.hid (fun z (hz : z ∈ shO (c - s) (fall (n : Int))) => show -9223372036854775808 ≤ z ∧ z ≤ 9223372036854775807 from by
    obtain ⟨k, hk2, rfl⟩ := List.getElem_of_mem hz
    rw [shO_at hze]
    have := (fine_of hze).v (k := k) (by rw [← shO_len hze]; exact hk2)
    omega)
  have HZl := Lib.hid hzl
  clear hk g gn h hze hzl
  go_enter Try.func12, Try.ntmps12
  have x0 := HP.out.c0
  have x1 := HP.out.c1
  have x2 := HP.out.c2
  have x3 := HP.out.c3
  have x4 := HP.out.c4
  have x5 := HP.out.c5
  have x6 := HP.out.c6
  go_wp2_with fail
  refine HC.out.mono ?_
  rintro e w1 ⟨rfl, hb⟩
  clear x0 x1 x2 x3 x4 x5 x6
  have HP1 := Lib.hid (HP.out.below hb)
  have HB1 := Lib.hid (HB0.out.trans (hb.mono HB0.out.size))
  have HR1 := Lib.hid (HPl.out.below hb)
  clear hb HP HB0 HC HPl
  have x0 := HP1.out.c0
  have x1 := HP1.out.c1
  have x2 := HP1.out.c2
  have x3 := HP1.out.c3
  have x4 := HP1.out.c4
  have x5 := HP1.out.c5
  have x6 := HP1.out.c6
  go_wp2_with (at_make; refine wpList_make_full _ rfl _ _ 24 rfl w1.heap.size 3 i0 (.int .i64 0) 1 und_ints hi hz0 hz1 _ _ _ _ n rfl rfl rfl rfl ?_ ?_ ?_ ?_)
  · rw [hz2]; omega
  · unfold maxLen; omega
  · exact Nat.le_refl _
  intro w2 hown hgr
  clear x0 x1 x2 x3 x4 x5 x6
  have HK0 := Lib.hid (blk_made (w := w1) (w1 := w2) (n := n) (by rw [Nat.mul_one]; exact hown))
  have hb : Below w1.heap.size w1 w2 := (Below.refl _ _).grown hgr (Nat.le_refl _) (by simp)
  have HP2 := Lib.hid (HP1.out.below hb)
  have HB2 := Lib.hid (HB1.out.trans (hb.mono HB1.out.size))
  have HR2 := Lib.hid (HR1.out.below hb)
  clear hown hgr hb HP1 HR1
  have x0 := HP2.out.c0
  have x1 := HP2.out.c1
  have x2 := HP2.out.c2
  have x3 := HP2.out.c3
  have x4 := HP2.out.c4
  have x5 := HP2.out.c5
  have x6 := HP2.out.c6
  go_wp2_with fail
  refine (HFi.out _).mono ?_
  rintro e w3 ⟨B, C, A2, rfl, h1, h1c, h2, h2c, hr3, h3⟩
  clear x0 x1 x2 x3 x4 x5 x6
  have HQ := Lib.hid (And.intro h2 h2c)
  have HK3 := Lib.hid (HK0.out.below h3)
  have HR3 := Lib.hid (hr3)
  have HB3 := Lib.hid (HB2.out.trans (h3.mono HB2.out.size))
  clear h1 h1c h2 h2c h3 HP2 HK0 HR2 HFi hr3
  go_wp2_with fail
  refine (HCl.out B C w1.heap.size w1.heap.size A2 _ HQ.out.1 HQ.out.2 HR3.out HK3.out (Nat.le_refl _)).mono ?_
  rintro e w4 ⟨rfl, h1, ho, h2⟩
  have HR4 := Lib.hid (h1.row HBn.out)
  have HO4 := Lib.hid ho
  have HB4 := Lib.hid (HB3.out.trans (h2.mono HB1.out.size))
  clear h1 h2 ho HQ HCl HB2 HB3 HB1 HK3 HR3
  go_wp2
  go_ret2
  refine ⟨fun _ => ⟨fun _ => by rw [HZl.out]; exact HO4.out, fun q => absurd q (by decide)⟩, some ⟨w1.heap.size, 0, none⟩, ?_, ?_, HB4.out⟩
  · rw [HL.out, HK.out, HLn.out]; first | done | rfl
  · rw [HL.out]; exact HR4.out
set_option maxRecDepth 100000 in
set_option maxHeartbeats 4000000 in
theorem schedule_usage (c s a b : Int) (n : Nat) (A : Option Addr) (uc : Nat) (us : List Int) (w : World) (h : PlF w 4 c s n a b A us) (hn : us.length ≤ 250) (hk : ckE 4 c s n a b us = 0) :
    Calls Try.prog 12 #[.agg #[.int .i64 4, .int .i64 c, .int .i64 s, .int .i64 (n : Int), .int .i64 a, .int .i64 b, .slice A us.length uc]] w (ScQ 4 c s n a b us w) := by
  obtain ⟨i0, hi, hz0, hz1, hz2⟩ := info_parts inf_int
  have g := good_of hk
  have gn := g.nums
  have p1 := g.p1
  have p2 := g.p2
  have hn2 : n ≤ 200 := by omega
  have HP := Lib.hid (Q7.alloc w (.int .i64 4) (.int .i64 c) (.int .i64 s) (.int .i64 (n : Int)) (.int .i64 a) (.int .i64 b) (.slice A us.length uc) 26)
  have HB0 := Lib.hid ((Below.refl w.heap.size w).alloc (Nat.le_refl _) (Obj.cells #[.int .i64 4, .int .i64 c, .int .i64 s, .int .i64 (n : Int), .int .i64 a, .int .i64 b, .slice A us.length uc] 26))
  have HPl := Lib.hid (h.below ((Below.refl w.heap.size w).alloc (Nat.le_refl _) (Obj.cells #[.int .i64 4, .int .i64 c, .int .i64 s, .int .i64 (n : Int), .int .i64 a, .int .i64 b, .slice A us.length uc] 26)))
  have HC := Lib.hid (check_any 4 c s n a b A uc us _ HPl.out hn)
  rw [hk] at HC
  have HK := Lib.hid hk
  have hu := g.un rfl
  have hzl : us.length = n := by have := (unB_parts hu).2.2; omega
  have hze : shE (c - s) us = 0 := units_ok p1 p2 (by have := g.sc; omega) (by have := g.c2; have := g.s0; omega) hu
  have HL := Lib.hid (show scL 4 c s n a b us = shO (c - s) us by unfold scL; rw [if_pos hk, if_neg (by omega), if_neg (by omega), if_neg (by omega)])
  have HFi := Lib.hid (fun W => filler_usage c s n a b A us.length uc W)
  have HCl := Lib.hid (fun B C P N W hQ hC hR hP hN => sharedC_any 4 c s n a b A us.length uc n B C P N A uc us W gn rfl hzl hze hQ hC hR hP hN)
  have HLn := Lib.hid (show (shO (c - s) us).length = n by rw [shO_len hze, hzl])
  have HBn := Lib.hid (fun z (hz : z ∈ shO (c - s) us) => show -9223372036854775808 ≤ z ∧ z ≤ 9223372036854775807 from by
    obtain ⟨k, hk2, rfl⟩ := List.getElem_of_mem hz
    rw [shO_at hze]
    have := (fine_of hze).v (k := k) (by rw [← shO_len hze]; exact hk2)
    omega)
  have HZl := Lib.hid hzl
  clear hk g gn h hze hzl hu
  go_enter Try.func12, Try.ntmps12
  have x0 := HP.out.c0
  have x1 := HP.out.c1
  have x2 := HP.out.c2
  have x3 := HP.out.c3
  have x4 := HP.out.c4
  have x5 := HP.out.c5
  have x6 := HP.out.c6
  go_wp2_with fail
  refine HC.out.mono ?_
  rintro e w1 ⟨rfl, hb⟩
  clear x0 x1 x2 x3 x4 x5 x6
  have HP1 := Lib.hid (HP.out.below hb)
  have HB1 := Lib.hid (HB0.out.trans (hb.mono HB0.out.size))
  have HR1 := Lib.hid (HPl.out.below hb)
  clear hb HP HB0 HC HPl
  have x0 := HP1.out.c0
  have x1 := HP1.out.c1
  have x2 := HP1.out.c2
  have x3 := HP1.out.c3
  have x4 := HP1.out.c4
  have x5 := HP1.out.c5
  have x6 := HP1.out.c6
  go_wp2_with (at_make; refine wpList_make_full _ rfl _ _ 24 rfl w1.heap.size 3 i0 (.int .i64 0) 1 und_ints hi hz0 hz1 _ _ _ _ n rfl rfl rfl rfl ?_ ?_ ?_ ?_)
  · rw [hz2]; omega
  · unfold maxLen; omega
  · exact Nat.le_refl _
  intro w2 hown hgr
  clear x0 x1 x2 x3 x4 x5 x6
  have HK0 := Lib.hid (blk_made (w := w1) (w1 := w2) (n := n) (by rw [Nat.mul_one]; exact hown))
  have hb : Below w1.heap.size w1 w2 := (Below.refl _ _).grown hgr (Nat.le_refl _) (by simp)
  have HP2 := Lib.hid (HP1.out.below hb)
  have HB2 := Lib.hid (HB1.out.trans (hb.mono HB1.out.size))
  have HR2 := Lib.hid (HR1.out.below hb)
  clear hown hgr hb HP1 HR1
  have x0 := HP2.out.c0
  have x1 := HP2.out.c1
  have x2 := HP2.out.c2
  have x3 := HP2.out.c3
  have x4 := HP2.out.c4
  have x5 := HP2.out.c5
  have x6 := HP2.out.c6
  go_wp2_with fail
  refine (HFi.out _).mono ?_
  rintro e w3 ⟨B, C, rfl, h1, h1c, h2, h2c, h3⟩
  clear x0 x1 x2 x3 x4 x5 x6
  have HQ := Lib.hid (And.intro h2 h2c)
  have HK3 := Lib.hid (HK0.out.below h3)
  have HR3 := Lib.hid ((HR2.out.below h3).u)
  have HB3 := Lib.hid (HB2.out.trans (h3.mono HB2.out.size))
  clear h1 h1c h2 h2c h3 HP2 HK0 HR2 HFi
  go_wp2_with fail
  refine (HCl.out B C w1.heap.size w1.heap.size _ HQ.out.1 HQ.out.2 HR3.out HK3.out (Nat.le_refl _)).mono ?_
  rintro e w4 ⟨rfl, h1, ho, h2⟩
  have HR4 := Lib.hid (h1.row HBn.out)
  have HO4 := Lib.hid ho
  have HB4 := Lib.hid (HB3.out.trans (h2.mono HB1.out.size))
  clear h1 h2 ho HQ HCl HB2 HB3 HB1 HK3 HR3
  go_wp2
  go_ret2
  refine ⟨fun _ => ⟨fun q => absurd q (by decide), fun _ => by rw [HZl.out]; exact HO4.out⟩, some ⟨w1.heap.size, 0, none⟩, ?_, ?_, HB4.out⟩
  · rw [HL.out, HK.out, HLn.out]; first | done | rfl
  · rw [HL.out]; exact HR4.out
theorem schedule_any (m c s p a b : Int) (A : Option Addr) (uc : Nat) (us : List Int) (w : World) (h : PlF w m c s p a b A us) (hn : us.length ≤ 250) :
    Calls Try.prog 12 #[.agg #[.int .i64 m, .int .i64 c, .int .i64 s, .int .i64 p, .int .i64 a, .int .i64 b, .slice A us.length uc]] w (ScQ m c s p a b us w) := by
  by_cases hk : ckE m c s p a b us = 0
  · have g := good_of hk
    have g1 := g.m1
    have g2 := g.m4
    have g3 := g.p1
    obtain ⟨n, rfl⟩ : ∃ n : Nat, p = n := ⟨p.toNat, by omega⟩
    rcases (show (m = 1 ∨ m = 2) ∨ (m = 3 ∨ m = 4) by omega) with (rfl | rfl) | (rfl | rfl)
    · exact schedule_straight c s a b n A uc us w h hn hk
    · exact schedule_declining c s a b n A uc us w h hn hk
    · exact schedule_digits c s a b n A uc us w h hn hk
    · exact schedule_usage c s a b n A uc us w h hn hk
  · exact schedule_bad m c s p a b A uc us w h hn hk
end Go.Proofs.Ytmehihfdfpnfjaa
