/- What magnitude, sign, productSign, product, compare, divide, roundsUp and signed of package muldiv return. -/
import Derived.Test.YtkpdbhpmnegahaaDoorDiv64
namespace Go.Proofs.YtkpdbhpmnegahaaDoor
open Go.RowKit
set_option linter.unusedVariables false

theorem ret_one {k : IntKind} {a b : Int} (h : a = b) : Ending.returned (.int k a) = .returned (.int k b) := by rw [h]
/-- the absolute value. -/
def absI (a : Int) : Int := if a < 0 then -a else a
theorem absI_neg {a : Int} (h : a < 0) : absI a = -a := by unfold absI; rw [if_pos h]
theorem absI_pos {a : Int} (h : ¬ a < 0) : absI a = a := by unfold absI; rw [if_neg h]
theorem absI_bd {a : Int} (a1 : -9223372036854775808 ≤ a) (a2 : a ≤ 9223372036854775807) : 0 ≤ absI a ∧ absI a ≤ 9223372036854775808 := by
  unfold absI; split <;> omega
/-- -1, 0 or 1, as a compares with b. -/
def cmpI (a b : Int) : Int := if a < b then -1 else if b < a then 1 else 0
theorem cmpI_bd (a b : Int) : -1 ≤ cmpI a b ∧ cmpI a b ≤ 1 := by unfold cmpI; split <;> (try split) <;> omega

set_option maxHeartbeats 400000 in
theorem mdMagnitude_any (a : Int) (w : World) (a1 : -9223372036854775808 ≤ a) (a2 : a ≤ 9223372036854775807) :
    Calls Tryd.prog 82 #[.int .i64 a] w fun e w' => e = .returned (.int .u64 (absI a)) ∧ w = w' := by
  by_cases h : a < 0
  · have e : IntKind.u64.wrap (-IntKind.u64.wrap a) = -a := by simp only [IntKind.wrap_u64]; omega
    rw [absI_neg h]
    go_enter Tryd.func82, Tryd.ntmps82
    go_wp2
    go_ret
    exact ⟨rfl, rfl⟩
  · rw [absI_pos h]
    go_enter Tryd.func82, Tryd.ntmps82
    go_wp2
    go_ret
    exact ⟨rfl, rfl⟩

set_option maxHeartbeats 400000 in
theorem compareI_any (a b : Int) (w : World) :
    Calls Tryd.prog 63 #[.int .i64 a, .int .i64 b] w fun e w' => e = .returned (.int .i64 (cmpI a b)) ∧ w = w' := by
  unfold cmpI
  by_cases h : a < b
  · rw [if_pos h]
    go_enter Tryd.func63, Tryd.ntmps63
    go_wp2
    go_ret
    exact ⟨rfl, rfl⟩
  · rw [if_neg h]
    by_cases h2 : b < a
    · rw [if_pos h2]
      go_enter Tryd.func63, Tryd.ntmps63
      go_wp2
      go_ret
      exact ⟨rfl, rfl⟩
    · rw [if_neg h2]
      go_enter Tryd.func63, Tryd.ntmps63
      go_wp2
      go_ret
      exact ⟨rfl, rfl⟩

set_option maxHeartbeats 400000 in
theorem compareU_any (a b : Int) (w : World) :
    Calls Tryd.prog 80 #[.int .u64 a, .int .u64 b] w fun e w' => e = .returned (.int .i64 (cmpI a b)) ∧ w = w' := by
  unfold cmpI
  by_cases h : a < b
  · rw [if_pos h]
    go_enter Tryd.func80, Tryd.ntmps80
    go_wp2
    go_ret
    exact ⟨rfl, rfl⟩
  · rw [if_neg h]
    by_cases h2 : b < a
    · rw [if_pos h2]
      go_enter Tryd.func80, Tryd.ntmps80
      go_wp2
      go_ret
      exact ⟨rfl, rfl⟩
    · rw [if_neg h2]
      go_enter Tryd.func80, Tryd.ntmps80
      go_wp2
      go_ret
      exact ⟨rfl, rfl⟩

set_option maxHeartbeats 400000 in
theorem sign_any (a : Int) (w : World) :
    Calls Tryd.prog 78 #[.int .i64 a] w fun e w' => e = .returned (.int .i64 (cmpI a 0)) ∧ w = w' := by
  have H := Lib.hid (compareI_any a 0 w)
  go_enter Tryd.func78, Tryd.ntmps78
  go_wp2_with fail
  refine H.out.mono ?_
  rintro e w' ⟨rfl, rfl⟩
  go_wp2
  go_ret
  exact ⟨rfl, rfl⟩
theorem cmp_mul_bd (a b : Int) : -1 ≤ cmpI a 0 * cmpI b 0 ∧ cmpI a 0 * cmpI b 0 ≤ 1 := by
  unfold cmpI; repeat' split
  all_goals omega
set_option maxHeartbeats 400000 in
theorem productSign_any (a b : Int) (w : World) :
    Calls Tryd.prog 62 #[.int .i64 a, .int .i64 b] w fun e w' => e = .returned (.int .i64 (cmpI a 0 * cmpI b 0)) ∧ w = w' := by
  have H := Lib.hid (sign_any a w)
  have H2 := Lib.hid (sign_any b w)
  obtain ⟨p1, p2⟩ := cmp_mul_bd a b
  generalize cmpI a 0 = s at *
  generalize cmpI b 0 = t at *
  go_enter Tryd.func62, Tryd.ntmps62
  go_wp2_with fail
  refine H.out.mono ?_
  rintro e w' ⟨rfl, rfl⟩
  go_wp2_with fail
  refine H2.out.mono ?_
  rintro e w' ⟨rfl, rfl⟩
  go_wp2
  go_ret
  exact ⟨rfl, rfl⟩

set_option maxHeartbeats 400000 in
theorem product_any (a b : Int) (w : World) (a1 : -9223372036854775808 ≤ a) (a2 : a ≤ 9223372036854775807) (b1 : -9223372036854775808 ≤ b) (b2 : b ≤ 9223372036854775807) :
    Calls Tryd.prog 65 #[.int .i64 a, .int .i64 b] w fun e w' => e = .returned (.agg #[.int .u64 (absI a * absI b / 18446744073709551616), .int .u64 (absI a * absI b % 18446744073709551616)]) ∧ Below w.heap.size w w' := by
  obtain ⟨x0, x1⟩ := absI_bd a1 a2
  obtain ⟨y0, y1⟩ := absI_bd b1 b2
  have H1 := Lib.hid (fun W => mdMagnitude_any a W a1 a2)
  have H2 := Lib.hid (fun W => mdMagnitude_any b W b1 b2)
  have H3 := Lib.hid (fun W => mul64_any (absI a) (absI b) W x0 (by omega) y0 (by omega))
  generalize absI a * absI b / 18446744073709551616 = h at *
  generalize absI a * absI b % 18446744073709551616 = l at *
  generalize absI a = x at *
  generalize absI b = y at *
  go_enter Tryd.func65, Tryd.ntmps65
  go_wp2_with fail
  refine (H1.out _).mono ?_
  rintro e w' ⟨rfl, rfl⟩
  go_wp2_with fail
  refine (H2.out _).mono ?_
  rintro e w' ⟨rfl, rfl⟩
  go_wp2_with fail
  refine (H3.out _).mono ?_
  rintro e w' ⟨rfl, rfl⟩
  go_wp2
  exact bodyPost_ret (v := .agg #[.int .u64 h, .int .u64 l]) (by simp [results, Tryd.results65, go_sem]) rfl ⟨rfl, by repeat (first | exact Below.refl _ _ | exact (Below.refl _ _).alloc (Nat.le_refl _) _)⟩

theorem bcell {W w1 : World} (hb : Below W.heap.size W w1) : (∀ b o, b < W.heap.size → w1.cell? ⟨b, o, none⟩ = W.cell? ⟨b, o, none⟩) ∧ (∀ b o, b < W.heap.size → w1.frozen? ⟨b, o, none⟩ = W.frozen? ⟨b, o, none⟩) :=
  ⟨fun b o h => hb.cell (p := ⟨b, o, none⟩) h, fun b o h => hb.frozen (p := ⟨b, o, none⟩) h⟩
/-- block g holds just the two values a and b, and may be written. -/
def Two (w : World) (g : Nat) (t : TypeId) (a b : Value) : Prop := w.heap[g]? = some (.cells #[a, b] t (0, 0))
theorem Two.c0 {w : World} {g : Nat} {t : TypeId} {a b : Value} (h : Two w g t a b) : w.cell? ⟨g, 0, none⟩ = some a := by
  rw [cell_of_row w g 0 _ t (0, 0) h]; rfl
theorem Two.c1 {w : World} {g : Nat} {t : TypeId} {a b : Value} (h : Two w g t a b) : w.cell? ⟨g, 1, none⟩ = some b := by
  rw [cell_of_row w g 1 _ t (0, 0) h]; rfl
theorem Two.set0 {w : World} {g : Nat} {t : TypeId} {a b : Value} (h : Two w g t a b) (u : Value) : Two (w.setCell ⟨g, 0, none⟩ u) g t u b := by
  unfold Two at h ⊢; simp [World.setCell, Array.getElem?_modify, h]
theorem Two.set1 {w : World} {g : Nat} {t : TypeId} {a b : Value} (h : Two w g t a b) (u : Value) : Two (w.setCell ⟨g, 1, none⟩ u) g t a u := by
  unfold Two at h ⊢; simp [World.setCell, Array.getElem?_modify, h]
theorem Two.below {B : Nat} {w w' : World} {g : Nat} {t : TypeId} {a b : Value} (h : Two w g t a b) (hb : Below B w w') (hg : g < B) : Two w' g t a b := (hb.block g hg).trans h
theorem Two.new (w : World) (t : TypeId) (a b : Value) : Two (w.alloc (.cells #[a, b] t)) w.heap.size t a b := heap_alloc_new w _
theorem Two.new2 (w : World) (o : Obj) (t : TypeId) (a b : Value) : Two ((w.alloc o).alloc (.cells #[a, b] t)) (w.heap.size + 1) t a b := by
  have h := Two.new (w.alloc o) t a b
  have e : (w.alloc o).heap.size = w.heap.size + 1 := by simp
  rw [e] at h; exact h
/-- the quotient's two words and the remainder of the long division. -/
def DivRes (h l d : Int) (w : World) (e : Ending) (w' : World) : Prop := e = .returned (.tuple #[.agg #[.int .u64 (h / d), .int .u64 ((h % d * 18446744073709551616 + l) / d)], .int .u64 ((h % d * 18446744073709551616 + l) % d)]) ∧ Below w.heap.size w w'
theorem divRes_of {h l d q1 q0 r : Int} {w w' : World} (e1 : q1 = h / d) (e2 : q0 = (h % d * 18446744073709551616 + l) / d) (e3 : r = (h % d * 18446744073709551616 + l) % d) (hb : Below w.heap.size w w') :
    DivRes h l d w (.returned (.tuple #[.agg #[.int .u64 q1, .int .u64 q0], .int .u64 r])) w' := by
  subst e1 e2 e3; exact ⟨rfl, hb⟩

end Go.Proofs.YtkpdbhpmnegahaaDoor
