/- What month, Year and Exists of package accountingref05 return. -/
import Derived.Test.YtaibjmdfkahjjaaDoorFsA
namespace Go.Proofs.YtaibjmdfkahjjaaDoor
open Go.RowKit Go.Sort
set_option linter.unusedVariables false

def rmO (f y k : Int) : Prop := 1900 ≤ y ∧ (y - 1900) * 12 + f - 1 + k < 3600
instance (f y k : Int) : Decidable (rmO f y k) := by unfold rmO; infer_instance
def rmF (f y k : Int) : Int := if rmO f y k then fdM f y k else 0
def rmL (f y k : Int) : Int := if rmO f y k then fdM f y (k + 1) - 1 else 0
theorem rm_of {f y k : Int} (hf : calO f) (y1 : 1900 ≤ y) (k1 : 0 ≤ k) (k2 : k ≤ 11) :
    ofV (myV f y k) (mmV f k) 1 = rmF f y k ∧ ofV (myV f y k) (mmV f k) (lenV (myV f y k) (mmV f k)) = rmL f y k ∧ (ofE (myV f y k) (mmV f k) 1 = 0 ↔ rmO f y k) ∧ ofE (myV f y k) (mmV f k) (lenV (myV f y k) (mmV f k)) = ofE (myV f y k) (mmV f k) 1 := by
  have b := mm_b hf k1 (by omega : k ≤ 12)
  have hv : Valid (myV f y k) (mmV f k) 1 ↔ rmO f y k := by
    rw [valid_first]
    unfold rmO
    unfold calO at hf
    constructor
    · rintro ⟨h1, h2, h3, h4⟩
      unfold myV at *
      split at h1 <;> split at h2 <;> omega
    · rintro ⟨h1, h2⟩
      refine ⟨?_, ?_, b.1, b.2⟩ <;> (unfold myV; split <;> omega)
  unfold rmF rmL
  by_cases h : rmO f y k
  · have v := hv.2 h
    rw [if_pos h, if_pos h, ofV_of v, ofV_of v.last, ofE_of v, ofE_of v.last, fdM_of hf y1 k1 (by omega), fdM_last hf y1 k1 (by omega)]
    simp [h]
  · have v : ¬ Valid (myV f y k) (mmV f k) 1 := fun x => h (hv.1 x)
    have v' : ¬ Valid (myV f y k) (mmV f k) (lenV (myV f y k) (mmV f k)) := by
      intro x
      exact v (valid_first.2 ⟨x.1, x.2.1, b.1, b.2⟩)
    rw [if_neg h, if_neg h]
    unfold ofV ofE
    rw [if_neg v, if_neg v', if_neg v, if_neg v']
    simp [h]

set_option maxHeartbeats 400000 in
theorem rMonth_any (f y k : Int) (w : World) (hf : calO f) (y1 : -9223372036854775808 ≤ y) (y2 : y ≤ 9223372036854775807) (k1 : 0 ≤ k) (k2 : k ≤ 11) :
    Calls Tryd.prog 37 #[.agg #[.int .i64 f], .int .i64 y, .int .i64 k] w fun e w' => e = .returned (.tuple #[.int .i64 (rmF f y k), .int .i64 (rmL f y k), .bool (decide (rmO f y k))]) ∧ Below w.heap.size w w' := by
  by_cases h1 : y < 1900
  · have hn : ¬ rmO f y k := by unfold rmO; omega
    unfold rmF rmL; rw [if_neg hn, if_neg hn, decide_eq_false hn]
    clear hn
    go_enter Tryd.func37, Tryd.ntmps37
    go_wp2
    go_ret3
    exact ⟨rfl, (Below.refl _ _).alloc (Nat.le_refl _) _⟩
  by_cases h2 : 2199 < y
  · have hn : ¬ rmO f y k := by unfold rmO; unfold calO at hf; omega
    unfold rmF rmL; rw [if_neg hn, if_neg hn, decide_eq_false hn]
    clear hn
    go_enter Tryd.func37, Tryd.ntmps37
    go_wp2
    go_ret3
    exact ⟨rfl, (Below.refl _ _).alloc (Nat.le_refl _) _⟩
  obtain ⟨r1, r2, r3, r4⟩ := rm_of (f := f) (y := y) (k := k) hf (by omega) k1 k2
  have b := mm_b hf k1 (by omega : k ≤ 12)
  have bl := lenV_b (y := myV f y k) b.1 b.2
  have HL := Lib.hid (fun w => rLength_any (myV f y k) (mmV f k) w (by unfold myV; split <;> omega) (by unfold myV; split <;> omega) (by omega) (by omega))
  have H1 := Lib.hid (fun w => rOf_any (myV f y k) (mmV f k) 1 w (by unfold myV; split <;> omega) (by unfold myV; split <;> omega) (by omega) (by omega) (by omega) (by omega))
  have H2 := Lib.hid (fun w => rOf_any (myV f y k) (mmV f k) (lenV (myV f y k) (mmV f k)) w (by unfold myV; split <;> omega) (by unfold myV; split <;> omega) (by omega) (by omega) (by omega) (by omega))
  rw [r1] at H1
  rw [r2, r4] at H2
  have e3 : decide (rmO f y k) = (ofE (myV f y k) (mmV f k) 1 == 0) := by
    by_cases h : rmO f y k
    · rw [decide_eq_true h, r3.2 h]; rfl
    · have : ofE (myV f y k) (mmV f k) 1 ≠ 0 := fun x => h (r3.1 x)
      rw [decide_eq_false h]; simp [this]
  rw [e3]
  clear r1 r2 r3 r4 e3
  generalize ofE (myV f y k) (mmV f k) 1 = E at *
  generalize rmF f y k = RF at *
  generalize rmL f y k = RL at *
  generalize lenV (myV f y k) (mmV f k) = L at *
  obtain ⟨f1, f2⟩ := hf
  clear b bl
  by_cases hE : E = 0
  · subst hE
    by_cases hm : f - 1 + k < 12
    · have e1 : myV f y k = y := if_pos hm
      have e2 : mmV f k = f - 1 + k + 1 := by unfold mmV; rw [if_pos hm]; omega
      rw [e1, e2] at HL H1 H2
      clear e1 e2
      go_enter Tryd.func37, Tryd.ntmps37
      go_wp2_with fail
      refine (H1.out _).mono ?_
      rintro e w1 ⟨rfl, hb⟩
      have HB1 := Lib.hid (Below.trans ((Below.refl _ _).alloc (Nat.le_refl _) _) (hb.mono (by simp)))
      clear hb
      go_wp2_with fail
      refine (HL.out _).mono ?_
      rintro e w2 ⟨rfl, hb⟩
      have HB2 := Lib.hid (HB1.out.trans (hb.mono HB1.out.size))
      clear hb
      go_wp2_with fail
      refine (H2.out _).mono ?_
      rintro e w3 ⟨rfl, hb⟩
      have HB3 := Lib.hid (HB2.out.trans (hb.mono HB2.out.size))
      clear hb
      go_wp2
      go_ret3
      exact ⟨rfl, HB3.out⟩
    · have e1 : myV f y k = y + 1 := if_neg hm
      have e2 : mmV f k = f - 1 + k - 12 + 1 := by unfold mmV; rw [if_neg hm]; omega
      rw [e1, e2] at HL H1 H2
      clear e1 e2
      go_enter Tryd.func37, Tryd.ntmps37
      go_wp2_with fail
      refine (H1.out _).mono ?_
      rintro e w1 ⟨rfl, hb⟩
      have HB1 := Lib.hid (Below.trans ((Below.refl _ _).alloc (Nat.le_refl _) _) (hb.mono (by simp)))
      clear hb
      go_wp2_with fail
      refine (HL.out _).mono ?_
      rintro e w2 ⟨rfl, hb⟩
      have HB2 := Lib.hid (HB1.out.trans (hb.mono HB1.out.size))
      clear hb
      go_wp2_with fail
      refine (H2.out _).mono ?_
      rintro e w3 ⟨rfl, hb⟩
      have HB3 := Lib.hid (HB2.out.trans (hb.mono HB2.out.size))
      clear hb
      go_wp2
      go_ret3
      exact ⟨rfl, HB3.out⟩
  · have hE2 : (E == 0) = false := by simp [hE]
    rw [hE2]
    by_cases hm : f - 1 + k < 12
    · have e1 : myV f y k = y := if_pos hm
      have e2 : mmV f k = f - 1 + k + 1 := by unfold mmV; rw [if_pos hm]; omega
      rw [e1, e2] at HL H1 H2
      clear e1 e2
      go_enter Tryd.func37, Tryd.ntmps37
      go_wp2_with fail
      refine (H1.out _).mono ?_
      rintro e w1 ⟨rfl, hb⟩
      have HB1 := Lib.hid (Below.trans ((Below.refl _ _).alloc (Nat.le_refl _) _) (hb.mono (by simp)))
      clear hb
      go_wp2_with fail
      refine (HL.out _).mono ?_
      rintro e w2 ⟨rfl, hb⟩
      have HB2 := Lib.hid (HB1.out.trans (hb.mono HB1.out.size))
      clear hb
      go_wp2_with fail
      refine (H2.out _).mono ?_
      rintro e w3 ⟨rfl, hb⟩
      have HB3 := Lib.hid (HB2.out.trans (hb.mono HB2.out.size))
      clear hb
      go_wp2
      go_ret3
      exact ⟨rfl, HB3.out⟩
    · have e1 : myV f y k = y + 1 := if_neg hm
      have e2 : mmV f k = f - 1 + k - 12 + 1 := by unfold mmV; rw [if_neg hm]; omega
      rw [e1, e2] at HL H1 H2
      clear e1 e2
      go_enter Tryd.func37, Tryd.ntmps37
      go_wp2_with fail
      refine (H1.out _).mono ?_
      rintro e w1 ⟨rfl, hb⟩
      have HB1 := Lib.hid (Below.trans ((Below.refl _ _).alloc (Nat.le_refl _) _) (hb.mono (by simp)))
      clear hb
      go_wp2_with fail
      refine (HL.out _).mono ?_
      rintro e w2 ⟨rfl, hb⟩
      have HB2 := Lib.hid (HB1.out.trans (hb.mono HB1.out.size))
      clear hb
      go_wp2_with fail
      refine (H2.out _).mono ?_
      rintro e w3 ⟨rfl, hb⟩
      have HB3 := Lib.hid (HB2.out.trans (hb.mono HB2.out.size))
      clear hb
      go_wp2
      go_ret3
      exact ⟨rfl, HB3.out⟩

theorem rm_yr {f y : Int} (hf : calO f) : rmO f y 11 ↔ yrO f y := by
  unfold rmO yrO calO at *; constructor <;> intro h <;> omega
theorem rm_yr0 {f y : Int} (hf : calO f) (h : yrO f y) : rmO f y 0 := by
  unfold rmO yrO calO at *; omega
set_option maxHeartbeats 400000 in
theorem rYear_any (f y : Int) (w : World) (hf : calO f) (y1 : -9223372036854775808 ≤ y) (y2 : y ≤ 9223372036854775807) :
    Calls Tryd.prog 40 #[.agg #[.int .i64 f], .int .i64 y] w fun e w' => e = .returned (.bool (decide (yrO f y))) ∧ Below w.heap.size w w' := by
  have H1 := Lib.hid (fun w => rMonth_any f y 0 w hf y1 y2 (by omega) (by omega))
  have H2 := Lib.hid (fun w => rMonth_any f y 11 w hf y1 y2 (by omega) (by omega))
  have e1 : decide (rmO f y 11) = decide (yrO f y) := decide_eq_decide.2 (rm_yr hf)
  have e2 : decide (yrO f y) = true → decide (rmO f y 0) = true := fun h => decide_eq_true (rm_yr0 hf (of_decide_eq_true h))
  rw [e1] at H2
  clear e1
  generalize decide (rmO f y 0) = b0 at *
  generalize decide (yrO f y) = b1 at *
  generalize rmF f y 0 = v1 at *
  generalize rmL f y 0 = v2 at *
  generalize rmF f y 11 = v3 at *
  generalize rmL f y 11 = v4 at *
  go_enter Tryd.func40, Tryd.ntmps40
  go_wp2_with fail
  refine (H1.out _).mono ?_
  rintro e w1 ⟨rfl, hb⟩
  have HB1 := Lib.hid (Below.trans ((Below.refl _ _).alloc (Nat.le_refl _) _) (hb.mono (by simp)))
  have c0 := ((Cell1.alloc w (.int .i64 f) 23).below hb (by simp)).c0
  clear hb
  go_wp2_with fail
  refine (H2.out _).mono ?_
  rintro e w2 ⟨rfl, hb⟩
  have HB2 := Lib.hid (HB1.out.trans (hb.mono HB1.out.size))
  clear hb
  cases b0
  · cases b1
    · go_wp2
      go_ret
      exact ⟨rfl, HB2.out⟩
    · exact absurd (e2 rfl) (by decide)
  · go_wp2
    go_ret
    exact ⟨rfl, HB2.out⟩
set_option maxHeartbeats 400000 in
theorem rExists_any (f y n : Int) (w : World) (hf : calO f) (y1 : -9223372036854775808 ≤ y) (y2 : y ≤ 9223372036854775807) :
    Calls Tryd.prog 36 #[.agg #[.int .i64 f], .agg #[.int .i64 y, .int .i64 n]] w fun e w' => e = .returned (.bool (decide (perO f y n))) ∧ Below w.heap.size w w' := by
  by_cases h1 : n < 1
  · rw [decide_eq_false (by unfold perO; omega)]
    go_enter Tryd.func36, Tryd.ntmps36
    go_wp2
    go_ret
    exact ⟨rfl, ((Below.refl _ _).alloc (Nat.le_refl _) _).alloc (by simp) _⟩
  by_cases h2 : 13 < n
  · rw [decide_eq_false (by unfold perO; omega)]
    go_enter Tryd.func36, Tryd.ntmps36
    go_wp2
    go_ret
    exact ⟨rfl, ((Below.refl _ _).alloc (Nat.le_refl _) _).alloc (by simp) _⟩
  have e : decide (perO f y n) = decide (yrO f y) := by apply decide_eq_decide.2; unfold perO; constructor <;> intro h <;> first | exact h.2.2 | exact ⟨by omega, by omega, h⟩
  rw [e]
  have H := Lib.hid (fun w => rYear_any f y w hf y1 y2)
  generalize decide (yrO f y) = b at *
  clear e
  go_enter Tryd.func36, Tryd.ntmps36
  go_wp2_with fail
  refine (H.out _).mono ?_
  rintro e w' ⟨rfl, hb⟩
  have HB := Lib.hid (Below.trans (((Below.refl w.heap.size w).alloc (Nat.le_refl _) _).alloc (by simp) _) (hb.mono (by simp; omega)))
  clear hb
  go_wp2
  go_ret
  exact ⟨rfl, HB.out⟩
end Go.Proofs.YtaibjmdfkahjjaaDoor
