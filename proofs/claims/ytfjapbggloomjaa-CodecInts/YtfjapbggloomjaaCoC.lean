/- What TakeInt of package accountingref13 returns. -/
import Derived.Test.YtfjapbggloomjaaCoB
namespace Go.Proofs.Ytfjapbggloomjaa
open Go.RowKit Go.Sort
set_option linter.unusedVariables false
set_option linter.unusedSimpArgs false

theorem fac_bd {j : Nat} (h : j ≤ 9) : 128 ^ j ≤ 9223372036854775808 := by
  rcases (show j = 0 ∨ j = 1 ∨ j = 2 ∨ j = 3 ∨ j = 4 ∨ j = 5 ∨ j = 6 ∨ j = 7 ∨ j = 8 ∨ j = 9 by omega) with rfl | rfl | rfl | rfl | rfl | rfl | rfl | rfl | rfl | rfl <;> decide
theorem fin1 (X : Int) (N : Nat) (hX : X = (N : Int)) (hN : N < 18446744073709551616) (h : (X.tmod 2 == 1) = true) : wrap64 (wrap64 (-wrap64 (IntKind.u64.wrap (X.tdiv 2))) - 1) = siV N := by
  subst hX
  rw [Int.tmod_eq_emod_of_nonneg (by omega)] at h
  rw [Int.tdiv_eq_ediv_of_nonneg (by omega)]
  have h1 : N % 2 = 1 := by simp at h; omega
  unfold siV
  rw [if_pos h1]
  simp only [IntKind.wrap_u64, wrap64]
  omega
theorem fin0 (X : Int) (N : Nat) (hX : X = (N : Int)) (hN : N < 18446744073709551616) (h : (X.tmod 2 == 1) = false) : wrap64 (IntKind.u64.wrap (X.tdiv 2)) = siV N := by
  subst hX
  rw [Int.tmod_eq_emod_of_nonneg (by omega)] at h
  rw [Int.tdiv_eq_ediv_of_nonneg (by omega)]
  have h1 : ¬ N % 2 = 1 := by simp at h; omega
  unfold siV
  rw [if_neg h1]
  simp only [IntKind.wrap_u64, wrap64]
  omega
theorem ret_tk {t : Int × Nat × Int} {v : Int} {n : Nat} {a b : Int} (h : t = (v, n, 0)) (ha : a = v) (hb : b = (n : Int)) : Ending.returned (.tuple #[.int .i64 a, .int .i64 b, .int .i64 0]) = .returned (.tuple #[.int .i64 t.1, .int .i64 (t.2.1 : Int), .int .i64 t.2.2]) := by
  subst h ha hb; rfl
/-- the number so far. -/
def AccN (acc g F N : Nat) : Prop := IntKind.u64.wrap ((acc : Int) + IntKind.u64.wrap ((g : Int) % 128 * (F : Int))) = (N : Int) ∧ N < 18446744073709551616
set_option maxRecDepth 100000 in
set_option maxHeartbeats 4000000 in
theorem rTakeInt_any (ao : Option Addr) (c : Nat) (l : List UInt8) (w : World) (hR : RowB w ao l) (hl : l.length ≤ maxLen) :
    Calls Try.prog 11 #[.slice ao l.length c] w fun e w' => e = .returned (.tuple #[.int .i64 (tkV l 0 0).1, .int .i64 ((tkV l 0 0).2.1 : Int), .int .i64 (tkV l 0 0).2.2]) ∧ w = w' := by
  have HR := Lib.hid hR
  clear hR
  unfold maxLen at hl
  go_enter Try.func11, Try.ntmps11
  go_wp2
  go_loop [5, 6, 7] (fun v f i => ∃ (j acc F : Nat), j ≤ 9 ∧ i = .int .i64 (j : Int) ∧ v = .int .u64 (acc : Int) ∧ f = .int .u64 (F : Int) ∧ Hid (F = 128 ^ j) ∧ Hid (tkI l j acc)) (fun _ _ i => 10 - (intOf i).toNat)
  case atStart => exact ⟨0, 0, 1, by omega, by go_num, by go_num, by go_num, Lib.hid rfl, Lib.hid ⟨rfl, by simp⟩⟩
  case round =>
    obtain ⟨j, acc, F, hj9, rfl, rfl, rfl, HF, HI⟩ := hrel
    have h10 : (j : Int) < 10 := by omega
    by_cases k : j < l.length
    · have hij : (j : Int) < (l.length : Int) := by omega
      have hij2 : ¬ (l.length : Int) ≤ (j : Int) := by omega
      obtain ⟨b, off, rfl, hb, hc⟩ := HR.out.at j k
      have HB := Lib.hid (tkI_bad HI.out k)
      have HD := Lib.hid (tkI_done HI.out k)
      have HS := Lib.hid (tkI_step HI.out k)
      have hg := l[j].toNat_lt
      generalize l[j] = g at *
      have HO := Lib.hid (fun h9 => (or_tk j acc (g.toNat % 128) hj9 HI.out.2 (by omega) h9).2)
      by_cases hA1 : 0 < j ∧ g.toNat = 0
      · have HV := Lib.hid (HB.out (.inl hA1))
        have f1 : (0 : Int) < (j : Int) := by omega
        have f2 : ((g.toNat : Int) == 0) = true := by simp; omega
        have f4 : ¬ (1 : Int) < (g.toNat : Int) := by omega
        clear hA1
        by_cases h9 : j = 9
        · have f3 : ((j : Int) == 9) = true := by simp; omega
          clear h9
          go_wp2
          go_ret3
          exact ⟨by rw [HV.out]; rfl, rfl⟩
        · have f3 : ((j : Int) == 9) = false := by simp; omega
          clear h9
          go_wp2
          go_ret3
          exact ⟨by rw [HV.out]; rfl, rfl⟩
      by_cases hA2 : j = 9 ∧ 1 < g.toNat
      · have HV := Lib.hid (HB.out (.inr hA2))
        have f3 : ((j : Int) == 9) = true := by simp; omega
        have f4 : (1 : Int) < (g.toNat : Int) := by omega
        clear hA1 hA2
        go_wp2
        all_goals
          go_ret3
          exact ⟨by rw [HV.out]; rfl, rfl⟩
      have hnb : ¬ ((0 < j ∧ g.toNat = 0) ∨ (j = 9 ∧ 1 < g.toNat)) := fun x => x.elim hA1 hA2
      have HO2 := Lib.hid (HO.out (fun h => by omega))
      have HD2 := Lib.hid (HD.out hnb)
      have HS2 := Lib.hid (HS.out hnb)
      clear HO HD HS HB hnb
      rw [← HF.out] at HO2 HD2 HS2
      have HFb := Lib.hid (fac_bd hj9)
      rw [← HF.out] at HFb
      obtain ⟨P, hP⟩ : ∃ P, g.toNat % 128 * F = P := ⟨_, rfl⟩
      have hP2 : (g.toNat : Int) % 128 * (F : Int) = (P : Int) := by rw [← hP]; push_cast; rfl
      rw [hP] at HO2 HD2 HS2
      clear hP
      obtain ⟨N, hN⟩ : ∃ N, acc + P = N := ⟨_, rfl⟩
      have hN2 : (acc : Int) + (P : Int) = (N : Int) := by omega
      have hNb := HO2.out
      rw [hN] at HD2 HS2 hNb
      have hNc : (N : Int) < 18446744073709551616 := by omega
      have hX : IntKind.u64.wrap ((acc : Int) + IntKind.u64.wrap ((g.toNat : Int) % 128 * (F : Int))) = (N : Int) := by
        rw [hP2]; simp only [IntKind.wrap_u64]; omega
      have HX : AccN acc g.toNat F N := ⟨hX, by omega⟩
      clear hN HO2 hNb hP2 hN2 hNc hX
      by_cases hj0 : j = 0
      · skip
        have f1 : ¬ (0 : Int) < (j : Int) := by omega
        have f3 : ((j : Int) == 9) = false := by simp; omega
        have hj8 : j < 9 := by omega
        clear hj0
        clear hA1 hA2
        by_cases h128 : g.toNat < 128
        · have q4 : (g.toNat : Int) < 128 := by omega
          have HV := Lib.hid (HD2.out (by omega))
          go_wp2
          all_goals
            go_ret3
            refine ⟨ret_tk HV.out ?_ (by omega), rfl⟩
            first
              | exact fin1 _ N HX.1 HX.2 (by assumption)
              | exact fin0 _ N HX.1 HX.2 (by assumption)
        · have q4 : ¬ (g.toNat : Int) < 128 := by omega
          have HV := Lib.hid (HS2.out h128)
          have HF2 := Lib.hid (show F * 128 = 128 ^ (j + 1) by rw [HF.out, Nat.pow_succ])
          have hFc := fac_bd (j := j + 1) (by omega)
          rw [← HF2.out] at hFc
          go_wp2
          go_round
          case rel => exact ⟨j + 1, N, F * 128, by omega, by go_num, by rw [HX.1], by go_num, HF2, HV⟩
          case measure => simp [intOf]; omega
      by_cases hj9' : j = 9
      · have f1 : (0 : Int) < (j : Int) := by omega
        have f2 : ((g.toNat : Int) == 0) = false := by simp; omega
        have f3 : ((j : Int) == 9) = true := by simp; omega
        have f4 : ¬ (1 : Int) < (g.toNat : Int) := by omega
        have q4 : (g.toNat : Int) < 128 := by omega
        clear hA1 hA2 hj0 hj9'
        have HV := Lib.hid (HD2.out (by omega))
        go_wp2
        all_goals
          go_ret3
          refine ⟨ret_tk HV.out ?_ (by omega), rfl⟩
          first
            | exact fin1 _ N HX.1 HX.2 (by assumption)
            | exact fin0 _ N HX.1 HX.2 (by assumption)
      have f1 : (0 : Int) < (j : Int) := by omega
      have f2 : ((g.toNat : Int) == 0) = false := by simp; omega
      have f3 : ((j : Int) == 9) = false := by simp; omega
      have hj8 : j < 9 := by omega
      clear hj0 hj9'
      clear hA1 hA2
      by_cases h128 : g.toNat < 128
      · have q4 : (g.toNat : Int) < 128 := by omega
        have HV := Lib.hid (HD2.out (by omega))
        go_wp2
        all_goals
          go_ret3
          refine ⟨ret_tk HV.out ?_ (by omega), rfl⟩
          first
            | exact fin1 _ N HX.1 HX.2 (by assumption)
            | exact fin0 _ N HX.1 HX.2 (by assumption)
      · have q4 : ¬ (g.toNat : Int) < 128 := by omega
        have HV := Lib.hid (HS2.out h128)
        have HF2 := Lib.hid (show F * 128 = 128 ^ (j + 1) by rw [HF.out, Nat.pow_succ])
        have hFc := fac_bd (j := j + 1) (by omega)
        rw [← HF2.out] at hFc
        go_wp2
        go_round
        case rel => exact ⟨j + 1, N, F * 128, by omega, by go_num, by rw [HX.1], by go_num, HF2, HV⟩
        case measure => simp [intOf]; omega
    · have hij : (l.length : Int) ≤ (j : Int) := by omega
      have HV := Lib.hid (tkI_end HI.out (by omega))
      go_wp2
      go_ret3
      exact ⟨by rw [HV.out]; rfl, rfl⟩
end Go.Proofs.Ytfjapbggloomjaa
