/- What Check of packages chain and accountingref14 returns. -/
import Derived.Test.YtacgjfgiikbjiaaChD
namespace Go.Proofs.Ytacgjfgiikbjiaa
open Go.RowKit Go.Sort
set_option linter.unusedVariables false
set_option linter.unusedSimpArgs false

/-- the index of the first wrong checksum, counted from i on, or -1. -/
def chV : Int → List (List UInt8) → List Int → Nat → Int
  | _, [], [], _ => -1
  | _, [], _ :: _, i => (i : Int)
  | _, _ :: _, [], i => (i : Int)
  | h, l :: R, s :: S, i => if s = nxV h l then chV (nxV h l) R S (i + 1) else (i : Int)
def chI (R : List (List UInt8)) (S : List Int) (j : Nat) : Prop := chV st0 R S 0 = chV (suV st0 (R.take j)) (R.drop j) (S.drop j) j
theorem chI_start (R : List (List UInt8)) (S : List Int) : chI R S 0 := rfl
theorem chI_none {R : List (List UInt8)} {S : List Int} {j : Nat} (h : chI R S j) (hj : j < R.length) (hs : S.length ≤ j) : chV st0 R S 0 = (j : Int) := by
  unfold chI at h
  rw [h, List.drop_eq_getElem_cons hj, List.drop_of_length_le hs]; rfl
theorem chI_bad {R : List (List UInt8)} {S : List Int} {j : Nat} (h : chI R S j) (hj : j < R.length) (hs : j < S.length) (hne : S[j] ≠ nxV (suV st0 (R.take j)) R[j]) : chV st0 R S 0 = (j : Int) := by
  unfold chI at h
  rw [h, List.drop_eq_getElem_cons hj, List.drop_eq_getElem_cons hs, chV, if_neg hne]
theorem chI_step {R : List (List UInt8)} {S : List Int} {j : Nat} (h : chI R S j) (hj : j < R.length) (hs : j < S.length) (he : S[j] = nxV (suV st0 (R.take j)) R[j]) : chI R S (j + 1) := by
  unfold chI at h ⊢
  rw [h, List.drop_eq_getElem_cons hj, List.drop_eq_getElem_cons hs, chV, if_pos he, suV_take hj]
theorem chI_more {R : List (List UInt8)} {S : List Int} {j : Nat} (h : chI R S j) (hj : R.length ≤ j) (hs : j < S.length) : chV st0 R S 0 = (j : Int) := by
  unfold chI at h
  rw [h, List.drop_of_length_le hj, List.drop_eq_getElem_cons hs]; rfl
theorem chI_end {R : List (List UInt8)} {S : List Int} {j : Nat} (h : chI R S j) (hj : R.length ≤ j) (hs : S.length ≤ j) : chV st0 R S 0 = -1 := by
  unfold chI at h
  rw [h, List.drop_of_length_le hj, List.drop_of_length_le hs]; rfl
set_option maxHeartbeats 1000000 in
theorem check_any (ao az : Option Addr) (c cs : Nat) (R : List (List UInt8)) (S : List Int) (w : World) (hR : Recs w ao R) (hS : RowU w az S) (hn : R.length ≤ 100) (hm : S.length ≤ 1000) (hl : ∀ l ∈ R, l.length ≤ 10000) :
    Calls Try.prog 18 #[.slice ao R.length c, .slice az S.length cs] w fun e w' => e = .returned (.int .i64 (chV st0 R S 0)) ∧ Below w.heap.size w w' := by
  have HR := Lib.hid hR
  have HSS := Lib.hid hS
  have HL := Lib.hid hl
  clear hR hl hS
  go_enter Try.func18, Try.ntmps18
  go_wp2
  go_loopw [5, 10] (fun s i wr => ∃ j : Nat, j ≤ R.length ∧ j ≤ S.length ∧ i = .int .i64 (j : Int) ∧ s = .int .u64 (suV st0 (R.take j)) ∧ Hid (chI R S j) ∧ Hid (Below w.heap.size w wr)) (fun _ i _ => R.length - (intOf i).toNat)
  case atStart => exact ⟨0, by omega, by omega, by go_num, by simp [suV, st0], Lib.hid (chI_start R S), Lib.hid (Below.refl _ _)⟩
  case round =>
    obtain ⟨j, hj, hj2, rfl, rfl, HI, HB⟩ := hrel
    by_cases k : j < R.length
    · have hi : (j : Int) < (R.length : Int) := by omega
      obtain ⟨b, off, ao', c', rfl, hb, hc, hr⟩ := (HR.out.below HB.out).at j k
      have HN := Lib.hid (fun (w : World) (h : RowB w ao' R[j]) => next_any (suV st0 (R.take j)) ao' c' R[j] w h (by have := HL.out R[j] (List.getElem_mem k); omega))
      have HRR := Lib.hid hr
      have HS := Lib.hid (suV_take (h := st0) k)
      by_cases k2 : j < S.length
      · have q1 : ((j : Int) == (S.length : Int)) = false := by simp; omega
        have hi2 : (j : Int) < (S.length : Int) := by omega
        by_cases k3 : S[j] = nxV (suV st0 (R.take j)) R[j]
        · have HI2 := Lib.hid (chI_step HI.out k k2 k3)
          have HQ := Lib.hid (show (S[j] != nxV (suV st0 (R.take j)) R[j]) = false by simp [k3])
          have HSa := Lib.hid (fun (w : World) (h : RowU w az S) => h.at j k2)
          clear hr k3
          generalize R[j] = x at *
          generalize S[j] = z at *
          generalize nxV (suV st0 (R.take j)) x = y at *
          generalize suV st0 (R.take j) = s at *
          go_wp2_with fail
          refine (HN.out _ HRR.out).mono ?_
          rintro e W1 ⟨rfl, hb1⟩
          have HB1 := Lib.hid (HB.out.trans (hb1.mono HB.out.size))
          clear hb1
          obtain ⟨b2, off2, rfl, hb2, hc2⟩ := HSa.out _ (HSS.out.below HB1.out)
          have q2 := HQ.out
          go_wp2
          go_roundw
          case rel => exact ⟨j + 1, by omega, by omega, by go_num, by rw [HS.out], HI2, HB1⟩
          case measure => simp [intOf]; omega
        · have HI2 := Lib.hid (chI_bad HI.out k k2 k3)
          have HQ := Lib.hid (show (S[j] != nxV (suV st0 (R.take j)) R[j]) = true by simp [k3])
          have HSa := Lib.hid (fun (w : World) (h : RowU w az S) => h.at j k2)
          clear hr k3
          generalize R[j] = x at *
          generalize S[j] = z at *
          generalize nxV (suV st0 (R.take j)) x = y at *
          generalize suV st0 (R.take j) = s at *
          go_wp2_with fail
          refine (HN.out _ HRR.out).mono ?_
          rintro e W1 ⟨rfl, hb1⟩
          have HB1 := Lib.hid (HB.out.trans (hb1.mono HB.out.size))
          clear hb1
          obtain ⟨b2, off2, rfl, hb2, hc2⟩ := HSa.out _ (HSS.out.below HB1.out)
          have q2 := HQ.out
          go_wp2
          go_ret
          exact ⟨by rw [HI2.out]; rfl, HB1.out⟩
      · have q1 : ((j : Int) == (S.length : Int)) = true := by simp; omega
        have HI2 := Lib.hid (chI_none HI.out k (by omega))
        clear hr
        generalize R[j] = x at *
        generalize nxV (suV st0 (R.take j)) x = y at *
        generalize suV st0 (R.take j) = s at *
        go_wp2_with fail
        refine (HN.out _ HRR.out).mono ?_
        rintro e W1 ⟨rfl, hb1⟩
        have HB1 := Lib.hid (HB.out.trans (hb1.mono HB.out.size))
        clear hb1
        go_wp2
        go_ret
        exact ⟨by rw [HI2.out]; rfl, HB1.out⟩
    · have hi : ¬ (j : Int) < (R.length : Int) := by omega
      by_cases k2 : R.length < S.length
      · have q1 : (R.length : Int) < (S.length : Int) := by omega
        have HI2 := Lib.hid (show chV st0 R S 0 = (R.length : Int) by rw [chI_more HI.out (by omega) (by omega)]; omega)
        go_wp2
        go_ret
        exact ⟨by rw [HI2.out]; rfl, HB.out⟩
      · have q1 : ¬ (R.length : Int) < (S.length : Int) := by omega
        have HI2 := Lib.hid (chI_end HI.out (by omega) (by omega))
        go_wp2
        go_ret
        exact ⟨by rw [HI2.out]; rfl, HB.out⟩
set_option maxHeartbeats 1000000 in
theorem rCheck_any (ao az : Option Addr) (c cs : Nat) (R : List (List UInt8)) (S : List Int) (w : World) (hR : Recs w ao R) (hS : RowU w az S) (hn : R.length ≤ 100) (hm : S.length ≤ 1000) (hl : ∀ l ∈ R, l.length ≤ 10000) :
    Calls Try.prog 19 #[.slice ao R.length c, .slice az S.length cs] w fun e w' => e = .returned (.int .i64 (chV st0 R S 0)) ∧ Below w.heap.size w w' := by
  have H1 := Lib.hid (rAll_any ao c R w hR hn hl)
  have HSS := Lib.hid hS
  clear hR hl hS
  go_enter Try.func19, Try.ntmps19
  go_wp2_with fail
  refine H1.out.mono ?_
  rintro e W1 ⟨v, rfl, ho, hb1⟩
  obtain ⟨av, cv, hv⟩ := ho.shape
  rw [alV_len] at hv
  subst hv
  have HA := Lib.hid ho.row
  have HB0 := Lib.hid hb1
  clear ho hb1
  go_wp2
  go_loopw [6] (fun i wr => ∃ j : Nat, j ≤ R.length ∧ j ≤ S.length ∧ i = .int .i64 (j : Int) ∧ Hid (chI R S j) ∧ Hid (Below w.heap.size w wr) ∧ Hid (RowU wr av (alV st0 R))) (fun i _ => R.length - (intOf i).toNat)
  case atStart => exact ⟨0, by omega, by omega, by go_num, Lib.hid (chI_start R S), HB0, HA⟩
  case round =>
    obtain ⟨j, hj, hj2, rfl, HI, HB, HAA⟩ := hrel
    by_cases k : j < R.length
    · have hi : (j : Int) < (R.length : Int) := by omega
      have kl : j < (alV st0 R).length := by rw [alV_len]; exact k
      obtain ⟨b, off, hav, hb, hc⟩ := HAA.out.at j kl
      rw [alV_get R st0 j kl k] at hc
      by_cases k2 : j < S.length
      · have q1 : decide ((S.length : Int) ≤ (j : Int)) = false := by simp; omega
        have hi2 : (j : Int) < (S.length : Int) := by omega
        obtain ⟨b2, off2, has, hb2, hc2⟩ := (HSS.out.below HB.out).at j k2
        by_cases k3 : S[j] = nxV (suV st0 (R.take j)) R[j]
        · have HI2 := Lib.hid (chI_step HI.out k k2 k3)
          have q2 : (S[j] != nxV (suV st0 (R.take j)) R[j]) = false := by simp [k3]
          clear k3 kl
          generalize nxV (suV st0 (R.take j)) R[j] = y at *
          generalize S[j] = z at *
          have HEv := Lib.hid hav
          have HEs := Lib.hid has
          subst hav has
          go_wp2_with fail
          go_quiet (fail)
          go_wp2
          go_roundw
          case rel => exact ⟨j + 1, by omega, by omega, by go_num, HI2, Lib.hid (below_drewN HB.out _), HAA⟩
          case measure => simp [intOf]; omega
        · have HI2 := Lib.hid (chI_bad HI.out k k2 k3)
          have q2 : (S[j] != nxV (suV st0 (R.take j)) R[j]) = true := by simp [k3]
          clear k3 kl
          generalize nxV (suV st0 (R.take j)) R[j] = y at *
          generalize S[j] = z at *
          subst hav has
          go_wp2_with fail
          go_quiet (fail)
          go_wp2
          go_ret
          exact ⟨by rw [HI2.out]; rfl, below_drewN HB.out _⟩
      · have q1 : decide ((S.length : Int) ≤ (j : Int)) = true := by simp; omega
        have HI2 := Lib.hid (chI_none HI.out k (by omega))
        clear hc kl
        go_wp2_with fail
        go_quiet (fail)
        go_wp2
        go_ret
        exact ⟨by rw [HI2.out]; rfl, below_drewN HB.out _⟩
    · have hi : ¬ (j : Int) < (R.length : Int) := by omega
      by_cases k2 : R.length < S.length
      · have q1 : (R.length : Int) < (S.length : Int) := by omega
        have HI2 := Lib.hid (show chV st0 R S 0 = (R.length : Int) by rw [chI_more HI.out (by omega) (by omega)]; omega)
        go_wp2
        go_ret
        exact ⟨by rw [HI2.out]; rfl, HB.out⟩
      · have q1 : ¬ (R.length : Int) < (S.length : Int) := by omega
        have HI2 := Lib.hid (chI_end HI.out (by omega) (by omega))
        go_wp2
        go_ret
        exact ⟨by rw [HI2.out]; rfl, HB.out⟩
end Go.Proofs.Ytacgjfgiikbjiaa
