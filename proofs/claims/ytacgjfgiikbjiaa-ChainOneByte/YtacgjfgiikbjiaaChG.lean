/- What value and Parse of package accountingref14 return, and Bytes of both packages. -/
import Derived.Test.YtacgjfgiikbjiaaChF
namespace Go.Proofs.Ytacgjfgiikbjiaa
open Go.RowKit Go.Sort
set_option linter.unusedVariables false
set_option linter.unusedSimpArgs false

theorem digits_any (w : World) : Calls Try.prog 33 #[] w fun e w' => e = .returned (.string ⟨#[48, 49, 50, 51, 52, 53, 54, 55, 56, 57, 97, 98, 99, 100, 101, 102]⟩) ∧ w = w' := by
  go_enter Try.func33, Try.ntmps33
  go_wp2
  go_ret
  exact ⟨rfl, rfl⟩
/-- the first digit that equals c, from j on. -/
def hxF (c : UInt8) (j : Nat) : Int := if (hxD.drop j).idxOf c < (hxD.drop j).length then (j + (hxD.drop j).idxOf c : Nat) else -1
theorem hx_same : ∀ n : Fin 256, hxF (UInt8.ofNat n.val) 0 = hxI (UInt8.ofNat n.val) := by decide +kernel
theorem hx_eq (c : UInt8) : hxF c 0 = hxI c := by
  have := hx_same ⟨c.toNat, c.toNat_lt⟩
  rw [UInt8.ofNat_toNat] at this
  exact this
theorem hx_step : ∀ n : Fin 256, ∀ j : Fin 16, ((hxD.getD j.val 0).toNat = n.val → hxF (UInt8.ofNat n.val) j.val = j.val) ∧ ((hxD.getD j.val 0).toNat ≠ n.val → hxF (UInt8.ofNat n.val) j.val = hxF (UInt8.ofNat n.val) (j.val + 1)) := by decide +kernel
theorem hx_end : ∀ n : Fin 256, hxF (UInt8.ofNat n.val) 16 = -1 := by decide +kernel
theorem hxF_step (c : UInt8) (j : Nat) (h : j < 16) : (((hxD.getD j 0).toNat : Int) = (c.toNat : Int) → hxF c j = (j : Int)) ∧ (((hxD.getD j 0).toNat : Int) ≠ (c.toNat : Int) → hxF c j = hxF c (j + 1)) := by
  have := hx_step ⟨c.toNat, c.toNat_lt⟩ ⟨j, h⟩
  rw [UInt8.ofNat_toNat] at this
  exact ⟨fun e => this.1 (by simp only; omega), fun e => this.2 (by simp only; omega)⟩
theorem hxF_end (c : UInt8) : hxF c 16 = -1 := by
  have := hx_end ⟨c.toNat, c.toNat_lt⟩
  rw [UInt8.ofNat_toNat] at this
  exact this
theorem hxD_get (j : Nat) (h : j < (⟨#[48, 49, 50, 51, 52, 53, 54, 55, 56, 57, 97, 98, 99, 100, 101, 102]⟩ : ByteArray).size) : hxD.getD j 0 = (⟨#[48, 49, 50, 51, 52, 53, 54, 55, 56, 57, 97, 98, 99, 100, 101, 102]⟩ : ByteArray)[j] := by
  have h16 : j < 16 := h
  rcases (show j = 0 ∨ j = 1 ∨ j = 2 ∨ j = 3 ∨ j = 4 ∨ j = 5 ∨ j = 6 ∨ j = 7 ∨ j = 8 ∨ j = 9 ∨ j = 10 ∨ j = 11 ∨ j = 12 ∨ j = 13 ∨ j = 14 ∨ j = 15 by omega) with rfl | rfl | rfl | rfl | rfl | rfl | rfl | rfl | rfl | rfl | rfl | rfl | rfl | rfl | rfl | rfl <;> rfl
set_option maxHeartbeats 2000000 in
theorem value_any (c : UInt8) (w : World) : Calls Try.prog 32 #[.int .u8 (c.toNat : Int)] w fun e w' => e = .returned (.int .i64 (hxI c)) ∧ w = w' := by
  rw [← hx_eq]
  go_enter Try.func32, Try.ntmps32
  go_wp2
  go_loop [3] (fun i => ∃ j : Nat, j ≤ 16 ∧ i = .int .i64 (j : Int) ∧ Hid (hxF c 0 = hxF c j)) (fun i => 16 - (intOf i).toNat)
  case atStart => exact ⟨0, by omega, by go_num, Lib.hid rfl⟩
  case round =>
    obtain ⟨j, hj, rfl, HI⟩ := hrel
    by_cases k : j < 16
    · have hij : (j : Int) < 16 := by omega
      have HS := Lib.hid (hxF_step c j k)
      have hgd : j < (⟨#[48, 49, 50, 51, 52, 53, 54, 55, 56, 57, 97, 98, 99, 100, 101, 102]⟩ : ByteArray).size := k
      obtain ⟨D, hD⟩ : ∃ D : ByteArray, D = ⟨#[48, 49, 50, 51, 52, 53, 54, 55, 56, 57, 97, 98, 99, 100, 101, 102]⟩ := ⟨_, rfl⟩
      have HG := Lib.hid (show ∀ h : j < D.size, hxD.getD j 0 = D[j] from fun h => by subst hD; exact hxD_get j h)
      have HDg := Lib.hid (fun w => digits_any w)
      rw [← hD] at HDg hgd
      have hsz : D.size = 16 := by subst hD; rfl
      rw [HG.out hgd] at HS
      clear hD
      by_cases he : (D[j].toNat : Int) = (c.toNat : Int)
      · have q : ((D[j].toNat : Int) == (c.toNat : Int)) = true := by simpa using he
        have HV := Lib.hid (HS.out.1 he)
        clear he
        go_wp2_with fail
        refine (HDg.out _).mono ?_
        rintro e w_ ⟨rfl, rfl⟩
        go_wp2
        go_ret
        exact ⟨by rw [HI.out, HV.out]; rfl, rfl⟩
      · have q : ((D[j].toNat : Int) == (c.toNat : Int)) = false := by simpa using he
        have HV := Lib.hid (HS.out.2 he)
        clear he
        go_wp2_with fail
        refine (HDg.out _).mono ?_
        rintro e w_ ⟨rfl, rfl⟩
        go_wp2
        go_round
        case rel => exact ⟨j + 1, by omega, by go_num, Lib.hid (HI.out.trans HV.out)⟩
        case measure => simp [intOf]; omega
    · have hij : ¬ (j : Int) < 16 := by omega
      obtain rfl : j = 16 := by omega
      have HV := Lib.hid (HI.out.trans (hxF_end c))
      go_wp2
      go_ret
      exact ⟨by rw [HV.out]; rfl, rfl⟩
set_option maxHeartbeats 2000000 in
theorem rParse_any (s : ByteArray) (w : World) (hs : s.size ≤ 1000) :
    Calls Try.prog 23 #[.string s] w fun e w' => e = .returned (.tuple #[.int .u64 (paV s), .int .i64 (paE s)]) ∧ w = w' := by
  go_enter Try.func23, Try.ntmps23
  go_wp2
  go_loop [4, 5] (fun v i => ∃ j : Nat, j ≤ s.size ∧ i = .int .i64 (j : Int) ∧ v = .int .u64 (IntKind.u64.wrap (pvV (s.toList.take j))) ∧ Hid (pvO (s.toList.take j))) (fun _ i => s.size - (intOf i).toNat)
  case atStart => exact ⟨0, by omega, by go_num, by simp [pvV]; rfl, Lib.hid (by simp [pvO])⟩
  case round =>
    obtain ⟨j, hj, rfl, rfl, HO⟩ := hrel
    by_cases k : j < s.size
    · have hij : (j : Int) < (s.size : Int) := by omega
      have kl : j < s.toList.length := by rw [bytes_len]; exact k
      have eb : s.toList[j] = s[j] := bytes_get s j k kl
      have HM := Lib.hid (pvV_take kl)
      have hbd := hxI_bd s[j]
      have HC := Lib.hid (fun w => value_any s[j] w)
      have HP := Lib.hid (fun (h : 0 ≤ hxI s.toList[j]) => pvO_take kl HO.out h)
      rw [eb] at HM HP
      have HN := Lib.hid (show hxI s[j] < 0 → ¬ paOk s from fun h x => by
        have := x.2 s.toList[j] (List.getElem_mem kl)
        rw [eb] at this; omega)
      clear eb
      generalize hxI s[j] = d at *
      generalize pvV (s.toList.take j) = y at *
      by_cases hd : d < 0
      · have HV := Lib.hid (pa_bad (HN.out hd))
        go_wp2_with fail
        refine (HC.out _).mono ?_
        rintro e w_ ⟨rfl, rfl⟩
        go_wp2
        go_ret2
        exact ⟨by rw [HV.out.1, HV.out.2]; rfl, rfl⟩
      · have HW := Lib.hid (wrap_step y d)
        generalize IntKind.u64.wrap y = Y at *
        go_wp2_with fail
        refine (HC.out _).mono ?_
        rintro e w_ ⟨rfl, rfl⟩
        go_wp2_with fail
        refine (HC.out _).mono ?_
        rintro e w_ ⟨rfl, rfl⟩
        go_wp2
        go_round
        case rel => exact ⟨j + 1, by omega, by go_num, by rw [HM.out, ← HW.out], Lib.hid (HP.out (by omega))⟩
        case measure => simp [intOf]; omega
    · have hij : ¬ (j : Int) < (s.size : Int) := by omega
      have e : s.toList.take j = s.toList := List.take_of_length_le (by rw [bytes_len]; omega)
      rw [e] at HO ⊢
      clear e
      by_cases h1 : s.size = 16
      · have q1 : ((s.size : Int) != 16) = false := by simp; omega
        have HV := Lib.hid (pa_ok (s := s) ⟨h1, HO.out⟩)
        clear h1
        go_wp2
        go_ret2
        exact ⟨by rw [HV.out.1, HV.out.2]; rfl, rfl⟩
      · have q1 : ((s.size : Int) != 16) = true := by simp; omega
        have HV := Lib.hid (pa_bad (s := s) (fun x => h1 x.1))
        clear h1
        go_wp2
        go_ret2
        exact ⟨by rw [HV.out.1, HV.out.2]; rfl, rfl⟩
/-- how Bytes ends. -/
def ByP (n : Int) (w : World) (e : Ending) (w' : World) : Prop := ∃ a, e = .returned (.slice (some a) 8 8) ∧ RowB w' (some a) (spL n) ∧ Below w.heap.size w w'
theorem spL_row {w : World} {n : Int} (n0 : 0 ≤ n) (n1 : n < 18446744073709551616) (T : TypeId) : RowB (w.alloc (.cells (spA n 8) T)) (some ⟨w.heap.size, 0, none⟩) (spL n) := by
  rw [spA_eq n0 n1]
  refine RowV.block (by simp) fun i x hx => ?_
  rw [World.cell?_alloc_at _ _ _ _ rfl, Nat.zero_add]
  simpa using hx
set_option maxHeartbeats 1000000 in
theorem bytes_any (n : Int) (w : World) (n0 : 0 ≤ n) (n1 : n < 18446744073709551616) :
    Calls Try.prog 24 #[.int .u64 n] w fun e w' => ByP n w e w' := by
  have H1 := Lib.hid (fun w => split_any n w n0 n1)
  have HX := Lib.hid (fun (W : World) => spL_row (w := W) n0 n1 50)
  go_enter Try.func24, Try.ntmps24
  simp only [spA] at H1 HX
  go_wp2_with fail
  refine (H1.out _).mono ?_
  rintro e W1 ⟨rfl, hb1⟩
  have HB := Lib.hid hb1
  clear hb1
  go_wp2
  go_ret
  exact ⟨_, rfl, HX.out W1, HB.out.alloc HB.out.size _⟩
end Go.Proofs.Ytacgjfgiikbjiaa
