/- What divide and common of package accountingref03 return. -/
import Derived.Test.YtlndomnampcnfaaFvC
namespace Go.Proofs.Ytlndomnampcnfaa
open Go.RowKit Go.Sort
set_option linter.unusedVariables false
set_option linter.unusedSimpArgs false

def strD : Value → Nat
  | .string s => dec s.toList
  | _ => 0
theorem strD_bs (l : List UInt8) : strD (.string (bs l)) = dec l := by simp [strD, bs_list]
theorem dn_mono {n m : Nat} (h : n ≤ m) : (dn n).length ≤ (dn m).length := by
  apply Classical.byContradiction
  intro hc
  have := dn_short (n := m) (m := n) (by omega)
  omega
theorem dn_ten {R m d : Nat} (h : R < m) (hd : d < 10) : (dn (R * 10 + d)).length ≤ (dn m).length + 1 := by
  have h1 := dn_lt m
  refine dn_len ?_
  rw [Nat.pow_succ]; omega
theorem div_is {V V0 k m : Nat} (h : V + k * m = V0) (hv : V < m) : V0 / m = k ∧ V0 % m = V := by
  have hm : 0 < m := by omega
  subst h
  exact ⟨by rw [Nat.add_mul_div_right _ _ hm, Nat.div_eq_of_lt hv]; omega, by rw [Nat.add_mul_mod_self_right, Nat.mod_eq_of_lt hv]⟩
set_option maxRecDepth 100000 in
set_option maxHeartbeats 8000000 in
theorem rDiv3_any (A : List UInt8) (m : Nat) (w : World) (hA : A.all dig = true) (hl : A.length ≤ 100) (hm : 0 < m) (hml : (dn m).length ≤ 100) :
    Calls Try.prog 20 #[.string (bs A), .string (bs (dn m))] w fun e w' => e = .returned (.tuple #[.string (bs (dn (dec A / m))), .string (bs (dn (dec A % m)))]) ∧ Below w.heap.size w w' := by
  obtain ⟨SA, hSA⟩ : ∃ T, bs A = T := ⟨_, rfl⟩
  obtain ⟨SM, hSM⟩ : ∃ T, bs (dn m) = T := ⟨_, rfl⟩
  have tA : Tx SA A := hSA ▸ tx_bs _
  obtain ⟨N, hN⟩ : ∃ N, A.length = N := ⟨_, rfl⟩
  have sA : SA.size = N := by rw [tA.size]; exact hN
  rw [hSA, hSM]
  have HA := Lib.hid (show Tx SA A ∧ A.all dig = true ∧ A.length = N ∧ bs A = SA from ⟨tA, hA, hN, hSA⟩)
  have HM := Lib.hid hSM
  have HML := Lib.hid hml
  rw [hN] at hl
  clear tA hA hN hSA hSM hml
  go_enter Try.func20, Try.ntmps20
  go_wp2_with fail
  go_loopw [6, 7, 8] (fun v x y wr => ∃ (i : Nat) (T : ByteArray) (ql : List UInt8), i ≤ N ∧ y = .int .i64 i ∧ x = .string T ∧ Hid (T = bs (dn (dec (A.take i) % m))) ∧ Hid (ql.length = i ∧ ql.all dig = true ∧ dec ql = dec (A.take i) / m) ∧ Hid (OwnB wr w.heap.size v ql) ∧ Hid (Below w.heap.size w wr)) (fun _ _ y _ => N - (intOf y).toNat)
  case atStart => exact ⟨0, ⟨#[]⟩, [], Nat.zero_le _, rfl, rfl, Lib.hid (by rw [List.take_zero]; show _ = bs (dn (0 % m)); rw [Nat.zero_mod]; rfl), Lib.hid ⟨rfl, rfl, by rw [List.take_zero]; show 0 = 0 / m; rw [Nat.zero_div]⟩, Lib.hid (OwnV.nil _ _ _), Lib.hid (Below.refl _ _)⟩
  case round =>
    obtain ⟨i, T, ql, hi, rfl, rfl, HT, HQ, HO, HB⟩ := hrel
    by_cases h : i < N
    · have h' : (i : Int) < (N : Int) := by omega
      have hiA : i < A.length := by rw [HA.out.2.2.1]; exact h
      have hiS : i + 1 ≤ SA.size := by omega
      have hcd := List.all_eq_true.1 HA.out.2.1 _ (List.getElem_mem hiA)
      obtain ⟨c1, c2⟩ := dig_nat hcd
      obtain ⟨R, hR⟩ : ∃ R, dec (A.take i) % m = R := ⟨_, rfl⟩
      obtain ⟨Q, hQ⟩ : ∃ Q, dec (A.take i) / m = Q := ⟨_, rfl⟩
      have hRm : R < m := by rw [← hR]; exact Nat.mod_lt _ hm
      obtain ⟨d, hd⟩ : ∃ d, A[i].toNat - 48 = d := ⟨_, rfl⟩
      have hd9 : d ≤ 9 := by omega
      have hnext := div_next (T := dec (A.take i)) (m := m) (d := d) hm
      rw [hR, hQ] at hnext
      have htk : dec (A.take (i + 1)) = dec (A.take i) * 10 + d := by rw [List.take_succ_eq_append_getElem hiA, dec_snoc, hd]
      obtain ⟨V0, hV0⟩ : ∃ V0, R * 10 + d = V0 := ⟨_, rfl⟩
      rw [hV0] at hnext
      have hex : SA.extract i (i + 1) = bs [A[i]] := by
        rw [← HA.out.2.2.2, bs_extract A i (i + 1) (by omega) (by omega), show i + 1 - i = 1 by omega, List.drop_eq_getElem_cons hiA]; rfl
      obtain ⟨Sc, hSc⟩ : ∃ U, bs [A[i]] = U := ⟨_, rfl⟩
      rw [hSc] at hex
      have hcat : T ++ Sc = bs (dn R ++ [A[i]]) := by rw [HT.out, hR, ← hSc, bs_app]
      have hdec : dec (dn R ++ [A[i]]) = V0 := by rw [dec_snoc, dec_dn, hd, hV0]
      have hall : (dn R ++ [A[i]]).all dig = true := by rw [List.all_append, dn_all]; simp [hcd]
      have hlR : (dn R).length ≤ 100 := Nat.le_trans (dn_mono (Nat.le_of_lt hRm)) HML.out
      have sT : T.size ≤ 100 := by rw [HT.out, hR, bs_size]; exact hlR
      have sC : Sc.size = 1 := by rw [← hSc, bs_size]; rfl
      have HTr := Lib.hid (fun W => rTrim_any (dn R ++ [A[i]]) W (by rw [List.length_append]; simp; omega) hall)
      rw [hdec] at HTr
      obtain ⟨T1, hT1⟩ : ∃ U, bs (dn R ++ [A[i]]) = U := ⟨_, rfl⟩
      rw [hT1] at hcat HTr
      have hlV : (dn V0).length ≤ 101 := by rw [← hV0]; exact Nat.le_trans (dn_ten hRm (by omega)) (by have := HML.out; omega)
      have hVm : V0 < 10 * m := by omega
      have HNx := Lib.hid (show dec (A.take (i + 1)) / m = Q * 10 + V0 / m ∧ dec (A.take (i + 1)) % m = V0 % m by rw [htk]; exact hnext)
      have HQ2 := Lib.hid (show ql.length = i ∧ ql.all dig = true ∧ dec ql = Q from ⟨HQ.out.1, HQ.out.2.1, by rw [HQ.out.2.2, hQ]⟩)
      obtain ⟨T2, hT2⟩ : ∃ U, bs (dn V0) = U := ⟨_, rfl⟩
      rw [hT2] at HTr
      have HT2 := Lib.hid hT2
      clear HT HQ hdec hall hlR hSc hT1 hcd c1 c2 hR hQ hd hV0 htk hnext hT2 hiA
      go_wp2_with fail
      refine (HTr.out _).mono ?_
      rintro e w2 ⟨rfl, rfl⟩
      clear HTr hex hcat
      go_wp2_with fail
      go_loopw [7, 9] (fun x y wq => ∃ (k V : Nat) (U : ByteArray), x = .string U ∧ y = .int .i64 k ∧ k ≤ 9 ∧ Hid (U = bs (dn V) ∧ V + k * m = V0) ∧ Hid (OwnB wq w.heap.size u6 ql) ∧ Hid (Below w.heap.size w wq)) (fun x _ _ => strD x)
      case atStart => exact ⟨0, V0, T2, rfl, rfl, by omega, Lib.hid ⟨HT2.out.symm, by omega⟩, HO, HB⟩
      case round =>
        clear HO HB HT2
        obtain ⟨k, V, U, rfl, rfl, hk9, HU, HO, HB⟩ := hrel
        have hVk := HU.out.2
        have hVl : (dn V).length ≤ 101 := Nat.le_trans (dn_mono (show V ≤ V0 by omega)) hlV
        have HC := rLess_any V m wr (by omega) (by have := HML.out; omega)
        rw [← HU.out.1, HM.out] at HC
        by_cases hv : V < m
        · rw [decide_eq_true hv] at HC
          have HC := Lib.hid HC
          obtain ⟨q1, q2⟩ := div_is hVk hv
          have HE := Lib.hid (show dec (A.take (i + 1)) / m = Q * 10 + k ∧ dec (A.take (i + 1)) % m = V by rw [HNx.out.1, HNx.out.2, q1, q2]; exact ⟨rfl, rfl⟩)
          have HUb := Lib.hid HU.out.1
          obtain ⟨c, hc⟩ := byte_of (v := 48 + (k : Int)) (by omega) (by omega)
          have hcn : c.toNat = 48 + k := by omega
          have HQ3 := Lib.hid (show (ql ++ [c]).length = i + 1 ∧ (ql ++ [c]).all dig = true ∧ dec (ql ++ [c]) = dec (A.take (i + 1)) / m from ⟨by rw [List.length_append, HQ2.out.1]; rfl, by rw [List.all_append, HQ2.out.2.1]; simp [dig_iff.2 (show 48 ≤ (c.toNat : Int) ∧ (c.toNat : Int) ≤ 57 by omega)], by rw [dec_snoc, HQ2.out.2.2, HE.out.1, hcn]; omega⟩)
          have HMp := Lib.hid (show (ql ++ [c]).map byV = ql.map byV ++ [.int .u8 (48 + (k : Int))] by rw [List.map_append]; simp [byV, hc])
          have hw8 : IntKind.u8.wrap (48 + (k : Int)) = 48 + (k : Int) := by rw [IntKind.wrap_u8]; omega
          have hql : ql.length ≤ 100 := by have := HQ2.out.1; omega
          have HRl := Lib.hid (fun T => row_lit1 wr T (.int .u8 (48 + (k : Int))))
          have HSz := Lib.hid HB.out.size
          clear HQ2 HU hVk q1 q2 HNx hcn hc
          go_wp2_with fail
          refine HC.out.mono ?_
          rintro e w3 ⟨rfl, rfl⟩
          go_wp2_with (at_builtin; refine wpList_vals und_bytes inf_u8 rfl (by omega) rfl (.tmp 33) (.tmp 37) rfl w.heap.size _ (ql.map byV) [.int .u8 (48 + (k : Int))] rfl (OwnV.below HO.out ((Below.refl _ _).alloc (Nat.le_refl _) _)) (some ⟨wr.heap.size, 0, none⟩) 1 rfl (fun e => by cases e) (HRl.out _) (by intro y hy; simp at hy; subst hy; rfl) (by simp; omega) (by have := HSz.out; simp; omega) ?_; intro v' w4 hown hbel; rw [← HMp.out] at hown; have HO2 := Lib.hid hown; have HB2 := Lib.hid (HB.out.trans (((Below.refl _ _).alloc HSz.out _).trans hbel)); clear hown hbel)
          go_roundw
          case rel => exact ⟨i + 1, U, ql ++ [c], by omega, by go_num, rfl, Lib.hid (by rw [HE.out.2]; exact HUb.out), HQ3, HO2, HB2⟩
          case measure => simp [intOf]; omega
        · rw [decide_eq_false hv] at HC
          have HC := Lib.hid HC
          have hk8 : k + 1 ≤ 9 := by
            have h1 : (k + 1) * m ≤ V0 := by rw [Nat.add_mul, Nat.one_mul]; omega
            have h2 : k + 1 < 10 := Nat.lt_of_mul_lt_mul_right (a := m) (by omega)
            omega
          have HMi := rMinus_any V m wr (by omega) (by omega)
          rw [← HU.out.1, HM.out] at HMi
          obtain ⟨U2, hU2⟩ : ∃ X, bs (dn (V - m)) = X := ⟨_, rfl⟩
          rw [hU2] at HMi
          have HMi := Lib.hid HMi
          have HU2 := Lib.hid (show U2 = bs (dn (V - m)) ∧ (V - m) + (k + 1) * m = V0 from ⟨hU2.symm, by rw [Nat.add_mul, Nat.one_mul]; omega⟩)
          have HMs := Lib.hid (show strD (.string U2) < strD (.string U) by rw [HU2.out.1, HU.out.1, strD_bs, strD_bs, dec_dn, dec_dn]; omega)
          clear hU2 HU hVk
          go_wp2_with fail
          refine HC.out.mono ?_
          rintro e w3 ⟨rfl, rfl⟩
          go_wp2_with fail
          refine HMi.out.mono ?_
          rintro e w4 ⟨rfl, hb⟩
          have HO2 := Lib.hid (OwnV.below HO.out hb)
          have HB2 := Lib.hid (HB.out.trans (hb.mono HB.out.size))
          clear hb HO HB
          go_wp2
          go_roundw
          case rel => exact ⟨k + 1, V - m, U2, rfl, by go_num, hk8, HU2, HO2, HB2⟩
          case measure => exact HMs.out
    · have h' : ¬ (i : Int) < (N : Int) := by omega
      have hall : A.take i = A := List.take_of_length_le (by rw [HA.out.2.2.1]; omega)
      have hql : ql.length = i := HQ.out.1
      obtain ⟨av, cv, hv⟩ := OwnB.shape HO.out
      subst hv
      have hrow : RowB wr av ql := OwnV.row HO.out
      have hcv := hrow.conv' cv
      rw [hql] at hcv
      have HT2 := Lib.hid (rTrim_any ql wr (by omega) HQ.out.2.1)
      rw [HQ.out.2.2, hall] at HT2
      have HTe := Lib.hid (show T = bs (dn (dec A % m)) by rw [HT.out, hall])
      obtain ⟨SQ, hSQ⟩ : ∃ X, bs ql = X := ⟨_, rfl⟩
      rw [hSQ] at hcv HT2
      obtain ⟨SD, hSD⟩ : ∃ X, bs (dn (dec A / m)) = X := ⟨_, rfl⟩
      rw [hSD] at HT2
      have HSD := Lib.hid hSD
      clear hSQ hSD hrow hall HQ HT HO
      go_wp2_with fail
      refine HT2.out.mono ?_
      rintro e w3 ⟨rfl, rfl⟩
      go_wp2
      go_ret2
      exact ⟨by rw [HSD.out, ← HTe.out]; rfl, HB.out⟩
set_option maxRecDepth 100000 in
set_option maxHeartbeats 4000000 in
theorem rCommon_any (x y : Nat) (w : World) (hx : (dn x).length ≤ 100) (hy : (dn y).length ≤ 100) : Calls Try.prog 19 #[.string (bs (dn x)), .string (bs (dn y))] w fun e w' => e = .returned (.string (bs (dn (Nat.gcd x y)))) ∧ Below w.heap.size w w' := by
  obtain ⟨SX, hSX⟩ : ∃ T, bs (dn x) = T := ⟨_, rfl⟩
  obtain ⟨SY, hSY⟩ : ∃ T, bs (dn y) = T := ⟨_, rfl⟩
  obtain ⟨g, hg⟩ : ∃ g, Nat.gcd x y = g := ⟨_, rfl⟩
  rw [hg]
  have H0 := Lib.hid (show SX = bs (dn x) ∧ SY = bs (dn y) ∧ Nat.gcd x y = g ∧ (dn x).length ≤ 100 ∧ (dn y).length ≤ 100 from ⟨hSX.symm, hSY.symm, hg, hx, hy⟩)
  rw [hSX, hSY]
  clear hSX hSY hx hy hg
  go_enter Try.func19, Try.ntmps19
  go_wp2_with fail
  go_loopw [0, 1] (fun p q wr => ∃ (X Y : Nat) (TX TY : ByteArray), p = .string TX ∧ q = .string TY ∧ Hid (TX = bs (dn X) ∧ TY = bs (dn Y) ∧ Nat.gcd X Y = g ∧ (dn X).length ≤ 100 ∧ (dn Y).length ≤ 100) ∧ Hid (Below w.heap.size w wr)) (fun _ q _ => strD q)
  case atStart => exact ⟨x, y, SX, SY, rfl, rfl, H0, Lib.hid (Below.refl _ _)⟩
  case round =>
    clear H0
    obtain ⟨X, Y, TX, TY, rfl, rfl, HI, HB⟩ := hrel
    have tY : Tx TY (dn Y) := by rw [HI.out.2.1]; exact tx_bs _
    by_cases hY : Y = 0
    · have f1 := tY.emp (decide_eq_true (dn_nil.2 hY))
      have HE := Lib.hid (show TX = bs (dn g) by rw [HI.out.1, ← HI.out.2.2.1, hY, Nat.gcd_zero_right])
      clear tY
      go_wp2
      go_ret
      exact ⟨by rw [← HE.out]; rfl, HB.out⟩
    · have f1 := tY.emp (decide_eq_false (fun e => hY (dn_nil.1 e)))
      have HD := rDiv3_any (dn X) Y wr (dn_all X) HI.out.2.2.2.1 (by omega) HI.out.2.2.2.2
      rw [dec_dn, ← HI.out.1, ← HI.out.2.1] at HD
      obtain ⟨T1, hT1⟩ : ∃ U, bs (dn (X / Y)) = U := ⟨_, rfl⟩
      obtain ⟨T2, hT2⟩ : ∃ U, bs (dn (X % Y)) = U := ⟨_, rfl⟩
      rw [hT1, hT2] at HD
      have HD := Lib.hid HD
      have hlt := Nat.mod_lt X (show Y > 0 by omega)
      have HI2 := Lib.hid (show TY = bs (dn Y) ∧ T2 = bs (dn (X % Y)) ∧ Nat.gcd Y (X % Y) = g ∧ (dn Y).length ≤ 100 ∧ (dn (X % Y)).length ≤ 100 from ⟨HI.out.2.1, hT2.symm, by rw [← HI.out.2.2.1, Nat.gcd_comm X Y, Nat.gcd_rec Y X, Nat.gcd_comm], HI.out.2.2.2.2, Nat.le_trans (dn_mono (Nat.le_of_lt hlt)) HI.out.2.2.2.2⟩)
      have HMs := Lib.hid (show strD (.string T2) < strD (.string TY) by rw [HI2.out.1, HI2.out.2.1, strD_bs, strD_bs, dec_dn, dec_dn]; exact hlt)
      clear tY hT1 hT2 hlt HI
      go_wp2_with fail
      refine HD.out.mono ?_
      rintro e w2 ⟨rfl, hb⟩
      have HB2 := Lib.hid (HB.out.trans (hb.mono HB.out.size))
      clear hb HB
      go_wp2
      go_roundw
      case rel => exact ⟨Y, X % Y, TY, T2, rfl, rfl, HI2, HB2⟩
      case measure => exact HMs.out
end Go.Proofs.Ytlndomnampcnfaa
