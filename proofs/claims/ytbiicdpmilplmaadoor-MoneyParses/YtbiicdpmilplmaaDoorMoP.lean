/- What Parse of package accountingref07 returns; the statement MoneyParses. -/
import Derived.Test.YtbiicdpmilplmaaDoorMoR
import Derived.Test.YtbiicdpmilplmaaDoorMoV
namespace Go.Proofs.YtbiicdpmilplmaaDoor
open Go.RowKit Go.Sort
set_option linter.unusedVariables false

/-- what the reference's Parse returns for a valid number of digits. -/
def PpIs (s : ByteArray) (d : Int) (e : Ending) : Prop :=
  (¬ rsF (restOf s) d ∧ e = .returned (.tuple #[.int .i64 0, .int .i64 5])) ∨ (rsF (restOf s) d ∧ isNeg s.toList = true ∧ rsV (restOf s) d = 0 ∧ e = .returned (.tuple #[.int .i64 0, .int .i64 5])) ∨
  (rsF (restOf s) d ∧ ¬ (isNeg s.toList = true ∧ rsV (restOf s) d = 0) ∧ ¬ sumO (rsV (restOf s) d) ∧ e = .returned (.tuple #[.int .i64 0, .int .i64 4])) ∨
  (rsF (restOf s) d ∧ ¬ (isNeg s.toList = true ∧ rsV (restOf s) d = 0) ∧ sumO (rsV (restOf s) d) ∧ e = .returned (.tuple #[.int .i64 (if isNeg s.toList = true then -(rsV (restOf s) d) else rsV (restOf s) d), .int .i64 0]))
theorem pv_tail {l : List UInt8} {neg : Bool} (h : notn l = true) (k : neg = false ∨ (l == [48]) = false) : parseD l neg (-1000000000000000) 1000000000000000 = if (dec l : Int) ≤ 1000000000000000 then (sgn neg (dec l), 0) else (0, 3) := by
  by_cases hd : (dec l : Int) ≤ 1000000000000000
  · rw [if_pos hd]
    refine parse_in h k ?_ ?_ ?_
    · apply fits_of <;> (unfold sgn; split <;> omega)
    · unfold sgn; split <;> omega
    · unfold sgn; split <;> omega
  · rw [if_neg hd]
    refine parse_out h k ?_
    unfold sgn; split <;> omega
theorem cap_sum {n : Nat} : sumO (capM n) ↔ (n : Int) ≤ 1000000000000000 := by
  unfold sumO capM; split <;> omega
theorem cap_is {n : Nat} (h : (n : Int) ≤ 1000000000000000) : capM n = n := by unfold capM; rw [if_pos h]
theorem cap_0 {n : Nat} : capM n = 0 ↔ n = 0 := by unfold capM; split <;> omega
set_option maxHeartbeats 4000000 in
theorem rp_p0 (s : ByteArray) (w : World) (hs : s.size ≤ 400) (hn : isNeg s.toList = false) (hz : 0 < s.size) :
    Calls Tryd.prog 23 #[.string s, .int .i64 0] w fun e w' => PpIs s 0 e ∧ Below w.heap.size w w' := by
  have b1 : ((s[0].toNat : Int) == 45) = false := by
    rw [isNeg_head hz] at hn
    simp
    intro h
    rw [(byte45 (c := s[0])).1 (by exact_mod_cast h)] at hn
    simp at hn
  have e1 : (!s.toList.isEmpty) = true := by
    have : s.toList ≠ [] := by intro k; have := bytes_len s; rw [k] at this; simp at this; omega
    simpa using this
  have e2 : ¬ s.toList = [] := by intro k; have := bytes_len s; rw [k] at this; simp at this; omega
  have HNG := Lib.hid hn
  have HR := Lib.hid (restOf_no hn)
  have hzi : (1 : Int) ≤ (s.size : Int) := by omega
  clear hn
  have H1 := Lib.hid (fun w => rDigits_any s w (by unfold maxLen; omega))
  cases hd : digs s.toList
  · have HN := Lib.hid (show ¬ rsF (restOf s) 0 by rw [HR.out]; exact rs_0_no (fun k => by rw [hd] at k; cases k.1))
    rw [hd] at H1
    clear hd
    go_enter Tryd.func23, Tryd.ntmps23
    go_wp2_with fail
    refine (H1.out _).mono ?_
    rintro e w_ ⟨rfl, rfl⟩
    go_wp2
    go_ret2
    exact ⟨.inl ⟨HN.out, rfl⟩, Below.refl _ _⟩
  · rw [hd] at H1
    have hR0 : 0 < s.size := by have := (digs_both hd).2; rw [bytes_len] at this; exact this
    have hRi : (0 : Int) < (s.size : Int) := by omega
    by_cases hx : 1 < s.size ∧ s[0] = 48
    · have HN := Lib.hid (show ¬ rsF (restOf s) 0 by rw [HR.out]; exact rs_0_no (fun k => k.2 ⟨hx.1, by rw [bytes_head hR0, hx.2]⟩))
      obtain ⟨hx1, hx2⟩ := hx
      have hx3 : (1 : Int) < (s.size : Int) := by omega
      have hx4 : ((s[0].toNat : Int) == 48) = true := by rw [hx2]; rfl
      have hx5 : (s[0].toNat : Int) = 48 := by rw [hx2]; rfl
      clear hx2 hd
      go_enter Tryd.func23, Tryd.ntmps23
      go_wp2_with fail
      refine (H1.out _).mono ?_
      rintro e w_ ⟨rfl, rfl⟩
      go_wp2
      go_ret2
      exact ⟨.inl ⟨HN.out, rfl⟩, Below.refl _ _⟩
    · have HRV := Lib.hid (show rsF (restOf s) 0 ∧ rsV (restOf s) 0 = capM (dec s.toList) by rw [HR.out]; exact rs_0 hd (fun k => hx ⟨k.1, by have := k.2; rw [bytes_head hR0] at this; exact Option.some.inj this⟩))
      obtain ⟨D, hD⟩ : ∃ D, dec s.toList = D := ⟨_, rfl⟩
      rw [hD] at HRV
      have HA1 := Lib.hid (show 0 < s.size ∧ s.size ≤ 400 ∧ s.toList.all dig = true ∧ dec s.toList = D from ⟨hR0, by omega, (digs_both hd).1, hD⟩)
      have HX0 := Lib.hid (show ¬ (1 : Int) < (s.size : Int) ∨ ((1 : Int) < (s.size : Int) ∧ ((s[0].toNat : Int) == 48) = false) from by
        by_cases c : 1 < s.size
        · right; refine ⟨by omega, ?_⟩; simp; exact fun k => hx ⟨c, byte48.1 (by exact_mod_cast k)⟩
        · left; omega)
      clear hx hd hD
      rcases HX0.out with hx1 | ⟨hx1, hx2⟩
      · clear HX0
        go_enter Tryd.func23, Tryd.ntmps23
        go_wp2_with fail
        refine (H1.out _).mono ?_
        rintro e w_ ⟨rfl, rfl⟩
        go_wp2
        go_loop [10] (fun v => ∃ X : ByteArray, v = .string X ∧ 0 < X.size ∧ X.size ≤ 400 ∧ Hid (X.toList.all dig = true) ∧ Hid (dec X.toList = D)) (fun v => szOf v)
        case atStart => exact ⟨s, by first | rfl | rw [app_nil], HA1.out.1, HA1.out.2.1, Lib.hid HA1.out.2.2.1, Lib.hid HA1.out.2.2.2⟩
        case round =>
          obtain ⟨X, rfl, x1, x2, HXa, HXd⟩ := hrel
          have xi : (0 : Int) < (X.size : Int) := by omega
          by_cases hx : 1 < X.size ∧ X[0] = 48
          · obtain ⟨hx1, hx2⟩ := hx
            have hx3 : (1 : Int) < (X.size : Int) := by omega
            have hx4 : ((X[0].toNat : Int) == 48) = true := by rw [hx2]; rfl
            have hx5 : (X[0].toNat : Int) = 48 := by rw [hx2]; rfl
            have HS := Lib.hid (strip_step hx1 hx2 HXa.out)
            clear hx2
            go_wp2
            go_round
            case rel => exact ⟨_, rfl, by rw [HS.out.2.2]; omega, by rw [HS.out.2.2]; omega, Lib.hid HS.out.1, Lib.hid (by rw [HS.out.2.1]; exact HXd.out)⟩
            case measure => simp only [szOf]; rw [HS.out.2.2]; omega
          · have HE := Lib.hid (strip_end x1 HXa.out hx)
            have HX0 := Lib.hid (show ¬ (1 : Int) < (X.size : Int) ∨ ((1 : Int) < (X.size : Int) ∧ ((X[0].toNat : Int) == 48) = false) from by
              by_cases c : 1 < X.size
              · right; refine ⟨by omega, ?_⟩; simp; exact fun k => hx ⟨c, byte48.1 (by exact_mod_cast k)⟩
              · left; omega)
            clear hx
            rcases HX0.out with hx1 | ⟨hx1, hx2⟩
            · clear HX0
              have HZ := Lib.hid (show ¬ (isNeg s.toList = true ∧ rsV (restOf s) 0 = 0) from fun k => by have := k.1; rw [HNG.out] at this; cases this)
              have HPV := Lib.hid (show parseV X (-1000000000000000) 1000000000000000 = if (D : Int) ≤ 1000000000000000 then ((D : Int), 0) else (0, 3) by
                unfold parseV; rw [HE.out.2.2, restOf_no HE.out.2.2, pv_tail HE.out.1 (.inl rfl), HXd.out]; rfl)
              have HP := Lib.hid (fun w => rParse_any X (-1000000000000000) 1000000000000000 w (by unfold maxLen; omega))
              rw [HPV.out] at HP
              by_cases hle : (D : Int) ≤ 1000000000000000
              · rw [if_pos hle] at HP
                have HV := Lib.hid (show rsV (restOf s) 0 = (D : Int) by rw [HRV.out.2]; exact cap_is hle)
                have HSu := Lib.hid (show sumO (rsV (restOf s) 0) by rw [HRV.out.2]; exact cap_sum.2 hle)
                go_wp2_with fail
                refine (HP.out _).mono ?_
                rintro e w_ ⟨rfl, rfl⟩
                go_wp2
                go_ret2
                exact ⟨.inr (.inr (.inr ⟨HRV.out.1, HZ.out, HSu.out, by rw [HNG.out, HV.out]; rfl⟩)), Below.refl _ _⟩
              · rw [if_neg hle] at HP
                have HSu := Lib.hid (show ¬ sumO (rsV (restOf s) 0) by rw [HRV.out.2]; exact fun k => hle (cap_sum.1 k))
                go_wp2_with fail
                refine (HP.out _).mono ?_
                rintro e w_ ⟨rfl, rfl⟩
                go_wp2
                go_ret2
                exact ⟨.inr (.inr (.inl ⟨HRV.out.1, HZ.out, HSu.out, rfl⟩)), Below.refl _ _⟩
            · clear HX0
              have HZ := Lib.hid (show ¬ (isNeg s.toList = true ∧ rsV (restOf s) 0 = 0) from fun k => by have := k.1; rw [HNG.out] at this; cases this)
              have HPV := Lib.hid (show parseV X (-1000000000000000) 1000000000000000 = if (D : Int) ≤ 1000000000000000 then ((D : Int), 0) else (0, 3) by
                unfold parseV; rw [HE.out.2.2, restOf_no HE.out.2.2, pv_tail HE.out.1 (.inl rfl), HXd.out]; rfl)
              have HP := Lib.hid (fun w => rParse_any X (-1000000000000000) 1000000000000000 w (by unfold maxLen; omega))
              rw [HPV.out] at HP
              by_cases hle : (D : Int) ≤ 1000000000000000
              · rw [if_pos hle] at HP
                have HV := Lib.hid (show rsV (restOf s) 0 = (D : Int) by rw [HRV.out.2]; exact cap_is hle)
                have HSu := Lib.hid (show sumO (rsV (restOf s) 0) by rw [HRV.out.2]; exact cap_sum.2 hle)
                go_wp2_with fail
                refine (HP.out _).mono ?_
                rintro e w_ ⟨rfl, rfl⟩
                go_wp2
                go_ret2
                exact ⟨.inr (.inr (.inr ⟨HRV.out.1, HZ.out, HSu.out, by rw [HNG.out, HV.out]; rfl⟩)), Below.refl _ _⟩
              · rw [if_neg hle] at HP
                have HSu := Lib.hid (show ¬ sumO (rsV (restOf s) 0) by rw [HRV.out.2]; exact fun k => hle (cap_sum.1 k))
                go_wp2_with fail
                refine (HP.out _).mono ?_
                rintro e w_ ⟨rfl, rfl⟩
                go_wp2
                go_ret2
                exact ⟨.inr (.inr (.inl ⟨HRV.out.1, HZ.out, HSu.out, rfl⟩)), Below.refl _ _⟩
      · clear HX0
        go_enter Tryd.func23, Tryd.ntmps23
        go_wp2_with fail
        refine (H1.out _).mono ?_
        rintro e w_ ⟨rfl, rfl⟩
        go_wp2
        go_loop [10] (fun v => ∃ X : ByteArray, v = .string X ∧ 0 < X.size ∧ X.size ≤ 400 ∧ Hid (X.toList.all dig = true) ∧ Hid (dec X.toList = D)) (fun v => szOf v)
        case atStart => exact ⟨s, by first | rfl | rw [app_nil], HA1.out.1, HA1.out.2.1, Lib.hid HA1.out.2.2.1, Lib.hid HA1.out.2.2.2⟩
        case round =>
          obtain ⟨X, rfl, x1, x2, HXa, HXd⟩ := hrel
          have xi : (0 : Int) < (X.size : Int) := by omega
          by_cases hx : 1 < X.size ∧ X[0] = 48
          · obtain ⟨hx1, hx2⟩ := hx
            have hx3 : (1 : Int) < (X.size : Int) := by omega
            have hx4 : ((X[0].toNat : Int) == 48) = true := by rw [hx2]; rfl
            have hx5 : (X[0].toNat : Int) = 48 := by rw [hx2]; rfl
            have HS := Lib.hid (strip_step hx1 hx2 HXa.out)
            clear hx2
            go_wp2
            go_round
            case rel => exact ⟨_, rfl, by rw [HS.out.2.2]; omega, by rw [HS.out.2.2]; omega, Lib.hid HS.out.1, Lib.hid (by rw [HS.out.2.1]; exact HXd.out)⟩
            case measure => simp only [szOf]; rw [HS.out.2.2]; omega
          · have HE := Lib.hid (strip_end x1 HXa.out hx)
            have HX0 := Lib.hid (show ¬ (1 : Int) < (X.size : Int) ∨ ((1 : Int) < (X.size : Int) ∧ ((X[0].toNat : Int) == 48) = false) from by
              by_cases c : 1 < X.size
              · right; refine ⟨by omega, ?_⟩; simp; exact fun k => hx ⟨c, byte48.1 (by exact_mod_cast k)⟩
              · left; omega)
            clear hx
            rcases HX0.out with hx1 | ⟨hx1, hx2⟩
            · clear HX0
              have HZ := Lib.hid (show ¬ (isNeg s.toList = true ∧ rsV (restOf s) 0 = 0) from fun k => by have := k.1; rw [HNG.out] at this; cases this)
              have HPV := Lib.hid (show parseV X (-1000000000000000) 1000000000000000 = if (D : Int) ≤ 1000000000000000 then ((D : Int), 0) else (0, 3) by
                unfold parseV; rw [HE.out.2.2, restOf_no HE.out.2.2, pv_tail HE.out.1 (.inl rfl), HXd.out]; rfl)
              have HP := Lib.hid (fun w => rParse_any X (-1000000000000000) 1000000000000000 w (by unfold maxLen; omega))
              rw [HPV.out] at HP
              by_cases hle : (D : Int) ≤ 1000000000000000
              · rw [if_pos hle] at HP
                have HV := Lib.hid (show rsV (restOf s) 0 = (D : Int) by rw [HRV.out.2]; exact cap_is hle)
                have HSu := Lib.hid (show sumO (rsV (restOf s) 0) by rw [HRV.out.2]; exact cap_sum.2 hle)
                go_wp2_with fail
                refine (HP.out _).mono ?_
                rintro e w_ ⟨rfl, rfl⟩
                go_wp2
                go_ret2
                exact ⟨.inr (.inr (.inr ⟨HRV.out.1, HZ.out, HSu.out, by rw [HNG.out, HV.out]; rfl⟩)), Below.refl _ _⟩
              · rw [if_neg hle] at HP
                have HSu := Lib.hid (show ¬ sumO (rsV (restOf s) 0) by rw [HRV.out.2]; exact fun k => hle (cap_sum.1 k))
                go_wp2_with fail
                refine (HP.out _).mono ?_
                rintro e w_ ⟨rfl, rfl⟩
                go_wp2
                go_ret2
                exact ⟨.inr (.inr (.inl ⟨HRV.out.1, HZ.out, HSu.out, rfl⟩)), Below.refl _ _⟩
            · clear HX0
              have HZ := Lib.hid (show ¬ (isNeg s.toList = true ∧ rsV (restOf s) 0 = 0) from fun k => by have := k.1; rw [HNG.out] at this; cases this)
              have HPV := Lib.hid (show parseV X (-1000000000000000) 1000000000000000 = if (D : Int) ≤ 1000000000000000 then ((D : Int), 0) else (0, 3) by
                unfold parseV; rw [HE.out.2.2, restOf_no HE.out.2.2, pv_tail HE.out.1 (.inl rfl), HXd.out]; rfl)
              have HP := Lib.hid (fun w => rParse_any X (-1000000000000000) 1000000000000000 w (by unfold maxLen; omega))
              rw [HPV.out] at HP
              by_cases hle : (D : Int) ≤ 1000000000000000
              · rw [if_pos hle] at HP
                have HV := Lib.hid (show rsV (restOf s) 0 = (D : Int) by rw [HRV.out.2]; exact cap_is hle)
                have HSu := Lib.hid (show sumO (rsV (restOf s) 0) by rw [HRV.out.2]; exact cap_sum.2 hle)
                go_wp2_with fail
                refine (HP.out _).mono ?_
                rintro e w_ ⟨rfl, rfl⟩
                go_wp2
                go_ret2
                exact ⟨.inr (.inr (.inr ⟨HRV.out.1, HZ.out, HSu.out, by rw [HNG.out, HV.out]; rfl⟩)), Below.refl _ _⟩
              · rw [if_neg hle] at HP
                have HSu := Lib.hid (show ¬ sumO (rsV (restOf s) 0) by rw [HRV.out.2]; exact fun k => hle (cap_sum.1 k))
                go_wp2_with fail
                refine (HP.out _).mono ?_
                rintro e w_ ⟨rfl, rfl⟩
                go_wp2
                go_ret2
                exact ⟨.inr (.inr (.inl ⟨HRV.out.1, HZ.out, HSu.out, rfl⟩)), Below.refl _ _⟩
set_option maxHeartbeats 4000000 in
theorem rp_pd (s : ByteArray) (d : Int) (w : World) (hs : s.size ≤ 400) (d1 : 0 < d) (d2 : d ≤ 4) (hn : isNeg s.toList = false) (hz : 0 < s.size) :
    Calls Tryd.prog 23 #[.string s, .int .i64 d] w fun e w' => PpIs s d e ∧ Below w.heap.size w w' := by
  have b1 : ((s[0].toNat : Int) == 45) = false := by
    rw [isNeg_head hz] at hn
    simp
    intro h
    rw [(byte45 (c := s[0])).1 (by exact_mod_cast h)] at hn
    simp at hn
  have e1 : (!s.toList.isEmpty) = true := by
    have : s.toList ≠ [] := by intro k; have := bytes_len s; rw [k] at this; simp at this; omega
    simpa using this
  have e2 : ¬ s.toList = [] := by intro k; have := bytes_len s; rw [k] at this; simp at this; omega
  have HNG := Lib.hid hn
  have HR := Lib.hid (restOf_no hn)
  have hzi : (1 : Int) ≤ (s.size : Int) := by omega
  clear hn
  by_cases hw : (s.size : Int) - d - 1 < 1
  · have HN := Lib.hid (show ¬ rsF (restOf s) d by rw [HR.out]; intro k; have := k.1; unfold whI at this; rw [if_pos d1] at this; omega)
    go_enter Tryd.func23, Tryd.ntmps23
    go_wp2
    go_ret2
    exact ⟨.inl ⟨HN.out, rfl⟩, Below.refl _ _⟩
  obtain ⟨W, hW⟩ : ∃ W : Nat, (s.size : Int) - d - 1 = (W : Int) := ⟨((s.size : Int) - d - 1).toNat, by omega⟩
  have w1 : 1 ≤ W := by omega
  have w2 : W < s.size := by omega
  have w3 : (W : Int) < (s.size : Int) := by omega
  have w4 : ¬ (W : Int) < 1 := by omega
  clear hw
  by_cases h4 : s[W] = 46
  · have q4 : ((s[W].toNat : Int) != 46) = false := by rw [h4]; rfl
    obtain ⟨FW, hF⟩ : ∃ FW, s.extract 0 W = FW := ⟨_, rfl⟩
    obtain ⟨PW, hP⟩ : ∃ PW, s.extract (W + 1) s.size = PW := ⟨_, rfl⟩
    have zF : FW.size = W := by rw [← hF, ByteArray.size_extract]; omega
    have zP : PW.size = d.toNat := by rw [← hP, ByteArray.size_extract]; omega
    have f0 : FW[0]'(by omega) = s[0]'(by omega) := by subst hF; exact ext_head (by omega) (by omega) (by omega) (by omega)
    have H1 := Lib.hid (fun w => rDigits_any FW w (by unfold maxLen; omega))
    have H2 := Lib.hid (fun w => rDigits_any PW w (by unfold maxLen; omega))
    have HNO := Lib.hid (show ¬ (digs FW.toList = true ∧ ¬ (1 < W ∧ FW[0]'(by omega) = 48) ∧ digs PW.toList = true) → ¬ rsF (restOf s) d from fun k => by
      rw [HR.out]; subst hF; subst hP
      exact rs_cut_no d1 hW w1 (fun x => k ⟨x.2.1, by rw [f0]; exact x.2.2.1, x.2.2.2⟩))
    have HYES := Lib.hid (show digs FW.toList = true → ¬ (1 < W ∧ FW[0]'(by omega) = 48) → digs PW.toList = true → rsF (restOf s) d ∧ rsV (restOf s) d = capM (dec (FW ++ PW).toList) from fun k1 k2 k3 => by
      rw [HR.out]; subst hF; subst hP
      exact rs_cut d1 hW w1 h4 k1 (by rw [← f0]; exact k2) k3)
    have zFi : (0 : Int) < (FW.size : Int) := by omega
    clear f0 h4
    cases hd : digs FW.toList
    · have HN := Lib.hid (HNO.out (fun k => by rw [hd] at k; cases k.1))
      rw [hd] at H1
      clear hd HNO HYES
      go_enter Tryd.func23, Tryd.ntmps23
      go_wp2_with fail
      refine wp_region_quiet_below (l := _) (by kernel_rfl) (by kernel_rfl) ?_
      repeat (first | go_big_quiet_step (fail))
      refine wpQuiet_nil ?_
      intro w2 hw'
      obtain ⟨⟨dq2, osq2⟩, hw''⟩ := hw'
      have hb2 := below_regrown w dq2 osq2
      rw [← hw''] at hb2
      clear hw''
      go_wp2_with fail
      refine (H1.out _).mono ?_
      rintro e w_ ⟨rfl, rfl⟩
      go_wp2
      go_ret2
      exact ⟨.inl ⟨HN.out, rfl⟩, hb2⟩
    · rw [hd] at H1
      by_cases hx : 1 < W ∧ FW[0]'(by omega) = 48
      · have HN := Lib.hid (HNO.out (fun k => k.2.1 hx))
        obtain ⟨hx1, hx2⟩ := hx
        have hx3 : (1 : Int) < (FW.size : Int) := by omega
        have hx4 : (((FW[0]'(by omega)).toNat : Int) == 48) = true := by rw [hx2]; rfl
        have hx5 : ((FW[0]'(by omega)).toNat : Int) = 48 := by rw [hx2]; rfl
        clear hx2 hd HNO HYES
        go_enter Tryd.func23, Tryd.ntmps23
        go_wp2_with fail
        refine wp_region_quiet_below (l := _) (by kernel_rfl) (by kernel_rfl) ?_
        repeat (first | go_big_quiet_step (fail))
        refine wpQuiet_nil ?_
        intro w2 hw'
        obtain ⟨⟨dq2, osq2⟩, hw''⟩ := hw'
        have hb2 := below_regrown w dq2 osq2
        rw [← hw''] at hb2
        clear hw''
        go_wp2_with fail
        refine (H1.out _).mono ?_
        rintro e w_ ⟨rfl, rfl⟩
        go_wp2
        go_ret2
        exact ⟨.inl ⟨HN.out, rfl⟩, hb2⟩
      · have HX0 := Lib.hid (show ¬ (1 : Int) < (FW.size : Int) ∨ ((1 : Int) < (FW.size : Int) ∧ (((FW[0]'(by omega)).toNat : Int) == 48) = false) from by
          by_cases c : 1 < W
          · right; refine ⟨by omega, ?_⟩; simp; exact fun k => hx ⟨c, byte48.1 (by exact_mod_cast k)⟩
          · left; omega)
        cases hd2 : digs PW.toList
        · have HN := Lib.hid (HNO.out (fun k => by have := k.2.2; rw [hd2] at this; cases this))
          rw [hd2] at H2
          clear hd hd2 HNO HYES hx
          rcases HX0.out with hx1 | ⟨hx1, hx2⟩
          · clear HX0
            go_enter Tryd.func23, Tryd.ntmps23
            go_wp2_with fail
            refine wp_region_quiet_below (l := _) (by kernel_rfl) (by kernel_rfl) ?_
            repeat (first | go_big_quiet_step (fail))
            refine wpQuiet_nil ?_
            intro w2 hw'
            obtain ⟨⟨dq2, osq2⟩, hw''⟩ := hw'
            have hb2 := below_regrown w dq2 osq2
            rw [← hw''] at hb2
            clear hw''
            go_wp2_with fail
            refine (H1.out _).mono ?_
            rintro e w_ ⟨rfl, rfl⟩
            go_wp2_with fail
            refine (H2.out _).mono ?_
            rintro e w_ ⟨rfl, rfl⟩
            go_wp2
            go_ret2
            exact ⟨.inl ⟨HN.out, rfl⟩, hb2⟩
          · clear HX0
            go_enter Tryd.func23, Tryd.ntmps23
            go_wp2_with fail
            refine wp_region_quiet_below (l := _) (by kernel_rfl) (by kernel_rfl) ?_
            repeat (first | go_big_quiet_step (fail))
            refine wpQuiet_nil ?_
            intro w2 hw'
            obtain ⟨⟨dq2, osq2⟩, hw''⟩ := hw'
            have hb2 := below_regrown w dq2 osq2
            rw [← hw''] at hb2
            clear hw''
            go_wp2_with fail
            refine (H1.out _).mono ?_
            rintro e w_ ⟨rfl, rfl⟩
            go_wp2_with fail
            refine (H2.out _).mono ?_
            rintro e w_ ⟨rfl, rfl⟩
            go_wp2
            go_ret2
            exact ⟨.inl ⟨HN.out, rfl⟩, hb2⟩
        · rw [hd2] at H2
          have HRV := Lib.hid (HYES.out hd hx hd2)
          obtain ⟨D, hD⟩ : ∃ D, dec (FW ++ PW).toList = D := ⟨_, rfl⟩
          rw [hD] at HRV
          have HA1 := Lib.hid (show 0 < (FW ++ PW).size ∧ (FW ++ PW).size ≤ 400 ∧ (FW ++ PW).toList.all dig = true ∧ dec (FW ++ PW).toList = D from ⟨by rw [ByteArray.size_append]; omega, by rw [ByteArray.size_append]; omega, by rw [app_list2, List.all_append, (digs_both hd).1, (digs_both hd2).1]; rfl, hD⟩)
          have zs : ¬ 9223372036854775807 < FW.size + PW.size := by omega
          clear hd hd2 HNO HYES hx hD
          rcases HX0.out with hx1 | ⟨hx1, hx2⟩
          · clear HX0
            go_enter Tryd.func23, Tryd.ntmps23
            go_wp2_with fail
            refine wp_region_quiet_below (l := _) (by kernel_rfl) (by kernel_rfl) ?_
            repeat (first | go_big_quiet_step (fail))
            refine wpQuiet_nil ?_
            intro w2 hw'
            obtain ⟨⟨dq2, osq2⟩, hw''⟩ := hw'
            have hb2 := below_regrown w dq2 osq2
            rw [← hw''] at hb2
            clear hw''
            go_wp2_with fail
            refine (H1.out _).mono ?_
            rintro e w_ ⟨rfl, rfl⟩
            go_wp2_with fail
            refine (H2.out _).mono ?_
            rintro e w_ ⟨rfl, rfl⟩
            go_wp2
            go_loop [10] (fun v => ∃ X : ByteArray, v = .string X ∧ 0 < X.size ∧ X.size ≤ 400 ∧ Hid (X.toList.all dig = true) ∧ Hid (dec X.toList = D)) (fun v => szOf v)
            case atStart => exact ⟨FW ++ PW, by first | rfl | rw [app_nil], HA1.out.1, HA1.out.2.1, Lib.hid HA1.out.2.2.1, Lib.hid HA1.out.2.2.2⟩
            case round =>
              obtain ⟨X, rfl, x1, x2, HXa, HXd⟩ := hrel
              have xi : (0 : Int) < (X.size : Int) := by omega
              by_cases hx : 1 < X.size ∧ X[0] = 48
              · obtain ⟨hx1, hx2⟩ := hx
                have hx3 : (1 : Int) < (X.size : Int) := by omega
                have hx4 : ((X[0].toNat : Int) == 48) = true := by rw [hx2]; rfl
                have hx5 : (X[0].toNat : Int) = 48 := by rw [hx2]; rfl
                have HS := Lib.hid (strip_step hx1 hx2 HXa.out)
                clear hx2
                go_wp2
                go_round
                case rel => exact ⟨_, rfl, by rw [HS.out.2.2]; omega, by rw [HS.out.2.2]; omega, Lib.hid HS.out.1, Lib.hid (by rw [HS.out.2.1]; exact HXd.out)⟩
                case measure => simp only [szOf]; rw [HS.out.2.2]; omega
              · have HE := Lib.hid (strip_end x1 HXa.out hx)
                have HX0 := Lib.hid (show ¬ (1 : Int) < (X.size : Int) ∨ ((1 : Int) < (X.size : Int) ∧ ((X[0].toNat : Int) == 48) = false) from by
                  by_cases c : 1 < X.size
                  · right; refine ⟨by omega, ?_⟩; simp; exact fun k => hx ⟨c, byte48.1 (by exact_mod_cast k)⟩
                  · left; omega)
                clear hx
                rcases HX0.out with hx1 | ⟨hx1, hx2⟩
                · clear HX0
                  have HZ := Lib.hid (show ¬ (isNeg s.toList = true ∧ rsV (restOf s) d = 0) from fun k => by have := k.1; rw [HNG.out] at this; cases this)
                  have HPV := Lib.hid (show parseV X (-1000000000000000) 1000000000000000 = if (D : Int) ≤ 1000000000000000 then ((D : Int), 0) else (0, 3) by
                    unfold parseV; rw [HE.out.2.2, restOf_no HE.out.2.2, pv_tail HE.out.1 (.inl rfl), HXd.out]; rfl)
                  have HP := Lib.hid (fun w => rParse_any X (-1000000000000000) 1000000000000000 w (by unfold maxLen; omega))
                  rw [HPV.out] at HP
                  by_cases hle : (D : Int) ≤ 1000000000000000
                  · rw [if_pos hle] at HP
                    have HV := Lib.hid (show rsV (restOf s) d = (D : Int) by rw [HRV.out.2]; exact cap_is hle)
                    have HSu := Lib.hid (show sumO (rsV (restOf s) d) by rw [HRV.out.2]; exact cap_sum.2 hle)
                    go_wp2_with fail
                    refine (HP.out _).mono ?_
                    rintro e w_ ⟨rfl, rfl⟩
                    go_wp2
                    go_ret2
                    exact ⟨.inr (.inr (.inr ⟨HRV.out.1, HZ.out, HSu.out, by rw [HNG.out, HV.out]; rfl⟩)), hb2⟩
                  · rw [if_neg hle] at HP
                    have HSu := Lib.hid (show ¬ sumO (rsV (restOf s) d) by rw [HRV.out.2]; exact fun k => hle (cap_sum.1 k))
                    go_wp2_with fail
                    refine (HP.out _).mono ?_
                    rintro e w_ ⟨rfl, rfl⟩
                    go_wp2
                    go_ret2
                    exact ⟨.inr (.inr (.inl ⟨HRV.out.1, HZ.out, HSu.out, rfl⟩)), hb2⟩
                · clear HX0
                  have HZ := Lib.hid (show ¬ (isNeg s.toList = true ∧ rsV (restOf s) d = 0) from fun k => by have := k.1; rw [HNG.out] at this; cases this)
                  have HPV := Lib.hid (show parseV X (-1000000000000000) 1000000000000000 = if (D : Int) ≤ 1000000000000000 then ((D : Int), 0) else (0, 3) by
                    unfold parseV; rw [HE.out.2.2, restOf_no HE.out.2.2, pv_tail HE.out.1 (.inl rfl), HXd.out]; rfl)
                  have HP := Lib.hid (fun w => rParse_any X (-1000000000000000) 1000000000000000 w (by unfold maxLen; omega))
                  rw [HPV.out] at HP
                  by_cases hle : (D : Int) ≤ 1000000000000000
                  · rw [if_pos hle] at HP
                    have HV := Lib.hid (show rsV (restOf s) d = (D : Int) by rw [HRV.out.2]; exact cap_is hle)
                    have HSu := Lib.hid (show sumO (rsV (restOf s) d) by rw [HRV.out.2]; exact cap_sum.2 hle)
                    go_wp2_with fail
                    refine (HP.out _).mono ?_
                    rintro e w_ ⟨rfl, rfl⟩
                    go_wp2
                    go_ret2
                    exact ⟨.inr (.inr (.inr ⟨HRV.out.1, HZ.out, HSu.out, by rw [HNG.out, HV.out]; rfl⟩)), hb2⟩
                  · rw [if_neg hle] at HP
                    have HSu := Lib.hid (show ¬ sumO (rsV (restOf s) d) by rw [HRV.out.2]; exact fun k => hle (cap_sum.1 k))
                    go_wp2_with fail
                    refine (HP.out _).mono ?_
                    rintro e w_ ⟨rfl, rfl⟩
                    go_wp2
                    go_ret2
                    exact ⟨.inr (.inr (.inl ⟨HRV.out.1, HZ.out, HSu.out, rfl⟩)), hb2⟩
          · clear HX0
            go_enter Tryd.func23, Tryd.ntmps23
            go_wp2_with fail
            refine wp_region_quiet_below (l := _) (by kernel_rfl) (by kernel_rfl) ?_
            repeat (first | go_big_quiet_step (fail))
            refine wpQuiet_nil ?_
            intro w2 hw'
            obtain ⟨⟨dq2, osq2⟩, hw''⟩ := hw'
            have hb2 := below_regrown w dq2 osq2
            rw [← hw''] at hb2
            clear hw''
            go_wp2_with fail
            refine (H1.out _).mono ?_
            rintro e w_ ⟨rfl, rfl⟩
            go_wp2_with fail
            refine (H2.out _).mono ?_
            rintro e w_ ⟨rfl, rfl⟩
            go_wp2
            go_loop [10] (fun v => ∃ X : ByteArray, v = .string X ∧ 0 < X.size ∧ X.size ≤ 400 ∧ Hid (X.toList.all dig = true) ∧ Hid (dec X.toList = D)) (fun v => szOf v)
            case atStart => exact ⟨FW ++ PW, by first | rfl | rw [app_nil], HA1.out.1, HA1.out.2.1, Lib.hid HA1.out.2.2.1, Lib.hid HA1.out.2.2.2⟩
            case round =>
              obtain ⟨X, rfl, x1, x2, HXa, HXd⟩ := hrel
              have xi : (0 : Int) < (X.size : Int) := by omega
              by_cases hx : 1 < X.size ∧ X[0] = 48
              · obtain ⟨hx1, hx2⟩ := hx
                have hx3 : (1 : Int) < (X.size : Int) := by omega
                have hx4 : ((X[0].toNat : Int) == 48) = true := by rw [hx2]; rfl
                have hx5 : (X[0].toNat : Int) = 48 := by rw [hx2]; rfl
                have HS := Lib.hid (strip_step hx1 hx2 HXa.out)
                clear hx2
                go_wp2
                go_round
                case rel => exact ⟨_, rfl, by rw [HS.out.2.2]; omega, by rw [HS.out.2.2]; omega, Lib.hid HS.out.1, Lib.hid (by rw [HS.out.2.1]; exact HXd.out)⟩
                case measure => simp only [szOf]; rw [HS.out.2.2]; omega
              · have HE := Lib.hid (strip_end x1 HXa.out hx)
                have HX0 := Lib.hid (show ¬ (1 : Int) < (X.size : Int) ∨ ((1 : Int) < (X.size : Int) ∧ ((X[0].toNat : Int) == 48) = false) from by
                  by_cases c : 1 < X.size
                  · right; refine ⟨by omega, ?_⟩; simp; exact fun k => hx ⟨c, byte48.1 (by exact_mod_cast k)⟩
                  · left; omega)
                clear hx
                rcases HX0.out with hx1 | ⟨hx1, hx2⟩
                · clear HX0
                  have HZ := Lib.hid (show ¬ (isNeg s.toList = true ∧ rsV (restOf s) d = 0) from fun k => by have := k.1; rw [HNG.out] at this; cases this)
                  have HPV := Lib.hid (show parseV X (-1000000000000000) 1000000000000000 = if (D : Int) ≤ 1000000000000000 then ((D : Int), 0) else (0, 3) by
                    unfold parseV; rw [HE.out.2.2, restOf_no HE.out.2.2, pv_tail HE.out.1 (.inl rfl), HXd.out]; rfl)
                  have HP := Lib.hid (fun w => rParse_any X (-1000000000000000) 1000000000000000 w (by unfold maxLen; omega))
                  rw [HPV.out] at HP
                  by_cases hle : (D : Int) ≤ 1000000000000000
                  · rw [if_pos hle] at HP
                    have HV := Lib.hid (show rsV (restOf s) d = (D : Int) by rw [HRV.out.2]; exact cap_is hle)
                    have HSu := Lib.hid (show sumO (rsV (restOf s) d) by rw [HRV.out.2]; exact cap_sum.2 hle)
                    go_wp2_with fail
                    refine (HP.out _).mono ?_
                    rintro e w_ ⟨rfl, rfl⟩
                    go_wp2
                    go_ret2
                    exact ⟨.inr (.inr (.inr ⟨HRV.out.1, HZ.out, HSu.out, by rw [HNG.out, HV.out]; rfl⟩)), hb2⟩
                  · rw [if_neg hle] at HP
                    have HSu := Lib.hid (show ¬ sumO (rsV (restOf s) d) by rw [HRV.out.2]; exact fun k => hle (cap_sum.1 k))
                    go_wp2_with fail
                    refine (HP.out _).mono ?_
                    rintro e w_ ⟨rfl, rfl⟩
                    go_wp2
                    go_ret2
                    exact ⟨.inr (.inr (.inl ⟨HRV.out.1, HZ.out, HSu.out, rfl⟩)), hb2⟩
                · clear HX0
                  have HZ := Lib.hid (show ¬ (isNeg s.toList = true ∧ rsV (restOf s) d = 0) from fun k => by have := k.1; rw [HNG.out] at this; cases this)
                  have HPV := Lib.hid (show parseV X (-1000000000000000) 1000000000000000 = if (D : Int) ≤ 1000000000000000 then ((D : Int), 0) else (0, 3) by
                    unfold parseV; rw [HE.out.2.2, restOf_no HE.out.2.2, pv_tail HE.out.1 (.inl rfl), HXd.out]; rfl)
                  have HP := Lib.hid (fun w => rParse_any X (-1000000000000000) 1000000000000000 w (by unfold maxLen; omega))
                  rw [HPV.out] at HP
                  by_cases hle : (D : Int) ≤ 1000000000000000
                  · rw [if_pos hle] at HP
                    have HV := Lib.hid (show rsV (restOf s) d = (D : Int) by rw [HRV.out.2]; exact cap_is hle)
                    have HSu := Lib.hid (show sumO (rsV (restOf s) d) by rw [HRV.out.2]; exact cap_sum.2 hle)
                    go_wp2_with fail
                    refine (HP.out _).mono ?_
                    rintro e w_ ⟨rfl, rfl⟩
                    go_wp2
                    go_ret2
                    exact ⟨.inr (.inr (.inr ⟨HRV.out.1, HZ.out, HSu.out, by rw [HNG.out, HV.out]; rfl⟩)), hb2⟩
                  · rw [if_neg hle] at HP
                    have HSu := Lib.hid (show ¬ sumO (rsV (restOf s) d) by rw [HRV.out.2]; exact fun k => hle (cap_sum.1 k))
                    go_wp2_with fail
                    refine (HP.out _).mono ?_
                    rintro e w_ ⟨rfl, rfl⟩
                    go_wp2
                    go_ret2
                    exact ⟨.inr (.inr (.inl ⟨HRV.out.1, HZ.out, HSu.out, rfl⟩)), hb2⟩
  · have q4 : ((s[W].toNat : Int) != 46) = true := by
      simp; exact fun k => h4 ((byte_eq (n := 46) (by decide)).1 (by exact_mod_cast k))
    have HN := Lib.hid (show ¬ rsF (restOf s) d by rw [HR.out]; exact rs_cut_no d1 hW w1 (fun x => h4 x.1))
    clear h4
    go_enter Tryd.func23, Tryd.ntmps23
    go_wp2
    go_ret2
    exact ⟨.inl ⟨HN.out, rfl⟩, Below.refl _ _⟩
set_option maxHeartbeats 4000000 in
theorem rp_n0 (s : ByteArray) (w : World) (hs : s.size ≤ 400) (hn : isNeg s.toList = true) :
    Calls Tryd.prog 23 #[.string s, .int .i64 0] w fun e w' => PpIs s 0 e ∧ Below w.heap.size w w' := by
  have hz : 0 < s.size := by
    rcases Nat.lt_or_ge 0 s.size with k | k
    · exact k
    · rw [isNeg_nil (by omega)] at hn; cases hn
  have b0 : s[0] = 45 := by
    rw [isNeg_head hz] at hn
    simpa using hn
  have b1 : ((s[0].toNat : Int) == 45) = true := by rw [b0]; rfl
  have b2 : (s[0].toNat : Int) = 45 := by rw [b0]; rfl
  have e1 : (!s.toList.isEmpty) = true := by
    have : s.toList ≠ [] := by intro k; have := bytes_len s; rw [k] at this; simp at this; omega
    simpa using this
  have e2 : ¬ s.toList = [] := by intro k; have := bytes_len s; rw [k] at this; simp at this; omega
  have HNG := Lib.hid hn
  obtain ⟨R, hR⟩ : ∃ R, restOf s = R := ⟨_, rfl⟩
  have hr : s.extract 1 s.size = R := by rw [← hR, restOf_yes hn]
  have hRs : R.size ≤ 400 := by rw [← hr, ByteArray.size_extract]; omega
  have HR := Lib.hid hR
  have hzi : (1 : Int) ≤ (s.size : Int) := by omega
  clear hn b0 hR
  have H1 := Lib.hid (fun w => rDigits_any R w (by unfold maxLen; omega))
  cases hd : digs R.toList
  · have HN := Lib.hid (show ¬ rsF (restOf s) 0 by rw [HR.out]; exact rs_0_no (fun k => by rw [hd] at k; cases k.1))
    rw [hd] at H1
    clear hd
    go_enter Tryd.func23, Tryd.ntmps23
    go_wp2_with fail
    refine (H1.out _).mono ?_
    rintro e w_ ⟨rfl, rfl⟩
    go_wp2
    go_ret2
    exact ⟨.inl ⟨HN.out, rfl⟩, Below.refl _ _⟩
  · rw [hd] at H1
    have hR0 : 0 < R.size := by have := (digs_both hd).2; rw [bytes_len] at this; exact this
    have hRi : (0 : Int) < (R.size : Int) := by omega
    by_cases hx : 1 < R.size ∧ R[0] = 48
    · have HN := Lib.hid (show ¬ rsF (restOf s) 0 by rw [HR.out]; exact rs_0_no (fun k => k.2 ⟨hx.1, by rw [bytes_head hR0, hx.2]⟩))
      obtain ⟨hx1, hx2⟩ := hx
      have hx3 : (1 : Int) < (R.size : Int) := by omega
      have hx4 : ((R[0].toNat : Int) == 48) = true := by rw [hx2]; rfl
      have hx5 : (R[0].toNat : Int) = 48 := by rw [hx2]; rfl
      clear hx2 hd
      go_enter Tryd.func23, Tryd.ntmps23
      go_wp2_with fail
      refine (H1.out _).mono ?_
      rintro e w_ ⟨rfl, rfl⟩
      go_wp2
      go_ret2
      exact ⟨.inl ⟨HN.out, rfl⟩, Below.refl _ _⟩
    · have HRV := Lib.hid (show rsF (restOf s) 0 ∧ rsV (restOf s) 0 = capM (dec R.toList) by rw [HR.out]; exact rs_0 hd (fun k => hx ⟨k.1, by have := k.2; rw [bytes_head hR0] at this; exact Option.some.inj this⟩))
      obtain ⟨D, hD⟩ : ∃ D, dec R.toList = D := ⟨_, rfl⟩
      rw [hD] at HRV
      have HA1 := Lib.hid (show 0 < R.size ∧ R.size ≤ 400 ∧ R.toList.all dig = true ∧ dec R.toList = D from ⟨hR0, by omega, (digs_both hd).1, hD⟩)
      have HX0 := Lib.hid (show ¬ (1 : Int) < (R.size : Int) ∨ ((1 : Int) < (R.size : Int) ∧ ((R[0].toNat : Int) == 48) = false) from by
        by_cases c : 1 < R.size
        · right; refine ⟨by omega, ?_⟩; simp; exact fun k => hx ⟨c, byte48.1 (by exact_mod_cast k)⟩
        · left; omega)
      clear hx hd hD
      rcases HX0.out with hx1 | ⟨hx1, hx2⟩
      · clear HX0
        go_enter Tryd.func23, Tryd.ntmps23
        go_wp2_with fail
        refine (H1.out _).mono ?_
        rintro e w_ ⟨rfl, rfl⟩
        go_wp2
        go_loop [10] (fun v => ∃ X : ByteArray, v = .string X ∧ 0 < X.size ∧ X.size ≤ 400 ∧ Hid (X.toList.all dig = true) ∧ Hid (dec X.toList = D)) (fun v => szOf v)
        case atStart => exact ⟨R, by first | rfl | rw [app_nil], HA1.out.1, HA1.out.2.1, Lib.hid HA1.out.2.2.1, Lib.hid HA1.out.2.2.2⟩
        case round =>
          obtain ⟨X, rfl, x1, x2, HXa, HXd⟩ := hrel
          have xi : (0 : Int) < (X.size : Int) := by omega
          by_cases hx : 1 < X.size ∧ X[0] = 48
          · obtain ⟨hx1, hx2⟩ := hx
            have hx3 : (1 : Int) < (X.size : Int) := by omega
            have hx4 : ((X[0].toNat : Int) == 48) = true := by rw [hx2]; rfl
            have hx5 : (X[0].toNat : Int) = 48 := by rw [hx2]; rfl
            have HS := Lib.hid (strip_step hx1 hx2 HXa.out)
            clear hx2
            go_wp2
            go_round
            case rel => exact ⟨_, rfl, by rw [HS.out.2.2]; omega, by rw [HS.out.2.2]; omega, Lib.hid HS.out.1, Lib.hid (by rw [HS.out.2.1]; exact HXd.out)⟩
            case measure => simp only [szOf]; rw [HS.out.2.2]; omega
          · have HE := Lib.hid (strip_end x1 HXa.out hx)
            have HX0 := Lib.hid (show ¬ (1 : Int) < (X.size : Int) ∨ ((1 : Int) < (X.size : Int) ∧ ((X[0].toNat : Int) == 48) = false) from by
              by_cases c : 1 < X.size
              · right; refine ⟨by omega, ?_⟩; simp; exact fun k => hx ⟨c, byte48.1 (by exact_mod_cast k)⟩
              · left; omega)
            clear hx
            rcases HX0.out with hx1 | ⟨hx1, hx2⟩
            · clear HX0
              by_cases hz : dec X.toList = 0
              · have z1 : (X.toList == [48]) = true := HE.out.2.1.2 hz
                have HF := Lib.hid (show rsV (restOf s) 0 = 0 by rw [HRV.out.2, cap_0, ← HXd.out]; exact hz)
                clear hz
                go_wp2
                go_ret2
                exact ⟨.inr (.inl ⟨HRV.out.1, HNG.out, HF.out, rfl⟩), Below.refl _ _⟩
              have z1 : (X.toList == [48]) = false := by
                cases hq : (X.toList == [48])
                · rfl
                · exact absurd (HE.out.2.1.1 hq) hz
              have HZ := Lib.hid (show ¬ (isNeg s.toList = true ∧ rsV (restOf s) 0 = 0) from fun k => hz (by have := k.2; rw [HRV.out.2, cap_0, ← HXd.out] at this; exact this))
              have HPV := Lib.hid (show parseV (⟨#[45]⟩ ++ X) (-1000000000000000) 1000000000000000 = if (D : Int) ≤ 1000000000000000 then (-(D : Int), 0) else (0, 3) by
                unfold parseV; rw [(neg_rest X).1, (neg_rest X).2, pv_tail HE.out.1 (.inr z1), HXd.out]; rfl)
              have HP := Lib.hid (fun w => rParse_any (⟨#[45]⟩ ++ X) (-1000000000000000) 1000000000000000 w (by unfold maxLen; rw [ByteArray.size_append]; have : (⟨#[45]⟩ : ByteArray).size = 1 := rfl; omega))
              clear hz
              rw [HPV.out] at HP
              by_cases hle : (D : Int) ≤ 1000000000000000
              · rw [if_pos hle] at HP
                have HV := Lib.hid (show rsV (restOf s) 0 = (D : Int) by rw [HRV.out.2]; exact cap_is hle)
                have HSu := Lib.hid (show sumO (rsV (restOf s) 0) by rw [HRV.out.2]; exact cap_sum.2 hle)
                go_wp2_with fail
                refine (HP.out _).mono ?_
                rintro e w_ ⟨rfl, rfl⟩
                go_wp2
                go_ret2
                exact ⟨.inr (.inr (.inr ⟨HRV.out.1, HZ.out, HSu.out, by rw [HNG.out, HV.out]; rfl⟩)), Below.refl _ _⟩
              · rw [if_neg hle] at HP
                have HSu := Lib.hid (show ¬ sumO (rsV (restOf s) 0) by rw [HRV.out.2]; exact fun k => hle (cap_sum.1 k))
                go_wp2_with fail
                refine (HP.out _).mono ?_
                rintro e w_ ⟨rfl, rfl⟩
                go_wp2
                go_ret2
                exact ⟨.inr (.inr (.inl ⟨HRV.out.1, HZ.out, HSu.out, rfl⟩)), Below.refl _ _⟩
            · clear HX0
              by_cases hz : dec X.toList = 0
              · have z1 : (X.toList == [48]) = true := HE.out.2.1.2 hz
                have HF := Lib.hid (show rsV (restOf s) 0 = 0 by rw [HRV.out.2, cap_0, ← HXd.out]; exact hz)
                clear hz
                go_wp2
                go_ret2
                exact ⟨.inr (.inl ⟨HRV.out.1, HNG.out, HF.out, rfl⟩), Below.refl _ _⟩
              have z1 : (X.toList == [48]) = false := by
                cases hq : (X.toList == [48])
                · rfl
                · exact absurd (HE.out.2.1.1 hq) hz
              have HZ := Lib.hid (show ¬ (isNeg s.toList = true ∧ rsV (restOf s) 0 = 0) from fun k => hz (by have := k.2; rw [HRV.out.2, cap_0, ← HXd.out] at this; exact this))
              have HPV := Lib.hid (show parseV (⟨#[45]⟩ ++ X) (-1000000000000000) 1000000000000000 = if (D : Int) ≤ 1000000000000000 then (-(D : Int), 0) else (0, 3) by
                unfold parseV; rw [(neg_rest X).1, (neg_rest X).2, pv_tail HE.out.1 (.inr z1), HXd.out]; rfl)
              have HP := Lib.hid (fun w => rParse_any (⟨#[45]⟩ ++ X) (-1000000000000000) 1000000000000000 w (by unfold maxLen; rw [ByteArray.size_append]; have : (⟨#[45]⟩ : ByteArray).size = 1 := rfl; omega))
              clear hz
              rw [HPV.out] at HP
              by_cases hle : (D : Int) ≤ 1000000000000000
              · rw [if_pos hle] at HP
                have HV := Lib.hid (show rsV (restOf s) 0 = (D : Int) by rw [HRV.out.2]; exact cap_is hle)
                have HSu := Lib.hid (show sumO (rsV (restOf s) 0) by rw [HRV.out.2]; exact cap_sum.2 hle)
                go_wp2_with fail
                refine (HP.out _).mono ?_
                rintro e w_ ⟨rfl, rfl⟩
                go_wp2
                go_ret2
                exact ⟨.inr (.inr (.inr ⟨HRV.out.1, HZ.out, HSu.out, by rw [HNG.out, HV.out]; rfl⟩)), Below.refl _ _⟩
              · rw [if_neg hle] at HP
                have HSu := Lib.hid (show ¬ sumO (rsV (restOf s) 0) by rw [HRV.out.2]; exact fun k => hle (cap_sum.1 k))
                go_wp2_with fail
                refine (HP.out _).mono ?_
                rintro e w_ ⟨rfl, rfl⟩
                go_wp2
                go_ret2
                exact ⟨.inr (.inr (.inl ⟨HRV.out.1, HZ.out, HSu.out, rfl⟩)), Below.refl _ _⟩
      · clear HX0
        go_enter Tryd.func23, Tryd.ntmps23
        go_wp2_with fail
        refine (H1.out _).mono ?_
        rintro e w_ ⟨rfl, rfl⟩
        go_wp2
        go_loop [10] (fun v => ∃ X : ByteArray, v = .string X ∧ 0 < X.size ∧ X.size ≤ 400 ∧ Hid (X.toList.all dig = true) ∧ Hid (dec X.toList = D)) (fun v => szOf v)
        case atStart => exact ⟨R, by first | rfl | rw [app_nil], HA1.out.1, HA1.out.2.1, Lib.hid HA1.out.2.2.1, Lib.hid HA1.out.2.2.2⟩
        case round =>
          obtain ⟨X, rfl, x1, x2, HXa, HXd⟩ := hrel
          have xi : (0 : Int) < (X.size : Int) := by omega
          by_cases hx : 1 < X.size ∧ X[0] = 48
          · obtain ⟨hx1, hx2⟩ := hx
            have hx3 : (1 : Int) < (X.size : Int) := by omega
            have hx4 : ((X[0].toNat : Int) == 48) = true := by rw [hx2]; rfl
            have hx5 : (X[0].toNat : Int) = 48 := by rw [hx2]; rfl
            have HS := Lib.hid (strip_step hx1 hx2 HXa.out)
            clear hx2
            go_wp2
            go_round
            case rel => exact ⟨_, rfl, by rw [HS.out.2.2]; omega, by rw [HS.out.2.2]; omega, Lib.hid HS.out.1, Lib.hid (by rw [HS.out.2.1]; exact HXd.out)⟩
            case measure => simp only [szOf]; rw [HS.out.2.2]; omega
          · have HE := Lib.hid (strip_end x1 HXa.out hx)
            have HX0 := Lib.hid (show ¬ (1 : Int) < (X.size : Int) ∨ ((1 : Int) < (X.size : Int) ∧ ((X[0].toNat : Int) == 48) = false) from by
              by_cases c : 1 < X.size
              · right; refine ⟨by omega, ?_⟩; simp; exact fun k => hx ⟨c, byte48.1 (by exact_mod_cast k)⟩
              · left; omega)
            clear hx
            rcases HX0.out with hx1 | ⟨hx1, hx2⟩
            · clear HX0
              by_cases hz : dec X.toList = 0
              · have z1 : (X.toList == [48]) = true := HE.out.2.1.2 hz
                have HF := Lib.hid (show rsV (restOf s) 0 = 0 by rw [HRV.out.2, cap_0, ← HXd.out]; exact hz)
                clear hz
                go_wp2
                go_ret2
                exact ⟨.inr (.inl ⟨HRV.out.1, HNG.out, HF.out, rfl⟩), Below.refl _ _⟩
              have z1 : (X.toList == [48]) = false := by
                cases hq : (X.toList == [48])
                · rfl
                · exact absurd (HE.out.2.1.1 hq) hz
              have HZ := Lib.hid (show ¬ (isNeg s.toList = true ∧ rsV (restOf s) 0 = 0) from fun k => hz (by have := k.2; rw [HRV.out.2, cap_0, ← HXd.out] at this; exact this))
              have HPV := Lib.hid (show parseV (⟨#[45]⟩ ++ X) (-1000000000000000) 1000000000000000 = if (D : Int) ≤ 1000000000000000 then (-(D : Int), 0) else (0, 3) by
                unfold parseV; rw [(neg_rest X).1, (neg_rest X).2, pv_tail HE.out.1 (.inr z1), HXd.out]; rfl)
              have HP := Lib.hid (fun w => rParse_any (⟨#[45]⟩ ++ X) (-1000000000000000) 1000000000000000 w (by unfold maxLen; rw [ByteArray.size_append]; have : (⟨#[45]⟩ : ByteArray).size = 1 := rfl; omega))
              clear hz
              rw [HPV.out] at HP
              by_cases hle : (D : Int) ≤ 1000000000000000
              · rw [if_pos hle] at HP
                have HV := Lib.hid (show rsV (restOf s) 0 = (D : Int) by rw [HRV.out.2]; exact cap_is hle)
                have HSu := Lib.hid (show sumO (rsV (restOf s) 0) by rw [HRV.out.2]; exact cap_sum.2 hle)
                go_wp2_with fail
                refine (HP.out _).mono ?_
                rintro e w_ ⟨rfl, rfl⟩
                go_wp2
                go_ret2
                exact ⟨.inr (.inr (.inr ⟨HRV.out.1, HZ.out, HSu.out, by rw [HNG.out, HV.out]; rfl⟩)), Below.refl _ _⟩
              · rw [if_neg hle] at HP
                have HSu := Lib.hid (show ¬ sumO (rsV (restOf s) 0) by rw [HRV.out.2]; exact fun k => hle (cap_sum.1 k))
                go_wp2_with fail
                refine (HP.out _).mono ?_
                rintro e w_ ⟨rfl, rfl⟩
                go_wp2
                go_ret2
                exact ⟨.inr (.inr (.inl ⟨HRV.out.1, HZ.out, HSu.out, rfl⟩)), Below.refl _ _⟩
            · clear HX0
              by_cases hz : dec X.toList = 0
              · have z1 : (X.toList == [48]) = true := HE.out.2.1.2 hz
                have HF := Lib.hid (show rsV (restOf s) 0 = 0 by rw [HRV.out.2, cap_0, ← HXd.out]; exact hz)
                clear hz
                go_wp2
                go_ret2
                exact ⟨.inr (.inl ⟨HRV.out.1, HNG.out, HF.out, rfl⟩), Below.refl _ _⟩
              have z1 : (X.toList == [48]) = false := by
                cases hq : (X.toList == [48])
                · rfl
                · exact absurd (HE.out.2.1.1 hq) hz
              have HZ := Lib.hid (show ¬ (isNeg s.toList = true ∧ rsV (restOf s) 0 = 0) from fun k => hz (by have := k.2; rw [HRV.out.2, cap_0, ← HXd.out] at this; exact this))
              have HPV := Lib.hid (show parseV (⟨#[45]⟩ ++ X) (-1000000000000000) 1000000000000000 = if (D : Int) ≤ 1000000000000000 then (-(D : Int), 0) else (0, 3) by
                unfold parseV; rw [(neg_rest X).1, (neg_rest X).2, pv_tail HE.out.1 (.inr z1), HXd.out]; rfl)
              have HP := Lib.hid (fun w => rParse_any (⟨#[45]⟩ ++ X) (-1000000000000000) 1000000000000000 w (by unfold maxLen; rw [ByteArray.size_append]; have : (⟨#[45]⟩ : ByteArray).size = 1 := rfl; omega))
              clear hz
              rw [HPV.out] at HP
              by_cases hle : (D : Int) ≤ 1000000000000000
              · rw [if_pos hle] at HP
                have HV := Lib.hid (show rsV (restOf s) 0 = (D : Int) by rw [HRV.out.2]; exact cap_is hle)
                have HSu := Lib.hid (show sumO (rsV (restOf s) 0) by rw [HRV.out.2]; exact cap_sum.2 hle)
                go_wp2_with fail
                refine (HP.out _).mono ?_
                rintro e w_ ⟨rfl, rfl⟩
                go_wp2
                go_ret2
                exact ⟨.inr (.inr (.inr ⟨HRV.out.1, HZ.out, HSu.out, by rw [HNG.out, HV.out]; rfl⟩)), Below.refl _ _⟩
              · rw [if_neg hle] at HP
                have HSu := Lib.hid (show ¬ sumO (rsV (restOf s) 0) by rw [HRV.out.2]; exact fun k => hle (cap_sum.1 k))
                go_wp2_with fail
                refine (HP.out _).mono ?_
                rintro e w_ ⟨rfl, rfl⟩
                go_wp2
                go_ret2
                exact ⟨.inr (.inr (.inl ⟨HRV.out.1, HZ.out, HSu.out, rfl⟩)), Below.refl _ _⟩
set_option maxHeartbeats 4000000 in
theorem rp_nd (s : ByteArray) (d : Int) (w : World) (hs : s.size ≤ 400) (d1 : 0 < d) (d2 : d ≤ 4) (hn : isNeg s.toList = true) :
    Calls Tryd.prog 23 #[.string s, .int .i64 d] w fun e w' => PpIs s d e ∧ Below w.heap.size w w' := by
  have hz : 0 < s.size := by
    rcases Nat.lt_or_ge 0 s.size with k | k
    · exact k
    · rw [isNeg_nil (by omega)] at hn; cases hn
  have b0 : s[0] = 45 := by
    rw [isNeg_head hz] at hn
    simpa using hn
  have b1 : ((s[0].toNat : Int) == 45) = true := by rw [b0]; rfl
  have b2 : (s[0].toNat : Int) = 45 := by rw [b0]; rfl
  have e1 : (!s.toList.isEmpty) = true := by
    have : s.toList ≠ [] := by intro k; have := bytes_len s; rw [k] at this; simp at this; omega
    simpa using this
  have e2 : ¬ s.toList = [] := by intro k; have := bytes_len s; rw [k] at this; simp at this; omega
  have HNG := Lib.hid hn
  obtain ⟨R, hR⟩ : ∃ R, restOf s = R := ⟨_, rfl⟩
  have hr : s.extract 1 s.size = R := by rw [← hR, restOf_yes hn]
  have hRs : R.size ≤ 400 := by rw [← hr, ByteArray.size_extract]; omega
  have HR := Lib.hid hR
  have hzi : (1 : Int) ≤ (s.size : Int) := by omega
  clear hn b0 hR
  by_cases hw : (R.size : Int) - d - 1 < 1
  · have HN := Lib.hid (show ¬ rsF (restOf s) d by rw [HR.out]; intro k; have := k.1; unfold whI at this; rw [if_pos d1] at this; omega)
    go_enter Tryd.func23, Tryd.ntmps23
    go_wp2
    go_ret2
    exact ⟨.inl ⟨HN.out, rfl⟩, Below.refl _ _⟩
  obtain ⟨W, hW⟩ : ∃ W : Nat, (R.size : Int) - d - 1 = (W : Int) := ⟨((R.size : Int) - d - 1).toNat, by omega⟩
  have w1 : 1 ≤ W := by omega
  have w2 : W < R.size := by omega
  have w3 : (W : Int) < (R.size : Int) := by omega
  have w4 : ¬ (W : Int) < 1 := by omega
  clear hw
  by_cases h4 : R[W] = 46
  · have q4 : ((R[W].toNat : Int) != 46) = false := by rw [h4]; rfl
    obtain ⟨FW, hF⟩ : ∃ FW, R.extract 0 W = FW := ⟨_, rfl⟩
    obtain ⟨PW, hP⟩ : ∃ PW, R.extract (W + 1) R.size = PW := ⟨_, rfl⟩
    have zF : FW.size = W := by rw [← hF, ByteArray.size_extract]; omega
    have zP : PW.size = d.toNat := by rw [← hP, ByteArray.size_extract]; omega
    have f0 : FW[0]'(by omega) = R[0]'(by omega) := by subst hF; exact ext_head (by omega) (by omega) (by omega) (by omega)
    have H1 := Lib.hid (fun w => rDigits_any FW w (by unfold maxLen; omega))
    have H2 := Lib.hid (fun w => rDigits_any PW w (by unfold maxLen; omega))
    have HNO := Lib.hid (show ¬ (digs FW.toList = true ∧ ¬ (1 < W ∧ FW[0]'(by omega) = 48) ∧ digs PW.toList = true) → ¬ rsF (restOf s) d from fun k => by
      rw [HR.out]; subst hF; subst hP
      exact rs_cut_no d1 hW w1 (fun x => k ⟨x.2.1, by rw [f0]; exact x.2.2.1, x.2.2.2⟩))
    have HYES := Lib.hid (show digs FW.toList = true → ¬ (1 < W ∧ FW[0]'(by omega) = 48) → digs PW.toList = true → rsF (restOf s) d ∧ rsV (restOf s) d = capM (dec (FW ++ PW).toList) from fun k1 k2 k3 => by
      rw [HR.out]; subst hF; subst hP
      exact rs_cut d1 hW w1 h4 k1 (by rw [← f0]; exact k2) k3)
    have zFi : (0 : Int) < (FW.size : Int) := by omega
    clear f0 h4
    cases hd : digs FW.toList
    · have HN := Lib.hid (HNO.out (fun k => by rw [hd] at k; cases k.1))
      rw [hd] at H1
      clear hd HNO HYES
      go_enter Tryd.func23, Tryd.ntmps23
      go_wp2_with fail
      refine wp_region_quiet_below (l := _) (by kernel_rfl) (by kernel_rfl) ?_
      repeat (first | go_big_quiet_step (fail))
      refine wpQuiet_nil ?_
      intro w2 hw'
      obtain ⟨⟨dq2, osq2⟩, hw''⟩ := hw'
      have hb2 := below_regrown w dq2 osq2
      rw [← hw''] at hb2
      clear hw''
      go_wp2_with fail
      refine (H1.out _).mono ?_
      rintro e w_ ⟨rfl, rfl⟩
      go_wp2
      go_ret2
      exact ⟨.inl ⟨HN.out, rfl⟩, hb2⟩
    · rw [hd] at H1
      by_cases hx : 1 < W ∧ FW[0]'(by omega) = 48
      · have HN := Lib.hid (HNO.out (fun k => k.2.1 hx))
        obtain ⟨hx1, hx2⟩ := hx
        have hx3 : (1 : Int) < (FW.size : Int) := by omega
        have hx4 : (((FW[0]'(by omega)).toNat : Int) == 48) = true := by rw [hx2]; rfl
        have hx5 : ((FW[0]'(by omega)).toNat : Int) = 48 := by rw [hx2]; rfl
        clear hx2 hd HNO HYES
        go_enter Tryd.func23, Tryd.ntmps23
        go_wp2_with fail
        refine wp_region_quiet_below (l := _) (by kernel_rfl) (by kernel_rfl) ?_
        repeat (first | go_big_quiet_step (fail))
        refine wpQuiet_nil ?_
        intro w2 hw'
        obtain ⟨⟨dq2, osq2⟩, hw''⟩ := hw'
        have hb2 := below_regrown w dq2 osq2
        rw [← hw''] at hb2
        clear hw''
        go_wp2_with fail
        refine (H1.out _).mono ?_
        rintro e w_ ⟨rfl, rfl⟩
        go_wp2
        go_ret2
        exact ⟨.inl ⟨HN.out, rfl⟩, hb2⟩
      · have HX0 := Lib.hid (show ¬ (1 : Int) < (FW.size : Int) ∨ ((1 : Int) < (FW.size : Int) ∧ (((FW[0]'(by omega)).toNat : Int) == 48) = false) from by
          by_cases c : 1 < W
          · right; refine ⟨by omega, ?_⟩; simp; exact fun k => hx ⟨c, byte48.1 (by exact_mod_cast k)⟩
          · left; omega)
        cases hd2 : digs PW.toList
        · have HN := Lib.hid (HNO.out (fun k => by have := k.2.2; rw [hd2] at this; cases this))
          rw [hd2] at H2
          clear hd hd2 HNO HYES hx
          rcases HX0.out with hx1 | ⟨hx1, hx2⟩
          · clear HX0
            go_enter Tryd.func23, Tryd.ntmps23
            go_wp2_with fail
            refine wp_region_quiet_below (l := _) (by kernel_rfl) (by kernel_rfl) ?_
            repeat (first | go_big_quiet_step (fail))
            refine wpQuiet_nil ?_
            intro w2 hw'
            obtain ⟨⟨dq2, osq2⟩, hw''⟩ := hw'
            have hb2 := below_regrown w dq2 osq2
            rw [← hw''] at hb2
            clear hw''
            go_wp2_with fail
            refine (H1.out _).mono ?_
            rintro e w_ ⟨rfl, rfl⟩
            go_wp2_with fail
            refine (H2.out _).mono ?_
            rintro e w_ ⟨rfl, rfl⟩
            go_wp2
            go_ret2
            exact ⟨.inl ⟨HN.out, rfl⟩, hb2⟩
          · clear HX0
            go_enter Tryd.func23, Tryd.ntmps23
            go_wp2_with fail
            refine wp_region_quiet_below (l := _) (by kernel_rfl) (by kernel_rfl) ?_
            repeat (first | go_big_quiet_step (fail))
            refine wpQuiet_nil ?_
            intro w2 hw'
            obtain ⟨⟨dq2, osq2⟩, hw''⟩ := hw'
            have hb2 := below_regrown w dq2 osq2
            rw [← hw''] at hb2
            clear hw''
            go_wp2_with fail
            refine (H1.out _).mono ?_
            rintro e w_ ⟨rfl, rfl⟩
            go_wp2_with fail
            refine (H2.out _).mono ?_
            rintro e w_ ⟨rfl, rfl⟩
            go_wp2
            go_ret2
            exact ⟨.inl ⟨HN.out, rfl⟩, hb2⟩
        · rw [hd2] at H2
          have HRV := Lib.hid (HYES.out hd hx hd2)
          obtain ⟨D, hD⟩ : ∃ D, dec (FW ++ PW).toList = D := ⟨_, rfl⟩
          rw [hD] at HRV
          have HA1 := Lib.hid (show 0 < (FW ++ PW).size ∧ (FW ++ PW).size ≤ 400 ∧ (FW ++ PW).toList.all dig = true ∧ dec (FW ++ PW).toList = D from ⟨by rw [ByteArray.size_append]; omega, by rw [ByteArray.size_append]; omega, by rw [app_list2, List.all_append, (digs_both hd).1, (digs_both hd2).1]; rfl, hD⟩)
          have zs : ¬ 9223372036854775807 < FW.size + PW.size := by omega
          clear hd hd2 HNO HYES hx hD
          rcases HX0.out with hx1 | ⟨hx1, hx2⟩
          · clear HX0
            go_enter Tryd.func23, Tryd.ntmps23
            go_wp2_with fail
            refine wp_region_quiet_below (l := _) (by kernel_rfl) (by kernel_rfl) ?_
            repeat (first | go_big_quiet_step (fail))
            refine wpQuiet_nil ?_
            intro w2 hw'
            obtain ⟨⟨dq2, osq2⟩, hw''⟩ := hw'
            have hb2 := below_regrown w dq2 osq2
            rw [← hw''] at hb2
            clear hw''
            go_wp2_with fail
            refine (H1.out _).mono ?_
            rintro e w_ ⟨rfl, rfl⟩
            go_wp2_with fail
            refine (H2.out _).mono ?_
            rintro e w_ ⟨rfl, rfl⟩
            go_wp2
            go_loop [10] (fun v => ∃ X : ByteArray, v = .string X ∧ 0 < X.size ∧ X.size ≤ 400 ∧ Hid (X.toList.all dig = true) ∧ Hid (dec X.toList = D)) (fun v => szOf v)
            case atStart => exact ⟨FW ++ PW, by first | rfl | rw [app_nil], HA1.out.1, HA1.out.2.1, Lib.hid HA1.out.2.2.1, Lib.hid HA1.out.2.2.2⟩
            case round =>
              obtain ⟨X, rfl, x1, x2, HXa, HXd⟩ := hrel
              have xi : (0 : Int) < (X.size : Int) := by omega
              by_cases hx : 1 < X.size ∧ X[0] = 48
              · obtain ⟨hx1, hx2⟩ := hx
                have hx3 : (1 : Int) < (X.size : Int) := by omega
                have hx4 : ((X[0].toNat : Int) == 48) = true := by rw [hx2]; rfl
                have hx5 : (X[0].toNat : Int) = 48 := by rw [hx2]; rfl
                have HS := Lib.hid (strip_step hx1 hx2 HXa.out)
                clear hx2
                go_wp2
                go_round
                case rel => exact ⟨_, rfl, by rw [HS.out.2.2]; omega, by rw [HS.out.2.2]; omega, Lib.hid HS.out.1, Lib.hid (by rw [HS.out.2.1]; exact HXd.out)⟩
                case measure => simp only [szOf]; rw [HS.out.2.2]; omega
              · have HE := Lib.hid (strip_end x1 HXa.out hx)
                have HX0 := Lib.hid (show ¬ (1 : Int) < (X.size : Int) ∨ ((1 : Int) < (X.size : Int) ∧ ((X[0].toNat : Int) == 48) = false) from by
                  by_cases c : 1 < X.size
                  · right; refine ⟨by omega, ?_⟩; simp; exact fun k => hx ⟨c, byte48.1 (by exact_mod_cast k)⟩
                  · left; omega)
                clear hx
                rcases HX0.out with hx1 | ⟨hx1, hx2⟩
                · clear HX0
                  by_cases hz : dec X.toList = 0
                  · have z1 : (X.toList == [48]) = true := HE.out.2.1.2 hz
                    have HF := Lib.hid (show rsV (restOf s) d = 0 by rw [HRV.out.2, cap_0, ← HXd.out]; exact hz)
                    clear hz
                    go_wp2
                    go_ret2
                    exact ⟨.inr (.inl ⟨HRV.out.1, HNG.out, HF.out, rfl⟩), hb2⟩
                  have z1 : (X.toList == [48]) = false := by
                    cases hq : (X.toList == [48])
                    · rfl
                    · exact absurd (HE.out.2.1.1 hq) hz
                  have HZ := Lib.hid (show ¬ (isNeg s.toList = true ∧ rsV (restOf s) d = 0) from fun k => hz (by have := k.2; rw [HRV.out.2, cap_0, ← HXd.out] at this; exact this))
                  have HPV := Lib.hid (show parseV (⟨#[45]⟩ ++ X) (-1000000000000000) 1000000000000000 = if (D : Int) ≤ 1000000000000000 then (-(D : Int), 0) else (0, 3) by
                    unfold parseV; rw [(neg_rest X).1, (neg_rest X).2, pv_tail HE.out.1 (.inr z1), HXd.out]; rfl)
                  have HP := Lib.hid (fun w => rParse_any (⟨#[45]⟩ ++ X) (-1000000000000000) 1000000000000000 w (by unfold maxLen; rw [ByteArray.size_append]; have : (⟨#[45]⟩ : ByteArray).size = 1 := rfl; omega))
                  clear hz
                  rw [HPV.out] at HP
                  by_cases hle : (D : Int) ≤ 1000000000000000
                  · rw [if_pos hle] at HP
                    have HV := Lib.hid (show rsV (restOf s) d = (D : Int) by rw [HRV.out.2]; exact cap_is hle)
                    have HSu := Lib.hid (show sumO (rsV (restOf s) d) by rw [HRV.out.2]; exact cap_sum.2 hle)
                    go_wp2_with fail
                    refine (HP.out _).mono ?_
                    rintro e w_ ⟨rfl, rfl⟩
                    go_wp2
                    go_ret2
                    exact ⟨.inr (.inr (.inr ⟨HRV.out.1, HZ.out, HSu.out, by rw [HNG.out, HV.out]; rfl⟩)), hb2⟩
                  · rw [if_neg hle] at HP
                    have HSu := Lib.hid (show ¬ sumO (rsV (restOf s) d) by rw [HRV.out.2]; exact fun k => hle (cap_sum.1 k))
                    go_wp2_with fail
                    refine (HP.out _).mono ?_
                    rintro e w_ ⟨rfl, rfl⟩
                    go_wp2
                    go_ret2
                    exact ⟨.inr (.inr (.inl ⟨HRV.out.1, HZ.out, HSu.out, rfl⟩)), hb2⟩
                · clear HX0
                  by_cases hz : dec X.toList = 0
                  · have z1 : (X.toList == [48]) = true := HE.out.2.1.2 hz
                    have HF := Lib.hid (show rsV (restOf s) d = 0 by rw [HRV.out.2, cap_0, ← HXd.out]; exact hz)
                    clear hz
                    go_wp2
                    go_ret2
                    exact ⟨.inr (.inl ⟨HRV.out.1, HNG.out, HF.out, rfl⟩), hb2⟩
                  have z1 : (X.toList == [48]) = false := by
                    cases hq : (X.toList == [48])
                    · rfl
                    · exact absurd (HE.out.2.1.1 hq) hz
                  have HZ := Lib.hid (show ¬ (isNeg s.toList = true ∧ rsV (restOf s) d = 0) from fun k => hz (by have := k.2; rw [HRV.out.2, cap_0, ← HXd.out] at this; exact this))
                  have HPV := Lib.hid (show parseV (⟨#[45]⟩ ++ X) (-1000000000000000) 1000000000000000 = if (D : Int) ≤ 1000000000000000 then (-(D : Int), 0) else (0, 3) by
                    unfold parseV; rw [(neg_rest X).1, (neg_rest X).2, pv_tail HE.out.1 (.inr z1), HXd.out]; rfl)
                  have HP := Lib.hid (fun w => rParse_any (⟨#[45]⟩ ++ X) (-1000000000000000) 1000000000000000 w (by unfold maxLen; rw [ByteArray.size_append]; have : (⟨#[45]⟩ : ByteArray).size = 1 := rfl; omega))
                  clear hz
                  rw [HPV.out] at HP
                  by_cases hle : (D : Int) ≤ 1000000000000000
                  · rw [if_pos hle] at HP
                    have HV := Lib.hid (show rsV (restOf s) d = (D : Int) by rw [HRV.out.2]; exact cap_is hle)
                    have HSu := Lib.hid (show sumO (rsV (restOf s) d) by rw [HRV.out.2]; exact cap_sum.2 hle)
                    go_wp2_with fail
                    refine (HP.out _).mono ?_
                    rintro e w_ ⟨rfl, rfl⟩
                    go_wp2
                    go_ret2
                    exact ⟨.inr (.inr (.inr ⟨HRV.out.1, HZ.out, HSu.out, by rw [HNG.out, HV.out]; rfl⟩)), hb2⟩
                  · rw [if_neg hle] at HP
                    have HSu := Lib.hid (show ¬ sumO (rsV (restOf s) d) by rw [HRV.out.2]; exact fun k => hle (cap_sum.1 k))
                    go_wp2_with fail
                    refine (HP.out _).mono ?_
                    rintro e w_ ⟨rfl, rfl⟩
                    go_wp2
                    go_ret2
                    exact ⟨.inr (.inr (.inl ⟨HRV.out.1, HZ.out, HSu.out, rfl⟩)), hb2⟩
          · clear HX0
            go_enter Tryd.func23, Tryd.ntmps23
            go_wp2_with fail
            refine wp_region_quiet_below (l := _) (by kernel_rfl) (by kernel_rfl) ?_
            repeat (first | go_big_quiet_step (fail))
            refine wpQuiet_nil ?_
            intro w2 hw'
            obtain ⟨⟨dq2, osq2⟩, hw''⟩ := hw'
            have hb2 := below_regrown w dq2 osq2
            rw [← hw''] at hb2
            clear hw''
            go_wp2_with fail
            refine (H1.out _).mono ?_
            rintro e w_ ⟨rfl, rfl⟩
            go_wp2_with fail
            refine (H2.out _).mono ?_
            rintro e w_ ⟨rfl, rfl⟩
            go_wp2
            go_loop [10] (fun v => ∃ X : ByteArray, v = .string X ∧ 0 < X.size ∧ X.size ≤ 400 ∧ Hid (X.toList.all dig = true) ∧ Hid (dec X.toList = D)) (fun v => szOf v)
            case atStart => exact ⟨FW ++ PW, by first | rfl | rw [app_nil], HA1.out.1, HA1.out.2.1, Lib.hid HA1.out.2.2.1, Lib.hid HA1.out.2.2.2⟩
            case round =>
              obtain ⟨X, rfl, x1, x2, HXa, HXd⟩ := hrel
              have xi : (0 : Int) < (X.size : Int) := by omega
              by_cases hx : 1 < X.size ∧ X[0] = 48
              · obtain ⟨hx1, hx2⟩ := hx
                have hx3 : (1 : Int) < (X.size : Int) := by omega
                have hx4 : ((X[0].toNat : Int) == 48) = true := by rw [hx2]; rfl
                have hx5 : (X[0].toNat : Int) = 48 := by rw [hx2]; rfl
                have HS := Lib.hid (strip_step hx1 hx2 HXa.out)
                clear hx2
                go_wp2
                go_round
                case rel => exact ⟨_, rfl, by rw [HS.out.2.2]; omega, by rw [HS.out.2.2]; omega, Lib.hid HS.out.1, Lib.hid (by rw [HS.out.2.1]; exact HXd.out)⟩
                case measure => simp only [szOf]; rw [HS.out.2.2]; omega
              · have HE := Lib.hid (strip_end x1 HXa.out hx)
                have HX0 := Lib.hid (show ¬ (1 : Int) < (X.size : Int) ∨ ((1 : Int) < (X.size : Int) ∧ ((X[0].toNat : Int) == 48) = false) from by
                  by_cases c : 1 < X.size
                  · right; refine ⟨by omega, ?_⟩; simp; exact fun k => hx ⟨c, byte48.1 (by exact_mod_cast k)⟩
                  · left; omega)
                clear hx
                rcases HX0.out with hx1 | ⟨hx1, hx2⟩
                · clear HX0
                  by_cases hz : dec X.toList = 0
                  · have z1 : (X.toList == [48]) = true := HE.out.2.1.2 hz
                    have HF := Lib.hid (show rsV (restOf s) d = 0 by rw [HRV.out.2, cap_0, ← HXd.out]; exact hz)
                    clear hz
                    go_wp2
                    go_ret2
                    exact ⟨.inr (.inl ⟨HRV.out.1, HNG.out, HF.out, rfl⟩), hb2⟩
                  have z1 : (X.toList == [48]) = false := by
                    cases hq : (X.toList == [48])
                    · rfl
                    · exact absurd (HE.out.2.1.1 hq) hz
                  have HZ := Lib.hid (show ¬ (isNeg s.toList = true ∧ rsV (restOf s) d = 0) from fun k => hz (by have := k.2; rw [HRV.out.2, cap_0, ← HXd.out] at this; exact this))
                  have HPV := Lib.hid (show parseV (⟨#[45]⟩ ++ X) (-1000000000000000) 1000000000000000 = if (D : Int) ≤ 1000000000000000 then (-(D : Int), 0) else (0, 3) by
                    unfold parseV; rw [(neg_rest X).1, (neg_rest X).2, pv_tail HE.out.1 (.inr z1), HXd.out]; rfl)
                  have HP := Lib.hid (fun w => rParse_any (⟨#[45]⟩ ++ X) (-1000000000000000) 1000000000000000 w (by unfold maxLen; rw [ByteArray.size_append]; have : (⟨#[45]⟩ : ByteArray).size = 1 := rfl; omega))
                  clear hz
                  rw [HPV.out] at HP
                  by_cases hle : (D : Int) ≤ 1000000000000000
                  · rw [if_pos hle] at HP
                    have HV := Lib.hid (show rsV (restOf s) d = (D : Int) by rw [HRV.out.2]; exact cap_is hle)
                    have HSu := Lib.hid (show sumO (rsV (restOf s) d) by rw [HRV.out.2]; exact cap_sum.2 hle)
                    go_wp2_with fail
                    refine (HP.out _).mono ?_
                    rintro e w_ ⟨rfl, rfl⟩
                    go_wp2
                    go_ret2
                    exact ⟨.inr (.inr (.inr ⟨HRV.out.1, HZ.out, HSu.out, by rw [HNG.out, HV.out]; rfl⟩)), hb2⟩
                  · rw [if_neg hle] at HP
                    have HSu := Lib.hid (show ¬ sumO (rsV (restOf s) d) by rw [HRV.out.2]; exact fun k => hle (cap_sum.1 k))
                    go_wp2_with fail
                    refine (HP.out _).mono ?_
                    rintro e w_ ⟨rfl, rfl⟩
                    go_wp2
                    go_ret2
                    exact ⟨.inr (.inr (.inl ⟨HRV.out.1, HZ.out, HSu.out, rfl⟩)), hb2⟩
                · clear HX0
                  by_cases hz : dec X.toList = 0
                  · have z1 : (X.toList == [48]) = true := HE.out.2.1.2 hz
                    have HF := Lib.hid (show rsV (restOf s) d = 0 by rw [HRV.out.2, cap_0, ← HXd.out]; exact hz)
                    clear hz
                    go_wp2
                    go_ret2
                    exact ⟨.inr (.inl ⟨HRV.out.1, HNG.out, HF.out, rfl⟩), hb2⟩
                  have z1 : (X.toList == [48]) = false := by
                    cases hq : (X.toList == [48])
                    · rfl
                    · exact absurd (HE.out.2.1.1 hq) hz
                  have HZ := Lib.hid (show ¬ (isNeg s.toList = true ∧ rsV (restOf s) d = 0) from fun k => hz (by have := k.2; rw [HRV.out.2, cap_0, ← HXd.out] at this; exact this))
                  have HPV := Lib.hid (show parseV (⟨#[45]⟩ ++ X) (-1000000000000000) 1000000000000000 = if (D : Int) ≤ 1000000000000000 then (-(D : Int), 0) else (0, 3) by
                    unfold parseV; rw [(neg_rest X).1, (neg_rest X).2, pv_tail HE.out.1 (.inr z1), HXd.out]; rfl)
                  have HP := Lib.hid (fun w => rParse_any (⟨#[45]⟩ ++ X) (-1000000000000000) 1000000000000000 w (by unfold maxLen; rw [ByteArray.size_append]; have : (⟨#[45]⟩ : ByteArray).size = 1 := rfl; omega))
                  clear hz
                  rw [HPV.out] at HP
                  by_cases hle : (D : Int) ≤ 1000000000000000
                  · rw [if_pos hle] at HP
                    have HV := Lib.hid (show rsV (restOf s) d = (D : Int) by rw [HRV.out.2]; exact cap_is hle)
                    have HSu := Lib.hid (show sumO (rsV (restOf s) d) by rw [HRV.out.2]; exact cap_sum.2 hle)
                    go_wp2_with fail
                    refine (HP.out _).mono ?_
                    rintro e w_ ⟨rfl, rfl⟩
                    go_wp2
                    go_ret2
                    exact ⟨.inr (.inr (.inr ⟨HRV.out.1, HZ.out, HSu.out, by rw [HNG.out, HV.out]; rfl⟩)), hb2⟩
                  · rw [if_neg hle] at HP
                    have HSu := Lib.hid (show ¬ sumO (rsV (restOf s) d) by rw [HRV.out.2]; exact fun k => hle (cap_sum.1 k))
                    go_wp2_with fail
                    refine (HP.out _).mono ?_
                    rintro e w_ ⟨rfl, rfl⟩
                    go_wp2
                    go_ret2
                    exact ⟨.inr (.inr (.inl ⟨HRV.out.1, HZ.out, HSu.out, rfl⟩)), hb2⟩
  · have q4 : ((R[W].toNat : Int) != 46) = true := by
      simp; exact fun k => h4 ((byte_eq (n := 46) (by decide)).1 (by exact_mod_cast k))
    have HN := Lib.hid (show ¬ rsF (restOf s) d by rw [HR.out]; exact rs_cut_no d1 hW w1 (fun x => h4 x.1))
    clear h4
    go_enter Tryd.func23, Tryd.ntmps23
    go_wp2
    go_ret2
    exact ⟨.inl ⟨HN.out, rfl⟩, Below.refl _ _⟩
end Go.Proofs.YtbiicdpmilplmaaDoor
