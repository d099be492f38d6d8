/- What split of package accountingref03 returns. Written by wip/mk_fve.py. -/
import Derived.Test.YtlndomnampcnfaaFvD
import Derived.Lib.QuietBelow
namespace Go.Proofs.Ytlndomnampcnfaa
open Go.RowKit Go.Sort
set_option linter.unusedVariables false
set_option linter.unusedSimpArgs false

theorem qo_canon {l X Y : List UInt8} (h : qoO l = some (X, Y)) : dn (dec Y) = Y := by
  unfold qoO at h
  by_cases c1 : l.take (ldN l) = [] ∨ ((l.take (ldN l)).head? = some 48 ∧ l.take (ldN l) ≠ [48])
  · rw [if_pos c1] at h; cases h
  · rw [if_neg c1] at h
    generalize l.take (ldN l) = A at *
    generalize l.drop (ldN l) = R at *
    cases R with
    | nil =>
      simp only [Option.some.injEq, Prod.mk.injEq] at h
      obtain ⟨rfl, rfl⟩ := h
      decide +kernel
    | cons c r =>
      simp only at h
      have hp := ldN_all r
      generalize r.take (ldN r) = P at *
      generalize r.drop (ldN r) = Q at *
      by_cases c2 : P = [] ∨ Q ≠ []
      · rw [if_pos c2] at h; cases h
      · rw [if_neg c2] at h
        by_cases c3 : c = 47 ∧ P.head? ≠ some 48
        · rw [if_pos c3] at h
          simp only [Option.some.injEq, Prod.mk.injEq] at h
          obtain ⟨rfl, rfl⟩ := h
          exact dn_of hp (.inr c3.2)
        · rw [if_neg c3] at h
          by_cases c4 : c = 46 ∧ P.length ≤ 6
          · rw [if_pos c4] at h
            simp only [Option.some.injEq, Prod.mk.injEq] at h
            obtain ⟨rfl, rfl⟩ := h
            exact dn_of (by rw [List.all_cons, rep_all]; decide) (.inr (by simp))
          · rw [if_neg c4] at h; cases h
def SpQ (l : List UInt8) (w : World) (e : Ending) (w' : World) : Prop :=
  ((qoO l = none ∧ ∃ s1 s2, e = .returned (.tuple #[.string s1, .string s2, .bool false])) ∨ ∃ X Y, qoO l = some (X, Y) ∧ e = .returned (.tuple #[.string (bs (dn (dec X))), .string (bs (dn (dec Y))), .bool true])) ∧ Below w.heap.size w w'
set_option maxRecDepth 100000 in
set_option maxHeartbeats 6000000 in
theorem rSplit_any (l : List UInt8) (w : World) (hs : l.length ≤ 90) : Calls Try.prog 18 #[.string (bs l)] w (SpQ l w) := by
  have H1 := Lib.hid (rDigits_any l w (by omega))
  obtain ⟨o, ho⟩ : ∃ o, o = qoO l := ⟨_, rfl⟩
  have HO := Lib.hid ho.symm
  unfold qoO at ho
  have HU := Lib.hid ho
  clear ho
  obtain ⟨SL, hSL⟩ : ∃ T, bs l = T := ⟨_, rfl⟩
  have tL : Tx SL l := hSL ▸ tx_bs l
  rw [hSL] at H1
  rw [hSL]
  have hkl := ldN_le l
  obtain ⟨k, hk⟩ : ∃ k, ldN l = k := ⟨_, rfl⟩
  have hall := ldN_all l
  rw [hk] at H1 HU hkl hall
  have sL := tL.size
  have hlA : (l.take k).length = k := by rw [List.length_take]; omega
  by_cases a0 : k = 0
  · have HQ := HU
    rw [if_pos (.inl (List.length_eq_zero_iff.1 (by omega)))] at HQ
    have f1 : ((k : Int) == 0) = true := by simp; omega
    clear HU tL hall hSL hlA
    go_enter Try.func18, Try.ntmps18
    go_wp2_with fail
    refine H1.out.mono ?_
    rintro e w1 ⟨rfl, rfl⟩
    clear H1
    go_wp2
    refine bodyPost_ret (v := .tuple #[.string ⟨#[]⟩, .string ⟨#[]⟩, .bool false]) ?_ rfl ⟨.inl ⟨HO.out.trans HQ.out, _, _, rfl⟩, Below.refl _ _⟩
    rw [results_tmp3 rfl]
    rfl
  have f1 : ((k : Int) == 0) = false := by simp; omega
  have zS : 0 < SL.size := by omega
  have hS0 : SL[0] = l[0]'(by omega) := tL.at zS (by omega)
  have hA0 : (l.take k).head? = some (l[0]'(by omega)) := by rw [head_at (by omega), List.getElem_take]
  have f2 : ((SL[0].toNat : Int) == 48) = decide (l[0]'(by omega) = 48) := by rw [hS0]; exact byte_int (n := 48) (by omega)
  by_cases a1 : 1 < k ∧ l[0]'(by omega) = 48
  · have HQ := HU
    rw [if_pos (.inr ⟨by rw [hA0, a1.2], fun e => by have := congrArg List.length e; rw [hlA] at this; simp at this; omega⟩)] at HQ
    have f3 : (1 : Int) < (k : Int) := by omega
    have f3' : decide ((1 : Int) < (k : Int)) = true := decide_eq_true f3
    rw [decide_eq_true a1.2] at f2
    clear HU tL hall hSL hlA hS0 hA0 a1
    go_enter Try.func18, Try.ntmps18
    go_wp2_with fail
    refine H1.out.mono ?_
    rintro e w1 ⟨rfl, rfl⟩
    clear H1
    go_wp2
    refine bodyPost_ret (v := .tuple #[.string ⟨#[]⟩, .string ⟨#[]⟩, .bool false]) ?_ rfl ⟨.inl ⟨HO.out.trans HQ.out, _, _, rfl⟩, Below.refl _ _⟩
    rw [results_tmp3 rfl]
    rfl
  rw [if_neg (by
    rintro (h | ⟨h, h'⟩)
    · have := congrArg List.length h; rw [hlA] at this; simp at this; omega
    · rw [hA0] at h
      refine a1 ⟨?_, Option.some.inj h⟩
      apply Classical.byContradiction
      intro hc
      have hk1 : k = 1 := by omega
      apply h'
      rw [← Option.some.inj h]
      apply List.ext_getElem
      · rw [hlA, hk1]; rfl
      · intro i h1 h2
        have : i = 0 := by simp at h2; omega
        subst this
        simp)] at HU
  have hcase : (((1 : Int) < (k : Int)) ∧ decide ((1 : Int) < (k : Int)) = true ∧ ((SL[0].toNat : Int) == 48) = false) ∨ ((¬ (1 : Int) < (k : Int)) ∧ decide ((1 : Int) < (k : Int)) = false) := by
    by_cases h : 1 < k
    · left; exact ⟨by omega, decide_eq_true (by omega), by rw [f2]; exact decide_eq_false (fun q => a1 ⟨h, q⟩)⟩
    · right; exact ⟨by omega, decide_eq_false (by omega)⟩
  clear f2 a1 hS0 hA0
  have hexA : SL.extract 0 k = bs (l.take k) := by rw [← hSL, bs_extract l 0 k (Nat.zero_le _) hkl]; simp
  by_cases r0 : k = l.length
  · have hR : l.drop k = [] := List.drop_eq_nil_of_le (by omega)
    have hA : l.take k = l := List.take_of_length_le (by omega)
    rw [hR, hA] at HU
    have HQ := HU
    have g1 : ((k : Int) == (SL.size : Int)) = true := by simp; omega
    have HT := Lib.hid (fun W => rTrim_any l W (by omega) (by rw [hA] at hall; exact hall))
    rw [hSL] at HT
    obtain ⟨SD, hSD⟩ : ∃ T, bs (dn (dec l)) = T := ⟨_, rfl⟩
    rw [hSD] at HT
    have HR := Lib.hid (show Ending.returned (.tuple #[.string SD, .string ⟨#[49]⟩, .bool true]) = .returned (.tuple #[.string (bs (dn (dec l))), .string (bs (dn (dec [49]))), .bool true]) by rw [hSD, show dn (dec [49]) = [49] by decide +kernel]; rfl)
    clear HU tL hall hSL hlA hR hA hexA hSD sL r0 hkl hk a0
    rcases hcase with ⟨f3, f4, f5⟩ | ⟨f3, f4⟩
    all_goals
      go_enter Try.func18, Try.ntmps18
      go_wp2_with fail
      refine H1.out.mono ?_
      rintro e w1 ⟨rfl, rfl⟩
      clear H1
      go_wp2_with fail
      refine (HT.out _).mono ?_
      rintro e w2 ⟨rfl, rfl⟩
      go_wp2
      refine bodyPost_ret (v := .tuple #[.string SD, .string ⟨#[49]⟩, .bool true]) ?_ rfl ⟨.inr ⟨_, _, HO.out.trans HQ.out, HR.out⟩, Below.refl _ _⟩
      rw [results_tmp3 rfl]
      rfl
  have g1 : ((k : Int) == (SL.size : Int)) = false := by simp; omega
  have hkL : k < l.length := by omega
  have hkS : k < SL.size := by omega
  have hkS' : (k : Int) < (SL.size : Int) := by omega
  have hkS1 : (k : Int) + 1 ≤ (SL.size : Int) := by omega
  have hkS0 : (k : Int) ≤ (SL.size : Int) := by omega
  have HsL := Lib.hid sL
  clear sL
  obtain ⟨c, hc⟩ : ∃ c, l[k] = c := ⟨_, rfl⟩
  obtain ⟨r, hr⟩ : ∃ r, l.drop (k + 1) = r := ⟨_, rfl⟩
  have hSk : SL[k] = c := (tL.at hkS hkL).trans hc
  have hdrop : l.drop k = c :: r := by rw [List.drop_eq_getElem_cons hkL, hc, hr]
  have hrl : r.length ≤ 90 := by rw [← hr, List.length_drop]; omega
  have hexR : SL.extract (k + 1) SL.size = bs r := by rw [← hSL, bs_size, bs_extract l (k + 1) l.length (by omega) (Nat.le_refl _), hr, List.take_of_length_le (by rw [← hr, List.length_drop]; omega)]
  rw [hdrop] at HU
  simp only at HU
  have H2 := Lib.hid (fun W => rDigits_any r W (by omega))
  obtain ⟨Sr, hSr⟩ : ∃ T, bs r = T := ⟨_, rfl⟩
  have tr : Tx Sr r := hSr ▸ tx_bs r
  rw [hSr] at H2 hexR
  have sr := tr.size
  have e47 : ((SL[k].toNat : Int) == 47) = decide (c = 47) := by rw [hSk]; exact byte_int (n := 47) (by omega)
  have e46 : ((SL[k].toNat : Int) == 46) = decide (c = 46) := by rw [hSk]; exact byte_int (n := 46) (by omega)
  clear hSk hdrop hr hc r0 hk a0
  by_cases p0 : r = []
  · have hP : r.take (ldN r) = [] := by rw [p0]; rfl
    rw [if_pos (.inl hP)] at HU
    have HQ := HU
    have q1 := tr.emp (decide_eq_true p0)
    clear HU tL tr hall hSL hlA hexA hP e47 e46 hSr sr
    rcases hcase with ⟨f3, f4, f5⟩ | ⟨f3, f4⟩
    all_goals
      go_enter Try.func18, Try.ntmps18
      go_wp2_with fail
      refine H1.out.mono ?_
      rintro e w1 ⟨rfl, rfl⟩
      clear H1
      go_wp2_with fail
      go_quiet (fail)
      go_wp2
      refine bodyPost_ret (v := .tuple #[.string ⟨#[]⟩, .string ⟨#[]⟩, .bool false]) ?_ rfl ⟨.inl ⟨HO.out.trans HQ.out, _, _, rfl⟩, below_drewN (Below.refl _ _) _⟩
      rw [results_tmp3 rfl]
      rfl
  have q1 := tr.emp (decide_eq_false p0)
  have zr : 0 < r.length := List.length_pos_iff.2 p0
  have hlr := ldN_le r
  obtain ⟨j, hj⟩ : ∃ j, ldN r = j := ⟨_, rfl⟩
  have hallr := ldN_all r
  rw [hj] at H2 HU hlr hallr
  by_cases p1 : j < r.length
  · have hQ0 : r.drop j ≠ [] := fun e => by have := congrArg List.length e; rw [List.length_drop] at this; simp at this; omega
    rw [if_pos (.inr hQ0)] at HU
    have HQ := HU
    have p1' : (j : Int) < (Sr.size : Int) := by omega
    have p1'' : decide ((j : Int) < (Sr.size : Int)) = true := decide_eq_true p1'
    clear HU tL tr hall hSL hlA hexA e47 e46 hSr hallr hQ0 sr
    rcases hcase with ⟨f3, f4, f5⟩ | ⟨f3, f4⟩
    all_goals
      go_enter Try.func18, Try.ntmps18
      go_wp2_with fail
      refine H1.out.mono ?_
      rintro e w1 ⟨rfl, rfl⟩
      clear H1
      go_wp2_with fail
      go_quiet (fail)
      go_wp2_with fail
      refine (H2.out _).mono ?_
      rintro e w2 ⟨rfl, rfl⟩
      go_wp2
      refine bodyPost_ret (v := .tuple #[.string ⟨#[]⟩, .string ⟨#[]⟩, .bool false]) ?_ rfl ⟨.inl ⟨HO.out.trans HQ.out, _, _, rfl⟩, below_drewN (Below.refl _ _) _⟩
      rw [results_tmp3 rfl]
      rfl
  have p1' : ¬ (j : Int) < (Sr.size : Int) := by omega
  have p1'' : decide ((j : Int) < (Sr.size : Int)) = false := decide_eq_false p1'
  have hP : r.take j = r := List.take_of_length_le (by omega)
  have hQ0 : r.drop j = [] := List.drop_eq_nil_of_le (by omega)
  rw [hP, hQ0, if_neg (by rintro (h | h); exact p0 h; exact h rfl)] at HU
  rw [hP] at hallr
  have zSr : 0 < Sr.size := by omega
  have zSr' : (0 : Int) < (Sr.size : Int) := by omega
  have hr0 : Sr[0] = r[0] := tr.at zSr zr
  have hh := head_at zr
  have q3 : ((Sr[0].toNat : Int) != 48) = decide (r[0] ≠ 48) := by
    have : ((Sr[0].toNat : Int) != 48) = !((Sr[0].toNat : Int) == 48) := rfl
    rw [this, hr0, show ((r[0].toNat : Int) == 48) = decide (r[0] = 48) from byte_int (n := 48) (by omega)]
    by_cases h : r[0] = 48 <;> simp [h]
  clear hP hQ0 hr0 hlr
  obtain ⟨SA, hSA⟩ : ∃ T, bs (l.take k) = T := ⟨_, rfl⟩
  rw [hSA] at hexA
  by_cases c47 : c = 47
  · rw [decide_eq_true c47] at e47
    have HT := rTrim_any (l.take k) w (by rw [hlA]; omega) hall
    have HT := fun W => rTrim_any (l.take k) W (by rw [hlA]; omega) hall
    rw [hSA] at HT
    obtain ⟨SD, hSD⟩ : ∃ T, bs (dn (dec (l.take k))) = T := ⟨_, rfl⟩
    rw [hSD] at HT
    have HT := Lib.hid HT
    by_cases p48 : r[0] = 48
    · rw [if_neg (by rintro ⟨_, h⟩; exact h (by rw [hh, p48])), if_neg (by rintro ⟨h, _⟩; rw [c47] at h; exact absurd h (by decide))] at HU
      have HQ := HU
      rw [decide_eq_false (fun h => h p48)] at q3
      clear HU tL tr hall hSL hlA e46 hSr hallr hh hSA hSD sr hj
      rcases hcase with ⟨f3, f4, f5⟩ | ⟨f3, f4⟩
      all_goals
        go_enter Try.func18, Try.ntmps18
        go_wp2_with fail
        refine H1.out.mono ?_
        rintro e w1 ⟨rfl, rfl⟩
        clear H1
        go_wp2_with fail
        go_quiet (fail)
        have HBq := Lib.hid (show Below w.heap.size w (w.drewN nq) from below_drewN (Below.refl _ _) nq)
        generalize w.drewN nq = W5 at *
        go_wp2_with fail
        refine (H2.out _).mono ?_
        rintro e w2 ⟨rfl, rfl⟩
        clear H2
        have K1 : ∀ dd os, Calls Try.prog 37 #[.string SA] (grow (redrawn W5 dd) os) fun e w'' => e = .returned (.string SD) ∧ ∃ p : Regrown, w'' = grow (redrawn W5 p.d) p.os := fun dd os => Calls.regrown_of ((HT.out _).mono fun e w' h => ⟨h.1, h.2 ▸ Below.refl _ _⟩)
        go_wp2_with fail
        refine wp_region_quiet_below (l := _) (by kernel_rfl) (by kernel_rfl) ?_
        repeat (first | go_big_quiet_step (first | (go_at_call 37; with_reducible exact K1 _ _)))
        refine wpQuiet_nil ?_
        intro w7 hw'
        obtain ⟨⟨dq2, osq2⟩, hw''⟩ := hw'
        have hb2 := below_regrown W5 dq2 osq2
        rw [← hw''] at hb2
        clear hw'' K1
        go_wp2
        refine bodyPost_ret (v := .tuple #[.string SD, .string Sr, .bool false]) ?_ rfl ⟨.inl ⟨HO.out.trans HQ.out, _, _, rfl⟩, HBq.out.trans (hb2.mono HBq.out.size)⟩
        rw [results_tmp3 rfl]
        rfl
    · rw [if_pos ⟨c47, by rw [hh]; intro h; exact p48 (Option.some.inj h)⟩] at HU
      have HQ := HU
      rw [decide_eq_true p48] at q3
      have HR := Lib.hid (show Ending.returned (.tuple #[.string SD, .string Sr, .bool true]) = .returned (.tuple #[.string (bs (dn (dec (l.take k)))), .string (bs (dn (dec r))), .bool true]) by rw [hSD, dn_of hallr (.inr (by rw [hh]; intro h; exact p48 (Option.some.inj h))), hSr])
      clear HU tL tr hall hSL hlA e46 hSr hallr hh hSA hSD sr hj
      rcases hcase with ⟨f3, f4, f5⟩ | ⟨f3, f4⟩
      all_goals
        go_enter Try.func18, Try.ntmps18
        go_wp2_with fail
        refine H1.out.mono ?_
        rintro e w1 ⟨rfl, rfl⟩
        clear H1
        go_wp2_with fail
        go_quiet (fail)
        have HBq := Lib.hid (show Below w.heap.size w (w.drewN nq) from below_drewN (Below.refl _ _) nq)
        generalize w.drewN nq = W5 at *
        go_wp2_with fail
        refine (H2.out _).mono ?_
        rintro e w2 ⟨rfl, rfl⟩
        clear H2
        have K1 : ∀ dd os, Calls Try.prog 37 #[.string SA] (grow (redrawn W5 dd) os) fun e w'' => e = .returned (.string SD) ∧ ∃ p : Regrown, w'' = grow (redrawn W5 p.d) p.os := fun dd os => Calls.regrown_of ((HT.out _).mono fun e w' h => ⟨h.1, h.2 ▸ Below.refl _ _⟩)
        go_wp2_with fail
        refine wp_region_quiet_below (l := _) (by kernel_rfl) (by kernel_rfl) ?_
        repeat (first | go_big_quiet_step (first | (go_at_call 37; with_reducible exact K1 _ _)))
        refine wpQuiet_nil ?_
        intro w7 hw'
        obtain ⟨⟨dq2, osq2⟩, hw''⟩ := hw'
        have hb2 := below_regrown W5 dq2 osq2
        rw [← hw''] at hb2
        clear hw'' K1
        go_wp2
        refine bodyPost_ret (v := .tuple #[.string SD, .string Sr, .bool true]) ?_ rfl ⟨.inr ⟨_, _, HO.out.trans HQ.out, HR.out⟩, HBq.out.trans (hb2.mono HBq.out.size)⟩
        rw [results_tmp3 rfl]
        rfl
  rw [decide_eq_false c47] at e47
  rw [if_neg (by rintro ⟨h, _⟩; exact c47 h)] at HU
  have hcat : SA ++ Sr = bs (l.take k ++ r) := by rw [← hSA, ← hSr, bs_app]
  have hallc : (l.take k ++ r).all dig = true := by rw [List.all_append, hall, hallr]; rfl
  have HT := fun W => rTrim_any (l.take k ++ r) W (by rw [List.length_append, hlA]; omega) hallc
  obtain ⟨SC, hSC⟩ : ∃ T, bs (l.take k ++ r) = T := ⟨_, rfl⟩
  rw [hSC] at HT hcat
  rw [← hcat] at HT
  clear hcat
  obtain ⟨SD, hSD⟩ : ∃ T, bs (dn (dec (l.take k ++ r))) = T := ⟨_, rfl⟩
  rw [hSD] at HT
  have HT := Lib.hid HT
  have sA : SA.size ≤ 90 := by rw [← hSA, bs_size]; omega
  have sR : Sr.size ≤ 90 := by omega
  by_cases p6 : r.length ≤ 6
  · obtain ⟨z, hz⟩ : ∃ z : Nat, 1 + (Sr.size : Int) = (z : Int) := ⟨1 + Sr.size, by omega⟩
    have hmin : min (Sr.size : Int) 6 = (Sr.size : Int) := by omega
    have hle6 : (Sr.size : Int) ≤ 6 := by omega
    have hle6' : decide ((Sr.size : Int) ≤ 6) = true := decide_eq_true hle6
    have hz7 : z ≤ 7 := by omega
    have hz7' : (z : Int) ≤ 7 := by omega
    have hzx : (⟨#[49, 48, 48, 48, 48, 48, 48]⟩ : ByteArray).extract 0 z = bs (49 :: List.replicate r.length 48) := by
      have : z = r.length + 1 := by omega
      subst this
      match r.length, p6, zr with
      | 1, _, _ => decide +kernel
      | 2, _, _ => decide +kernel
      | 3, _, _ => decide +kernel
      | 4, _, _ => decide +kernel
      | 5, _, _ => decide +kernel
      | 6, _, _ => decide +kernel
    obtain ⟨SZ, hSZ⟩ : ∃ T, bs (49 :: List.replicate r.length 48) = T := ⟨_, rfl⟩
    rw [hSZ] at hzx
    have hzx' : (⟨#[49, 48, 48, 48, 48, 48, 48]⟩ : ByteArray).extract 0 (1 + min (r.length : Int) 6).toNat = SZ := by rw [show (1 + min (r.length : Int) 6).toNat = z by omega]; exact hzx
    have hle6r : decide ((r.length : Int) ≤ 6) = true := decide_eq_true (by omega)
    have HZX := Lib.hid hzx'
    have HLR := Lib.hid hle6r
    clear hzx' hle6r hzx
    by_cases c46 : c = 46
    · rw [if_pos ⟨c46, p6⟩] at HU
      have HQ := HU
      rw [decide_eq_true c46] at e46
      have HR := Lib.hid (show Ending.returned (.tuple #[.string SD, .string SZ, .bool true]) = .returned (.tuple #[.string (bs (dn (dec (l.take k ++ r)))), .string (bs (dn (dec (49 :: List.replicate r.length 48)))), .bool true]) by rw [hSD, dn_of (l := 49 :: List.replicate r.length 48) (by rw [List.all_cons, rep_all]; decide) (.inr (by simp)), hSZ])
      clear HU tL tr hall hSL hlA hSr hallr hh hSA hSD hSC hallc hSZ q3 hj
      rcases hcase with ⟨f3, f4, f5⟩ | ⟨f3, f4⟩
      all_goals
        go_enter Try.func18, Try.ntmps18
        go_wp2_with fail
        refine H1.out.mono ?_
        rintro e w1 ⟨rfl, rfl⟩
        clear H1
        go_wp2_with fail
        go_quiet (fail)
        have HBq := Lib.hid (show Below w.heap.size w (w.drewN nq) from below_drewN (Below.refl _ _) nq)
        generalize w.drewN nq = W5 at *
        go_wp2_with fail
        refine (H2.out _).mono ?_
        rintro e w2 ⟨rfl, rfl⟩
        clear H2
        have K1 : ∀ dd os, Calls Try.prog 37 #[.string (SA ++ Sr)] (grow (redrawn W5 dd) os) fun e w'' => e = .returned (.string SD) ∧ ∃ p : Regrown, w'' = grow (redrawn W5 p.d) p.os := fun dd os => Calls.regrown_of ((HT.out _).mono fun e w' h => ⟨h.1, h.2 ▸ Below.refl _ _⟩)
        go_wp2_with fail
        refine wp_region_quiet_below (l := _) (by kernel_rfl) (by kernel_rfl) ?_
        repeat (first | go_big_quiet_step (first | (go_at_call 37; with_reducible exact K1 _ _)))
        refine wpQuiet_nil ?_
        intro w7 hw'
        obtain ⟨⟨dq2, osq2⟩, hw''⟩ := hw'
        have hb2 := below_regrown W5 dq2 osq2
        rw [← hw''] at hb2
        clear hw'' K1
        go_wp2
        refine bodyPost_ret (v := .tuple #[.string SD, .string SZ, .bool true]) ?_ rfl ⟨.inr ⟨_, _, HO.out.trans HQ.out, HR.out⟩, HBq.out.trans (hb2.mono HBq.out.size)⟩
        rw [results_tmp3 rfl]
        simp only [HZX.out, HLR.out]
        rfl
    · rw [if_neg (by rintro ⟨h, _⟩; exact c46 h)] at HU
      have HQ := HU
      rw [decide_eq_false c46] at e46
      clear HU tL tr hall hSL hlA hSr hallr hh hSA hSD hSC hallc hSZ q3 hj
      rcases hcase with ⟨f3, f4, f5⟩ | ⟨f3, f4⟩
      all_goals
        go_enter Try.func18, Try.ntmps18
        go_wp2_with fail
        refine H1.out.mono ?_
        rintro e w1 ⟨rfl, rfl⟩
        clear H1
        go_wp2_with fail
        go_quiet (fail)
        have HBq := Lib.hid (show Below w.heap.size w (w.drewN nq) from below_drewN (Below.refl _ _) nq)
        generalize w.drewN nq = W5 at *
        go_wp2_with fail
        refine (H2.out _).mono ?_
        rintro e w2 ⟨rfl, rfl⟩
        clear H2
        have K1 : ∀ dd os, Calls Try.prog 37 #[.string (SA ++ Sr)] (grow (redrawn W5 dd) os) fun e w'' => e = .returned (.string SD) ∧ ∃ p : Regrown, w'' = grow (redrawn W5 p.d) p.os := fun dd os => Calls.regrown_of ((HT.out _).mono fun e w' h => ⟨h.1, h.2 ▸ Below.refl _ _⟩)
        go_wp2_with fail
        refine wp_region_quiet_below (l := _) (by kernel_rfl) (by kernel_rfl) ?_
        repeat (first | go_big_quiet_step (first | (go_at_call 37; with_reducible exact K1 _ _)))
        refine wpQuiet_nil ?_
        intro w7 hw'
        obtain ⟨⟨dq2, osq2⟩, hw''⟩ := hw'
        have hb2 := below_regrown W5 dq2 osq2
        rw [← hw''] at hb2
        clear hw'' K1
        go_wp2
        refine bodyPost_ret (v := .tuple #[.string SD, .string SZ, .bool false]) ?_ rfl ⟨.inl ⟨HO.out.trans HQ.out, _, _, rfl⟩, HBq.out.trans (hb2.mono HBq.out.size)⟩
        rw [results_tmp3 rfl]
        simp only [HZX.out, HLR.out]
        rfl
  · rw [if_neg (by rintro ⟨_, h⟩; exact p6 h)] at HU
    have HQ := HU
    obtain ⟨z, hz⟩ : ∃ z : Nat, (z : Int) = 7 := ⟨7, rfl⟩
    have hmin : min (Sr.size : Int) 6 = 6 := by omega
    have hle6 : ¬ (Sr.size : Int) ≤ 6 := by omega
    have hle6b : (6 : Int) ≤ (Sr.size : Int) := by omega
    have hle6c : (6 : Int) < (Sr.size : Int) := by omega
    have hle6' : decide ((Sr.size : Int) ≤ 6) = false := decide_eq_false hle6
    have hzx : (⟨#[49, 48, 48, 48, 48, 48, 48]⟩ : ByteArray).extract 0 7 = ⟨#[49, 48, 48, 48, 48, 48, 48]⟩ := by decide +kernel
    have HZX := Lib.hid (show (⟨#[49, 48, 48, 48, 48, 48, 48]⟩ : ByteArray).extract 0 (1 + min (r.length : Int) 6).toNat = ⟨#[49, 48, 48, 48, 48, 48, 48]⟩ by rw [show (1 + min (r.length : Int) 6).toNat = 7 by omega]; exact hzx)
    have HLR := Lib.hid (show decide ((r.length : Int) ≤ 6) = false from decide_eq_false (by omega))
    clear hz z hzx
    by_cases c46 : c = 46
    · rw [decide_eq_true c46] at e46
      clear HU tL tr hall hSL hlA hSr hallr hh hSA hSD hSC hallc q3 hj
      rcases hcase with ⟨f3, f4, f5⟩ | ⟨f3, f4⟩
      all_goals
        go_enter Try.func18, Try.ntmps18
        go_wp2_with fail
        refine H1.out.mono ?_
        rintro e w1 ⟨rfl, rfl⟩
        clear H1
        go_wp2_with fail
        go_quiet (fail)
        have HBq := Lib.hid (show Below w.heap.size w (w.drewN nq) from below_drewN (Below.refl _ _) nq)
        generalize w.drewN nq = W5 at *
        go_wp2_with fail
        refine (H2.out _).mono ?_
        rintro e w2 ⟨rfl, rfl⟩
        clear H2
        have K1 : ∀ dd os, Calls Try.prog 37 #[.string (SA ++ Sr)] (grow (redrawn W5 dd) os) fun e w'' => e = .returned (.string SD) ∧ ∃ p : Regrown, w'' = grow (redrawn W5 p.d) p.os := fun dd os => Calls.regrown_of ((HT.out _).mono fun e w' h => ⟨h.1, h.2 ▸ Below.refl _ _⟩)
        go_wp2_with fail
        refine wp_region_quiet_below (l := _) (by kernel_rfl) (by kernel_rfl) ?_
        repeat (first | go_big_quiet_step (first | (go_at_call 37; with_reducible exact K1 _ _)))
        refine wpQuiet_nil ?_
        intro w7 hw'
        obtain ⟨⟨dq2, osq2⟩, hw''⟩ := hw'
        have hb2 := below_regrown W5 dq2 osq2
        rw [← hw''] at hb2
        clear hw'' K1
        go_wp2
        refine bodyPost_ret (v := .tuple #[.string SD, .string ⟨#[49, 48, 48, 48, 48, 48, 48]⟩, .bool false]) ?_ rfl ⟨.inl ⟨HO.out.trans HQ.out, _, _, rfl⟩, HBq.out.trans (hb2.mono HBq.out.size)⟩
        rw [results_tmp3 rfl]
        simp only [HZX.out, HLR.out]
        rfl
    · rw [decide_eq_false c46] at e46
      clear HU tL tr hall hSL hlA hSr hallr hh hSA hSD hSC hallc q3 hj
      rcases hcase with ⟨f3, f4, f5⟩ | ⟨f3, f4⟩
      all_goals
        go_enter Try.func18, Try.ntmps18
        go_wp2_with fail
        refine H1.out.mono ?_
        rintro e w1 ⟨rfl, rfl⟩
        clear H1
        go_wp2_with fail
        go_quiet (fail)
        have HBq := Lib.hid (show Below w.heap.size w (w.drewN nq) from below_drewN (Below.refl _ _) nq)
        generalize w.drewN nq = W5 at *
        go_wp2_with fail
        refine (H2.out _).mono ?_
        rintro e w2 ⟨rfl, rfl⟩
        clear H2
        have K1 : ∀ dd os, Calls Try.prog 37 #[.string (SA ++ Sr)] (grow (redrawn W5 dd) os) fun e w'' => e = .returned (.string SD) ∧ ∃ p : Regrown, w'' = grow (redrawn W5 p.d) p.os := fun dd os => Calls.regrown_of ((HT.out _).mono fun e w' h => ⟨h.1, h.2 ▸ Below.refl _ _⟩)
        go_wp2_with fail
        refine wp_region_quiet_below (l := _) (by kernel_rfl) (by kernel_rfl) ?_
        repeat (first | go_big_quiet_step (first | (go_at_call 37; with_reducible exact K1 _ _)))
        refine wpQuiet_nil ?_
        intro w7 hw'
        obtain ⟨⟨dq2, osq2⟩, hw''⟩ := hw'
        have hb2 := below_regrown W5 dq2 osq2
        rw [← hw''] at hb2
        clear hw'' K1
        go_wp2
        refine bodyPost_ret (v := .tuple #[.string SD, .string ⟨#[49, 48, 48, 48, 48, 48, 48]⟩, .bool false]) ?_ rfl ⟨.inl ⟨HO.out.trans HQ.out, _, _, rfl⟩, HBq.out.trans (hb2.mono HBq.out.size)⟩
        rw [results_tmp3 rfl]
        simp only [HZX.out, HLR.out]
        rfl
end Go.Proofs.Ytlndomnampcnfaa
