/- What quotientOf of package frac returns, for any text of at most 90 bytes. Written by wip/mk_fuf.py. -/
import Derived.Test.YtlndomnampcnfaaFuE
namespace Go.Proofs.Ytlndomnampcnfaa
open Go.RowKit Go.Sort
set_option linter.unusedVariables false
set_option linter.unusedSimpArgs false

theorem byte_int {c : UInt8} {n : Nat} (hn : n < 256) : ((c.toNat : Int) == (n : Int)) = decide (c = UInt8.ofNat n) := by
  by_cases h : c = UInt8.ofNat n
  · subst h; simp [UInt8.toNat_ofNat', Nat.mod_eq_of_lt hn]
  · have : c.toNat ≠ n := fun e => h (by rw [← e]; exact (UInt8.ofNat_toNat).symm)
    simp [h]; omega
theorem head_at {A : List UInt8} (h : 0 < A.length) : A.head? = some A[0] := by cases A with
  | nil => simp at h
  | cons x A => rfl
/-- a text's list of bytes. -/
structure Tx (T : ByteArray) (l : List UInt8) : Prop where
  list : T.toList = l
  size : T.size = l.length
theorem tx_bs (l : List UInt8) : Tx (bs l) l := ⟨bs_list l, bs_size l⟩
theorem Tx.is {T : ByteArray} {l : List UInt8} (h : Tx T l) : T = bs l := ba_ext (by rw [h.list, bs_list])
theorem Tx.emp {T : ByteArray} {l : List UInt8} (h : Tx T l) {b : Bool} (e : decide (l = []) = b) : T.toList.isEmpty = b := by
  rw [h.list, ← e]; cases l <;> simp
theorem Tx.at {T : ByteArray} {l : List UInt8} (h : Tx T l) {j : Nat} (hj : j < T.size) (hl : j < l.length) : T[j] = l[j] := by
  have := bytes_get T j hj (by rw [h.list]; exact hl)
  rw [← this]
  simp only [h.list]
set_option maxRecDepth 100000 in
set_option maxHeartbeats 8000000 in
theorem quotient_gen (l : List UInt8) (w : World) (hs : l.length ≤ 90) : Calls Try.prog 15 #[.string (bs l)] w (QoP l w) := by
  have H1 := Lib.hid (leading_gen l w (by omega))
  obtain ⟨o, ho⟩ : ∃ o, o = qoO l := ⟨_, rfl⟩
  have HO := Lib.hid ho.symm
  unfold qoO at ho
  have HU := Lib.hid ho
  clear ho
  have hlA : (l.take (ldN l)).length ≤ 90 := by rw [List.length_take]; omega
  have hlR : (l.drop (ldN l)).length ≤ 90 := by rw [List.length_drop]; omega
  generalize l.take (ldN l) = A at *
  generalize l.drop (ldN l) = R at *
  obtain ⟨SL, hSL⟩ : ∃ T, bs l = T := ⟨_, rfl⟩
  obtain ⟨SA, hSA⟩ : ∃ T, bs A = T := ⟨_, rfl⟩
  obtain ⟨SR, hSR⟩ : ∃ T, bs R = T := ⟨_, rfl⟩
  have tA : Tx SA A := hSA ▸ tx_bs A
  have tR : Tx SR R := hSR ▸ tx_bs R
  rw [hSL, hSA, hSR] at H1
  rw [hSL]
  clear hSL hSR
  have HSA := Lib.hid hSA
  clear hSA
  by_cases a0 : A = []
  · rw [if_pos (.inl a0)] at HU
    have HQ := HU
    have f1 := tA.emp (decide_eq_true a0)
    clear tA tR HU
    go_enter Try.func15, Try.ntmps15
    go_wp2_with fail
    refine H1.out.mono ?_
    rintro e w1 ⟨rfl, hb1⟩
    have HB := Lib.hid hb1
    clear hb1 H1
    go_wp2
    refine bodyPost_ret (v := .tuple #[.string ⟨#[]⟩, .string ⟨#[]⟩, .bool false]) ?_ rfl ⟨.inl ⟨HO.out.trans HQ.out, rfl⟩, HB.out⟩
    rw [results_tmp3 rfl]
    rfl
  have f1 := tA.emp (decide_eq_false a0)
  have zA : 0 < A.length := List.length_pos_iff.2 a0
  have zS : 0 < SA.size := by rw [tA.size]; exact zA
  have hA0 : SA[0] = A[0] := tA.at zS zA
  have hhd := head_at zA
  have f2 : ((SA[0].toNat : Int) == 48) = decide (A[0] = 48) := by rw [hA0]; exact byte_int (n := 48) (by omega)
  have f3 : (SA.toList == [48]) = decide (A = [48]) := by rw [tA.list]; by_cases h : A = [48] <;> simp [h]
  by_cases a1 : A[0] = 48 ∧ A ≠ [48]
  · rw [if_pos (.inr ⟨by rw [hhd, a1.1], a1.2⟩)] at HU
    have HQ := HU
    rw [decide_eq_true a1.1] at f2
    rw [decide_eq_false a1.2] at f3
    clear tA tR HU hhd hA0 a1 a0
    go_enter Try.func15, Try.ntmps15
    go_wp2_with fail
    refine H1.out.mono ?_
    rintro e w1 ⟨rfl, hb1⟩
    have HB := Lib.hid hb1
    clear hb1 H1
    go_wp2
    refine bodyPost_ret (v := .tuple #[.string ⟨#[]⟩, .string ⟨#[]⟩, .bool false]) ?_ rfl ⟨.inl ⟨HO.out.trans HQ.out, rfl⟩, HB.out⟩
    rw [results_tmp3 rfl]
    rfl
  rw [if_neg (by rintro (h | ⟨h, h'⟩); exact a0 h; exact a1 ⟨by rw [hhd] at h; exact Option.some.inj h, h'⟩)] at HU
  have hcase : (((SA[0].toNat : Int) == 48) = true ∧ (SA.toList == [48]) = true) ∨ ((SA[0].toNat : Int) == 48) = false := by
    by_cases h : A[0] = 48
    · left
      have : A = [48] := Classical.byContradiction fun q => a1 ⟨h, q⟩
      rw [f2, f3]; simp [h, this]
    · right; rw [f2]; simp [h]
  have HSz := Lib.hid (show SA.size ≤ 90 by rw [tA.size]; exact hlA)
  clear f2 f3 a1 a0 hhd hA0 zA tA
  by_cases r0 : R = []
  · subst r0
    have HQ := HU
    have g1 := tR.emp (decide_eq_true rfl)
    have HR := Lib.hid (show Ending.returned (.tuple #[.string SA, .string ⟨#[49]⟩, .bool true]) = .returned (.tuple #[.string (bs A), .string (bs [49]), .bool true]) by rw [HSA.out]; rfl)
    clear tR HU
    rcases hcase with ⟨f2, f3⟩ | f2
    all_goals
      go_enter Try.func15, Try.ntmps15
      go_wp2_with fail
      refine H1.out.mono ?_
      rintro e w1 ⟨rfl, hb1⟩
      have HB := Lib.hid hb1
      clear hb1 H1
      go_wp2
      refine bodyPost_ret (v := .tuple #[.string SA, .string ⟨#[49]⟩, .bool true]) ?_ rfl ⟨.inr ⟨_, _, HO.out.trans HQ.out, by exact HR.out⟩, HB.out⟩
      rw [results_tmp3 rfl]
      rfl
  obtain ⟨c, r, rfl⟩ : ∃ c r, R = c :: r := by cases R with
    | nil => exact absurd rfl r0
    | cons c r => exact ⟨c, r, rfl⟩
  have g1 := tR.emp (decide_eq_false r0)
  have zR : 0 < SR.size := by rw [tR.size]; simp
  have zR1 : (1 : Int) ≤ (SR.size : Int) := by omega
  have hR0 : SR[0] = c := tR.at zR (by simp)
  have hex : SR.extract 1 SR.size = bs r := by
    refine ba_ext ?_
    rw [tR.is, bs_size, bs_extract (c :: r) 1 (c :: r).length (by simp) (Nat.le_refl _)]
    simp [bs_list]
  have hszR : SR.size ≤ 90 := by rw [tR.size]; exact hlR
  have H2 := Lib.hid (fun W => leading_gen r W (by simp at hlR; omega))
  have HPd := Lib.hid (show (r.take (ldN r)).length ≤ 90 by rw [List.length_take]; simp at hlR; omega)
  simp only at HU
  generalize r.take (ldN r) = P at *
  generalize r.drop (ldN r) = Q at *
  obtain ⟨Sr, hSr⟩ : ∃ T, bs r = T := ⟨_, rfl⟩
  obtain ⟨SP, hSP⟩ : ∃ T, bs P = T := ⟨_, rfl⟩
  obtain ⟨SQ, hSQ⟩ : ∃ T, bs Q = T := ⟨_, rfl⟩
  have tP : Tx SP P := hSP ▸ tx_bs P
  have tQ : Tx SQ Q := hSQ ▸ tx_bs Q
  rw [hSr, hSP, hSQ] at H2
  rw [hSr] at hex
  have HSP := Lib.hid hSP
  clear hSr hSP hSQ tR r0 hlR
  have e47 : ((SR[0].toNat : Int) == 47) = decide (c = 47) := by rw [hR0]; exact byte_int (n := 47) (by omega)
  have e46 : ((SR[0].toNat : Int) == 46) = decide (c = 46) := by rw [hR0]; exact byte_int (n := 46) (by omega)
  clear hR0
  by_cases p0 : P = []
  · rw [if_pos (.inl p0)] at HU
    have HQ := HU
    have q1 := tP.emp (decide_eq_true p0)
    clear tP tQ HU e47 e46
    rcases hcase with ⟨f2, f3⟩ | f2
    all_goals
      go_enter Try.func15, Try.ntmps15
      go_wp2_with fail
      refine H1.out.mono ?_
      rintro e w1 ⟨rfl, hb1⟩
      have HB := Lib.hid hb1
      clear hb1 H1
      go_wp2_with fail
      refine (H2.out _).mono ?_
      rintro e w2 ⟨rfl, hb2⟩
      have HB := Lib.hid (HB.out.trans (hb2.mono HB.out.size))
      clear hb2 H2
      go_wp2
      refine bodyPost_ret (v := .tuple #[.string ⟨#[]⟩, .string ⟨#[]⟩, .bool false]) ?_ rfl ⟨.inl ⟨HO.out.trans HQ.out, rfl⟩, HB.out⟩
      rw [results_tmp3 rfl]
      rfl
  have q1 := tP.emp (decide_eq_false p0)
  by_cases p1 : Q = []
  rotate_left
  · rw [if_pos (.inr p1)] at HU
    have HQ := HU
    have q2 := tQ.emp (decide_eq_false p1)
    clear tP tQ HU e47 e46
    rcases hcase with ⟨f2, f3⟩ | f2
    all_goals
      go_enter Try.func15, Try.ntmps15
      go_wp2_with fail
      refine H1.out.mono ?_
      rintro e w1 ⟨rfl, hb1⟩
      have HB := Lib.hid hb1
      clear hb1 H1
      go_wp2_with fail
      refine (H2.out _).mono ?_
      rintro e w2 ⟨rfl, hb2⟩
      have HB := Lib.hid (HB.out.trans (hb2.mono HB.out.size))
      clear hb2 H2
      go_wp2
      refine bodyPost_ret (v := .tuple #[.string ⟨#[]⟩, .string ⟨#[]⟩, .bool false]) ?_ rfl ⟨.inl ⟨HO.out.trans HQ.out, rfl⟩, HB.out⟩
      rw [results_tmp3 rfl]
      rfl
  have q2 := tQ.emp (decide_eq_true p1)
  rw [if_neg (by rintro (h | h); exact p0 h; exact h p1)] at HU
  have zP : 0 < P.length := List.length_pos_iff.2 p0
  have zSP : 0 < SP.size := by rw [tP.size]; exact zP
  have hP0 : SP[0] = P[0] := tP.at zSP zP
  have hhp := head_at zP
  have q3 : ((SP[0].toNat : Int) == 48) = decide (P[0] = 48) := by rw [hP0]; exact byte_int (n := 48) (by omega)
  have q3' : ((SP[0].toNat : Int) != 48) = decide (P[0] ≠ 48) := by
    have : ((SP[0].toNat : Int) != 48) = !((SP[0].toNat : Int) == 48) := rfl
    rw [this, q3]; by_cases h : P[0] = 48 <;> simp [h]
  have HSP2 := Lib.hid (show SP.size = P.length from tP.size)
  clear tQ p1
  by_cases c47 : c = 47
  · rw [decide_eq_true c47] at e47
    rw [decide_eq_false (show ¬ c = 46 by subst c47; decide)] at e46
    by_cases p48 : P[0] = 48
    · rw [if_neg (by rintro ⟨_, h⟩; exact h (by rw [hhp, p48])), if_neg (by rintro ⟨h, _⟩; subst c47; exact absurd h (by decide))] at HU
      have HQ := HU
      rw [decide_eq_true p48] at q3
      rw [decide_eq_false (fun h => h p48)] at q3'
      clear HU tP hhp hP0 p48 p0 zP
      rcases hcase with ⟨f2, f3⟩ | f2
      all_goals
        go_enter Try.func15, Try.ntmps15
        go_wp2_with fail
        refine H1.out.mono ?_
        rintro e w1 ⟨rfl, hb1⟩
        have HB := Lib.hid hb1
        clear hb1 H1
        go_wp2_with fail
        refine (H2.out _).mono ?_
        rintro e w2 ⟨rfl, hb2⟩
        have HB := Lib.hid (HB.out.trans (hb2.mono HB.out.size))
        clear hb2 H2
        go_wp2
        refine bodyPost_ret (v := .tuple #[.string ⟨#[]⟩, .string ⟨#[]⟩, .bool false]) ?_ rfl ⟨.inl ⟨HO.out.trans HQ.out, rfl⟩, HB.out⟩
        rw [results_tmp3 rfl]
        rfl
    · rw [if_pos ⟨c47, by rw [hhp]; intro h; exact p48 (Option.some.inj h)⟩] at HU
      have HQ := HU
      rw [decide_eq_false p48] at q3
      rw [decide_eq_true p48] at q3'
      have HR := Lib.hid (show Ending.returned (.tuple #[.string SA, .string SP, .bool true]) = .returned (.tuple #[.string (bs A), .string (bs P), .bool true]) by rw [HSA.out, HSP.out])
      clear HU tP hhp hP0 p48 p0 zP
      rcases hcase with ⟨f2, f3⟩ | f2
      all_goals
        go_enter Try.func15, Try.ntmps15
        go_wp2_with fail
        refine H1.out.mono ?_
        rintro e w1 ⟨rfl, hb1⟩
        have HB := Lib.hid hb1
        clear hb1 H1
        go_wp2_with fail
        refine (H2.out _).mono ?_
        rintro e w2 ⟨rfl, hb2⟩
        have HB := Lib.hid (HB.out.trans (hb2.mono HB.out.size))
        clear hb2 H2
        go_wp2
        refine bodyPost_ret (v := .tuple #[.string SA, .string SP, .bool true]) ?_ rfl ⟨.inr ⟨_, _, HO.out.trans HQ.out, by exact HR.out⟩, HB.out⟩
        rw [results_tmp3 rfl]
        rfl
  rw [decide_eq_false c47] at e47
  rw [if_neg (by rintro ⟨h, _⟩; exact c47 h)] at HU
  by_cases c46 : c = 46
  · rw [decide_eq_true c46] at e46
    by_cases p6 : P.length ≤ 6
    · rw [if_pos ⟨c46, p6⟩] at HU
      have HQ := HU
      have hp6 : (SP.size : Int) ≤ 6 := by rw [HSP2.out]; omega
      have hp6' : decide ((SP.size : Int) ≤ 6) = true := decide_eq_true hp6
      have H3 := Lib.hid (fun W => repeat_gen P.length W p6)
      have hpl := HSP2.out
      rw [← hpl] at H3
      obtain ⟨SZ, hSZ⟩ : ∃ T, bs (List.replicate SP.size 48) = T := ⟨_, rfl⟩
      have hzs : SZ.size = SP.size := by rw [← hSZ, bs_size, List.length_replicate]
      rw [hSZ] at H3
      have HR := Lib.hid (show Ending.returned (.tuple #[.string (SA ++ SP), .string (⟨#[49]⟩ ++ SZ), .bool true]) = .returned (.tuple #[.string (bs (A ++ P)), .string (bs (49 :: List.replicate P.length 48)), .bool true]) by
        rw [← HSA.out, ← HSP.out, bs_app, ← hSZ, show (⟨#[49]⟩ : ByteArray) = bs [49] from rfl, bs_app, hpl]; rfl)
      have hsa := HSz.out
      clear HU tP hhp hP0 p0 zP hSZ hpl p6 q3 q3'
      rcases hcase with ⟨f2, f3⟩ | f2
      all_goals
        go_enter Try.func15, Try.ntmps15
        go_wp2_with fail
        refine H1.out.mono ?_
        rintro e w1 ⟨rfl, hb1⟩
        have HB := Lib.hid hb1
        clear hb1 H1
        go_wp2_with fail
        refine (H2.out _).mono ?_
        rintro e w2 ⟨rfl, hb2⟩
        have HB := Lib.hid (HB.out.trans (hb2.mono HB.out.size))
        clear hb2 H2
        go_wp2_with fail
        refine (H3.out _).mono ?_
        rintro e w3 ⟨rfl, hb3⟩
        have HB := Lib.hid (HB.out.trans (hb3.mono HB.out.size))
        clear hb3 H3
        go_wp2
        refine bodyPost_ret (v := .tuple #[.string (SA ++ SP), .string (⟨#[49]⟩ ++ SZ), .bool true]) ?_ rfl ⟨.inr ⟨_, _, HO.out.trans HQ.out, by exact HR.out⟩, HB.out⟩
        rw [results_tmp3 rfl]
        rfl
    · rw [if_neg (by rintro ⟨_, h⟩; exact p6 h)] at HU
      have HQ := HU
      have hp6 : ¬ (SP.size : Int) ≤ 6 := by rw [HSP2.out]; omega
      have hp6' : decide ((SP.size : Int) ≤ 6) = false := decide_eq_false hp6
      clear HU tP hhp hP0 p0 zP q3 q3'
      rcases hcase with ⟨f2, f3⟩ | f2
      all_goals
        go_enter Try.func15, Try.ntmps15
        go_wp2_with fail
        refine H1.out.mono ?_
        rintro e w1 ⟨rfl, hb1⟩
        have HB := Lib.hid hb1
        clear hb1 H1
        go_wp2_with fail
        refine (H2.out _).mono ?_
        rintro e w2 ⟨rfl, hb2⟩
        have HB := Lib.hid (HB.out.trans (hb2.mono HB.out.size))
        clear hb2 H2
        go_wp2
        refine bodyPost_ret (v := .tuple #[.string ⟨#[]⟩, .string ⟨#[]⟩, .bool false]) ?_ rfl ⟨.inl ⟨HO.out.trans HQ.out, rfl⟩, HB.out⟩
        rw [results_tmp3 rfl]
        rfl
  · rw [decide_eq_false c46] at e46
    rw [if_neg (by rintro ⟨h, _⟩; exact c46 h)] at HU
    have HQ := HU
    clear HU tP hhp hP0 p0 zP q3 q3'
    rcases hcase with ⟨f2, f3⟩ | f2
    all_goals
      go_enter Try.func15, Try.ntmps15
      go_wp2_with fail
      refine H1.out.mono ?_
      rintro e w1 ⟨rfl, hb1⟩
      have HB := Lib.hid hb1
      clear hb1 H1
      go_wp2_with fail
      refine (H2.out _).mono ?_
      rintro e w2 ⟨rfl, hb2⟩
      have HB := Lib.hid (HB.out.trans (hb2.mono HB.out.size))
      clear hb2 H2
      go_wp2
      refine bodyPost_ret (v := .tuple #[.string ⟨#[]⟩, .string ⟨#[]⟩, .bool false]) ?_ rfl ⟨.inl ⟨HO.out.trans HQ.out, rfl⟩, HB.out⟩
      rw [results_tmp3 rfl]
      rfl
end Go.Proofs.Ytlndomnampcnfaa
