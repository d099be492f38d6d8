/- What Parse of package frac returns, for any text of at most 80 bytes. Written by wip/mk_fuh.py. -/
import Derived.Test.YtlndomnampcnfaaFuF
import Derived.Test.YtlndomnampcnfaaFuG
import Derived.Test.YtlndomnampcnfaaNumP
namespace Go.Proofs.Ytlndomnampcnfaa
open Go.RowKit Go.Sort
set_option linter.unusedVariables false
set_option linter.unusedSimpArgs false

/-- a text without its sign. -/
def bdy (l : List UInt8) : List UInt8 := if isNeg l then l.drop 1 else l
/-- what Parse returns. -/
def paR (l : List UInt8) : Int × Int × Int := match qoO (bdy l) with
  | none => (0, 0, 5)
  | some (A, B) => if isNeg l = true ∧ dec A = 0 then (0, 0, 5) else if rdB (dec A) (dec B) = false then (0, 0, 4) else if isNeg l = true then (-rdN (dec A) (dec B), rdD (dec A) (dec B), 0) else (rdN (dec A) (dec B), rdD (dec A) (dec B), 0)
theorem bdy_len (l : List UInt8) : (bdy l).length ≤ l.length := by unfold bdy; split; rw [List.length_drop]; omega; exact Nat.le_refl _
theorem rest_bs (l : List UInt8) : restOf (bs l) = bs (bdy l) := by
  unfold restOf bdy
  rw [bs_list]
  by_cases h : isNeg l = true
  · rw [if_pos h, if_pos h]
    have hl : 1 ≤ l.length := by
      cases l with
      | nil => simp [isNeg] at h
      | cons c l => simp
    rw [bs_size, bs_extract l 1 l.length hl (Nat.le_refl _), List.take_of_length_le (by rw [List.length_drop]; omega)]
  · rw [if_neg h, if_neg h]
theorem cut_gen (l : List UInt8) (w : World) (hl : l.length ≤ 100) : Calls Try.prog 14 #[.string (bs l), .string ⟨#[45]⟩] w fun e w' => e = .returned (.tuple #[.string (bs (bdy l)), .bool (isNeg l)]) ∧ w = w' := by
  have q := cut_any (bs l) w (by rw [bs_size]; unfold maxLen; omega)
  rwa [rest_bs, bs_list] at q
theorem dec_head {c : UInt8} {l : List UInt8} (h : (c :: l).all dig = true) (hc : c ≠ 48) : 0 < dec (c :: l) := by
  have e : dec (c :: l) = dec [c] * 10 ^ l.length + dec l := dec_append [c] l
  simp only [List.all_cons, Bool.and_eq_true] at h
  obtain ⟨d1, d2⟩ := dig_iff.1 h.1
  have : dec [c] = c.toNat - 48 := by simp [dec]
  have hc2 : c.toNat ≠ 48 := fun q => hc (by rw [show (48 : UInt8) = UInt8.ofNat 48 from rfl, ← q]; exact (UInt8.ofNat_toNat).symm)
  have h1 : 1 * 10 ^ l.length ≤ dec [c] * 10 ^ l.length := Nat.mul_le_mul_right _ (by omega)
  have h2 : 0 < 10 ^ l.length := Nat.pow_pos (by omega)
  omega
theorem rep_all (n : Nat) : (List.replicate n (48 : UInt8)).all dig = true := by
  rw [List.all_eq_true]; intro x hx; rw [List.eq_of_mem_replicate hx]; decide
structure QoK (l A B : List UInt8) : Prop where
  a0 : 1 ≤ A.length
  a1 : A.length ≤ l.length
  a2 : A.all dig = true
  b0 : 1 ≤ B.length
  b1 : B.length ≤ l.length + 7
  b2 : B.all dig = true
  b3 : 0 < dec B
theorem qo_ok {l A B : List UInt8} (h : qoO l = some (A, B)) : QoK l A B := by
  have hall := ldN_all l
  have hsum : (l.take (ldN l)).length + (l.drop (ldN l)).length = l.length := by rw [← List.length_append, List.take_append_drop]
  unfold qoO at h
  by_cases c1 : l.take (ldN l) = [] ∨ ((l.take (ldN l)).head? = some 48 ∧ l.take (ldN l) ≠ [48])
  · rw [if_pos c1] at h; cases h
  · rw [if_neg c1] at h
    generalize l.take (ldN l) = X at *
    generalize l.drop (ldN l) = R at *
    have hX : 1 ≤ X.length := Nat.succ_le_of_lt (List.length_pos_iff.2 fun e => c1 (.inl e))
    cases R with
    | nil =>
      simp only [Option.some.injEq, Prod.mk.injEq] at h
      obtain ⟨rfl, rfl⟩ := h
      exact ⟨hX, by simp at hsum; omega, hall, by simp, by simp, by decide, by decide⟩
    | cons c r =>
      simp only at h
      have hp := ldN_all r
      have hs2 : (r.take (ldN r)).length + (r.drop (ldN r)).length = r.length := by rw [← List.length_append, List.take_append_drop]
      simp only [List.length_cons] at hsum
      generalize r.take (ldN r) = P at *
      generalize r.drop (ldN r) = Q at *
      by_cases c2 : P = [] ∨ Q ≠ []
      · rw [if_pos c2] at h; cases h
      · rw [if_neg c2] at h
        have hP : P ≠ [] := fun e => c2 (.inl e)
        by_cases c3 : c = 47 ∧ P.head? ≠ some 48
        · rw [if_pos c3] at h
          simp only [Option.some.injEq, Prod.mk.injEq] at h
          obtain ⟨rfl, rfl⟩ := h
          refine ⟨hX, by omega, hall, Nat.succ_le_of_lt (List.length_pos_iff.2 hP), by omega, hp, ?_⟩
          cases P with
          | nil => exact absurd rfl hP
          | cons x P => exact dec_head hp (fun e => c3.2 (by rw [e]; rfl))
        · rw [if_neg c3] at h
          by_cases c4 : c = 46 ∧ P.length ≤ 6
          · rw [if_pos c4] at h
            simp only [Option.some.injEq, Prod.mk.injEq] at h
            obtain ⟨rfl, rfl⟩ := h
            have hz : ((49 : UInt8) :: List.replicate P.length 48).all dig = true := by rw [List.all_cons, rep_all]; decide
            refine ⟨by rw [List.length_append]; omega, by rw [List.length_append]; omega, by rw [List.all_append, hall, hp]; rfl, by simp, by rw [List.length_cons, List.length_replicate]; omega, hz, dec_head hz (by decide)⟩
          · rw [if_neg c4] at h; cases h
theorem NatW.lt {S : Nat → Prop} {w : World} {v : Value} {l : List Nat} (h : NatW S w v l) : NatW (fun B => B < w.heap.size) w v l := by
  obtain ⟨h1, h2, h3, ao, c, h4, h5, h6⟩ := h
  refine ⟨h1, h2, h3, ao, c, h4, h5, fun h0 => ?_⟩
  obtain ⟨B, _, e, hl⟩ := h6 h0
  exact ⟨B, hl.1, e, hl⟩
theorem NatW.shape {S : Nat → Prop} {w : World} {v : Value} {l : List Nat} (h : NatW S w v l) : ∃ ao n c, v = .slice ao n c ∧ n = l.length ∧ (n = 0 ↔ lv l = 0) := by
  obtain ⟨h1, h2, h3, ao, c, h4, h5, h6⟩ := h
  refine ⟨ao, _, c, h4, rfl, fun q => lv_nil q, fun q => ?_⟩
  rcases Nat.eq_zero_or_pos l.length with z | z
  · exact z
  · have := lv_pos h2 z; omega
set_option maxRecDepth 100000 in
set_option maxHeartbeats 16000000 in
theorem parse_gen (l : List UInt8) (w : World) (hl : l.length ≤ 80) : Calls Try.prog 6 #[.string (bs l)] w fun e w' => e = .returned (.tuple #[.agg #[.int .i64 (paR l).1, .int .i64 (paR l).2.1], .int .i64 (paR l).2.2]) ∧ Below w.heap.size w w' := by
  have hbl := bdy_len l
  have H1 := Lib.hid (fun W => cut_gen l W (by omega))
  have HQ := Lib.hid (fun W => quotient_gen (bdy l) W (by omega))
  obtain ⟨SL, hSL⟩ : ∃ T, bs l = T := ⟨_, rfl⟩
  obtain ⟨SB, hSB⟩ : ∃ T, bs (bdy l) = T := ⟨_, rfl⟩
  rw [hSL, hSB] at H1
  rw [hSB] at HQ
  rw [hSL]
  clear hSL hSB
  obtain ⟨R, hR⟩ : ∃ R, R = paR l := ⟨_, rfl⟩
  rw [← hR]
  unfold paR at hR
  by_cases hq : qoO (bdy l) = none
  · have H2 := Lib.hid (fun W => show Calls Try.prog 15 #[.string SB] W fun e w' => e = .returned (.tuple #[.string ⟨#[]⟩, .string ⟨#[]⟩, .bool false]) ∧ Below W.heap.size W w' from (HQ.out W).mono fun e w' h => by
      rcases h with ⟨⟨_, he⟩ | ⟨A, B, h2, _⟩, hb⟩
      · exact ⟨he, hb⟩
      · rw [hq] at h2; cases h2)
    rw [hq] at hR
    have HR := Lib.hid hR
    clear hR HQ hq
    generalize isNeg l = ng at *
    go_enter Try.func6, Try.ntmps6
    go_wp2_with fail
    have P0_1 := Lib.hid (show Cell2 (w.alloc (Obj.cells #[(.int .i64 0), (.int .i64 0)] 24)) (w.heap.size) (.int .i64 0) (.int .i64 0) from by simpa using Cell2.alloc w (.int .i64 0) (.int .i64 0) 24)
    have HB1 := Lib.hid ((Below.refl w.heap.size w).alloc (Nat.le_refl _) (Obj.cells #[(.int .i64 0), (.int .i64 0)] 24))
    generalize (w.alloc (Obj.cells #[(.int .i64 0), (.int .i64 0)] 24)) = W1 at *
    refine (H1.out _).mono ?_
    rintro e w_ ⟨rfl, rfl⟩
    go_wp2_with fail
    refine (H2.out _).mono ?_
    rintro e W2 ⟨rfl, hb2⟩
    have HB2 := Lib.hid (HB1.out.trans ((hb2).mono HB1.out.size))
    have P0_2 := Lib.hid (P0_1.out.below (hb2) P0_1.out.lt)
    clear HB1 P0_1 hb2
    have lP0_2 := P0_2.out.lt
    have cP0_2_0 := P0_2.out.c0
    have cP0_2_1 := P0_2.out.c1
    have fP0_2_0 := P0_2.out.f0
    have fP0_2_1 := P0_2.out.f1
    go_wp2
    refine bodyPost_ret (v := .tuple #[.agg #[(.int .i64 0), (.int .i64 0)], .int .i64 5]) ?_ rfl ⟨by rw [HR.out], ((HB2.out.setCell (p := ⟨w.heap.size, 0, none⟩) (by simp) (.int .i64 0)).setCell (p := ⟨w.heap.size, 1, none⟩) (by simp) (.int .i64 0))⟩
    have u0 := ((P0_2.out.set0 (.int .i64 0)).set1 (.int .i64 0)).c0
    have u1 := ((P0_2.out.set0 (.int .i64 0)).set1 (.int .i64 0)).c1
    rw [results_cell_tmp rfl]
    go_simp
  obtain ⟨X, Y, hxy⟩ : ∃ X Y, qoO (bdy l) = some (X, Y) := by
    cases h : qoO (bdy l) with
    | none => exact absurd h hq
    | some p => exact ⟨p.1, p.2, rfl⟩
  have hk := qo_ok hxy
  have H2 := Lib.hid (fun W => show Calls Try.prog 15 #[.string SB] W fun e w' => e = .returned (.tuple #[.string (bs X), .string (bs Y), .bool true]) ∧ Below W.heap.size W w' from (HQ.out W).mono fun e w' h => by
    rcases h with ⟨⟨h2, he⟩ | ⟨A, B, h2, he⟩, hb⟩
    · rw [hxy] at h2; cases h2
    · rw [hxy] at h2
      injection h2 with h2
      injection h2 with h3 h4
      subst h3 h4
      exact ⟨he, hb⟩)
  rw [hxy] at hR
  simp only at hR
  have k1 := hk.a0
  have k2 := hk.a1
  have k3 := hk.b0
  have k4 := hk.b1
  have H3 := Lib.hid (fun W => readNat_gen (bs X) W (by rw [bs_size]; exact k1) (by rw [bs_size]; omega) (by rw [bs_list]; exact hk.a2))
  have H4 := Lib.hid (fun W => readNat_gen (bs Y) W (by rw [bs_size]; exact k3) (by rw [bs_size]; omega) (by rw [bs_list]; exact hk.b2))
  have HY0 := Lib.hid hk.b3
  simp only [bs_list] at H3 H4
  obtain ⟨SX, hSX⟩ : ∃ T, bs X = T := ⟨_, rfl⟩
  obtain ⟨SY, hSY⟩ : ∃ T, bs Y = T := ⟨_, rfl⟩
  rw [hSX] at H3 H2
  rw [hSY] at H4 H2
  clear hSX hSY k1 k2 k3 k4 hk HQ hxy hq hbl
  generalize dec X = n at *
  generalize dec Y = d at *
  have HRd := Lib.hid hR
  clear hR
  by_cases hng : isNeg l = true
  · rw [hng] at H1 HRd
    clear hng
    by_cases hz : n = 0
    · rw [if_pos ⟨rfl, hz⟩] at HRd
      have HR := HRd
      clear HRd
      go_enter Try.func6, Try.ntmps6
      go_wp2_with fail
      have P0_3 := Lib.hid (show Cell2 (w.alloc (Obj.cells #[(.int .i64 0), (.int .i64 0)] 24)) (w.heap.size) (.int .i64 0) (.int .i64 0) from by simpa using Cell2.alloc w (.int .i64 0) (.int .i64 0) 24)
      have HB3 := Lib.hid ((Below.refl w.heap.size w).alloc (Nat.le_refl _) (Obj.cells #[(.int .i64 0), (.int .i64 0)] 24))
      generalize (w.alloc (Obj.cells #[(.int .i64 0), (.int .i64 0)] 24)) = W3 at *
      refine (H1.out _).mono ?_
      rintro e w_ ⟨rfl, rfl⟩
      go_wp2_with fail
      refine (H2.out _).mono ?_
      rintro e W4 ⟨rfl, hb4⟩
      have HB4 := Lib.hid (HB3.out.trans ((hb4).mono HB3.out.size))
      have P0_4 := Lib.hid (P0_3.out.below (hb4) P0_3.out.lt)
      clear HB3 P0_3 hb4
      go_wp2_with fail
      refine (H3.out _).mono ?_
      rintro e w3 ⟨v3, l3, rfl, hv3, hl3, hb3⟩
      have HN3 := Lib.hid hv3
      have HL3 := Lib.hid hl3
      clear hv3 hl3
      have HB5 := Lib.hid (HB4.out.trans ((hb3).mono HB4.out.size))
      have P0_5 := Lib.hid (P0_4.out.below (hb3) P0_4.out.lt)
      clear HB4 P0_4 hb3
      go_wp2_with fail
      refine (H4.out _).mono ?_
      rintro e w4 ⟨v4, l4, rfl, hv4, hl4, hb4⟩
      have HN4 := Lib.hid hv4.lt
      have HL4 := Lib.hid hl4
      have HN3 := Lib.hid (HN3.out.below hb4).lt
      clear hv4 hl4
      have HB6 := Lib.hid (HB5.out.trans ((hb4).mono HB5.out.size))
      have P0_6 := Lib.hid (P0_5.out.below (hb4) P0_5.out.lt)
      clear HB5 P0_5 hb4
      obtain ⟨ax, na, ca, rfl, ea, za⟩ := HN3.out.shape
      obtain ⟨bx, nb, cb, rfl, eb, zb⟩ := HN4.out.shape
      rw [HL3.out] at za
      have HRe := Lib.hid (reduce_gen ax bx na ca nb cb l3 l4 n d w4 HL3.out HL4.out HY0.out HN3.out HN4.out)
      clear HN3 HN4 HL3 HL4 ea eb zb
      have za' : ((na : Int) == 0) = true := by simp; exact za.2 hz
      clear HRe
      have lP0_6 := P0_6.out.lt
      have cP0_6_0 := P0_6.out.c0
      have cP0_6_1 := P0_6.out.c1
      have fP0_6_0 := P0_6.out.f0
      have fP0_6_1 := P0_6.out.f1
      go_wp2
      refine bodyPost_ret (v := .tuple #[.agg #[(.int .i64 0), (.int .i64 0)], .int .i64 5]) ?_ rfl ⟨by rw [HR.out], ((HB6.out.setCell (p := ⟨w.heap.size, 0, none⟩) (by simp) (.int .i64 0)).setCell (p := ⟨w.heap.size, 1, none⟩) (by simp) (.int .i64 0))⟩
      have u0 := ((P0_6.out.set0 (.int .i64 0)).set1 (.int .i64 0)).c0
      have u1 := ((P0_6.out.set0 (.int .i64 0)).set1 (.int .i64 0)).c1
      rw [results_cell_tmp rfl]
      go_simp
    rw [if_neg (by rintro ⟨_, h⟩; exact hz h)] at HRd
    by_cases hb : rdB n d = false
    · rw [if_pos hb] at HRd
      have HR := HRd
      have HZ := Lib.hid (show rdN n d = 0 ∧ rdD n d = 0 by
        cases h : rdO n d with
        | none => exact ⟨(rd_none h).1, (rd_none h).2.1⟩
        | some p => have := (rd_some (x := p.1) (y := p.2) h).2.2; rw [this] at hb; cases hb)
      clear HRd
      go_enter Try.func6, Try.ntmps6
      go_wp2_with fail
      have P0_7 := Lib.hid (show Cell2 (w.alloc (Obj.cells #[(.int .i64 0), (.int .i64 0)] 24)) (w.heap.size) (.int .i64 0) (.int .i64 0) from by simpa using Cell2.alloc w (.int .i64 0) (.int .i64 0) 24)
      have HB7 := Lib.hid ((Below.refl w.heap.size w).alloc (Nat.le_refl _) (Obj.cells #[(.int .i64 0), (.int .i64 0)] 24))
      generalize (w.alloc (Obj.cells #[(.int .i64 0), (.int .i64 0)] 24)) = W7 at *
      refine (H1.out _).mono ?_
      rintro e w_ ⟨rfl, rfl⟩
      go_wp2_with fail
      refine (H2.out _).mono ?_
      rintro e W8 ⟨rfl, hb8⟩
      have HB8 := Lib.hid (HB7.out.trans ((hb8).mono HB7.out.size))
      have P0_8 := Lib.hid (P0_7.out.below (hb8) P0_7.out.lt)
      clear HB7 P0_7 hb8
      go_wp2_with fail
      refine (H3.out _).mono ?_
      rintro e w3 ⟨v3, l3, rfl, hv3, hl3, hb3⟩
      have HN3 := Lib.hid hv3
      have HL3 := Lib.hid hl3
      clear hv3 hl3
      have HB9 := Lib.hid (HB8.out.trans ((hb3).mono HB8.out.size))
      have P0_9 := Lib.hid (P0_8.out.below (hb3) P0_8.out.lt)
      clear HB8 P0_8 hb3
      go_wp2_with fail
      refine (H4.out _).mono ?_
      rintro e w4 ⟨v4, l4, rfl, hv4, hl4, hb4⟩
      have HN4 := Lib.hid hv4.lt
      have HL4 := Lib.hid hl4
      have HN3 := Lib.hid (HN3.out.below hb4).lt
      clear hv4 hl4
      have HB10 := Lib.hid (HB9.out.trans ((hb4).mono HB9.out.size))
      have P0_10 := Lib.hid (P0_9.out.below (hb4) P0_9.out.lt)
      clear HB9 P0_9 hb4
      obtain ⟨ax, na, ca, rfl, ea, za⟩ := HN3.out.shape
      obtain ⟨bx, nb, cb, rfl, eb, zb⟩ := HN4.out.shape
      rw [HL3.out] at za
      have HRe := Lib.hid (reduce_gen ax bx na ca nb cb l3 l4 n d w4 HL3.out HL4.out HY0.out HN3.out HN4.out)
      clear HN3 HN4 HL3 HL4 ea eb zb
      have za' : ((na : Int) == 0) = false := by simp; exact fun q => hz (za.1 q)
      rw [HZ.out.1, HZ.out.2, hb] at HRe
      go_wp2_with fail
      refine (HRe.out).mono ?_
      rintro e W11 ⟨rfl, hb11⟩
      have HB11 := Lib.hid (HB10.out.trans ((hb11).mono HB10.out.size))
      have P0_11 := Lib.hid (P0_10.out.below (hb11) P0_10.out.lt)
      clear HB10 P0_10 hb11
      have lP0_11 := P0_11.out.lt
      have cP0_11_0 := P0_11.out.c0
      have cP0_11_1 := P0_11.out.c1
      have fP0_11_0 := P0_11.out.f0
      have fP0_11_1 := P0_11.out.f1
      go_wp2
      refine bodyPost_ret (v := .tuple #[.agg #[.int .i64 0, .int .i64 0], .int .i64 4]) ?_ rfl ⟨by rw [HR.out], ((((HB11.out.setCell (p := ⟨w.heap.size, 0, none⟩) (by simp) _).setCell (p := ⟨w.heap.size, 1, none⟩) (by simp) _).setCell (p := ⟨w.heap.size, 0, none⟩) (by simp) _).setCell (p := ⟨w.heap.size, 1, none⟩) (by simp) _)⟩
      have u0 := ((((P0_11.out.set0 (.int .i64 0)).set1 (.int .i64 0)).set0 (.int .i64 0)).set1 (.int .i64 0)).c0
      have u1 := ((((P0_11.out.set0 (.int .i64 0)).set1 (.int .i64 0)).set0 (.int .i64 0)).set1 (.int .i64 0)).c1
      rw [results_cell_tmp rfl]
      go_simp
    rw [if_neg hb] at HRd
    have hb' : rdB n d = true := by simpa using hb
    rw [if_pos rfl] at HRd
    have HR := HRd
    have hbd : 0 ≤ rdN n d ∧ rdN n d ≤ 1000000 := by
      cases h : rdO n d with
      | none => rw [(rd_none h).2.2] at hb'; cases hb'
      | some p => have q1 := (rd_some (x := p.1) (y := p.2) h).1; have q2 := (rdO_copr HY0.out (x := p.1) (y := p.2) h).2.1; omega
    clear HRd hb
    go_enter Try.func6, Try.ntmps6
    go_wp2_with fail
    have P0_12 := Lib.hid (show Cell2 (w.alloc (Obj.cells #[(.int .i64 0), (.int .i64 0)] 24)) (w.heap.size) (.int .i64 0) (.int .i64 0) from by simpa using Cell2.alloc w (.int .i64 0) (.int .i64 0) 24)
    have HB12 := Lib.hid ((Below.refl w.heap.size w).alloc (Nat.le_refl _) (Obj.cells #[(.int .i64 0), (.int .i64 0)] 24))
    generalize (w.alloc (Obj.cells #[(.int .i64 0), (.int .i64 0)] 24)) = W12 at *
    refine (H1.out _).mono ?_
    rintro e w_ ⟨rfl, rfl⟩
    go_wp2_with fail
    refine (H2.out _).mono ?_
    rintro e W13 ⟨rfl, hb13⟩
    have HB13 := Lib.hid (HB12.out.trans ((hb13).mono HB12.out.size))
    have P0_13 := Lib.hid (P0_12.out.below (hb13) P0_12.out.lt)
    clear HB12 P0_12 hb13
    go_wp2_with fail
    refine (H3.out _).mono ?_
    rintro e w3 ⟨v3, l3, rfl, hv3, hl3, hb3⟩
    have HN3 := Lib.hid hv3
    have HL3 := Lib.hid hl3
    clear hv3 hl3
    have HB14 := Lib.hid (HB13.out.trans ((hb3).mono HB13.out.size))
    have P0_14 := Lib.hid (P0_13.out.below (hb3) P0_13.out.lt)
    clear HB13 P0_13 hb3
    go_wp2_with fail
    refine (H4.out _).mono ?_
    rintro e w4 ⟨v4, l4, rfl, hv4, hl4, hb4⟩
    have HN4 := Lib.hid hv4.lt
    have HL4 := Lib.hid hl4
    have HN3 := Lib.hid (HN3.out.below hb4).lt
    clear hv4 hl4
    have HB15 := Lib.hid (HB14.out.trans ((hb4).mono HB14.out.size))
    have P0_15 := Lib.hid (P0_14.out.below (hb4) P0_14.out.lt)
    clear HB14 P0_14 hb4
    obtain ⟨ax, na, ca, rfl, ea, za⟩ := HN3.out.shape
    obtain ⟨bx, nb, cb, rfl, eb, zb⟩ := HN4.out.shape
    rw [HL3.out] at za
    have HRe := Lib.hid (reduce_gen ax bx na ca nb cb l3 l4 n d w4 HL3.out HL4.out HY0.out HN3.out HN4.out)
    clear HN3 HN4 HL3 HL4 ea eb zb
    have za' : ((na : Int) == 0) = false := by simp; exact fun q => hz (za.1 q)
    rw [hb'] at HRe
    obtain ⟨fn, hfn⟩ : ∃ x, rdN n d = x := ⟨_, rfl⟩
    obtain ⟨fd, hfd⟩ : ∃ x, rdD n d = x := ⟨_, rfl⟩
    rw [hfn, hfd] at HRe HR
    rw [hfn] at hbd
    clear hfn hfd hb'
    go_wp2_with fail
    refine (HRe.out).mono ?_
    rintro e W16 ⟨rfl, hb16⟩
    have HB16 := Lib.hid (HB15.out.trans ((hb16).mono HB15.out.size))
    have P0_16 := Lib.hid (P0_15.out.below (hb16) P0_15.out.lt)
    clear HB15 P0_15 hb16
    have lP0_16 := P0_16.out.lt
    have cP0_16_0 := P0_16.out.c0
    have cP0_16_1 := P0_16.out.c1
    have fP0_16_0 := P0_16.out.f0
    have fP0_16_1 := P0_16.out.f1
    go_wp2
    refine bodyPost_ret (v := .tuple #[.agg #[.int .i64 (-fn), .int .i64 fd], .int .i64 0]) ?_ rfl ⟨by rw [HR.out], (((((HB16.out.setCell (p := ⟨w.heap.size, 0, none⟩) (by simp) _).setCell (p := ⟨w.heap.size, 1, none⟩) (by simp) _).setCell (p := ⟨w.heap.size, 0, none⟩) (by simp) _).setCell (p := ⟨w.heap.size, 0, none⟩) (by simp) _).setCell (p := ⟨w.heap.size, 1, none⟩) (by simp) _)⟩
    have u0 := (((((P0_16.out.set0 (.int .i64 fn)).set1 (.int .i64 fd)).set0 (.int .i64 (-fn))).set0 (.int .i64 (-fn))).set1 (.int .i64 fd)).c0
    have u1 := (((((P0_16.out.set0 (.int .i64 fn)).set1 (.int .i64 fd)).set0 (.int .i64 (-fn))).set0 (.int .i64 (-fn))).set1 (.int .i64 fd)).c1
    rw [results_cell_tmp rfl]
    go_simp
  · have hng : isNeg l = false := by simpa using hng
    rw [hng] at H1 HRd
    clear hng
    rw [if_neg (by rintro ⟨h, _⟩; cases h)] at HRd
    by_cases hb : rdB n d = false
    · rw [if_pos hb] at HRd
      have HR := HRd
      have HZ := Lib.hid (show rdN n d = 0 ∧ rdD n d = 0 by
        cases h : rdO n d with
        | none => exact ⟨(rd_none h).1, (rd_none h).2.1⟩
        | some p => have := (rd_some (x := p.1) (y := p.2) h).2.2; rw [this] at hb; cases hb)
      clear HRd
      go_enter Try.func6, Try.ntmps6
      go_wp2_with fail
      have P0_17 := Lib.hid (show Cell2 (w.alloc (Obj.cells #[(.int .i64 0), (.int .i64 0)] 24)) (w.heap.size) (.int .i64 0) (.int .i64 0) from by simpa using Cell2.alloc w (.int .i64 0) (.int .i64 0) 24)
      have HB17 := Lib.hid ((Below.refl w.heap.size w).alloc (Nat.le_refl _) (Obj.cells #[(.int .i64 0), (.int .i64 0)] 24))
      generalize (w.alloc (Obj.cells #[(.int .i64 0), (.int .i64 0)] 24)) = W17 at *
      refine (H1.out _).mono ?_
      rintro e w_ ⟨rfl, rfl⟩
      go_wp2_with fail
      refine (H2.out _).mono ?_
      rintro e W18 ⟨rfl, hb18⟩
      have HB18 := Lib.hid (HB17.out.trans ((hb18).mono HB17.out.size))
      have P0_18 := Lib.hid (P0_17.out.below (hb18) P0_17.out.lt)
      clear HB17 P0_17 hb18
      go_wp2_with fail
      refine (H3.out _).mono ?_
      rintro e w3 ⟨v3, l3, rfl, hv3, hl3, hb3⟩
      have HN3 := Lib.hid hv3
      have HL3 := Lib.hid hl3
      clear hv3 hl3
      have HB19 := Lib.hid (HB18.out.trans ((hb3).mono HB18.out.size))
      have P0_19 := Lib.hid (P0_18.out.below (hb3) P0_18.out.lt)
      clear HB18 P0_18 hb3
      go_wp2_with fail
      refine (H4.out _).mono ?_
      rintro e w4 ⟨v4, l4, rfl, hv4, hl4, hb4⟩
      have HN4 := Lib.hid hv4.lt
      have HL4 := Lib.hid hl4
      have HN3 := Lib.hid (HN3.out.below hb4).lt
      clear hv4 hl4
      have HB20 := Lib.hid (HB19.out.trans ((hb4).mono HB19.out.size))
      have P0_20 := Lib.hid (P0_19.out.below (hb4) P0_19.out.lt)
      clear HB19 P0_19 hb4
      obtain ⟨ax, na, ca, rfl, ea, za⟩ := HN3.out.shape
      obtain ⟨bx, nb, cb, rfl, eb, zb⟩ := HN4.out.shape
      rw [HL3.out] at za
      have HRe := Lib.hid (reduce_gen ax bx na ca nb cb l3 l4 n d w4 HL3.out HL4.out HY0.out HN3.out HN4.out)
      clear HN3 HN4 HL3 HL4 ea eb zb
      rw [HZ.out.1, HZ.out.2, hb] at HRe
      go_wp2_with fail
      refine (HRe.out).mono ?_
      rintro e W21 ⟨rfl, hb21⟩
      have HB21 := Lib.hid (HB20.out.trans ((hb21).mono HB20.out.size))
      have P0_21 := Lib.hid (P0_20.out.below (hb21) P0_20.out.lt)
      clear HB20 P0_20 hb21
      have lP0_21 := P0_21.out.lt
      have cP0_21_0 := P0_21.out.c0
      have cP0_21_1 := P0_21.out.c1
      have fP0_21_0 := P0_21.out.f0
      have fP0_21_1 := P0_21.out.f1
      go_wp2
      refine bodyPost_ret (v := .tuple #[.agg #[.int .i64 0, .int .i64 0], .int .i64 4]) ?_ rfl ⟨by rw [HR.out], ((((HB21.out.setCell (p := ⟨w.heap.size, 0, none⟩) (by simp) _).setCell (p := ⟨w.heap.size, 1, none⟩) (by simp) _).setCell (p := ⟨w.heap.size, 0, none⟩) (by simp) _).setCell (p := ⟨w.heap.size, 1, none⟩) (by simp) _)⟩
      have u0 := ((((P0_21.out.set0 (.int .i64 0)).set1 (.int .i64 0)).set0 (.int .i64 0)).set1 (.int .i64 0)).c0
      have u1 := ((((P0_21.out.set0 (.int .i64 0)).set1 (.int .i64 0)).set0 (.int .i64 0)).set1 (.int .i64 0)).c1
      rw [results_cell_tmp rfl]
      go_simp
    rw [if_neg hb] at HRd
    have hb' : rdB n d = true := by simpa using hb
    rw [if_neg (by intro h; cases h)] at HRd
    have HR := HRd
    have hbd : 0 ≤ rdN n d ∧ rdN n d ≤ 1000000 := by
      cases h : rdO n d with
      | none => rw [(rd_none h).2.2] at hb'; cases hb'
      | some p => have q1 := (rd_some (x := p.1) (y := p.2) h).1; have q2 := (rdO_copr HY0.out (x := p.1) (y := p.2) h).2.1; omega
    clear HRd hb
    go_enter Try.func6, Try.ntmps6
    go_wp2_with fail
    have P0_22 := Lib.hid (show Cell2 (w.alloc (Obj.cells #[(.int .i64 0), (.int .i64 0)] 24)) (w.heap.size) (.int .i64 0) (.int .i64 0) from by simpa using Cell2.alloc w (.int .i64 0) (.int .i64 0) 24)
    have HB22 := Lib.hid ((Below.refl w.heap.size w).alloc (Nat.le_refl _) (Obj.cells #[(.int .i64 0), (.int .i64 0)] 24))
    generalize (w.alloc (Obj.cells #[(.int .i64 0), (.int .i64 0)] 24)) = W22 at *
    refine (H1.out _).mono ?_
    rintro e w_ ⟨rfl, rfl⟩
    go_wp2_with fail
    refine (H2.out _).mono ?_
    rintro e W23 ⟨rfl, hb23⟩
    have HB23 := Lib.hid (HB22.out.trans ((hb23).mono HB22.out.size))
    have P0_23 := Lib.hid (P0_22.out.below (hb23) P0_22.out.lt)
    clear HB22 P0_22 hb23
    go_wp2_with fail
    refine (H3.out _).mono ?_
    rintro e w3 ⟨v3, l3, rfl, hv3, hl3, hb3⟩
    have HN3 := Lib.hid hv3
    have HL3 := Lib.hid hl3
    clear hv3 hl3
    have HB24 := Lib.hid (HB23.out.trans ((hb3).mono HB23.out.size))
    have P0_24 := Lib.hid (P0_23.out.below (hb3) P0_23.out.lt)
    clear HB23 P0_23 hb3
    go_wp2_with fail
    refine (H4.out _).mono ?_
    rintro e w4 ⟨v4, l4, rfl, hv4, hl4, hb4⟩
    have HN4 := Lib.hid hv4.lt
    have HL4 := Lib.hid hl4
    have HN3 := Lib.hid (HN3.out.below hb4).lt
    clear hv4 hl4
    have HB25 := Lib.hid (HB24.out.trans ((hb4).mono HB24.out.size))
    have P0_25 := Lib.hid (P0_24.out.below (hb4) P0_24.out.lt)
    clear HB24 P0_24 hb4
    obtain ⟨ax, na, ca, rfl, ea, za⟩ := HN3.out.shape
    obtain ⟨bx, nb, cb, rfl, eb, zb⟩ := HN4.out.shape
    rw [HL3.out] at za
    have HRe := Lib.hid (reduce_gen ax bx na ca nb cb l3 l4 n d w4 HL3.out HL4.out HY0.out HN3.out HN4.out)
    clear HN3 HN4 HL3 HL4 ea eb zb
    rw [hb'] at HRe
    obtain ⟨fn, hfn⟩ : ∃ x, rdN n d = x := ⟨_, rfl⟩
    obtain ⟨fd, hfd⟩ : ∃ x, rdD n d = x := ⟨_, rfl⟩
    rw [hfn, hfd] at HRe HR
    rw [hfn] at hbd
    clear hfn hfd hb'
    go_wp2_with fail
    refine (HRe.out).mono ?_
    rintro e W26 ⟨rfl, hb26⟩
    have HB26 := Lib.hid (HB25.out.trans ((hb26).mono HB25.out.size))
    have P0_26 := Lib.hid (P0_25.out.below (hb26) P0_25.out.lt)
    clear HB25 P0_25 hb26
    have lP0_26 := P0_26.out.lt
    have cP0_26_0 := P0_26.out.c0
    have cP0_26_1 := P0_26.out.c1
    have fP0_26_0 := P0_26.out.f0
    have fP0_26_1 := P0_26.out.f1
    go_wp2
    refine bodyPost_ret (v := .tuple #[.agg #[.int .i64 fn, .int .i64 fd], .int .i64 0]) ?_ rfl ⟨by rw [HR.out], ((((HB26.out.setCell (p := ⟨w.heap.size, 0, none⟩) (by simp) _).setCell (p := ⟨w.heap.size, 1, none⟩) (by simp) _).setCell (p := ⟨w.heap.size, 0, none⟩) (by simp) _).setCell (p := ⟨w.heap.size, 1, none⟩) (by simp) _)⟩
    have u0 := ((((P0_26.out.set0 (.int .i64 fn)).set1 (.int .i64 fd)).set0 (.int .i64 fn)).set1 (.int .i64 fd)).c0
    have u1 := ((((P0_26.out.set0 (.int .i64 fn)).set1 (.int .i64 fd)).set0 (.int .i64 fn)).set1 (.int .i64 fd)).c1
    rw [results_cell_tmp rfl]
    go_simp
end Go.Proofs.Ytlndomnampcnfaa
