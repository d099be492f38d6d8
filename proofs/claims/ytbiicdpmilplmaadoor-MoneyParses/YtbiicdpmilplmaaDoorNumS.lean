/- What Parse of package accountingref01 returns, for every string and every range. -/
import Derived.Test.YtbiicdpmilplmaaDoorNumR
namespace Go.Proofs.YtbiicdpmilplmaaDoor
open Go.RowKit
set_option linter.unusedVariables false

theorem rmul10_yes (a : Int) (w : World) (a1 : -9223372036854775808 ≤ a) (a2 : a ≤ 9223372036854775807) (hf : fits (a * 10) = true) :
    Calls Tryd.prog 30 #[.int .i64 a, .int .i64 10] w fun e w' => e = .returned (.tuple #[.int .i64 (a * 10), .bool true]) ∧ w = w' := by
  have h := rMul_any a 10 w a1 a2 (by omega) (by omega)
  unfold fit at h; rw [hf, if_pos rfl] at h; exact h
theorem rmul10_no (a : Int) (w : World) (a1 : -9223372036854775808 ≤ a) (a2 : a ≤ 9223372036854775807) (hf : fits (a * 10) = false) :
    Calls Tryd.prog 30 #[.int .i64 a, .int .i64 10] w fun e w' => e = .returned (.tuple #[.int .i64 0, .bool false]) ∧ w = w' := by
  have h := rMul_any a 10 w a1 a2 (by omega) (by omega)
  unfold fit at h; rw [hf] at h; exact h
theorem radd_yes (a b : Int) (w : World) (a1 : -9223372036854775808 ≤ a) (a2 : a ≤ 9223372036854775807) (b1 : -9223372036854775808 ≤ b) (b2 : b ≤ 9223372036854775807) (hf : fits (a + b) = true) :
    Calls Tryd.prog 48 #[.int .i64 a, .int .i64 b] w fun e w' => e = .returned (.tuple #[.int .i64 (a + b), .bool true]) ∧ w = w' := by
  have h := rAdd_any a b w a1 a2 b1 b2
  unfold fit at h; rw [hf, if_pos rfl] at h; exact h
theorem radd_no (a b : Int) (w : World) (a1 : -9223372036854775808 ≤ a) (a2 : a ≤ 9223372036854775807) (b1 : -9223372036854775808 ≤ b) (b2 : b ≤ 9223372036854775807) (hf : fits (a + b) = false) :
    Calls Tryd.prog 48 #[.int .i64 a, .int .i64 b] w fun e w' => e = .returned (.tuple #[.int .i64 0, .bool false]) ∧ w = w' := by
  have h := rAdd_any a b w a1 a2 b1 b2
  unfold fit at h; rw [hf] at h; exact h
theorem rDigits_is (s : ByteArray) (w : World) (hs : s.size ≤ maxLen) (b : Bool) (h : digs s.toList = b) :
    Calls Tryd.prog 35 #[.string s] w fun e w' => e = .returned (.bool b) ∧ w = w' := by
  subst h; exact rDigits_any s w hs

theorem digs_pos {d : ByteArray} (h : digs d.toList = true) : 0 < d.size := by
  unfold digs at h; simp at h
  rw [← bytes_len]; exact List.length_pos_iff.2 h.1
theorem digs_all {d : ByteArray} (h : digs d.toList = true) : d.toList.all dig = true := by
  unfold digs at h; simp at h; simp; exact h.2
theorem notn_digs_no {l : List UInt8} (h : digs l = false) : notn l = false := by
  unfold digs at h; unfold notn; rw [h]; rfl
theorem one_list {d : ByteArray} (hz : 0 < d.size) (h1 : d.size = 1) : d.toList = [d[0]] := by
  apply List.ext_getElem
  · rw [bytes_len, h1]; rfl
  · intro i hi hj
    have e : i = 0 := by simp at hj; exact hj
    subst e
    rw [bytes_get _ 0 hz]; rfl
theorem eq48 {d : ByteArray} (hz : 0 < d.size) : (d.toList == [48]) = true ↔ (d[0].toNat : Int) = 48 ∧ d.size = 1 := by
  rw [beq_iff_eq]
  constructor
  · intro h
    have h1 : d.size = 1 := by rw [← bytes_len, h]; rfl
    have h2 := one_list hz h1
    rw [h] at h2
    injection h2 with h2
    exact ⟨byte48.2 h2.symm, h1⟩
  · rintro ⟨h1, h2⟩
    rw [one_list hz h2, byte48.1 h1]
/-- a leading zero, or minus zero. -/
theorem lead_bad {d : ByteArray} {neg : Bool} {lo hi : Int} (hd : digs d.toList = true) (hz : 0 < d.size) (h0 : (d[0].toNat : Int) = 48) (h1 : 1 < d.size ∨ neg = true) : parseD d.toList neg lo hi = (0, 5) := by
  by_cases h : d.size = 1
  · have hn : neg = true := by
      rcases h1 with h1 | h1
      · omega
      · exact h1
    exact parse_zero hn ((eq48 hz).2 ⟨h0, h⟩)
  · refine parse_form (notn_lead (by rw [bytes_head hz, byte48.1 h0]) ?_)
    rw [← Bool.not_eq_true, eq48 hz]; omega
def LeadOk (d : ByteArray) (neg : Bool) : Prop := notn d.toList = true ∧ (neg = false ∨ (d.toList == [48]) = false)
theorem LeadOk.out {d : ByteArray} {neg : Bool} (h : LeadOk d neg) : notn d.toList = true ∧ (neg = false ∨ (d.toList == [48]) = false) := h
theorem lead_ok {d : ByteArray} {neg : Bool} (hd : digs d.toList = true) (hz : 0 < d.size) (h : ¬ ((d[0].toNat : Int) = 48 ∧ (1 < d.size ∨ neg = true))) : notn d.toList = true ∧ (neg = false ∨ (d.toList == [48]) = false) := by
  have hk := eq48 hz
  have hnn : ¬ d.toList = [] := fun e => by have := bytes_len d; rw [e] at this; simp at this; omega
  by_cases h0 : (d[0].toNat : Int) = 48
  · have h1 : d.size = 1 := by omega
    have hn : neg = false := by cases neg <;> simp_all
    refine ⟨notn_yes hnn (digs_all hd) (.inr ?_), .inl hn⟩
    have := hk.2 ⟨h0, h1⟩
    simpa using this
  · refine ⟨notn_yes hnn (digs_all hd) (.inl ?_), .inr ?_⟩
    · rw [bytes_head hz]; intro e; injection e with e; exact h0 (byte48.2 e)
    · rw [← Bool.not_eq_true, hk]; omega

set_option maxHeartbeats 1000000 in
theorem rParse_pos_form (s d : ByteArray) (lo hi : Int) (w : World) (hs : s.size ≤ maxLen) (hz : 0 < s.size) (hc : ((s[0].toNat : Int) == 45) = false) (hd : s = d) (hdm : d.size ≤ maxLen)
    (hcase : digs d.toList = false ∨ ∃ hp : 0 < d.size, digs d.toList = true ∧ (d[0].toNat : Int) = 48 ∧ 1 < d.size) :
    Calls Tryd.prog 36 #[.string s, .int .i64 lo, .int .i64 hi] w fun e w' => e = .returned (.tuple #[.int .i64 0, .int .i64 5]) ∧ w = w' := by
  unfold maxLen at hs
  have hE : s.toList.isEmpty = false := by
    cases he : s.toList.isEmpty
    · rfl
    · simp at he; have := bytes_len s; rw [he] at this; simp at this; omega
  have hd1 := hd.symm; subst hd1; clear hd
  rcases hcase with h | ⟨hp, h, h0, h1⟩
  · have HD := Lib.hid (rDigits_is d w hdm false h)
    clear h
    go_enter Tryd.func36, Tryd.ntmps36
    go_wp2_with fail
    skip
    refine HD.out.mono ?_
    rintro e w' ⟨rfl, rfl⟩
    go_wp2
    go_ret2
    exact ⟨rfl, rfl⟩
  · have HD := Lib.hid (rDigits_is d w hdm true h)
    have hb : ((d[0].toNat : Int) == 48) = true := by simpa using h0
    skip
    clear h h0
    go_enter Tryd.func36, Tryd.ntmps36
    go_wp2_with fail
    skip
    refine HD.out.mono ?_
    rintro e w' ⟨rfl, rfl⟩
    go_wp2
    go_ret2
    exact ⟨rfl, rfl⟩

set_option maxHeartbeats 1000000 in
theorem rParse_pos_loop (s d : ByteArray) (lo hi : Int) (w : World) (hs : s.size ≤ maxLen) (hz : 0 < s.size) (hc : ((s[0].toNat : Int) == 45) = false) (hd : s = d) (hdm : d.size ≤ maxLen)
    (hp : 0 < d.size) (h : digs d.toList = true) (hok : ((d[0].toNat : Int) == 48) = false ∨ ((d[0].toNat : Int) == 48) = true ∧ ¬ 1 < d.size) (v : Int × Int) (hv : parseD d.toList false lo hi = v) :
    Calls Tryd.prog 36 #[.string s, .int .i64 lo, .int .i64 hi] w fun e w' => e = .returned (.tuple #[.int .i64 v.1, .int .i64 v.2]) ∧ w = w' := by
  unfold maxLen at hs
  have hdm' : d.size ≤ 9223372036854775807 := by unfold maxLen at hdm; omega
  have hE : s.toList.isEmpty = false := by
    cases he : s.toList.isEmpty
    · rfl
    · simp at he; have := bytes_len s; rw [he] at this; simp at this; omega
  have hd1 := hd.symm; subst hd1; clear hd
  have HG := Lib.hid h
  have HD := Lib.hid (rDigits_is d w hdm true h)
  have HL : LeadOk d false := lead_ok h hp (by
    intro hh; rcases hok with hok | ⟨_, h1⟩
    · exact beq_eq_false_iff_ne.1 hok hh.1
    · have := hh.2; simp at this; omega)
  have HV := Lib.hid hv
  clear h hv
  rcases hok with hok | ⟨hok, h1⟩
  all_goals
    go_enter Tryd.func36, Tryd.ntmps36
    go_wp2_with fail
    skip
    refine HD.out.mono ?_
    rintro e w' ⟨rfl, rfl⟩
    go_wp2
    go_loop [10, 11] (fun n i => ∃ (k : Nat), k ≤ d.size ∧ i = .int .i64 k ∧ n = .int .i64 (sgn false (dec (d.toList.take k))) ∧ fits (sgn false (dec (d.toList.take k))) = true) (fun _ i => d.size - (intOf i).toNat)
    case atStart => exact ⟨0, Nat.zero_le _, rfl, rfl, rfl⟩
    case round =>
      obtain ⟨k, hk, rfl, rfl, hf⟩ := hrel
      obtain ⟨f1, f2⟩ := fits_iff.1 hf
      have HF := Lib.hid hf
      clear hf
      by_cases hlt : k < d.size
      · obtain ⟨d1, d2⟩ := all_at (digs_all HG.out) hlt
        have HS := Lib.hid (val_step (digs_all HG.out) hlt false)
        have H10 := Lib.hid (val_bad10 (digs_all HG.out) hlt (neg := false))
        generalize hN : sgn false (dec (d.toList.take k)) = N at *
        have HN := Lib.hid hN
        clear hN
        cases h10 : fits (N * 10)
        · have HB := Lib.hid (H10.out h10)
          have G := Lib.hid h10
          clear h10
          go_wp2_with fail
          refine (rmul10_no _ _ f1 f2 G.out).mono ?_
          rintro e w' ⟨rfl, rfl⟩
          go_wp2
          go_ret2
          exact ⟨ret_intInt (by rw [← HV.out, parse_over HL.out.1 HL.out.2 HB.out]) (by rw [← HV.out, parse_over HL.out.1 HL.out.2 HB.out]), rfl⟩
        · obtain ⟨g1, g2⟩ := fits_iff.1 h10
          have G := Lib.hid h10
          clear h10
          cases hA : fits (N * 10 + ((d[k].toNat : Int) - 48))
          · have HB := Lib.hid (val_bad (k := k + 1) (neg := false) (by rw [HS.out]; exact hA))
            have GA := Lib.hid hA
            clear hA
            go_wp2_with fail
            refine (rmul10_yes _ _ f1 f2 G.out).mono ?_
            rintro e w' ⟨rfl, rfl⟩
            go_wp2_with fail
            refine (radd_no _ _ _ g1 g2 (by omega) (by omega) GA.out).mono ?_
            rintro e w' ⟨rfl, rfl⟩
            go_wp2
            go_ret2
            exact ⟨ret_intInt (by rw [← HV.out, parse_over HL.out.1 HL.out.2 HB.out]) (by rw [← HV.out, parse_over HL.out.1 HL.out.2 HB.out]), rfl⟩
          · have GA := Lib.hid hA
            clear hA
            go_wp2_with fail
            refine (rmul10_yes _ _ f1 f2 G.out).mono ?_
            rintro e w' ⟨rfl, rfl⟩
            go_wp2_with fail
            refine (radd_yes _ _ _ g1 g2 (by omega) (by omega) GA.out).mono ?_
            rintro e w' ⟨rfl, rfl⟩
            go_wp2
            go_round
            case rel => exact ⟨k + 1, by omega, by go_num, by rw [HS.out]; rfl, by rw [HS.out]; exact GA.out⟩
            case measure => simp [intOf]; omega
      · have hf := HF.out
        rw [val_all hlt] at hf
        have HFF := Lib.hid hf
        have hz' : ∃ z, sgn false (dec (d.toList.take k)) = z ∧ sgn false (dec d.toList) = z := ⟨_, rfl, by rw [val_all hlt]⟩
        clear hf
        obtain ⟨z, hz1, hz2⟩ := hz'
        rw [hz1]
        have HZ := Lib.hid hz2
        clear hz1 hz2 HF
        by_cases c1 : z < lo
        · have HR := Lib.hid (parse_out (neg := false) (lo := lo) (hi := hi) HL.out.1 HL.out.2 (by rw [HZ.out]; exact .inl c1))
          go_wp2
          go_ret2
          exact ⟨ret_intInt (by rw [← HV.out, HR.out]) (by rw [← HV.out, HR.out]), rfl⟩
        · by_cases c2 : hi < z
          · have HR := Lib.hid (parse_out (neg := false) (lo := lo) (hi := hi) HL.out.1 HL.out.2 (by rw [HZ.out]; exact .inr c2))
            go_wp2
            go_ret2
            exact ⟨ret_intInt (by rw [← HV.out, HR.out]) (by rw [← HV.out, HR.out]), rfl⟩
          · have HR := Lib.hid (parse_in (neg := false) (lo := lo) (hi := hi) HL.out.1 HL.out.2 HFF.out (by rw [HZ.out]; omega) (by rw [HZ.out]; omega))
            go_wp2
            go_ret2
            exact ⟨ret_intInt (by rw [← HV.out, HR.out, HZ.out]) (by rw [← HV.out, HR.out]), rfl⟩

set_option maxHeartbeats 1000000 in
theorem rParse_neg_form (s d : ByteArray) (lo hi : Int) (w : World) (hs : s.size ≤ maxLen) (hz : 0 < s.size) (hc : ((s[0].toNat : Int) == 45) = true) (hd : (s.extract 1 s.size) = d) (hdm : d.size ≤ maxLen)
    (hcase : digs d.toList = false ∨ ∃ hp : 0 < d.size, digs d.toList = true ∧ (d[0].toNat : Int) = 48 ) :
    Calls Tryd.prog 36 #[.string s, .int .i64 lo, .int .i64 hi] w fun e w' => e = .returned (.tuple #[.int .i64 0, .int .i64 5]) ∧ w = w' := by
  unfold maxLen at hs
  have hE : s.toList.isEmpty = false := by
    cases he : s.toList.isEmpty
    · rfl
    · simp at he; have := bytes_len s; rw [he] at this; simp at this; omega
  skip
  rcases hcase with h | ⟨hp, h, h0⟩
  · have HD := Lib.hid (rDigits_is d w hdm false h)
    clear h
    go_enter Tryd.func36, Tryd.ntmps36
    go_wp2_with fail
    skip
    refine HD.out.mono ?_
    rintro e w' ⟨rfl, rfl⟩
    go_wp2
    go_ret2
    exact ⟨rfl, rfl⟩
  · have HD := Lib.hid (rDigits_is d w hdm true h)
    have hb : ((d[0].toNat : Int) == 48) = true := by simpa using h0
    skip
    clear h h0
    go_enter Tryd.func36, Tryd.ntmps36
    go_wp2_with fail
    skip
    refine HD.out.mono ?_
    rintro e w' ⟨rfl, rfl⟩
    go_wp2
    all_goals (go_ret2; exact ⟨rfl, rfl⟩)

set_option maxHeartbeats 1000000 in
theorem rParse_neg_loop (s d : ByteArray) (lo hi : Int) (w : World) (hs : s.size ≤ maxLen) (hz : 0 < s.size) (hc : ((s[0].toNat : Int) == 45) = true) (hd : (s.extract 1 s.size) = d) (hdm : d.size ≤ maxLen)
    (hp : 0 < d.size) (h : digs d.toList = true) (hok : ((d[0].toNat : Int) == 48) = false) (v : Int × Int) (hv : parseD d.toList true lo hi = v) :
    Calls Tryd.prog 36 #[.string s, .int .i64 lo, .int .i64 hi] w fun e w' => e = .returned (.tuple #[.int .i64 v.1, .int .i64 v.2]) ∧ w = w' := by
  unfold maxLen at hs
  have hdm' : d.size ≤ 9223372036854775807 := by unfold maxLen at hdm; omega
  have hE : s.toList.isEmpty = false := by
    cases he : s.toList.isEmpty
    · rfl
    · simp at he; have := bytes_len s; rw [he] at this; simp at this; omega
  skip
  have HG := Lib.hid h
  have HD := Lib.hid (rDigits_is d w hdm true h)
  have HL : LeadOk d true := lead_ok h hp (by
    intro hh; have := beq_eq_false_iff_ne.1 hok; exact this hh.1)
  have HV := Lib.hid hv
  clear h hv
  ·
    go_enter Tryd.func36, Tryd.ntmps36
    go_wp2_with fail
    skip
    refine HD.out.mono ?_
    rintro e w' ⟨rfl, rfl⟩
    go_wp2
    go_loop [10, 11] (fun n i => ∃ (k : Nat), k ≤ d.size ∧ i = .int .i64 k ∧ n = .int .i64 (sgn true (dec (d.toList.take k))) ∧ fits (sgn true (dec (d.toList.take k))) = true) (fun _ i => d.size - (intOf i).toNat)
    case atStart => exact ⟨0, Nat.zero_le _, rfl, rfl, rfl⟩
    case round =>
      obtain ⟨k, hk, rfl, rfl, hf⟩ := hrel
      obtain ⟨f1, f2⟩ := fits_iff.1 hf
      have HF := Lib.hid hf
      clear hf
      by_cases hlt : k < d.size
      · obtain ⟨d1, d2⟩ := all_at (digs_all HG.out) hlt
        have HS := Lib.hid (val_step (digs_all HG.out) hlt true)
        have H10 := Lib.hid (val_bad10 (digs_all HG.out) hlt (neg := true))
        generalize hN : sgn true (dec (d.toList.take k)) = N at *
        have HN := Lib.hid hN
        clear hN
        cases h10 : fits (N * 10)
        · have HB := Lib.hid (H10.out h10)
          have G := Lib.hid h10
          clear h10
          go_wp2_with fail
          refine (rmul10_no _ _ f1 f2 G.out).mono ?_
          rintro e w' ⟨rfl, rfl⟩
          go_wp2
          go_ret2
          exact ⟨ret_intInt (by rw [← HV.out, parse_over HL.out.1 HL.out.2 HB.out]) (by rw [← HV.out, parse_over HL.out.1 HL.out.2 HB.out]), rfl⟩
        · obtain ⟨g1, g2⟩ := fits_iff.1 h10
          have G := Lib.hid h10
          clear h10
          cases hA : fits (N * 10 + -((d[k].toNat : Int) - 48))
          · have HB := Lib.hid (val_bad (k := k + 1) (neg := true) (by rw [HS.out]; exact hA))
            have GA := Lib.hid hA
            clear hA
            go_wp2_with fail
            refine (rmul10_yes _ _ f1 f2 G.out).mono ?_
            rintro e w' ⟨rfl, rfl⟩
            go_wp2_with fail
            refine (radd_no _ _ _ g1 g2 (by omega) (by omega) GA.out).mono ?_
            rintro e w' ⟨rfl, rfl⟩
            go_wp2
            go_ret2
            exact ⟨ret_intInt (by rw [← HV.out, parse_over HL.out.1 HL.out.2 HB.out]) (by rw [← HV.out, parse_over HL.out.1 HL.out.2 HB.out]), rfl⟩
          · have GA := Lib.hid hA
            clear hA
            go_wp2_with fail
            refine (rmul10_yes _ _ f1 f2 G.out).mono ?_
            rintro e w' ⟨rfl, rfl⟩
            go_wp2_with fail
            refine (radd_yes _ _ _ g1 g2 (by omega) (by omega) GA.out).mono ?_
            rintro e w' ⟨rfl, rfl⟩
            go_wp2
            go_round
            case rel => exact ⟨k + 1, by omega, by go_num, by rw [HS.out]; rfl, by rw [HS.out]; exact GA.out⟩
            case measure => simp [intOf]; omega
      · have hf := HF.out
        rw [val_all hlt] at hf
        have HFF := Lib.hid hf
        have hz' : ∃ z, sgn true (dec (d.toList.take k)) = z ∧ sgn true (dec d.toList) = z := ⟨_, rfl, by rw [val_all hlt]⟩
        clear hf
        obtain ⟨z, hz1, hz2⟩ := hz'
        rw [hz1]
        have HZ := Lib.hid hz2
        clear hz1 hz2 HF
        by_cases c1 : z < lo
        · have HR := Lib.hid (parse_out (neg := true) (lo := lo) (hi := hi) HL.out.1 HL.out.2 (by rw [HZ.out]; exact .inl c1))
          go_wp2
          go_ret2
          exact ⟨ret_intInt (by rw [← HV.out, HR.out]) (by rw [← HV.out, HR.out]), rfl⟩
        · by_cases c2 : hi < z
          · have HR := Lib.hid (parse_out (neg := true) (lo := lo) (hi := hi) HL.out.1 HL.out.2 (by rw [HZ.out]; exact .inr c2))
            go_wp2
            go_ret2
            exact ⟨ret_intInt (by rw [← HV.out, HR.out]) (by rw [← HV.out, HR.out]), rfl⟩
          · have HR := Lib.hid (parse_in (neg := true) (lo := lo) (hi := hi) HL.out.1 HL.out.2 HFF.out (by rw [HZ.out]; omega) (by rw [HZ.out]; omega))
            go_wp2
            go_ret2
            exact ⟨ret_intInt (by rw [← HV.out, HR.out, HZ.out]) (by rw [← HV.out, HR.out]), rfl⟩

set_option maxHeartbeats 400000 in
theorem rParse_empty (s : ByteArray) (lo hi : Int) (w : World) (h0 : s.toList = []) (hs : s.size ≤ maxLen) :
    Calls Tryd.prog 36 #[.string s, .int .i64 lo, .int .i64 hi] w fun e w' => e = .returned (.tuple #[.int .i64 0, .int .i64 5]) ∧ w = w' := by
  have HD := Lib.hid (rDigits_is s w hs false (by rw [h0]; rfl))
  go_enter Tryd.func36, Tryd.ntmps36
  go_wp2_with fail
  refine HD.out.mono ?_
  rintro e w' ⟨rfl, rfl⟩
  go_wp2
  go_ret2
  exact ⟨rfl, rfl⟩

theorem rParse_any (s : ByteArray) (lo hi : Int) (w : World) (hs : s.size ≤ maxLen) :
    Calls Tryd.prog 36 #[.string s, .int .i64 lo, .int .i64 hi] w fun e w' => e = .returned (.tuple #[.int .i64 (parseV s lo hi).1, .int .i64 (parseV s lo hi).2]) ∧ w = w' := by
  by_cases h0 : s.toList = []
  · have e : parseV s lo hi = (0, 5) := by
      unfold parseV
      rw [restOf_no (by rw [h0]; rfl), h0]
      exact parse_form rfl
    rw [e]
    exact rParse_empty s lo hi w h0 hs
  · have hz := bytes_nil h0
    have hn := isNeg_head hz
    have hdm : (restOf s).size ≤ maxLen := Nat.le_trans (restOf_size s) hs
    by_cases hc : s[0] = 45
    · have hneg : isNeg s.toList = true := by rw [hn, hc]; rfl
      have hc' : ((s[0].toNat : Int) == 45) = true := by rw [beq_iff_eq]; exact byte45.2 hc
      have hd : s.extract 1 s.size = restOf s := (restOf_yes hneg).symm
      unfold parseV
      rw [hneg]
      cases hg : digs (restOf s).toList
      · rw [parse_form (notn_digs_no hg)]
        exact rParse_neg_form s (restOf s) lo hi w hs hz hc' hd hdm (.inl hg)
      · have hp := digs_pos hg
        by_cases h48 : ((restOf s)[0].toNat : Int) = 48
        · rw [lead_bad hg hp h48 (.inr rfl)]
          exact rParse_neg_form s (restOf s) lo hi w hs hz hc' hd hdm (.inr ⟨hp, hg, h48⟩)
        · exact rParse_neg_loop s (restOf s) lo hi w hs hz hc' hd hdm hp hg (beq_eq_false_iff_ne.2 h48) _ rfl
    · have hneg : isNeg s.toList = false := by rw [hn]; simpa using hc
      have hc' : ((s[0].toNat : Int) == 45) = false := by rw [beq_eq_false_iff_ne]; exact fun e => hc (byte45.1 e)
      have hd : s = restOf s := (restOf_no hneg).symm
      unfold parseV
      rw [hneg]
      cases hg : digs (restOf s).toList
      · rw [parse_form (notn_digs_no hg)]
        exact rParse_pos_form s (restOf s) lo hi w hs hz hc' hd hdm (.inl hg)
      · have hp := digs_pos hg
        by_cases h48 : ((restOf s)[0].toNat : Int) = 48
        · by_cases h1 : 1 < (restOf s).size
          · rw [lead_bad hg hp h48 (.inl h1)]
            exact rParse_pos_form s (restOf s) lo hi w hs hz hc' hd hdm (.inr ⟨hp, hg, h48, h1⟩)
          · exact rParse_pos_loop s (restOf s) lo hi w hs hz hc' hd hdm hp hg (.inr ⟨beq_iff_eq.2 h48, h1⟩) _ rfl
        · exact rParse_pos_loop s (restOf s) lo hi w hs hz hc' hd hdm hp hg (.inl (beq_eq_false_iff_ne.2 h48)) _ rfl
end Go.Proofs.YtbiicdpmilplmaaDoor
