/- What num.Parse returns, for every string and every range. -/
import Derived.Test.YtkpdbhpmnegahaaDoorNumP
namespace Go.Proofs.YtkpdbhpmnegahaaDoor
open Go.RowKit
set_option linter.unusedVariables false

theorem isNotation_is (s : ByteArray) (w : World) (hs : s.size ≤ maxLen) (b : Bool) (h : notn s.toList = b) :
    Calls Tryd.prog 74 #[.string s] w fun e w' => e = .returned (.bool b) ∧ w = w' := by
  subst h; exact isNotation_any s w hs
theorem value_no (s : ByteArray) (neg : Bool) (w : World) (hs : s.size ≤ maxLen) (hn : notn s.toList = true) (hf : fits (sgn neg (dec s.toList)) = false) :
    Calls Tryd.prog 75 #[.string s, .bool neg] w fun e w' => e = .returned (.tuple #[.int .i64 0, .bool false]) ∧ w = w' := by
  have h := value_any s neg w hs (notn_dig hn)
  rw [fit_sgn_no hf, hf] at h; exact h
theorem value_yes (s : ByteArray) (neg : Bool) (w : World) (hs : s.size ≤ maxLen) (hn : notn s.toList = true) (hf : fits (sgn neg (dec s.toList)) = true) (v : Int) (hv : sgn neg (dec s.toList) = v) :
    Calls Tryd.prog 75 #[.string s, .bool neg] w fun e w' => e = .returned (.tuple #[.int .i64 v, .bool true]) ∧ w = w' := by
  have h := value_any s neg w hs (notn_dig hn)
  rw [fit_sgn_yes hf, hf, hv] at h; exact h
theorem cut_is (s d : ByteArray) (neg : Bool) (w : World) (hs : s.size ≤ maxLen) (hd : restOf s = d) (hn : isNeg s.toList = neg) :
    Calls Tryd.prog 70 #[.string s, .string ⟨#[45]⟩] w fun e w' => e = .returned (.tuple #[.string d, .bool neg]) ∧ w = w' := by
  subst hd hn; exact cut_any s w hs

set_option maxHeartbeats 400000 in
theorem parse_walk (s d : ByteArray) (neg : Bool) (lo hi : Int) (w : World) (hs : s.size ≤ maxLen) (hds : d.size ≤ maxLen) (hd : restOf s = d) (hn : isNeg s.toList = neg) (v : Int × Int) (hv : parseD d.toList neg lo hi = v) :
    Calls Tryd.prog 55 #[.string s, .int .i64 lo, .int .i64 hi] w fun e w' => e = .returned (.tuple #[.int .i64 v.1, .int .i64 v.2]) ∧ w = w' := by
  have HC := Lib.hid (cut_is s d neg w hs hd hn)
  clear hd hn
  cases hnot : notn d.toList
  · rw [parse_form hnot] at hv
    have HI := Lib.hid (isNotation_is d w hds false hnot)
    subst hv
    clear hnot
    go_enter Tryd.func55, Tryd.ntmps55
    go_wp2_with fail
    refine HC.out.mono ?_
    rintro e w' ⟨rfl, rfl⟩
    go_wp2_with fail
    refine HI.out.mono ?_
    rintro e w' ⟨rfl, rfl⟩
    go_wp2
    go_ret2
    exact ⟨rfl, rfl⟩
  · have HI := Lib.hid (isNotation_is d w hds true hnot)
    by_cases hz : neg = true ∧ (d.toList == [48]) = true
    · obtain ⟨hz1, hz2⟩ := hz
      rw [parse_zero hz1 hz2] at hv
      subst hv hz1
      clear hnot
      go_enter Tryd.func55, Tryd.ntmps55
      go_wp2_with fail
      refine HC.out.mono ?_
      rintro e w' ⟨rfl, rfl⟩
      go_wp2_with fail
      refine HI.out.mono ?_
      rintro e w' ⟨rfl, rfl⟩
      go_wp2
      go_ret2
      exact ⟨rfl, rfl⟩
    · have hk : neg = false ∨ (d.toList == [48]) = false := by
        cases neg
        · exact .inl rfl
        · right; simpa using hz
      clear hz
      cases hf : fits (sgn neg (dec d.toList))
      · rw [parse_over hnot hk hf] at hv
        have HV := Lib.hid (value_no d neg w hds hnot hf)
        subst hv
        clear hnot hf
        rcases hk with hk | hk
        · subst hk
          go_enter Tryd.func55, Tryd.ntmps55
          go_wp2_with fail
          refine HC.out.mono ?_
          rintro e w' ⟨rfl, rfl⟩
          go_wp2_with fail
          refine HI.out.mono ?_
          rintro e w' ⟨rfl, rfl⟩
          go_wp2_with fail
          refine HV.out.mono ?_
          rintro e w' ⟨rfl, rfl⟩
          go_wp2
          go_ret2
          exact ⟨rfl, rfl⟩
        · cases neg
          all_goals
            go_enter Tryd.func55, Tryd.ntmps55
            go_wp2_with fail
            refine HC.out.mono ?_
            rintro e w' ⟨rfl, rfl⟩
            go_wp2_with fail
            refine HI.out.mono ?_
            rintro e w' ⟨rfl, rfl⟩
            go_wp2_with fail
            refine HV.out.mono ?_
            rintro e w' ⟨rfl, rfl⟩
            go_wp2
            go_ret2
            exact ⟨rfl, rfl⟩
      · have hcase : ∃ z, sgn neg (dec d.toList) = z := ⟨_, rfl⟩
        obtain ⟨z, hz⟩ := hcase
        have HV := Lib.hid (value_yes d neg w hds hnot hf z hz)
        have hfin : (z < lo ∧ v = (0, 3)) ∨ (¬ z < lo ∧ hi < z ∧ v = (0, 3)) ∨ (¬ z < lo ∧ ¬ hi < z ∧ v = (z, 0)) := by
          by_cases c1 : z < lo
          · left; exact ⟨c1, by rw [← hv, parse_out hnot hk (by rw [hz]; exact .inl c1)]⟩
          · by_cases c2 : hi < z
            · right; left; exact ⟨c1, c2, by rw [← hv, parse_out hnot hk (by rw [hz]; exact .inr c2)]⟩
            · right; right; exact ⟨c1, c2, by rw [← hv, parse_in hnot hk hf (by rw [hz]; omega) (by rw [hz]; omega), hz]⟩
        clear hv hnot hf hz
        rcases hfin with ⟨c1, rfl⟩ | ⟨c1, c2, rfl⟩ | ⟨c1, c2, rfl⟩
        all_goals
          rcases hk with hk | hk
          · subst hk
            go_enter Tryd.func55, Tryd.ntmps55
            go_wp2_with fail
            refine HC.out.mono ?_
            rintro e w' ⟨rfl, rfl⟩
            go_wp2_with fail
            refine HI.out.mono ?_
            rintro e w' ⟨rfl, rfl⟩
            go_wp2_with fail
            refine HV.out.mono ?_
            rintro e w' ⟨rfl, rfl⟩
            go_wp2
            go_ret2
            exact ⟨rfl, rfl⟩
          · cases neg
            all_goals
              go_enter Tryd.func55, Tryd.ntmps55
              go_wp2_with fail
              refine HC.out.mono ?_
              rintro e w' ⟨rfl, rfl⟩
              go_wp2_with fail
              refine HI.out.mono ?_
              rintro e w' ⟨rfl, rfl⟩
              go_wp2_with fail
              refine HV.out.mono ?_
              rintro e w' ⟨rfl, rfl⟩
              go_wp2
              go_ret2
              exact ⟨rfl, rfl⟩

theorem parse_any (s : ByteArray) (lo hi : Int) (w : World) (hs : s.size ≤ maxLen) :
    Calls Tryd.prog 55 #[.string s, .int .i64 lo, .int .i64 hi] w fun e w' => e = .returned (.tuple #[.int .i64 (parseV s lo hi).1, .int .i64 (parseV s lo hi).2]) ∧ w = w' :=
  parse_walk s (restOf s) (isNeg s.toList) lo hi w hs (Nat.le_trans (restOf_size s) hs) rfl rfl _ rfl
end Go.Proofs.YtkpdbhpmnegahaaDoor
