/- What TakeText of packages codec and accountingref13 returns. -/
import Derived.Test.YtfjapbggloomjaaCoD
namespace Go.Proofs.Ytfjapbggloomjaa
open Go.RowKit Go.Sort
set_option linter.unusedVariables false
set_option linter.unusedSimpArgs false

theorem row_some {w : World} {ao : Option Addr} {l : List UInt8} (h : RowB w ao l) (hl : 0 < l.length) : ∃ b off, ao = some ⟨b, off, none⟩ := by
  obtain ⟨b, off, e, _⟩ := h.at 0 hl
  exact ⟨b, off, e⟩
theorem row_conv {w : World} {ao : Option Addr} {l : List UInt8} {n : Nat} (h : RowB w ao l) (hl : l.length = n) (c : Nat) : (convert 22 9 (.slice ao n c)).run Try.prog w = .ok (.string (bs l)) w := by
  subst hl
  refine h.conv c fun e => ?_
  subst e
  cases l with
  | nil => rfl
  | cons b l => obtain ⟨_, _, e, _⟩ := h 0 _ rfl; cases e
theorem ret_tt {t : List UInt8 × Nat × Int} {s : List UInt8} {n : Nat} {e a b : Int} (h : t = (s, n, e)) (ha : a = (n : Int)) (hb : b = e) {x : ByteArray} (hx : x = bs s) : Ending.returned (.tuple #[.string x, .int .i64 a, .int .i64 b]) = .returned (.tuple #[.string (bs t.1), .int .i64 (t.2.1 : Int), .int .i64 t.2.2]) := by
  subst h ha hb hx; rfl
set_option maxRecDepth 100000 in
set_option maxHeartbeats 4000000 in
theorem takeText_any (ao : Option Addr) (c : Nat) (l : List UInt8) (w : World) (hR : RowB w ao l) (hc : l.length ≤ c) (hm : c ≤ maxLen) :
    Calls Try.prog 14 #[.slice ao l.length c] w fun e w' => e = .returned (.tuple #[.string (bs (ttV l).1), .int .i64 ((ttV l).2.1 : Int), .int .i64 (ttV l).2.2]) ∧ w = w' := by
  have H1 := Lib.hid (takeInt_any ao c l w hR (Nat.le_trans hc hm))
  have HP := Lib.hid (fun s w h => plain_any s w h)
  have HR := Lib.hid hR
  have HU := Lib.hid (tk_used l 0 0)
  have V1 := Lib.hid (ttV_err (l := l))
  have V2 := Lib.hid (ttV_many (l := l))
  have V3 := Lib.hid (ttV_short (l := l))
  have V4 := Lib.hid (ttV_plain (l := l))
  have V5 := Lib.hid (ttV_form (l := l))
  clear hR
  unfold maxLen at hm
  obtain ⟨n, u, e, hT⟩ := tk_cases l
  rw [hT] at H1 HU V1 V2 V3 V4 V5
  clear hT
  simp only at H1 HU V1 V2 V3 V4 V5
  by_cases he : e = 0
  · subst he
    have hu := HU.out rfl
    have hui : (u : Int) ≤ (l.length : Int) := by omega
    obtain ⟨b, off, rfl⟩ := row_some HR.out (by omega)
    by_cases h1 : n < 0
    · have HV := Lib.hid (V2.out rfl (.inl h1))
      go_enter Try.func14, Try.ntmps14
      go_wp2_with fail
      refine H1.out.mono ?_
      rintro e w_ ⟨rfl, rfl⟩
      go_wp2
      go_ret3
      exact ⟨ret_tt HV.out rfl rfl rfl, rfl⟩
    by_cases h2 : 60 < n
    · have HV := Lib.hid (V2.out rfl (.inr h2))
      go_enter Try.func14, Try.ntmps14
      go_wp2_with fail
      refine H1.out.mono ?_
      rintro e w_ ⟨rfl, rfl⟩
      go_wp2
      go_ret3
      exact ⟨ret_tt HV.out rfl rfl rfl, rfl⟩
    by_cases h3 : (l.length : Int) - (u : Int) < n
    · have HV := Lib.hid (V3.out rfl (by omega) h3)
      go_enter Try.func14, Try.ntmps14
      go_wp2_with fail
      refine H1.out.mono ?_
      rintro e w_ ⟨rfl, rfl⟩
      go_wp2
      go_ret3
      exact ⟨ret_tt HV.out rfl rfl rfl, rfl⟩
    have V4b := Lib.hid (V4.out rfl (by omega) h3)
    have V5b := Lib.hid (V5.out rfl (by omega) h3)
    obtain ⟨m, rfl⟩ : ∃ m : Nat, n = (m : Int) := ⟨n.toNat, by omega⟩
    have hlen : ((l.drop u).take m).length = m := by rw [List.length_take, List.length_drop]; omega
    have HLm := Lib.hid hlen
    have hm60 : m ≤ 60 := by omega
    have hum : u + m ≤ c := by omega
    have hum2 : (u : Int) + (m : Int) ≤ (c : Int) := by omega
    clear hlen V1 V2 V3 V4 V5
    rw [Int.toNat_natCast] at V4b V5b
    have HPt := Lib.hid (HP.out (bs ((l.drop u).take m)) w (by rw [bs_size, HLm.out]; unfold maxLen; omega))
    have HPe := Lib.hid (show plaB (bs ((l.drop u).take m)) = plainB ((l.drop u).take m) by unfold plaB; rw [bs_list])
    rw [HPe.out] at HPt
    have c1 := row_conv (HR.out.part (n := u) m) HLm.out (c - u)
    have c0 : c = u → (convert 22 9 (.slice (some ⟨b, off, none⟩) 0 0)).run Try.prog w = .ok (.string (bs ((l.drop u).take m))) w := fun hcu => by
      have hm0 : m = 0 := by omega
      have hnil : (l.drop u).take m = [] := by rw [hm0]; rfl
      rw [hnil]
      exact row_conv (l := []) (RowV.nil _ _) rfl 0
    cases hp : plainB ((l.drop u).take m)
    · have HV := Lib.hid (V5b.out hp)
      rw [hp] at HPt
      clear hp V4b V5b HPe HLm
      generalize bs ((l.drop u).take m) = T at *
      by_cases hcu : c = u
      · have c2 := c0 hcu
        subst hcu
        go_enter Try.func14, Try.ntmps14
        go_wp2_with fail
        refine H1.out.mono ?_
        rintro e w_ ⟨rfl, rfl⟩
        go_wp2_with fail
        refine HPt.out.mono ?_
        rintro e w_ ⟨rfl, rfl⟩
        go_wp2
        go_ret3
        exact ⟨ret_tt HV.out rfl rfl rfl, rfl⟩
      · clear c0
        go_enter Try.func14, Try.ntmps14
        go_wp2_with fail
        refine H1.out.mono ?_
        rintro e w_ ⟨rfl, rfl⟩
        go_wp2_with fail
        refine HPt.out.mono ?_
        rintro e w_ ⟨rfl, rfl⟩
        go_wp2
        go_ret3
        exact ⟨ret_tt HV.out rfl rfl rfl, rfl⟩
    · have HV := Lib.hid (V4b.out hp)
      rw [hp] at HPt
      clear hp V4b V5b HPe HLm
      obtain ⟨T, hT⟩ : ∃ T, bs ((l.drop u).take m) = T := ⟨_, rfl⟩
      have HTT := Lib.hid hT.symm
      rw [hT] at c1 c0 HPt
      clear hT
      by_cases hcu : c = u
      · have c2 := c0 hcu
        subst hcu
        go_enter Try.func14, Try.ntmps14
        go_wp2_with fail
        refine H1.out.mono ?_
        rintro e w_ ⟨rfl, rfl⟩
        go_wp2_with fail
        refine HPt.out.mono ?_
        rintro e w_ ⟨rfl, rfl⟩
        go_wp2
        go_ret3
        exact ⟨ret_tt HV.out (by omega) rfl HTT.out, rfl⟩
      · clear c0
        go_enter Try.func14, Try.ntmps14
        go_wp2_with fail
        refine H1.out.mono ?_
        rintro e w_ ⟨rfl, rfl⟩
        go_wp2_with fail
        refine HPt.out.mono ?_
        rintro e w_ ⟨rfl, rfl⟩
        go_wp2
        go_ret3
        exact ⟨ret_tt HV.out (by omega) rfl HTT.out, rfl⟩
  · have q : (e != 0) = true := by simpa using he
    have HV := Lib.hid (V1.out he)
    clear he
    go_enter Try.func14, Try.ntmps14
    go_wp2_with fail
    refine H1.out.mono ?_
    rintro e' w_ ⟨rfl, rfl⟩
    go_wp2
    go_ret3
    exact ⟨ret_tt HV.out rfl rfl rfl, rfl⟩
set_option maxRecDepth 100000 in
set_option maxHeartbeats 4000000 in
theorem rTakeText_any (ao : Option Addr) (c : Nat) (l : List UInt8) (w : World) (hR : RowB w ao l) (hc : l.length ≤ c) (hm : c ≤ maxLen) :
    Calls Try.prog 15 #[.slice ao l.length c] w fun e w' => e = .returned (.tuple #[.string (bs (ttV l).1), .int .i64 ((ttV l).2.1 : Int), .int .i64 (ttV l).2.2]) ∧ w = w' := by
  have H1 := Lib.hid (rTakeInt_any ao c l w hR (Nat.le_trans hc hm))
  have HP := Lib.hid (fun s w h => rPlain_any s w h)
  have HR := Lib.hid hR
  have HU := Lib.hid (tk_used l 0 0)
  have V1 := Lib.hid (ttV_err (l := l))
  have V2 := Lib.hid (ttV_many (l := l))
  have V3 := Lib.hid (ttV_short (l := l))
  have V4 := Lib.hid (ttV_plain (l := l))
  have V5 := Lib.hid (ttV_form (l := l))
  clear hR
  unfold maxLen at hm
  obtain ⟨n, u, e, hT⟩ := tk_cases l
  rw [hT] at H1 HU V1 V2 V3 V4 V5
  clear hT
  simp only at H1 HU V1 V2 V3 V4 V5
  by_cases he : e = 0
  · subst he
    have hu := HU.out rfl
    have hui : (u : Int) ≤ (l.length : Int) := by omega
    obtain ⟨b, off, rfl⟩ := row_some HR.out (by omega)
    by_cases h1 : n < 0
    · have HV := Lib.hid (V2.out rfl (.inl h1))
      go_enter Try.func15, Try.ntmps15
      go_wp2_with fail
      refine H1.out.mono ?_
      rintro e w_ ⟨rfl, rfl⟩
      go_wp2
      go_ret3
      exact ⟨ret_tt HV.out rfl rfl rfl, rfl⟩
    by_cases h2 : 60 < n
    · have HV := Lib.hid (V2.out rfl (.inr h2))
      go_enter Try.func15, Try.ntmps15
      go_wp2_with fail
      refine H1.out.mono ?_
      rintro e w_ ⟨rfl, rfl⟩
      go_wp2
      go_ret3
      exact ⟨ret_tt HV.out rfl rfl rfl, rfl⟩
    by_cases h3 : (l.length : Int) - (u : Int) < n
    · have HV := Lib.hid (V3.out rfl (by omega) h3)
      go_enter Try.func15, Try.ntmps15
      go_wp2_with fail
      refine H1.out.mono ?_
      rintro e w_ ⟨rfl, rfl⟩
      go_wp2
      go_ret3
      exact ⟨ret_tt HV.out rfl rfl rfl, rfl⟩
    have V4b := Lib.hid (V4.out rfl (by omega) h3)
    have V5b := Lib.hid (V5.out rfl (by omega) h3)
    obtain ⟨m, rfl⟩ : ∃ m : Nat, n = (m : Int) := ⟨n.toNat, by omega⟩
    have hlen : ((l.drop u).take m).length = m := by rw [List.length_take, List.length_drop]; omega
    have HLm := Lib.hid hlen
    have hm60 : m ≤ 60 := by omega
    have hum : u + m ≤ c := by omega
    have hum2 : (u : Int) + (m : Int) ≤ (c : Int) := by omega
    clear hlen V1 V2 V3 V4 V5
    rw [Int.toNat_natCast] at V4b V5b
    have HPt := Lib.hid (HP.out (bs ((l.drop u).take m)) w (by rw [bs_size, HLm.out]; unfold maxLen; omega))
    have HPe := Lib.hid (show plaB (bs ((l.drop u).take m)) = plainB ((l.drop u).take m) by unfold plaB; rw [bs_list])
    rw [HPe.out] at HPt
    have c1 := row_conv (HR.out.part (n := u) m) HLm.out (c - u)
    have c0 : c = u → (convert 22 9 (.slice (some ⟨b, off, none⟩) 0 0)).run Try.prog w = .ok (.string (bs ((l.drop u).take m))) w := fun hcu => by
      have hm0 : m = 0 := by omega
      have hnil : (l.drop u).take m = [] := by rw [hm0]; rfl
      rw [hnil]
      exact row_conv (l := []) (RowV.nil _ _) rfl 0
    cases hp : plainB ((l.drop u).take m)
    · have HV := Lib.hid (V5b.out hp)
      rw [hp] at HPt
      clear hp V4b V5b HPe HLm
      generalize bs ((l.drop u).take m) = T at *
      by_cases hcu : c = u
      · have c2 := c0 hcu
        subst hcu
        go_enter Try.func15, Try.ntmps15
        go_wp2_with fail
        refine H1.out.mono ?_
        rintro e w_ ⟨rfl, rfl⟩
        go_wp2_with fail
        refine HPt.out.mono ?_
        rintro e w_ ⟨rfl, rfl⟩
        go_wp2
        go_ret3
        exact ⟨ret_tt HV.out rfl rfl rfl, rfl⟩
      · clear c0
        go_enter Try.func15, Try.ntmps15
        go_wp2_with fail
        refine H1.out.mono ?_
        rintro e w_ ⟨rfl, rfl⟩
        go_wp2_with fail
        refine HPt.out.mono ?_
        rintro e w_ ⟨rfl, rfl⟩
        go_wp2
        go_ret3
        exact ⟨ret_tt HV.out rfl rfl rfl, rfl⟩
    · have HV := Lib.hid (V4b.out hp)
      rw [hp] at HPt
      clear hp V4b V5b HPe HLm
      obtain ⟨T, hT⟩ : ∃ T, bs ((l.drop u).take m) = T := ⟨_, rfl⟩
      have HTT := Lib.hid hT.symm
      rw [hT] at c1 c0 HPt
      clear hT
      by_cases hcu : c = u
      · have c2 := c0 hcu
        subst hcu
        go_enter Try.func15, Try.ntmps15
        go_wp2_with fail
        refine H1.out.mono ?_
        rintro e w_ ⟨rfl, rfl⟩
        go_wp2_with fail
        refine HPt.out.mono ?_
        rintro e w_ ⟨rfl, rfl⟩
        go_wp2
        go_ret3
        exact ⟨ret_tt HV.out (by omega) rfl HTT.out, rfl⟩
      · clear c0
        go_enter Try.func15, Try.ntmps15
        go_wp2_with fail
        refine H1.out.mono ?_
        rintro e w_ ⟨rfl, rfl⟩
        go_wp2_with fail
        refine HPt.out.mono ?_
        rintro e w_ ⟨rfl, rfl⟩
        go_wp2
        go_ret3
        exact ⟨ret_tt HV.out (by omega) rfl HTT.out, rfl⟩
  · have q : (e != 0) = true := by simpa using he
    have HV := Lib.hid (V1.out he)
    clear he
    go_enter Try.func15, Try.ntmps15
    go_wp2_with fail
    refine H1.out.mono ?_
    rintro e' w_ ⟨rfl, rfl⟩
    go_wp2
    go_ret3
    exact ⟨ret_tt HV.out rfl rfl rfl, rfl⟩
end Go.Proofs.Ytfjapbggloomjaa
