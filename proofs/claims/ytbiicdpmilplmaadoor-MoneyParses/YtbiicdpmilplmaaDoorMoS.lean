/- The statement MoneyParses of package accountinglaw07. -/
import Derived.Test.YtbiicdpmilplmaaDoorMoP
namespace Go.Proofs.YtbiicdpmilplmaaDoor
open Go.RowKit Go.Sort
set_option linter.unusedVariables false

set_option maxHeartbeats 1000000 in
theorem rp_nil (s : ByteArray) (d : Int) (w : World) (hz : s.size = 0) (d1 : 0 ≤ d) (d2 : d ≤ 4) :
    Calls Tryd.prog 23 #[.string s, .int .i64 d] w fun e w' => PpIs s d e ∧ Below w.heap.size w w' := by
  have hn : isNeg s.toList = false := isNeg_nil (by omega)
  have hl : s.toList = [] := by have := bytes_len s; rw [hz] at this; exact List.length_eq_zero_iff.1 this
  have HN := Lib.hid (show ¬ rsF (restOf s) d by rw [restOf_no hn]; intro k; have := k.1; unfold whI at this; split at this <;> omega)
  have H1 := Lib.hid (fun w => rDigits_any s w (by unfold maxLen; omega))
  have hd : digs s.toList = false := by rw [hl]; rfl
  rw [hd] at H1
  have e1 : (!s.toList.isEmpty) = false := by rw [hl]; rfl
  clear hn hd
  by_cases h : 0 < d
  · have hw : (s.size : Int) - d - 1 < 1 := by omega
    go_enter Tryd.func23, Tryd.ntmps23
    go_wp2
    go_ret2
    exact ⟨.inl ⟨HN.out, rfl⟩, Below.refl _ _⟩
  · obtain rfl : d = 0 := by omega
    go_enter Tryd.func23, Tryd.ntmps23
    go_wp2_with fail
    refine (H1.out _).mono ?_
    rintro e w_ ⟨rfl, rfl⟩
    go_wp2
    go_ret2
    exact ⟨.inl ⟨HN.out, rfl⟩, Below.refl _ _⟩
theorem rp_any (s : ByteArray) (d : Int) (w : World) (hs : s.size ≤ 400) (hd : digO d) :
    Calls Tryd.prog 23 #[.string s, .int .i64 d] w fun e w' => PpIs s d e ∧ Below w.heap.size w w' := by
  obtain ⟨d1, d2⟩ := hd
  by_cases hz : s.size = 0
  · exact rp_nil s d w hz d1 d2
  cases hn : isNeg s.toList
  · by_cases h : 0 < d
    · exact rp_pd s d w hs h d2 hn (by omega)
    · obtain rfl : d = 0 := by omega
      exact rp_p0 s w hs hn (by omega)
  · by_cases h : 0 < d
    · exact rp_nd s d w hs h d2 hn
    · obtain rfl : d = 0 := by omega
      exact rp_n0 s w hs hn
set_option maxHeartbeats 400000 in
theorem rp_arg (s : ByteArray) (d : Int) (w : World) (hd : ¬ digO d) :
    Calls Tryd.prog 23 #[.string s, .int .i64 d] w fun e w' => e = .returned (.tuple #[.int .i64 0, .int .i64 2]) ∧ Below w.heap.size w w' := by
  unfold digO at hd
  by_cases h : d < 0
  · clear hd
    go_enter Tryd.func23, Tryd.ntmps23
    go_wp2
    go_ret2
    exact ⟨rfl, Below.refl _ _⟩
  · have h4 : 4 < d := by omega
    clear hd
    go_enter Tryd.func23, Tryd.ntmps23
    go_wp2
    go_ret2
    exact ⟨rfl, Below.refl _ _⟩
/-- both answer alike. -/
theorem parse_ex (s : ByteArray) (d : Int) (hs : s.size ≤ 400) : ∃ n e : Int,
    (∀ w, Calls Tryd.prog 22 #[.string s, .int .i64 d] w fun x w' => x = .returned (.tuple #[.int .i64 n, .int .i64 e]) ∧ Below w.heap.size w w') ∧
    (∀ w, Calls Tryd.prog 23 #[.string s, .int .i64 d] w fun x w' => x = .returned (.tuple #[.int .i64 n, .int .i64 e]) ∧ Below w.heap.size w w') := by
  have hm : s.size ≤ maxLen := by unfold maxLen; omega
  by_cases hd : digO d
  · by_cases hf : rsF (restOf s) d
    · by_cases hz : isNeg s.toList = true ∧ rsV (restOf s) d = 0
      · refine ⟨0, 5, fun w => mParse_form s d w hm hd (.inr ⟨hf, hz⟩), fun w => (rp_any s d w hs hd).mono fun x w' ⟨hp, hb⟩ => ⟨?_, hb⟩⟩
        rcases hp with ⟨k, _⟩ | ⟨_, _, _, x⟩ | ⟨_, k, _⟩ | ⟨_, k, _⟩
        · exact absurd hf k
        · exact x
        · exact absurd hz k
        · exact absurd hz k
      · by_cases ho : sumO (rsV (restOf s) d)
        · refine ⟨_, 0, fun w => mParse_ok s d w hm hd hf ho hz, fun w => (rp_any s d w hs hd).mono fun x w' ⟨hp, hb⟩ => ⟨?_, hb⟩⟩
          rcases hp with ⟨k, _⟩ | ⟨_, k1, k2, _⟩ | ⟨_, _, k, _⟩ | ⟨_, _, _, x⟩
          · exact absurd hf k
          · exact absurd ⟨k1, k2⟩ hz
          · exact absurd ho k
          · exact x
        · refine ⟨0, 4, fun w => mParse_over s d w hm hd hf ho, fun w => (rp_any s d w hs hd).mono fun x w' ⟨hp, hb⟩ => ⟨?_, hb⟩⟩
          rcases hp with ⟨k, _⟩ | ⟨_, k1, k2, _⟩ | ⟨_, _, _, x⟩ | ⟨_, _, k, _⟩
          · exact absurd hf k
          · exact absurd ⟨k1, k2⟩ hz
          · exact x
          · exact absurd k ho
    · refine ⟨0, 5, fun w => mParse_form s d w hm hd (.inl hf), fun w => (rp_any s d w hs hd).mono fun x w' ⟨hp, hb⟩ => ⟨?_, hb⟩⟩
      rcases hp with ⟨_, x⟩ | ⟨k, _⟩ | ⟨k, _⟩ | ⟨k, _⟩
      · exact x
      · exact absurd k hf
      · exact absurd k hf
      · exact absurd k hf
  · exact ⟨0, 2, fun w => mParse_arg s d w hd, fun w => rp_arg s d w hd⟩
set_option maxHeartbeats 1000000 in
theorem moneyParses_walk (s : ByteArray) (d : Int) (w : World) (ht : Tab w) (hs : s.size ≤ maxLen) (wd : (Lit.int .i64 d).wf = true) :
    Calls Tryd.prog 9 #[.string s, .int .i64 d] w fun e w' => e = .returned (.bool true) ∧ Below w.heap.size w w' := by
  have H9 := Lib.hid (fun w ht => lives_any w ht)
  unfold maxLen at hs
  by_cases h : 400 < s.size
  · have hl : (400 : Int) < (s.size : Int) := by omega
    go_enter Tryd.func9, Tryd.ntmps9
    go_wp2
    go_ret
    exact ⟨rfl, Below.refl _ _⟩
  · have hl : ¬ (400 : Int) < (s.size : Int) := by omega
    obtain ⟨n, e, h1, h2⟩ := parse_ex s d (by omega)
    have H1 := Lib.hid h1
    have H2 := Lib.hid h2
    clear h1 h2
    go_enter Tryd.func9, Tryd.ntmps9
    go_wp2_with fail
    refine (H1.out _).mono ?_
    rintro e W1 ⟨rfl, hb1⟩
    have HB1 := Lib.hid (hb1)
    clear hb1
    go_wp2_with fail
    refine (H2.out _).mono ?_
    rintro e W2 ⟨rfl, hb2⟩
    have HB2 := Lib.hid (HB1.out.trans ((hb2).mono HB1.out.size))
    clear HB1 hb2
    go_wp2_with fail
    refine (H9.out _ (ht.below HB2.out)).mono ?_
    rintro e W3 ⟨rfl, hb3⟩
    have HB3 := Lib.hid (HB2.out.trans ((hb3).mono HB2.out.size))
    clear HB2 hb3
    go_wp2
    go_ret
    exact ⟨rfl, HB3.out⟩
end Go.Proofs.YtbiicdpmilplmaaDoor
