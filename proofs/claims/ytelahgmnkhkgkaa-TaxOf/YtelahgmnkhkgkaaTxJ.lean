/- What Of of package tax returns at an error, and of all ways. Written by wip/mk_txj.py. -/
import Derived.Test.YtelahgmnkhkgkaaTxG
import Derived.Test.YtelahgmnkhkgkaaTxH
import Derived.Test.YtelahgmnkhkgkaaTxI
namespace Go.Proofs.Ytelahgmnkhkgkaa
open Go.RowKit Go.Sort
set_option linter.unusedVariables false
set_option linter.unusedSimpArgs false

set_option maxRecDepth 100000 in
set_option maxHeartbeats 4000000 in
theorem of_low (A B : Option Addr) (c d : Nat) (L : List Ln) (C : List Cd) (way m : Int) (w : World) (hL : RowL w A L) (hBl : BdL L) (hR : RowC w B C) (hBc : BdC C) (hn : C.length ≤ 1000) (w1 : r64 way) (h1 : way < 1) : Calls Try.prog 18 #[.slice A L.length c, .slice B C.length d, .int .i64 way, .int .i64 m] w fun e w' => e = .returned (.tuple #[.slice none 0 0, .slice none 0 0, .int .i64 (errO C L way m)]) ∧ Below w.heap.size w w' := by
  have hE : errO C L way m = 10 := by unfold errO; rw [if_pos (.inl (.inl h1))]
  rw [hE]
  obtain ⟨y1, y2⟩ := w1
  have HBc := Lib.hid hBc
  have HBl := Lib.hid hBl
  have HR0 := Lib.hid hR
  have HL0 := Lib.hid hL
  have HB0 := Lib.hid (Below.refl w.heap.size w)
  clear hBc hBl hR hL hE
  go_enter Try.func18, Try.ntmps18
  go_wp2
  go_ret3
  exact ⟨rfl, HB0.out⟩
set_option maxRecDepth 100000 in
set_option maxHeartbeats 4000000 in
theorem of_high (A B : Option Addr) (c d : Nat) (L : List Ln) (C : List Cd) (way m : Int) (w : World) (hL : RowL w A L) (hBl : BdL L) (hR : RowC w B C) (hBc : BdC C) (hn : C.length ≤ 1000) (w1 : r64 way) (h1 : ¬ way < 1) (h2 : 3 < way) : Calls Try.prog 18 #[.slice A L.length c, .slice B C.length d, .int .i64 way, .int .i64 m] w fun e w' => e = .returned (.tuple #[.slice none 0 0, .slice none 0 0, .int .i64 (errO C L way m)]) ∧ Below w.heap.size w w' := by
  have hE : errO C L way m = 10 := by unfold errO; rw [if_pos (.inl (.inr h2))]
  rw [hE]
  obtain ⟨y1, y2⟩ := w1
  have HBc := Lib.hid hBc
  have HBl := Lib.hid hBl
  have HR0 := Lib.hid hR
  have HL0 := Lib.hid hL
  have HB0 := Lib.hid (Below.refl w.heap.size w)
  clear hBc hBl hR hL hE
  go_enter Try.func18, Try.ntmps18
  go_wp2
  go_ret3
  exact ⟨rfl, HB0.out⟩
set_option maxRecDepth 100000 in
set_option maxHeartbeats 4000000 in
theorem of_mode (A B : Option Addr) (c d : Nat) (L : List Ln) (C : List Cd) (way m : Int) (w : World) (hL : RowL w A L) (hBl : BdL L) (hR : RowC w B C) (hBc : BdC C) (hn : C.length ≤ 1000) (w1 : r64 way) (h1 : ¬ way < 1) (h2 : ¬ 3 < way) (hm : modeB m = false) : Calls Try.prog 18 #[.slice A L.length c, .slice B C.length d, .int .i64 way, .int .i64 m] w fun e w' => e = .returned (.tuple #[.slice none 0 0, .slice none 0 0, .int .i64 (errO C L way m)]) ∧ Below w.heap.size w w' := by
  have hE : errO C L way m = 10 := by unfold errO; rw [if_pos (.inr hm)]
  rw [hE]
  obtain ⟨y1, y2⟩ := w1
  have H1 := Lib.hid (fun W => isMode_any m W)
  rw [hm] at H1
  have HBc := Lib.hid hBc
  have HBl := Lib.hid hBl
  have HR0 := Lib.hid hR
  have HL0 := Lib.hid hL
  have HB0 := Lib.hid (Below.refl w.heap.size w)
  clear hBc hBl hR hL hE
  go_enter Try.func18, Try.ntmps18
  go_wp2_with fail
  refine (H1.out _).mono ?_
  rintro e u1 ⟨rfl, hb⟩
  have HB1 := Lib.hid (HB0.out.trans (hb.mono HB0.out.size))
  have HR1 := Lib.hid (HR0.out.below hb)
  have HL1 := Lib.hid (HL0.out.below hb)
  clear hb
  go_wp2
  go_ret3
  exact ⟨rfl, HB1.out⟩
set_option maxRecDepth 100000 in
set_option maxHeartbeats 4000000 in
theorem of_codes (A B : Option Addr) (c d : Nat) (L : List Ln) (C : List Cd) (way m : Int) (w : World) (hL : RowL w A L) (hBl : BdL L) (hR : RowC w B C) (hBc : BdC C) (hn : C.length ≤ 1000) (w1 : r64 way) (h1 : ¬ way < 1) (h2 : ¬ 3 < way) (hm : modeB m = true) (hc : codesB C = false) : Calls Try.prog 18 #[.slice A L.length c, .slice B C.length d, .int .i64 way, .int .i64 m] w fun e w' => e = .returned (.tuple #[.slice none 0 0, .slice none 0 0, .int .i64 (errO C L way m)]) ∧ Below w.heap.size w w' := by
  have hE : errO C L way m = 2 := by unfold errO; rw [if_neg (by rw [hm]; simp; omega)]; rw [if_pos hc]
  rw [hE]
  obtain ⟨y1, y2⟩ := w1
  have H1 := Lib.hid (fun W => isMode_any m W)
  rw [hm] at H1
  have H2 := Lib.hid (fun W hr => codes_any B d C W hr hBc hn)
  rw [hc] at H2
  have HBc := Lib.hid hBc
  have HBl := Lib.hid hBl
  have HR0 := Lib.hid hR
  have HL0 := Lib.hid hL
  have HB0 := Lib.hid (Below.refl w.heap.size w)
  clear hBc hBl hR hL hE
  go_enter Try.func18, Try.ntmps18
  go_wp2_with fail
  refine (H1.out _).mono ?_
  rintro e u1 ⟨rfl, hb⟩
  have HB1 := Lib.hid (HB0.out.trans (hb.mono HB0.out.size))
  have HR1 := Lib.hid (HR0.out.below hb)
  have HL1 := Lib.hid (HL0.out.below hb)
  clear hb
  go_wp2_with fail
  refine (H2.out _ HR1.out).mono ?_
  rintro e u2 ⟨rfl, hb⟩
  have HB2 := Lib.hid (HB1.out.trans (hb.mono HB1.out.size))
  have HR2 := Lib.hid (HR1.out.below hb)
  have HL2 := Lib.hid (HL1.out.below hb)
  clear hb
  go_wp2
  go_ret3
  exact ⟨rfl, HB2.out⟩
set_option maxRecDepth 100000 in
set_option maxHeartbeats 4000000 in
theorem of_many (A B : Option Addr) (c d : Nat) (L : List Ln) (C : List Cd) (way m : Int) (w : World) (hL : RowL w A L) (hBl : BdL L) (hR : RowC w B C) (hBc : BdC C) (hn : C.length ≤ 1000) (w1 : r64 way) (h1 : ¬ way < 1) (h2 : ¬ 3 < way) (hm : modeB m = true) (hc : codesB C = true) (h3 : 200 < L.length) : Calls Try.prog 18 #[.slice A L.length c, .slice B C.length d, .int .i64 way, .int .i64 m] w fun e w' => e = .returned (.tuple #[.slice none 0 0, .slice none 0 0, .int .i64 (errO C L way m)]) ∧ Below w.heap.size w w' := by
  have hE : errO C L way m = 9 := by unfold errO; rw [if_neg (by rw [hm]; simp; omega)]; rw [if_neg (by rw [hc]; decide), if_pos h3]
  rw [hE]
  obtain ⟨y1, y2⟩ := w1
  have H1 := Lib.hid (fun W => isMode_any m W)
  rw [hm] at H1
  have H2 := Lib.hid (fun W hr => codes_any B d C W hr hBc hn)
  rw [hc] at H2
  have h3' : (200 : Int) < (L.length : Int) := by omega
  have HBc := Lib.hid hBc
  have HBl := Lib.hid hBl
  have HR0 := Lib.hid hR
  have HL0 := Lib.hid hL
  have HB0 := Lib.hid (Below.refl w.heap.size w)
  clear hBc hBl hR hL hE
  go_enter Try.func18, Try.ntmps18
  go_wp2_with fail
  refine (H1.out _).mono ?_
  rintro e u1 ⟨rfl, hb⟩
  have HB1 := Lib.hid (HB0.out.trans (hb.mono HB0.out.size))
  have HR1 := Lib.hid (HR0.out.below hb)
  have HL1 := Lib.hid (HL0.out.below hb)
  clear hb
  go_wp2_with fail
  refine (H2.out _ HR1.out).mono ?_
  rintro e u2 ⟨rfl, hb⟩
  have HB2 := Lib.hid (HB1.out.trans (hb.mono HB1.out.size))
  have HR2 := Lib.hid (HR1.out.below hb)
  have HL2 := Lib.hid (HL1.out.below hb)
  clear hb
  go_wp2
  go_ret3
  exact ⟨rfl, HB2.out⟩
set_option maxRecDepth 100000 in
set_option maxHeartbeats 4000000 in
theorem of_line (A B : Option Addr) (c d : Nat) (L : List Ln) (C : List Cd) (way m : Int) (w : World) (hL : RowL w A L) (hBl : BdL L) (hR : RowC w B C) (hBc : BdC C) (hn : C.length ≤ 1000) (w1 : r64 way) (h1 : ¬ way < 1) (h2 : ¬ 3 < way) (hm : modeB m = true) (hc : codesB C = true) (h3 : ¬ 200 < L.length) (h4 : linesE C L ≠ 0) : Calls Try.prog 18 #[.slice A L.length c, .slice B C.length d, .int .i64 way, .int .i64 m] w fun e w' => e = .returned (.tuple #[.slice none 0 0, .slice none 0 0, .int .i64 (errO C L way m)]) ∧ Below w.heap.size w w' := by
  have hE : errO C L way m = linesE C L := by unfold errO; rw [if_neg (by rw [hm]; simp; omega)]; rw [if_neg (by rw [hc]; decide), if_neg h3]
  rw [hE]
  obtain ⟨y1, y2⟩ := w1
  have H1 := Lib.hid (fun W => isMode_any m W)
  rw [hm] at H1
  have H2 := Lib.hid (fun W hr => codes_any B d C W hr hBc hn)
  rw [hc] at H2
  have hc200 := codes_len hc
  have hsr := codes_srt hc
  have H3 := Lib.hid (fun W hl hr => lineError_any A B c d L C W hl hBl hr (by omega) hc200 hsr)
  have h3' : ¬ (200 : Int) < (L.length : Int) := by omega
  obtain ⟨le, hle⟩ : ∃ le, linesE C L = le := ⟨_, rfl⟩
  rw [hle] at H3 h4 ⊢
  have h4' : (le != 0) = true := by simpa using h4
  clear hle hsr
  have HBc := Lib.hid hBc
  have HBl := Lib.hid hBl
  have HR0 := Lib.hid hR
  have HL0 := Lib.hid hL
  have HB0 := Lib.hid (Below.refl w.heap.size w)
  clear hBc hBl hR hL hE
  go_enter Try.func18, Try.ntmps18
  go_wp2_with fail
  refine (H1.out _).mono ?_
  rintro e u1 ⟨rfl, hb⟩
  have HB1 := Lib.hid (HB0.out.trans (hb.mono HB0.out.size))
  have HR1 := Lib.hid (HR0.out.below hb)
  have HL1 := Lib.hid (HL0.out.below hb)
  clear hb
  go_wp2_with fail
  refine (H2.out _ HR1.out).mono ?_
  rintro e u2 ⟨rfl, hb⟩
  have HB2 := Lib.hid (HB1.out.trans (hb.mono HB1.out.size))
  have HR2 := Lib.hid (HR1.out.below hb)
  have HL2 := Lib.hid (HL1.out.below hb)
  clear hb
  go_wp2_with fail
  refine (H3.out _ HL2.out HR2.out).mono ?_
  rintro e u3 ⟨rfl, hb⟩
  have HB3 := Lib.hid (HB2.out.trans (hb.mono HB2.out.size))
  have HR3 := Lib.hid (HR2.out.below hb)
  have HL3 := Lib.hid (HL2.out.below hb)
  clear hb
  go_wp2
  go_ret3
  exact ⟨rfl, HB3.out⟩
/-- Of, of any way. -/
theorem of_any (A B : Option Addr) (c d : Nat) (L : List Ln) (C : List Cd) (way m : Int) (w : World) (hL : RowL w A L) (hBl : BdL L) (hR : RowC w B C) (hBc : BdC C) (hn : C.length ≤ 1000) (w1 : r64 way) : Calls Try.prog 18 #[.slice A L.length c, .slice B C.length d, .int .i64 way, .int .i64 m] w fun e w' => ∃ v u, e = .returned (.tuple #[v, u, .int .i64 (errO C L way m)]) ∧ OwnI w' w.heap.size v (ofN C L way m) ∧ OwnS w' w.heap.size u (ofS C L way m) ∧ Below w.heap.size w w' := by
  by_cases hE : errO C L way m = 0
  · obtain ⟨⟨h1, h2⟩, _⟩ := errO_ok hE
    have e1 : ofN C L way m = ntK way m C L := if_pos hE
    have e2 : ofS C L way m = inO way m (gK way m C L) C := if_pos hE
    rw [e1, e2, hE]
    rcases (show way = 1 ∨ way = 2 ∨ way = 3 by omega) with rfl | rfl | rfl
    · exact of1_any A B c d L C m w hL hBl hR hBc hE
    · exact of2_any A B c d L C m w hL hBl hR hBc hE
    · exact of3_any A B c d L C m w hL hBl hR hBc hE
  · have e1 : ofN C L way m = [] := if_neg hE
    have e2 : ofS C L way m = [] := if_neg hE
    rw [e1, e2]
    refine Calls.mono (R := fun e w' => e = .returned (.tuple #[.slice none 0 0, .slice none 0 0, .int .i64 (errO C L way m)]) ∧ Below w.heap.size w w') ?_ (fun e w' q => ⟨_, _, q.1, OwnI.nil _ _, OwnS.nil _ _, q.2⟩)
    by_cases h1 : way < 1
    · exact of_low A B c d L C way m w hL hBl hR hBc hn w1 h1
    by_cases h2 : 3 < way
    · exact of_high A B c d L C way m w hL hBl hR hBc hn w1 h1 h2
    cases hm : modeB m
    · exact of_mode A B c d L C way m w hL hBl hR hBc hn w1 h1 h2 hm
    cases hc : codesB C
    · exact of_codes A B c d L C way m w hL hBl hR hBc hn w1 h1 h2 hm hc
    by_cases h3 : 200 < L.length
    · exact of_many A B c d L C way m w hL hBl hR hBc hn w1 h1 h2 hm hc h3
    have h4 : linesE C L ≠ 0 := by
      intro q
      apply hE
      unfold errO
      rw [if_neg (by rw [hm]; simp; omega)]
      rw [if_neg (by rw [hc]; decide), if_neg h3]
      exact q
    exact of_line A B c d L C way m w hL hBl hR hBc hn w1 h1 h2 hm hc h3 h4
end Go.Proofs.Ytelahgmnkhkgkaa
