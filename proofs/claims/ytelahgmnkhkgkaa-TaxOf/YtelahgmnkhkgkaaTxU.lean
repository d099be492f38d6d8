/- What check of package accountingref25 returns. Written by wip/mk_txt.py. -/
import Derived.Test.YtelahgmnkhkgkaaTxT
namespace Go.Proofs.Ytelahgmnkhkgkaa
open Go.RowKit Go.Sort
set_option linter.unusedVariables false
set_option linter.unusedSimpArgs false

set_option maxRecDepth 100000 in
set_option maxHeartbeats 3000000 in
theorem rck_a (A B : Option Addr) (c d : Nat) (L : List Ln) (C : List Cd) (way m : Int) (w : World) (hL : RowL w A L) (hBl : BdL L) (hR : RowC w B C) (hBc : BdC C) (hn : C.length ≤ 1000) (w1 : r64 way) (w2 : r64 m) (h1 : way < 1) : Calls Try.prog 37 #[.slice A L.length c, .slice B C.length d, .int .i64 way, .int .i64 m] w fun e w' => e = .returned (.int .i64 (errO C L way m)) ∧ Below w.heap.size w w' := by
  have HE := Lib.hid (show errO C L way m = 10 by unfold errO; exact if_pos (.inl (.inl h1)))
  obtain ⟨y1, y2⟩ := w1
  obtain ⟨z1, z2⟩ := w2
  clear hL hBl hR hBc
  go_enter Try.func37, Try.ntmps37
  go_wp2
  go_ret
  exact ⟨ret_int (by rw [HE.out]), Below.refl _ _⟩
set_option maxRecDepth 100000 in
set_option maxHeartbeats 3000000 in
theorem rck_b (A B : Option Addr) (c d : Nat) (L : List Ln) (C : List Cd) (way m : Int) (w : World) (hL : RowL w A L) (hBl : BdL L) (hR : RowC w B C) (hBc : BdC C) (hn : C.length ≤ 1000) (w1 : r64 way) (w2 : r64 m) (h1 : ¬ way < 1) (h2 : 3 < way) : Calls Try.prog 37 #[.slice A L.length c, .slice B C.length d, .int .i64 way, .int .i64 m] w fun e w' => e = .returned (.int .i64 (errO C L way m)) ∧ Below w.heap.size w w' := by
  have HE := Lib.hid (show errO C L way m = 10 by unfold errO; exact if_pos (.inl (.inr h2)))
  obtain ⟨y1, y2⟩ := w1
  obtain ⟨z1, z2⟩ := w2
  clear hL hBl hR hBc
  go_enter Try.func37, Try.ntmps37
  go_wp2
  go_ret
  exact ⟨ret_int (by rw [HE.out]), Below.refl _ _⟩
set_option maxRecDepth 100000 in
set_option maxHeartbeats 3000000 in
theorem rck_c (A B : Option Addr) (c d : Nat) (L : List Ln) (C : List Cd) (way m : Int) (w : World) (hL : RowL w A L) (hBl : BdL L) (hR : RowC w B C) (hBc : BdC C) (hn : C.length ≤ 1000) (w1 : r64 way) (w2 : r64 m) (h1 : ¬ way < 1) (h2 : ¬ 3 < way) (h3 : m < 1) : Calls Try.prog 37 #[.slice A L.length c, .slice B C.length d, .int .i64 way, .int .i64 m] w fun e w' => e = .returned (.int .i64 (errO C L way m)) ∧ Below w.heap.size w w' := by
  have HE := Lib.hid (show errO C L way m = 10 by unfold errO; exact if_pos (.inr (by unfold modeB; simp; omega)))
  obtain ⟨y1, y2⟩ := w1
  obtain ⟨z1, z2⟩ := w2
  clear hL hBl hR hBc
  go_enter Try.func37, Try.ntmps37
  go_wp2
  go_ret
  exact ⟨ret_int (by rw [HE.out]), Below.refl _ _⟩
set_option maxRecDepth 100000 in
set_option maxHeartbeats 3000000 in
theorem rck_d (A B : Option Addr) (c d : Nat) (L : List Ln) (C : List Cd) (way m : Int) (w : World) (hL : RowL w A L) (hBl : BdL L) (hR : RowC w B C) (hBc : BdC C) (hn : C.length ≤ 1000) (w1 : r64 way) (w2 : r64 m) (h1 : ¬ way < 1) (h2 : ¬ 3 < way) (h3 : ¬ m < 1) (h4 : 5 < m) : Calls Try.prog 37 #[.slice A L.length c, .slice B C.length d, .int .i64 way, .int .i64 m] w fun e w' => e = .returned (.int .i64 (errO C L way m)) ∧ Below w.heap.size w w' := by
  have HE := Lib.hid (show errO C L way m = 10 by unfold errO; exact if_pos (.inr (by unfold modeB; simp; omega)))
  obtain ⟨y1, y2⟩ := w1
  obtain ⟨z1, z2⟩ := w2
  clear hL hBl hR hBc
  go_enter Try.func37, Try.ntmps37
  go_wp2
  go_ret
  exact ⟨ret_int (by rw [HE.out]), Below.refl _ _⟩
set_option maxRecDepth 100000 in
set_option maxHeartbeats 3000000 in
theorem rck_e (A B : Option Addr) (c d : Nat) (L : List Ln) (C : List Cd) (way m : Int) (w : World) (hL : RowL w A L) (hBl : BdL L) (hR : RowC w B C) (hBc : BdC C) (hn : C.length ≤ 1000) (w1 : r64 way) (w2 : r64 m) (h1 : ¬ way < 1) (h2 : ¬ 3 < way) (h3 : ¬ m < 1) (h4 : ¬ 5 < m) : Calls Try.prog 37 #[.slice A L.length c, .slice B C.length d, .int .i64 way, .int .i64 m] w fun e w' => e = .returned (.int .i64 (errO C L way m)) ∧ Below w.heap.size w w' := by
  have hm : modeB m = true := by unfold modeB; simp; omega
  have H2 := Lib.hid (fun W hr => rCodes_any B d C W hr hBc hn)
  have HR := Lib.hid hR
  have HL := Lib.hid hL
  have HBd := Lib.hid hBl
  clear hL hR hBl hBc
  obtain ⟨y1, y2⟩ := w1
  obtain ⟨z1, z2⟩ := w2
  cases hc : codesB C
  · have HE := Lib.hid (show errO C L way m = 2 by unfold errO; rw [if_neg (by rw [hm]; simp; omega)]; rw [if_pos hc])
    rw [hc] at H2
    clear hc hm
    go_enter Try.func37, Try.ntmps37
    go_wp2_with fail
    refine (H2.out _ HR.out).mono ?_
    rintro e u1 ⟨rfl, hb⟩
    have HB1 := Lib.hid hb
    clear hb
    go_wp2
    go_ret
    exact ⟨ret_int (by rw [HE.out]), HB1.out⟩
  have hc200 := codes_len hc
  have HS := Lib.hid (codes_srt hc)
  rw [hc] at H2
  by_cases hl : 200 < L.length
  · have HE := Lib.hid (show errO C L way m = 9 by unfold errO; rw [if_neg (by rw [hm]; simp; omega)]; rw [if_neg (by rw [hc]; decide), if_pos hl])
    have hl' : (200 : Int) < (L.length : Int) := by omega
    clear hc hm
    go_enter Try.func37, Try.ntmps37
    go_wp2_with fail
    refine (H2.out _ HR.out).mono ?_
    rintro e u1 ⟨rfl, hb⟩
    have HB1 := Lib.hid hb
    clear hb
    go_wp2
    go_ret
    exact ⟨ret_int (by rw [HE.out]), HB1.out⟩
  have HE := Lib.hid (show errO C L way m = linesE C L by unfold errO; rw [if_neg (by rw [hm]; simp; omega)]; rw [if_neg (by rw [hc]; decide), if_neg hl])
  have hl' : ¬ (200 : Int) < (L.length : Int) := by omega
  rw [HE.out]
  clear hc hm HE
  go_enter Try.func37, Try.ntmps37
  go_wp2_with fail
  refine (H2.out _ HR.out).mono ?_
  rintro e u1 ⟨rfl, hb⟩
  have HB1 := Lib.hid hb
  clear hb
  go_wp2_with fail
  go_loopw [9] (fun x wr => ∃ k : Nat, k ≤ L.length ∧ x = .int .i64 k ∧ Hid (∀ i, i < k → (h : i < L.length) → lnE C L[i] = 0) ∧ Hid (Below w.heap.size w wr)) (fun x _ => L.length - (intOf x).toNat)
  case atStart => exact ⟨0, Nat.zero_le _, rfl, Lib.hid (fun i hi => by omega), HB1⟩
  case round =>
    obtain ⟨k, hk, rfl, HK, HB⟩ := hrel
    by_cases h : k < L.length
    · have h' : (k : Int) < (L.length : Int) := by omega
      obtain ⟨b, off, rfl, hlb, hcl⟩ := (HL.out.below HB.out) (by omega)
      obtain ⟨c0, c1⟩ := hcl k h
      obtain ⟨⟨a1, a2⟩, s1⟩ := HBd.out L[k] (List.getElem_mem h)
      have HG := Lib.hid (linesE_drop k hk HK.out)
      rw [List.drop_eq_getElem_cons h] at HG
      have HG2 := Lib.hid (show linesE C L = if lnE C L[k] = 0 then linesE C (L.drop (k + 1)) else lnE C L[k] from HG.out)
      have HK2 := Lib.hid (show lnE C L[k] = 0 → ∀ i, i < k + 1 → (h : i < L.length) → lnE C L[i] = 0 from fun q i hi hl => by
        by_cases e : i = k
        · subst e; exact q
        · exact HK.out i (by omega) hl)
      have HE := Lib.hid (show lnE C L[k] = if withB L[k].1 1000000000000 = false then 4 else if L[k].2.toList.isEmpty = false ∧ atC C L[k].2 = false then 28 else 0 from rfl)
      generalize lnE C L[k] = le at *
      obtain ⟨am, hS1⟩ : ∃ am, L[k].1 = am := ⟨_, rfl⟩
      obtain ⟨T, hT⟩ : ∃ T, L[k].2 = T := ⟨_, rfl⟩
      rw [hS1] at c0 HE a1 a2
      rw [hT] at c1 HE s1
      have HF := Lib.hid (fun W (hr : RowC W B C) => rfind_any B d C T W hr hc200 HS.out)
      have HI := Lib.hid (fun W => large_any am 1000000000000 W (by omega) (by omega) a1 a2)
      have HR2 := Lib.hid (HR.out.below HB.out)
      clear hS1 hT hcl HG
      cases q1 : withB am 1000000000000
      · rw [q1] at HI HE
        have HX := Lib.hid (show linesE C L = 4 by
          have e : le = 4 := by rw [HE.out, if_pos rfl]
          rw [HG2.out, if_neg (by rw [e]; decide), e])
        clear HE HG2 HK2 HK
        go_wp2_with fail
        refine (HI.out _).mono ?_
        rintro e w_ ⟨rfl, rfl⟩
        go_wp2
        go_ret
        exact ⟨ret_int (by rw [HX.out]), HB.out⟩
      · rw [q1] at HI HE
        cases q3 : T.toList.isEmpty
        · cases q4 : atC C T
          · have e0 : fdV C T = -1 := by unfold fdV; rw [q4]; simp
            rw [e0] at HF
            have HX := Lib.hid (show linesE C L = 28 by
              have e : le = 28 := by rw [HE.out, if_neg (by decide), if_pos ⟨q3, q4⟩]
              rw [HG2.out, if_neg (by rw [e]; decide), e])
            clear HE HG2 HK2 HK q4 e0
            go_wp2_with fail
            refine (HI.out _).mono ?_
            rintro e w_ ⟨rfl, rfl⟩
            go_wp2_with fail
            refine (HF.out _ HR2.out).mono ?_
            rintro e w3 ⟨rfl, hb⟩
            have HB3 := Lib.hid (HB.out.trans (hb.mono HB.out.size))
            clear hb
            go_wp2
            go_ret
            exact ⟨ret_int (by rw [HX.out]), HB3.out⟩
          · have e0 : fdV C T = (lowC C T : Int) := by unfold fdV; rw [q4]; simp
            rw [e0] at HF
            generalize lowC C T = lw at *
            have HKn := Lib.hid (HK2.out (by rw [HE.out, if_neg (by decide), if_neg (by rw [q4]; simp)]))
            clear HE HG2 HK2 HK q4 e0
            have hlw : ¬ (lw : Int) < 0 := by omega
            go_wp2_with fail
            refine (HI.out _).mono ?_
            rintro e w_ ⟨rfl, rfl⟩
            go_wp2_with fail
            refine (HF.out _ HR2.out).mono ?_
            rintro e w3 ⟨rfl, hb⟩
            have HB3 := Lib.hid (HB.out.trans (hb.mono HB.out.size))
            clear hb
            go_wp2
            go_roundw
            case rel => exact ⟨k + 1, by omega, by go_num, HKn, HB3⟩
            case measure => simp [intOf]; omega
        · have HKn := Lib.hid (HK2.out (by rw [HE.out, if_neg (by decide), if_neg (by rw [q3]; simp)]))
          clear HE HG2 HK2 HK
          go_wp2_with fail
          refine (HI.out _).mono ?_
          rintro e w_ ⟨rfl, rfl⟩
          go_wp2
          go_roundw
          case rel => exact ⟨k + 1, by omega, by go_num, HKn, HB⟩
          case measure => simp [intOf]; omega
    · have h' : ¬ (k : Int) < (L.length : Int) := by omega
      have HX := Lib.hid (show linesE C L = 0 by rw [linesE_drop k hk HK.out, List.drop_eq_nil_of_le (by omega)]; rfl)
      go_wp2
      go_ret
      exact ⟨ret_int (by rw [HX.out]), HB.out⟩
theorem rcheck_any (A B : Option Addr) (c d : Nat) (L : List Ln) (C : List Cd) (way m : Int) (w : World) (hL : RowL w A L) (hBl : BdL L) (hR : RowC w B C) (hBc : BdC C) (hn : C.length ≤ 1000) (w1 : r64 way) (w2 : r64 m) : Calls Try.prog 37 #[.slice A L.length c, .slice B C.length d, .int .i64 way, .int .i64 m] w fun e w' => e = .returned (.int .i64 (errO C L way m)) ∧ Below w.heap.size w w' := by
  by_cases h1 : way < 1
  · exact rck_a A B c d L C way m w hL hBl hR hBc hn w1 w2 h1
  by_cases h2 : 3 < way
  · exact rck_b A B c d L C way m w hL hBl hR hBc hn w1 w2 h1 h2
  by_cases h3 : m < 1
  · exact rck_c A B c d L C way m w hL hBl hR hBc hn w1 w2 h1 h2 h3
  by_cases h4 : 5 < m
  · exact rck_d A B c d L C way m w hL hBl hR hBc hn w1 w2 h1 h2 h3 h4
  exact rck_e A B c d L C way m w hL hBl hR hBc hn w1 w2 h1 h2 h3 h4
end Go.Proofs.Ytelahgmnkhkgkaa
