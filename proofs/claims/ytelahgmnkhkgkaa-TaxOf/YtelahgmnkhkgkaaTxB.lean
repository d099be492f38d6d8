/- Tax codes and lines in memory; what Codes of package tax returns. -/
import Derived.Test.YtelahgmnkhkgkaaTxA
import Derived.Test.YtelahgmnkhkgkaaLtb
import Derived.BigQuiet
namespace Go.Proofs.Ytelahgmnkhkgkaa
open Go.RowKit Go.Sort
set_option linter.unusedVariables false
set_option linter.unusedSimpArgs false

/-- a tax code: name, account, numerator, denominator. A line: amount, code. A sum: code, net, tax. -/
abbrev Cd := ByteArray × ByteArray × Int × Int
abbrev Ln := Int × ByteArray
abbrev Sm := ByteArray × Int × Int
def r64 (n : Int) : Prop := -9223372036854775808 ≤ n ∧ n ≤ 9223372036854775807
def RowC (w : World) (A : Option Addr) (L : List Cd) : Prop :=
  0 < L.length → ∃ b off, A = some ⟨b, off, none⟩ ∧ b < w.heap.size ∧ ∀ i, (h : i < L.length) → w.cell? ⟨b, off + i * 4, none⟩ = some (.string L[i].1) ∧ w.cell? ⟨b, off + i * 4 + 1, none⟩ = some (.string L[i].2.1) ∧ w.cell? ⟨b, off + i * 4 + 2, none⟩ = some (.int .i64 L[i].2.2.1) ∧ w.cell? ⟨b, off + i * 4 + 3, none⟩ = some (.int .i64 L[i].2.2.2)
theorem RowC.below {w w' : World} {A : Option Addr} {L : List Cd} (h : RowC w A L) (hb : Below w.heap.size w w') : RowC w' A L := by
  intro h0
  obtain ⟨b, off, e, hl, hc⟩ := h h0
  exact ⟨b, off, e, Nat.lt_of_lt_of_le hl hb.size, fun i hi => ⟨by rw [hb.cell hl]; exact (hc i hi).1, by rw [hb.cell hl]; exact (hc i hi).2.1, by rw [hb.cell hl]; exact (hc i hi).2.2.1, by rw [hb.cell hl]; exact (hc i hi).2.2.2⟩⟩
def BdC (L : List Cd) : Prop := ∀ c ∈ L, (c.1.size ≤ maxLen ∧ c.2.1.size ≤ maxLen) ∧ r64 c.2.2.1 ∧ r64 c.2.2.2
def RowL (w : World) (A : Option Addr) (L : List Ln) : Prop :=
  0 < L.length → ∃ b off, A = some ⟨b, off, none⟩ ∧ b < w.heap.size ∧ ∀ i, (h : i < L.length) → w.cell? ⟨b, off + i * 2, none⟩ = some (.int .i64 L[i].1) ∧ w.cell? ⟨b, off + i * 2 + 1, none⟩ = some (.string L[i].2)
theorem RowL.below {w w' : World} {A : Option Addr} {L : List Ln} (h : RowL w A L) (hb : Below w.heap.size w w') : RowL w' A L := by
  intro h0
  obtain ⟨b, off, e, hl, hc⟩ := h h0
  exact ⟨b, off, e, Nat.lt_of_lt_of_le hl hb.size, fun i hi => ⟨by rw [hb.cell hl]; exact (hc i hi).1, by rw [hb.cell hl]; exact (hc i hi).2⟩⟩
def BdL (L : List Ln) : Prop := ∀ x ∈ L, r64 x.1 ∧ x.2.size ≤ maxLen
/-- four cells of a block; two; three. -/
structure Q4 (w : World) (B : Nat) (a b c d : Value) : Prop where
  lt : B < w.heap.size
  c0 : w.cell? ⟨B, 0, none⟩ = some a
  c1 : w.cell? ⟨B, 1, none⟩ = some b
  c2 : w.cell? ⟨B, 2, none⟩ = some c
  c3 : w.cell? ⟨B, 3, none⟩ = some d
theorem Q4.alloc (w : World) (a b c d : Value) (t : TypeId) : Q4 (w.alloc (Obj.cells #[a, b, c, d] t)) w.heap.size a b c d :=
  ⟨by simp, by rw [World.cell?_alloc_at _ _ _ _ rfl]; rfl, by rw [World.cell?_alloc_at _ _ _ _ rfl]; rfl, by rw [World.cell?_alloc_at _ _ _ _ rfl]; rfl, by rw [World.cell?_alloc_at _ _ _ _ rfl]; rfl⟩
theorem Q4.below {w w' : World} {B : Nat} {a b c d : Value} (h : Q4 w B a b c d) (hb : Below w.heap.size w w') : Q4 w' B a b c d :=
  ⟨Nat.lt_of_lt_of_le h.lt hb.size, by rw [hb.cell h.lt]; exact h.c0, by rw [hb.cell h.lt]; exact h.c1, by rw [hb.cell h.lt]; exact h.c2, by rw [hb.cell h.lt]; exact h.c3⟩
def nC : Cd := (⟨#[]⟩, ⟨#[]⟩, 0, 0)
theorem getC {L : List Cd} {i : Nat} (h : i < L.length) : L.getD i nC = L[i] := by simp [List.getD, h]
def ok1 (c : Cd) : Bool := codB c.1 && (codB c.2.1 && rateB c.2.2.1 c.2.2.2)
def okC (L : List Cd) (i : Nat) : Bool := ok1 (L.getD i nC) && (i == 0 || ltS (L.getD (i - 1) nC).1 (L.getD i nC).1)
def codesB (L : List Cd) : Bool := decide (L.length ≤ 200) && (List.range L.length).all (okC L)
theorem codes_bad {L : List Cd} {k : Nat} (hk : k < L.length) (h : okC L k = false) : codesB L = false := by
  unfold codesB
  have : (List.range L.length).all (okC L) = false := by
    rw [List.all_eq_false]; exact ⟨k, List.mem_range.2 hk, by rw [h]; simp⟩
  rw [this, Bool.and_false]
theorem codes_end {L : List Cd} (h : ∀ i, i < L.length → okC L i = true) : codesB L = decide (L.length ≤ 200) := by
  unfold codesB
  have : (List.range L.length).all (okC L) = true := by
    rw [List.all_eq_true]; exact fun x hx => h x (List.mem_range.1 hx)
  rw [this, Bool.and_true]
theorem codes_long {L : List Cd} (h : 200 < L.length) : codesB L = false := by unfold codesB; rw [decide_eq_false (by omega), Bool.false_and]
set_option maxRecDepth 100000 in
set_option maxHeartbeats 4000000 in
theorem codes_any (A : Option Addr) (c : Nat) (L : List Cd) (w : World) (hR : RowC w A L) (hBd : BdC L) (hn : L.length ≤ 1000) :
    Calls Try.prog 15 #[.slice A L.length c] w fun e w' => e = .returned (.bool (codesB L)) ∧ Below w.heap.size w w' := by
  have HR := Lib.hid hR
  have HBd := Lib.hid hBd
  clear hR hBd
  by_cases h6 : 200 < L.length
  · have h6' : (200 : Int) < (L.length : Int) := by omega
    have HE := Lib.hid (codes_long h6)
    go_enter Try.func15, Try.ntmps15
    go_wp2
    go_ret
    exact ⟨ret_bool (by rw [HE.out]), Below.refl _ _⟩
  have h6' : ¬ (200 : Int) < (L.length : Int) := by omega
  go_enter Try.func15, Try.ntmps15
  go_wp2
  go_loopw [10] (fun x wr => ∃ k : Nat, k ≤ L.length ∧ x = .int .i64 k ∧ Hid (∀ i, i < k → okC L i = true) ∧ Hid (Below w.heap.size w wr)) (fun x _ => L.length - (intOf x).toNat)
  case atStart => exact ⟨0, Nat.zero_le _, rfl, Lib.hid (fun i hi => by omega), Lib.hid (Below.refl _ _)⟩
  case round =>
    obtain ⟨k, hk, rfl, HK, HB⟩ := hrel
    by_cases h : k < L.length
    · have h' : (k : Int) < (L.length : Int) := by omega
      have HRr := Lib.hid (HR.out.below HB.out)
      obtain ⟨b, off, rfl, hl, hc⟩ := HRr.out (by omega)
      obtain ⟨c0, c1, c2, c3⟩ := hc k h
      obtain ⟨⟨s0, s1⟩, ⟨n1, n2⟩, ⟨d1, d2⟩⟩ := HBd.out L[k] (List.getElem_mem h)
      have HOk := Lib.hid (show okC L k = ((codB L[k].1 && (codB L[k].2.1 && rateB L[k].2.2.1 L[k].2.2.2)) && (k == 0 || ltS (L.getD (k - 1) nC).1 L[k].1)) by unfold okC ok1; rw [getC h])
      have HK2 := Lib.hid (show okC L k = true → ∀ i, i < k + 1 → okC L i = true from fun q i hi => by
        by_cases e : i = k
        · subst e; exact q
        · exact HK.out i (by omega))
      have HBad := Lib.hid (fun q => codes_bad (L := L) h q)
      obtain ⟨S, hS⟩ : ∃ S, L[k].1 = S := ⟨_, rfl⟩
      obtain ⟨T, hT⟩ : ∃ T, L[k].2.1 = T := ⟨_, rfl⟩
      obtain ⟨fn, hfn⟩ : ∃ fn, L[k].2.2.1 = fn := ⟨_, rfl⟩
      obtain ⟨fd, hfd⟩ : ∃ fd, L[k].2.2.2 = fd := ⟨_, rfl⟩
      rw [hS] at c0 HOk s0
      rw [hT] at c1 HOk s1
      rw [hfn] at c2 HOk n1 n2
      rw [hfd] at c3 HOk d1 d2
      have H1 := Lib.hid (fun W => code_any S W s0)
      have H2 := Lib.hid (fun W => code_any T W s1)
      have H3 := Lib.hid (fun W => isRate_any fn fd W n1 n2 d1 d2)
      have hp := Q4.alloc wr (.string S) (.string T) (.int .i64 fn) (.int .i64 fd) 59
      have hb1 : Below wr.heap.size wr (wr.alloc (Obj.cells #[.string S, .string T, .int .i64 fn, .int .i64 fd] 59)) := (Below.refl _ _).alloc (Nat.le_refl _) _
      have HB2 := Lib.hid (HB.out.trans (hb1.mono HB.out.size))
      have HP := Lib.hid hp
      have HR2 := Lib.hid (HRr.out.below hb1)
      have l0 := hp.c0
      have l1 := hp.c1
      have l2 := hp.c2
      have l3 := hp.c3
      clear hS hT hfn hfd hp hb1 hc HR HRr HBd s0 s1 n1 n2 d1 d2
      cases q1 : codB S
      · rw [q1] at H1 HOk
        have HF := Lib.hid (HBad.out (by rw [HOk.out]; rfl))
        clear HOk HK2 HBad HK
        go_wp2_with fail
        refine (H1.out _).mono ?_
        rintro e w_ ⟨rfl, rfl⟩
        go_wp2
        go_ret
        exact ⟨ret_bool (by rw [HF.out]), HB2.out⟩
      · rw [q1] at H1 HOk
        cases q2 : codB T
        · rw [q2] at H2 HOk
          have HF := Lib.hid (HBad.out (by rw [HOk.out]; rfl))
          clear HOk HK2 HBad HK
          go_wp2_with fail
          refine (H1.out _).mono ?_
          rintro e w_ ⟨rfl, rfl⟩
          go_wp2_with fail
          refine (H2.out _).mono ?_
          rintro e w_ ⟨rfl, rfl⟩
          go_wp2
          go_ret
          exact ⟨ret_bool (by rw [HF.out]), HB2.out⟩
        · rw [q2] at H2 HOk
          cases q3 : rateB fn fd
          · rw [q3] at H3 HOk
            have HF := Lib.hid (HBad.out (by rw [HOk.out]; rfl))
            clear HOk HK2 HBad HK
            go_wp2_with fail
            refine (H1.out _).mono ?_
            rintro e w_ ⟨rfl, rfl⟩
            go_wp2_with fail
            refine (H2.out _).mono ?_
            rintro e w_ ⟨rfl, rfl⟩
            go_wp2_with fail
            refine (H3.out _).mono ?_
            rintro e w3 ⟨rfl, hb⟩
            have HB3 := Lib.hid (HB2.out.trans (hb.mono HB2.out.size))
            clear hb
            go_wp2
            go_ret
            exact ⟨ret_bool (by rw [HF.out]), HB3.out⟩
          · rw [q3] at H3 HOk
            by_cases k0 : k = 0
            · have k0' : ¬ (0 : Int) < (k : Int) := by omega
              have k0'' : decide ((0 : Int) < (k : Int)) = false := decide_eq_false k0'
              have k0n : decide (0 < k) = false := decide_eq_false (by omega)
              have HG := Lib.hid (HK2.out (by rw [HOk.out, k0]; rfl))
              clear HOk HK2 HBad HK k0
              go_wp2_with fail
              refine (H1.out _).mono ?_
              rintro e w_ ⟨rfl, rfl⟩
              go_wp2_with fail
              refine (H2.out _).mono ?_
              rintro e w_ ⟨rfl, rfl⟩
              go_wp2_with fail
              refine (H3.out _).mono ?_
              rintro e w3 ⟨rfl, hb⟩
              have HB3 := Lib.hid (HB2.out.trans (hb.mono HB2.out.size))
              have hp := HP.out.below hb
              have m0 := hp.c0
              clear hb hp l0 l1 l2 l3
              go_wp2_with fail
              go_quiet (fail)
              have HB4 := Lib.hid (below_drewN HB3.out nq)
              generalize w3.drewN nq = w4 at *
              go_wp2
              go_roundw
              case rel => exact ⟨k + 1, by omega, by go_num, HG, HB4⟩
              case measure => simp [intOf]; omega
            · have k0' : (0 : Int) < (k : Int) := by omega
              have k0'' : decide ((0 : Int) < (k : Int)) = true := decide_eq_true k0'
              have k0n : decide (0 < k) = true := decide_eq_true (by omega)
              obtain ⟨j, hj⟩ : ∃ j, k = j + 1 := ⟨k - 1, by omega⟩
              have hjx : (k : Int) - 1 = (j : Int) := by omega
              have hjl : j < L.length := by omega
              have hjl' : (j : Int) < (L.length : Int) := by omega
              have HOk := Lib.hid (show okC L k = ltS L[j].1 S by rw [HOk.out, hj, Nat.add_sub_cancel, getC hjl]; rfl)
              obtain ⟨b', off', eb, hl2, hc⟩ := HR2.out (by omega)
              injection eb with eb
              injection eb with eb1 eb2 _
              subst eb1; subst eb2
              obtain ⟨e0, _⟩ := hc j hjl
              obtain ⟨P, hP⟩ : ∃ P, L[j].1 = P := ⟨_, rfl⟩
              rw [hP] at e0 HOk
              unfold ltS at HOk
              have hle := bytes_le S.toList P.toList
              clear hc hP hj k0
              go_wp2_with fail
              refine (H1.out _).mono ?_
              rintro e w_ ⟨rfl, rfl⟩
              go_wp2_with fail
              refine (H2.out _).mono ?_
              rintro e w_ ⟨rfl, rfl⟩
              go_wp2_with fail
              refine (H3.out _).mono ?_
              rintro e w3 ⟨rfl, hb⟩
              have HB3 := Lib.hid (HB2.out.trans (hb.mono HB2.out.size))
              have hp := HP.out.below hb
              have m0 := hp.c0
              have e1 : w3.cell? ⟨b, off + j * 4, none⟩ = some (.string P) := by rw [hb.cell hl2]; exact e0
              clear hb hp l0 l1 l2 l3 e0
              cases q : Op.bytesLess P.toList S.toList
              · rw [q] at HOk hle
                have HF := Lib.hid (HBad.out HOk.out)
                clear HOk HK2 HBad HK
                go_wp2_with fail
                go_quiet (fail)
                have HB4 := Lib.hid (below_drewN HB3.out nq)
                generalize w3.drewN nq = w4 at *
                go_wp2
                go_ret
                exact ⟨ret_bool (by rw [HF.out]), HB4.out⟩
              · rw [q] at HOk hle
                have HG := Lib.hid (HK2.out HOk.out)
                clear HOk HK2 HBad HK
                go_wp2_with fail
                go_quiet (fail)
                have HB4 := Lib.hid (below_drewN HB3.out nq)
                generalize w3.drewN nq = w4 at *
                go_wp2
                go_roundw
                case rel => exact ⟨k + 1, by omega, by go_num, HG, HB4⟩
                case measure => simp [intOf]; omega
    · have h' : ¬ (k : Int) < (L.length : Int) := by omega
      have HE := Lib.hid (show codesB L = true by rw [codes_end (fun i hi => HK.out i (by omega))]; exact decide_eq_true (by omega))
      go_wp2
      go_ret
      exact ⟨ret_bool (by rw [HE.out]), HB.out⟩
end Go.Proofs.Ytelahgmnkhkgkaa
