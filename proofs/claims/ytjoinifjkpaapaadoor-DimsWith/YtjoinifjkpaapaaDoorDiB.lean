/- What Right of packages dims and accountingref09 returns. Written by wip/mk_dib.py. -/
import Derived.Test.YtjoinifjkpaapaaDoorDiA
namespace Go.Proofs.YtjoinifjkpaapaaDoor
open Go.RowKit Go.Sort
set_option linter.unusedVariables false
set_option linter.unusedSimpArgs false

theorem bytes_lt : ∀ (x y : List UInt8), Op.bytesLess x y = decide (x < y)
  | [], [] => by simp [Op.bytesLess]
  | _ :: _, [] => by simp [Op.bytesLess]
  | [], _ :: _ => by simp [Op.bytesLess]
  | a :: x, b :: y => by
    rw [Op.bytesLess, bytes_lt x y]
    simp only [List.cons_lt_cons_iff]
    by_cases h1 : a < b <;> by_cases h2 : a = b <;> by_cases h3 : x < y <;> simp [h1, h2, h3]
def ltS (a b : ByteArray) : Bool := Op.bytesLess a.toList b.toList
theorem bytes_le (a b : List UInt8) : (Op.bytesLess a b || a == b) = !(Op.bytesLess b a) := by
  rw [bytes_lt, bytes_lt]
  by_cases h1 : a < b
  · have h2 : ¬ b < a := fun h => List.lt_irrefl a (List.lt_trans h1 h)
    simp [h1, h2]
  · by_cases h2 : b < a
    · have h3 : ¬ a = b := fun e => by subst e; exact List.lt_irrefl a h2
      simp [h1, h2, h3]
    · have h3 : a = b := List.le_antisymm (List.not_lt.1 h2) (List.not_lt.1 h1)
      subst h3
      simp [h1]
def nT : Tg := (⟨#[]⟩, ⟨#[]⟩)
/-- the tag at i is right, and so is its place. -/
def okI (L : List Tg) (i : Nat) : Bool := tagB (L.getD i nT).1 (L.getD i nT).2 && (i == 0 || ltS (L.getD (i - 1) nT).1 (L.getD i nT).1)
def rightT (L : List Tg) : Bool := decide (L.length ≤ 6) && (List.range L.length).all (okI L)
theorem getD_at {L : List Tg} {i : Nat} (h : i < L.length) : L.getD i nT = L[i] := by simp [List.getD, h]
theorem right_bad {L : List Tg} {k : Nat} (hk : k < L.length) (h : okI L k = false) : rightT L = false := by
  unfold rightT
  have : (List.range L.length).all (okI L) = false := by
    rw [List.all_eq_false]; exact ⟨k, List.mem_range.2 hk, by rw [h]; simp⟩
  rw [this, Bool.and_false]
theorem right_end {L : List Tg} (h : ∀ i, i < L.length → okI L i = true) : rightT L = decide (L.length ≤ 6) := by
  unfold rightT
  have : (List.range L.length).all (okI L) = true := by
    rw [List.all_eq_true]; exact fun x hx => h x (List.mem_range.1 hx)
  rw [this, Bool.and_true]
theorem right_long {L : List Tg} (h : 6 < L.length) : rightT L = false := by unfold rightT; rw [decide_eq_false (by omega), Bool.false_and]
set_option maxRecDepth 100000 in
set_option maxHeartbeats 4000000 in
theorem right_any (A : Option Addr) (c : Nat) (L : List Tg) (w : World) (hR : RowT w A L) (hn : L.length ≤ 100) :
    Calls Tryd.prog 12 #[.slice A L.length c] w fun e w' => e = .returned (.bool (rightT L)) ∧ Below w.heap.size w w' := by
  have HR := Lib.hid hR
  clear hR
  by_cases h6 : 6 < L.length
  · have h6' : (6 : Int) < (L.length : Int) := by omega
    have HE := Lib.hid (right_long h6)
    go_enter Tryd.func12, Tryd.ntmps12
    go_wp2
    go_ret
    exact ⟨ret_bool (by rw [HE.out]), Below.refl _ _⟩
  have h6' : ¬ (6 : Int) < (L.length : Int) := by omega
  go_enter Tryd.func12, Tryd.ntmps12
  go_wp2
  go_loopw [10] (fun x wr => ∃ k : Nat, k ≤ L.length ∧ x = .int .i64 k ∧ Hid (∀ i, i < k → okI L i = true) ∧ Hid (Below w.heap.size w wr)) (fun x _ => L.length - (intOf x).toNat)
  case atStart => exact ⟨0, Nat.zero_le _, rfl, Lib.hid (fun i hi => by omega), Lib.hid (Below.refl _ _)⟩
  case round =>
    obtain ⟨k, hk, rfl, HK, HB⟩ := hrel
    by_cases h : k < L.length
    · have h' : (k : Int) < (L.length : Int) := by omega
      obtain ⟨b, off, rfl, hl, hc⟩ := (HR.out.below HB.out).1 (by omega)
      obtain ⟨c0, c1⟩ := hc k h
      obtain ⟨s0, s1⟩ := HR.out.bd h
      have HOk := Lib.hid (show okI L k = (tagB L[k].1 L[k].2 && (k == 0 || ltS (L.getD (k - 1) nT).1 L[k].1)) by unfold okI; rw [getD_at h])
      have HK2 := Lib.hid (show okI L k = true → ∀ i, i < k + 1 → okI L i = true from fun q i hi => by
        by_cases e : i = k
        · subst e; exact q
        · exact HK.out i (by omega))
      have HBad := Lib.hid (fun q => right_bad (L := L) h q)
      obtain ⟨S, hS⟩ : ∃ S, L[k].1 = S := ⟨_, rfl⟩
      obtain ⟨T, hT⟩ : ∃ T, L[k].2 = T := ⟨_, rfl⟩
      rw [hS] at c0 HOk s0
      rw [hT] at c1 HOk s1
      have HC := Lib.hid (fun W => isTag_any S T W s0 s1)
      have hp := Pr2.alloc wr (.string S) (.string T) 32
      have HB2 := Lib.hid (HB.out.alloc (by have := HB.out.size; omega) (Obj.cells #[.string S, .string T] 32))
      have hold : ∀ (p : Addr), p.block < wr.heap.size → (wr.alloc (Obj.cells #[.string S, .string T] 32)).cell? p = wr.cell? p := fun p hp => ((Below.refl wr.heap.size wr).alloc (Nat.le_refl _) _).cell hp
      clear hS hT
      cases ct : tagB S T
      · rw [ct] at HC HOk
        have HF := Lib.hid (HBad.out (by rw [HOk.out]; rfl))
        clear HOk HK2 HBad HK hc ct
        have l0 := hp.c0
        have l1 := hp.c1
        have m0 := cell_regrown l0
        have m1 := cell_regrown l1
        have K1 : ∀ dd os, Calls Tryd.prog 24 #[.agg #[.string S, .string T]] (grow (redrawn (wr.alloc (Obj.cells #[.string S, .string T] 32)) dd) os) fun e w'' => e = .returned (.bool false) ∧ ∃ p : Regrown, w'' = grow (redrawn (wr.alloc (Obj.cells #[.string S, .string T] 32)) p.d) p.os := fun dd os => Calls.regrown_of (HC.out _)
        go_wp2_with fail
        refine wp_region_quiet_below (l := _) (by kernel_rfl) (by kernel_rfl) ?_
        repeat (first | go_big_quiet_step (first | (go_at_call 24; exact K1 _ _)))
        refine wpQuiet_nil ?_
        intro w5 hw'
        obtain ⟨⟨dq2, osq2⟩, hw''⟩ := hw'
        have hb2 := below_regrown (wr.alloc (Obj.cells #[.string S, .string T] 32)) dq2 osq2
        rw [← hw''] at hb2
        clear hw'' K1 m0 m1
        have HB3 := Lib.hid (HB2.out.trans (hb2.mono HB2.out.size))
        clear hb2
        go_wp2
        go_ret
        exact ⟨ret_bool (by rw [HF.out]), HB3.out⟩
      · rw [ct] at HC HOk
        clear ct
        by_cases k0 : k = 0
        · have k0' : ¬ (0 : Int) < (k : Int) := by omega
          have k0'' : decide ((0 : Int) < (k : Int)) = false := decide_eq_false k0'
          have k0n : decide (0 < k) = false := decide_eq_false (by omega)
          have HG := Lib.hid (HK2.out (by rw [HOk.out, k0]; rfl))
          clear HOk HK2 HBad HK hc k0
          have l0 := hp.c0
          have l1 := hp.c1
          have m0 := cell_regrown l0
          have m1 := cell_regrown l1
          have K1 : ∀ dd os, Calls Tryd.prog 24 #[.agg #[.string S, .string T]] (grow (redrawn (wr.alloc (Obj.cells #[.string S, .string T] 32)) dd) os) fun e w'' => e = .returned (.bool true) ∧ ∃ p : Regrown, w'' = grow (redrawn (wr.alloc (Obj.cells #[.string S, .string T] 32)) p.d) p.os := fun dd os => Calls.regrown_of (HC.out _)
          go_wp2_with fail
          refine wp_region_quiet_below (l := _) (by kernel_rfl) (by kernel_rfl) ?_
          repeat (first | go_big_quiet_step (first | (go_at_call 24; exact K1 _ _)))
          refine wpQuiet_nil ?_
          intro w5 hw'
          obtain ⟨⟨dq2, osq2⟩, hw''⟩ := hw'
          have hb2 := below_regrown (wr.alloc (Obj.cells #[.string S, .string T] 32)) dq2 osq2
          rw [← hw''] at hb2
          clear hw'' K1 m0 m1
          have HB3 := Lib.hid (HB2.out.trans (hb2.mono HB2.out.size))
          clear hb2
          go_wp2
          go_roundw
          case rel => exact ⟨k + 1, by omega, by go_num, HG, HB3⟩
          case measure => simp [intOf]; omega
        · have k0' : (0 : Int) < (k : Int) := by omega
          have k0'' : decide ((0 : Int) < (k : Int)) = true := decide_eq_true k0'
          have k0n : decide (0 < k) = true := decide_eq_true (by omega)
          obtain ⟨j, hj⟩ : ∃ j, k = j + 1 := ⟨k - 1, by omega⟩
          have hjx : (k : Int) - 1 = (j : Int) := by omega
          have hjl : j < L.length := by omega
          have hjl' : (j : Int) < (L.length : Int) := by omega
          obtain ⟨d0, d1⟩ := hc j hjl
          have HOk := Lib.hid (show okI L k = ltS L[j].1 S by rw [HOk.out, hj, Nat.add_sub_cancel, getD_at hjl]; rfl)
          obtain ⟨P, hP⟩ : ∃ P, L[j].1 = P := ⟨_, rfl⟩
          rw [hP] at d0 HOk
          unfold ltS at HOk
          have n0 := cell_regrown (show (wr.alloc (Obj.cells #[.string S, .string T] 32)).cell? ⟨b, off + j * 2, none⟩ = some (.string P) by rw [hold _ hl]; exact d0)
          clear hc hP hj d1 k0
          cases q : Op.bytesLess P.toList S.toList
          · rw [q] at HOk
            have HF := Lib.hid (HBad.out HOk.out)
            clear HOk HK2 HBad HK
            have l0 := hp.c0
            have l1 := hp.c1
            have m0 := cell_regrown l0
            have m1 := cell_regrown l1
            have K1 : ∀ dd os, Calls Tryd.prog 24 #[.agg #[.string S, .string T]] (grow (redrawn (wr.alloc (Obj.cells #[.string S, .string T] 32)) dd) os) fun e w'' => e = .returned (.bool true) ∧ ∃ p : Regrown, w'' = grow (redrawn (wr.alloc (Obj.cells #[.string S, .string T] 32)) p.d) p.os := fun dd os => Calls.regrown_of (HC.out _)
            go_wp2_with fail
            refine wp_region_quiet_below (l := _) (by kernel_rfl) (by kernel_rfl) ?_
            repeat (first | go_big_quiet_step (first | (go_at_call 24; exact K1 _ _)))
            refine wpQuiet_nil ?_
            intro w5 hw'
            obtain ⟨⟨dq2, osq2⟩, hw''⟩ := hw'
            have hb2 := below_regrown (wr.alloc (Obj.cells #[.string S, .string T] 32)) dq2 osq2
            rw [← hw''] at hb2
            clear hw'' K1 m0 m1
            have HB3 := Lib.hid (HB2.out.trans (hb2.mono HB2.out.size))
            clear hb2
            go_wp2
            go_ret
            exact ⟨ret_bool (by rw [HF.out]), HB3.out⟩
          · rw [q] at HOk
            have HG := Lib.hid (HK2.out HOk.out)
            clear HOk HK2 HBad HK
            have l0 := hp.c0
            have l1 := hp.c1
            have m0 := cell_regrown l0
            have m1 := cell_regrown l1
            have K1 : ∀ dd os, Calls Tryd.prog 24 #[.agg #[.string S, .string T]] (grow (redrawn (wr.alloc (Obj.cells #[.string S, .string T] 32)) dd) os) fun e w'' => e = .returned (.bool true) ∧ ∃ p : Regrown, w'' = grow (redrawn (wr.alloc (Obj.cells #[.string S, .string T] 32)) p.d) p.os := fun dd os => Calls.regrown_of (HC.out _)
            go_wp2_with fail
            refine wp_region_quiet_below (l := _) (by kernel_rfl) (by kernel_rfl) ?_
            repeat (first | go_big_quiet_step (first | (go_at_call 24; exact K1 _ _)))
            refine wpQuiet_nil ?_
            intro w5 hw'
            obtain ⟨⟨dq2, osq2⟩, hw''⟩ := hw'
            have hb2 := below_regrown (wr.alloc (Obj.cells #[.string S, .string T] 32)) dq2 osq2
            rw [← hw''] at hb2
            clear hw'' K1 m0 m1
            have HB3 := Lib.hid (HB2.out.trans (hb2.mono HB2.out.size))
            clear hb2
            go_wp2
            go_roundw
            case rel => exact ⟨k + 1, by omega, by go_num, HG, HB3⟩
            case measure => simp [intOf]; omega
    · have h' : ¬ (k : Int) < (L.length : Int) := by omega
      have HE := Lib.hid (show rightT L = true by rw [right_end (fun i hi => HK.out i (by omega))]; exact decide_eq_true (by omega))
      go_wp2
      go_ret
      exact ⟨ret_bool (by rw [HE.out]), HB.out⟩
set_option maxRecDepth 100000 in
set_option maxHeartbeats 4000000 in
theorem rRight_any (A : Option Addr) (c : Nat) (L : List Tg) (w : World) (hR : RowT w A L) (hn : L.length ≤ 100) :
    Calls Tryd.prog 13 #[.slice A L.length c] w fun e w' => e = .returned (.bool (rightT L)) ∧ Below w.heap.size w w' := by
  have HR := Lib.hid hR
  clear hR
  go_enter Tryd.func13, Tryd.ntmps13
  go_wp2
  go_loopw [3] (fun x wr => ∃ k : Nat, k ≤ L.length ∧ x = .int .i64 k ∧ Hid (∀ i, i < k → okI L i = true) ∧ Hid (Below w.heap.size w wr)) (fun x _ => L.length - (intOf x).toNat)
  case atStart => exact ⟨0, Nat.zero_le _, rfl, Lib.hid (fun i hi => by omega), Lib.hid (Below.refl _ _)⟩
  case round =>
    obtain ⟨k, hk, rfl, HK, HB⟩ := hrel
    by_cases h : k < L.length
    · have h' : (k : Int) < (L.length : Int) := by omega
      obtain ⟨b, off, rfl, hl, hc⟩ := (HR.out.below HB.out).1 (by omega)
      obtain ⟨c0, c1⟩ := hc k h
      obtain ⟨s0, s1⟩ := HR.out.bd h
      have HOk := Lib.hid (show okI L k = (tagB L[k].1 L[k].2 && (k == 0 || ltS (L.getD (k - 1) nT).1 L[k].1)) by unfold okI; rw [getD_at h])
      have HK2 := Lib.hid (show okI L k = true → ∀ i, i < k + 1 → okI L i = true from fun q i hi => by
        by_cases e : i = k
        · subst e; exact q
        · exact HK.out i (by omega))
      have HBad := Lib.hid (fun q => right_bad (L := L) h q)
      obtain ⟨S, hS⟩ : ∃ S, L[k].1 = S := ⟨_, rfl⟩
      obtain ⟨T, hT⟩ : ∃ T, L[k].2 = T := ⟨_, rfl⟩
      rw [hS] at c0 HOk s0
      rw [hT] at c1 HOk s1
      have HC := Lib.hid (fun W => named_any S T W s0 s1)
      have HB2 := HB
      clear hS hT
      cases ct : tagB S T
      · rw [ct] at HC HOk
        have HF := Lib.hid (HBad.out (by rw [HOk.out]; rfl))
        clear HOk HK2 HBad HK hc ct
        have m0 := cell_regrown c0
        have m1 := cell_regrown c1
        have K1 : ∀ dd os, Calls Tryd.prog 26 #[.agg #[.string S, .string T]] (grow (redrawn wr dd) os) fun e w'' => e = .returned (.bool false) ∧ ∃ p : Regrown, w'' = grow (redrawn wr p.d) p.os := fun dd os => Calls.regrown_of (HC.out _)
        go_wp2_with fail
        refine wp_region_quiet_below (l := _) (by kernel_rfl) (by kernel_rfl) ?_
        repeat (first | go_big_quiet_step (first | (go_at_call 26; exact K1 _ _)))
        refine wpQuiet_nil ?_
        intro w5 hw'
        obtain ⟨⟨dq2, osq2⟩, hw''⟩ := hw'
        have hb2 := below_regrown wr dq2 osq2
        rw [← hw''] at hb2
        clear hw'' K1 m0 m1
        have HB3 := Lib.hid (HB2.out.trans (hb2.mono HB2.out.size))
        clear hb2
        go_wp2
        go_ret
        exact ⟨ret_bool (by rw [HF.out]), HB3.out⟩
      · rw [ct] at HC HOk
        clear ct
        by_cases k0 : k = 0
        · have k0' : ¬ (0 : Int) < (k : Int) := by omega
          have k0'' : decide ((0 : Int) < (k : Int)) = false := decide_eq_false k0'
          have k0n : decide (0 < k) = false := decide_eq_false (by omega)
          have HG := Lib.hid (HK2.out (by rw [HOk.out, k0]; rfl))
          clear HOk HK2 HBad HK hc k0
          have m0 := cell_regrown c0
          have m1 := cell_regrown c1
          have K1 : ∀ dd os, Calls Tryd.prog 26 #[.agg #[.string S, .string T]] (grow (redrawn wr dd) os) fun e w'' => e = .returned (.bool true) ∧ ∃ p : Regrown, w'' = grow (redrawn wr p.d) p.os := fun dd os => Calls.regrown_of (HC.out _)
          go_wp2_with fail
          refine wp_region_quiet_below (l := _) (by kernel_rfl) (by kernel_rfl) ?_
          repeat (first | go_big_quiet_step (first | (go_at_call 26; exact K1 _ _)))
          refine wpQuiet_nil ?_
          intro w5 hw'
          obtain ⟨⟨dq2, osq2⟩, hw''⟩ := hw'
          have hb2 := below_regrown wr dq2 osq2
          rw [← hw''] at hb2
          clear hw'' K1 m0 m1
          have HB3 := Lib.hid (HB2.out.trans (hb2.mono HB2.out.size))
          clear hb2
          go_wp2
          go_roundw
          case rel => exact ⟨k + 1, by omega, by go_num, HG, HB3⟩
          case measure => simp [intOf]; omega
        · have k0' : (0 : Int) < (k : Int) := by omega
          have k0'' : decide ((0 : Int) < (k : Int)) = true := decide_eq_true k0'
          have k0n : decide (0 < k) = true := decide_eq_true (by omega)
          obtain ⟨j, hj⟩ : ∃ j, k = j + 1 := ⟨k - 1, by omega⟩
          have hjx : (k : Int) - 1 = (j : Int) := by omega
          have hjl : j < L.length := by omega
          have hjl' : (j : Int) < (L.length : Int) := by omega
          obtain ⟨d0, d1⟩ := hc j hjl
          have HOk := Lib.hid (show okI L k = ltS L[j].1 S by rw [HOk.out, hj, Nat.add_sub_cancel, getD_at hjl]; rfl)
          obtain ⟨P, hP⟩ : ∃ P, L[j].1 = P := ⟨_, rfl⟩
          rw [hP] at d0 HOk
          unfold ltS at HOk
          have n0 := cell_regrown d0
          have hle := bytes_le S.toList P.toList
          clear hc hP hj d1 k0
          cases q : Op.bytesLess P.toList S.toList
          · rw [q] at hle
            rw [q] at HOk
            have HF := Lib.hid (HBad.out HOk.out)
            clear HOk HK2 HBad HK
            have m0 := cell_regrown c0
            have m1 := cell_regrown c1
            have K1 : ∀ dd os, Calls Tryd.prog 26 #[.agg #[.string S, .string T]] (grow (redrawn wr dd) os) fun e w'' => e = .returned (.bool true) ∧ ∃ p : Regrown, w'' = grow (redrawn wr p.d) p.os := fun dd os => Calls.regrown_of (HC.out _)
            go_wp2_with fail
            refine wp_region_quiet_below (l := _) (by kernel_rfl) (by kernel_rfl) ?_
            repeat (first | go_big_quiet_step (first | (go_at_call 26; exact K1 _ _)))
            refine wpQuiet_nil ?_
            intro w5 hw'
            obtain ⟨⟨dq2, osq2⟩, hw''⟩ := hw'
            have hb2 := below_regrown wr dq2 osq2
            rw [← hw''] at hb2
            clear hw'' K1 m0 m1
            have HB3 := Lib.hid (HB2.out.trans (hb2.mono HB2.out.size))
            clear hb2
            go_wp2
            go_ret
            exact ⟨ret_bool (by rw [HF.out]), HB3.out⟩
          · rw [q] at hle
            rw [q] at HOk
            have HG := Lib.hid (HK2.out HOk.out)
            clear HOk HK2 HBad HK
            have m0 := cell_regrown c0
            have m1 := cell_regrown c1
            have K1 : ∀ dd os, Calls Tryd.prog 26 #[.agg #[.string S, .string T]] (grow (redrawn wr dd) os) fun e w'' => e = .returned (.bool true) ∧ ∃ p : Regrown, w'' = grow (redrawn wr p.d) p.os := fun dd os => Calls.regrown_of (HC.out _)
            go_wp2_with fail
            refine wp_region_quiet_below (l := _) (by kernel_rfl) (by kernel_rfl) ?_
            repeat (first | go_big_quiet_step (first | (go_at_call 26; exact K1 _ _)))
            refine wpQuiet_nil ?_
            intro w5 hw'
            obtain ⟨⟨dq2, osq2⟩, hw''⟩ := hw'
            have hb2 := below_regrown wr dq2 osq2
            rw [← hw''] at hb2
            clear hw'' K1 m0 m1
            have HB3 := Lib.hid (HB2.out.trans (hb2.mono HB2.out.size))
            clear hb2
            go_wp2
            go_roundw
            case rel => exact ⟨k + 1, by omega, by go_num, HG, HB3⟩
            case measure => simp [intOf]; omega
    · have h' : ¬ (k : Int) < (L.length : Int) := by omega
      have HE := Lib.hid (right_end (L := L) (fun i hi => HK.out i (by omega)))
      by_cases h6 : L.length ≤ 6
      · have h6' : decide ((L.length : Int) ≤ 6) = true := decide_eq_true (by omega)
        rw [decide_eq_true h6] at HE
        go_wp2
        go_ret
        exact ⟨ret_bool (by rw [HE.out]), HB.out⟩
      · have h6' : decide ((L.length : Int) ≤ 6) = false := decide_eq_false (by omega)
        rw [decide_eq_false h6] at HE
        go_wp2
        go_ret
        exact ⟨ret_bool (by rw [HE.out]), HB.out⟩
end Go.Proofs.YtjoinifjkpaapaaDoor
