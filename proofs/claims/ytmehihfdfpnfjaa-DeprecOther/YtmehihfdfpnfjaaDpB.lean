/- Check of the packages deprec and accountingref30. Written by wip/mk_dpb.py. -/
import Derived.Test.YtmehihfdfpnfjaaDpA
import Derived.Lib.QuietBelow
import Derived.BigQuiet
namespace Go.Proofs.Ytmehihfdfpnfjaa
open Go.RowKit Go.Sort
set_option linter.unusedVariables false
set_option linter.unusedSimpArgs false

def inB (n lo hi : Int) : Bool := decide (lo ≤ n) && decide (n ≤ hi)
theorem in_yes {n lo hi : Int} (h : lo ≤ n) (k : n ≤ hi) : inB n lo hi = true := by unfold inB; rw [decide_eq_true h, decide_eq_true k]; rfl
theorem in_low {n lo hi : Int} (h : ¬ lo ≤ n) : inB n lo hi = false := by unfold inB; rw [decide_eq_false h]; rfl
theorem in_high {n lo hi : Int} (k : ¬ n ≤ hi) : inB n lo hi = false := by unfold inB; rw [decide_eq_false k, Bool.and_false]
theorem isWithin_any (n lo hi : Int) (w : World) : Calls Try.prog 17 #[.int .i64 n, .int .i64 lo, .int .i64 hi] w fun e w' => e = .returned (.bool (inB n lo hi)) ∧ w = w' := by
  by_cases h1 : lo ≤ n
  · have q1 : decide (lo ≤ n) = true := decide_eq_true h1
    by_cases h2 : n ≤ hi
    · have q2 : decide (n ≤ hi) = true := decide_eq_true h2
      have HV := Lib.hid (in_yes h1 h2)
      go_enter Try.func17, Try.ntmps17
      go_wp2
      go_ret
      exact ⟨by first | (rw [HV.out]; done) | (rw [HV.out]; rfl), rfl⟩
    · have q2 : decide (n ≤ hi) = false := decide_eq_false h2
      have HV := Lib.hid (in_high (lo := lo) h2)
      go_enter Try.func17, Try.ntmps17
      go_wp2
      go_ret
      exact ⟨by first | (rw [HV.out]; done) | (rw [HV.out]; rfl), rfl⟩
  · have q1 : decide (lo ≤ n) = false := decide_eq_false h1
    have HV := Lib.hid (in_low (hi := hi) h1)
    go_enter Try.func17, Try.ntmps17
    go_wp2
    go_ret
    exact ⟨by first | (rw [HV.out]; done) | (rw [HV.out]; rfl), rfl⟩
theorem rt_no {n d : Int} (h : rightB n d = false) : rtB n d = false := by unfold rtB; rw [h]; rfl
theorem rt_neg {n d : Int} (h : ¬ 0 < n) : rtB n d = false := by unfold rtB; rw [decide_eq_false h]; simp
theorem rt_big {n d : Int} (h : ¬ n < d) : rtB n d = false := by unfold rtB; rw [decide_eq_false h]; simp
theorem rt_yes {n d : Int} (h : rightB n d = true) (h1 : 0 < n) (h2 : n < d) : rtB n d = true := by unfold rtB; rw [h, decide_eq_true h1, decide_eq_true h2]; rfl
set_option maxHeartbeats 1000000 in
theorem isRate_any (n d : Int) (w : World) (hn : r64 n) (hd : r64 d) :
    Calls Try.prog 18 #[.agg #[.int .i64 n, .int .i64 d]] w fun e w' => e = .returned (.bool (rtB n d)) ∧ Below w.heap.size w w' := by
  obtain ⟨n1, n2⟩ := hn
  obtain ⟨d1, d2⟩ := hd
  have HP := Lib.hid (Q2.alloc w (.int .i64 n) (.int .i64 d) 23)
  have HB := Lib.hid ((Below.refl w.heap.size w).alloc (Nat.le_refl _) (Obj.cells #[.int .i64 n, .int .i64 d] 23))
  cases q : rightB n d
  · have H := Lib.hid (fun W => right_val n d false q W n1 n2 d1 d2)
    have HV := Lib.hid (rt_no q)
    go_enter Try.func18, Try.ntmps18
    have x0 := HP.out.c0
    have x1 := HP.out.c1
    go_wp2_with fail
    refine (H.out _).mono ?_
    rintro e w1 ⟨rfl, hb⟩
    clear x0 x1
    have HP1 := Lib.hid (HP.out.below hb)
    have HB1 := Lib.hid (HB.out.trans (hb.mono HB.out.size))
    clear hb HP HB
    have x0 := HP1.out.c0
    have x1 := HP1.out.c1
    go_wp2
    go_ret
    exact ⟨by first | (rw [HV.out]; done) | (rw [HV.out]; rfl), HB1.out⟩
  have H := Lib.hid (fun W => right_val n d true q W n1 n2 d1 d2)
  by_cases h1 : 0 < n
  case neg =>
    have HV := Lib.hid (rt_neg (d := d) h1)
    have q1 : decide (0 < n) = false := decide_eq_false h1
    go_enter Try.func18, Try.ntmps18
    have x0 := HP.out.c0
    have x1 := HP.out.c1
    go_wp2_with fail
    refine (H.out _).mono ?_
    rintro e w1 ⟨rfl, hb⟩
    clear x0 x1
    have HP1 := Lib.hid (HP.out.below hb)
    have HB1 := Lib.hid (HB.out.trans (hb.mono HB.out.size))
    clear hb HP HB
    have x0 := HP1.out.c0
    have x1 := HP1.out.c1
    go_wp2
    go_ret
    exact ⟨by first | (rw [HV.out]; done) | (rw [HV.out]; rfl), HB1.out⟩
  have q1 : decide (0 < n) = true := decide_eq_true h1
  by_cases h2 : n < d
  case neg =>
    have HV := Lib.hid (rt_big (n := n) h2)
    have q2 : decide (n < d) = false := decide_eq_false h2
    go_enter Try.func18, Try.ntmps18
    have x0 := HP.out.c0
    have x1 := HP.out.c1
    go_wp2_with fail
    refine (H.out _).mono ?_
    rintro e w1 ⟨rfl, hb⟩
    clear x0 x1
    have HP1 := Lib.hid (HP.out.below hb)
    have HB1 := Lib.hid (HB.out.trans (hb.mono HB.out.size))
    clear hb HP HB
    have x0 := HP1.out.c0
    have x1 := HP1.out.c1
    go_wp2
    go_ret
    exact ⟨by first | (rw [HV.out]; done) | (rw [HV.out]; rfl), HB1.out⟩
  have HV := Lib.hid (rt_yes q h1 h2)
  have q2 : decide (n < d) = true := decide_eq_true h2
  go_enter Try.func18, Try.ntmps18
  have x0 := HP.out.c0
  have x1 := HP.out.c1
  go_wp2_with fail
  refine (H.out _).mono ?_
  rintro e w1 ⟨rfl, hb⟩
  clear x0 x1
  have HP1 := Lib.hid (HP.out.below hb)
  have HB1 := Lib.hid (HB.out.trans (hb.mono HB.out.size))
  clear hb HP HB
  have x0 := HP1.out.c0
  have x1 := HP1.out.c1
  go_wp2
  go_ret
  exact ⟨by first | (rw [HV.out]; done) | (rw [HV.out]; rfl), HB1.out⟩

/-! the units -/
def okU (z : Int) : Bool := decide (0 ≤ z) && decide (z ≤ 1000000000)
theorem isWrong_any (z : Int) (w : World) : Calls Try.prog 28 #[.int .i64 z] w fun e w' => e = .returned (.bool (!inB z 0 1000000000)) ∧ w = w' := by
  have H := Lib.hid (fun W => isWithin_any z 0 1000000000 W)
  generalize inB z 0 1000000000 = q at *
  cases q <;>
  · go_enter Try.func28, Try.ntmps28
    go_wp2_with fail
    refine (H.out _).mono ?_
    rintro e w1 ⟨rfl, rfl⟩
    go_wp2
    go_ret
    exact ⟨rfl, rfl⟩
theorem isUsed_any (z : Int) (w : World) : Calls Try.prog 29 #[.int .i64 z] w fun e w' => e = .returned (.bool (decide (0 < z))) ∧ w = w' := by
  by_cases h : 0 < z
  · have q : decide (0 < z) = true := decide_eq_true h
    rw [q]
    go_enter Try.func29, Try.ntmps29
    go_wp2
    go_ret
    exact ⟨rfl, rfl⟩
  · have q : decide (0 < z) = false := decide_eq_false h
    rw [q]
    go_enter Try.func29, Try.ntmps29
    go_wp2
    go_ret
    exact ⟨rfl, rfl⟩
/-- the first place where f holds, or -1. -/
def fstI (f : Int → Bool) : List Int → Nat → Int
  | [], _ => -1
  | z :: zs, i => if f z then (i : Int) else fstI f zs (i + 1)
theorem fstI_none {f : Int → Bool} : ∀ {zs : List Int} {i : Nat}, (∀ z ∈ zs, f z = false) → fstI f zs i = -1
  | [], _, _ => rfl
  | z :: zs, i, h => by
    unfold fstI
    rw [h z List.mem_cons_self]
    exact fstI_none (fun y hy => h y (List.mem_cons_of_mem _ hy))
theorem fstI_some {f : Int → Bool} : ∀ {zs : List Int} {i k : Nat} (hk : k < zs.length), (∀ j, j < k → ∀ hj : j < zs.length, f zs[j] = false) → f zs[k] = true → fstI f zs i = ((i + k : Nat) : Int)
  | z :: zs, i, 0, _, _, h => by
    unfold fstI
    rw [show f z = true from h]
    rfl
  | z :: zs, i, k + 1, hk, h, h1 => by
    unfold fstI
    rw [show f z = false from h 0 (by omega) (by simp)]
    have := fstI_some (f := f) (zs := zs) (i := i + 1) (k := k) (by simpa using hk) (fun j hj hjl => h (j + 1) (by omega) (by simpa using hjl)) h1
    rw [show i + (k + 1) = i + 1 + k by omega]
    exact this
theorem fst_neg {f : Int → Bool} {zs : List Int} {i : Nat} : fstI f zs i = -1 ↔ zs.any f = false := by
  constructor
  · intro h
    induction zs generalizing i with
    | nil => rfl
    | cons z zs ih =>
      unfold fstI at h
      cases q : f z
      · rw [q] at h
        simp only [Bool.false_eq_true, if_false] at h
        rw [List.any_cons, q, Bool.false_or]
        exact ih h
      · rw [q] at h
        simp only [if_true] at h
        omega
  · intro h
    exact fstI_none (fun z hz => by
      have := List.any_eq_false.1 h z hz
      simpa using this)
theorem fst_ge {f : Int → Bool} : ∀ {zs : List Int} {i : Nat}, fstI f zs i = -1 ∨ 0 ≤ fstI f zs i
  | [], _ => .inl rfl
  | z :: zs, i => by
    unfold fstI
    split
    · exact .inr (by omega)
    · exact fst_ge
def wrF (z : Int) : Bool := !inB z 0 1000000000
def usF (z : Int) : Bool := decide (0 < z)
set_option maxRecDepth 100000 in
set_option maxHeartbeats 2000000 in
theorem indexFuncW_any (A : Option Addr) (c : Nat) (zs : List Int) (w : World) (hR : Row w A zs) (hn : zs.length ≤ 1000) :
    Calls Try.prog 43 #[.slice A zs.length c, .func (.func 28) #[] #[]] w fun e w' => e = .returned (.int .i64 (fstI wrF zs 0)) ∧ w = w' := by
  have HR := Lib.hid hR
  have HF := Lib.hid (fun z W => show Calls Try.prog 28 #[.int .i64 z] W fun e w' => e = .returned (.bool (wrF z)) ∧ W = w' from isWrong_any z W)
  clear hR
  go_enter Try.func43, Try.ntmps43
  go_wp2
  go_loop [8] (fun x => ∃ k : Nat, k ≤ zs.length ∧ x = .int .i64 k ∧ Hid (∀ j, j < k → ∀ hj : j < zs.length, wrF zs[j] = false)) (fun x => zs.length - (intOf x).toNat)
  case atStart => exact ⟨0, Nat.zero_le _, rfl, Lib.hid (fun i hi => by omega)⟩
  case round =>
    obtain ⟨k, hk, rfl, HG⟩ := hrel
    by_cases hlt : k < zs.length
    · have hlt' : (k : Int) < (zs.length : Int) := by omega
      obtain ⟨b, off, rfl, hc⟩ := HR.out.at_ hlt
      have HC := Lib.hid (HF.out zs[k])
      cases q : wrF zs[k]
      · rw [q] at HC
        have HG2 := Lib.hid (show ∀ i, i < k + 1 → ∀ hi : i < zs.length, wrF zs[i] = false from fun i h1 hi => by
          by_cases e : i = k
          · subst e; exact q
          · exact HG.out i (by omega) hi)
        clear q
        generalize zs[k] = z at *
        go_wp2_with fail
        refine (HC.out _).mono ?_
        rintro e w1 ⟨rfl, rfl⟩
        go_wp2
        go_round
        case rel => exact ⟨k + 1, by omega, by go_num, HG2⟩
        case measure => simp [intOf]; omega
      · rw [q] at HC
        have HV := Lib.hid (fstI_some (i := 0) hlt HG.out q)
        clear q
        generalize zs[k] = z at *
        go_wp2_with fail
        refine (HC.out _).mono ?_
        rintro e w1 ⟨rfl, rfl⟩
        go_wp2
        go_ret
        exact ⟨by first | (rw [HV.out, Nat.zero_add]; done) | (rw [HV.out, Nat.zero_add]; rfl), rfl⟩
    · have hlt' : ¬ (k : Int) < (zs.length : Int) := by omega
      have HV := Lib.hid (fstI_none (f := wrF) (zs := zs) (i := 0) (fun z hz => by
        obtain ⟨j, hj, rfl⟩ := List.getElem_of_mem hz
        exact HG.out j (by omega) hj))
      go_wp2
      go_ret
      exact ⟨by first | (rw [HV.out]; done) | (rw [HV.out]; rfl), rfl⟩
set_option maxRecDepth 100000 in
theorem containsFuncW_any (A : Option Addr) (c : Nat) (zs : List Int) (w : World) (hR : Row w A zs) (hn : zs.length ≤ 1000) :
    Calls Try.prog 30 #[.slice A zs.length c, .func (.func 28) #[] #[]] w fun e w' => e = .returned (.bool (zs.any wrF)) ∧ w = w' := by
  have H := Lib.hid (indexFuncW_any A c zs w hR hn)
  clear hR
  cases q : zs.any wrF
  · have h := fst_neg (i := 0).2 q
    rw [h] at H
    go_enter Try.func30, Try.ntmps30
    go_wp2_with fail
    refine H.out.mono ?_
    rintro e w1 ⟨rfl, rfl⟩
    go_wp2
    go_ret
    exact ⟨rfl, rfl⟩
  · have h : 0 ≤ fstI wrF zs 0 := by
      rcases fst_ge (f := wrF) (zs := zs) (i := 0) with h | h
      · have := fst_neg.1 h; rw [q] at this; cases this
      · exact h
    have h' : decide (0 ≤ fstI wrF zs 0) = true := decide_eq_true h
    generalize fstI wrF zs 0 = y at *
    go_enter Try.func30, Try.ntmps30
    go_wp2_with fail
    refine H.out.mono ?_
    rintro e w1 ⟨rfl, rfl⟩
    go_wp2
    go_ret
    exact ⟨rfl, rfl⟩
set_option maxRecDepth 100000 in
set_option maxHeartbeats 2000000 in
theorem indexFuncU_any (A : Option Addr) (c : Nat) (zs : List Int) (w : World) (hR : Row w A zs) (hn : zs.length ≤ 1000) :
    Calls Try.prog 43 #[.slice A zs.length c, .func (.func 29) #[] #[]] w fun e w' => e = .returned (.int .i64 (fstI usF zs 0)) ∧ w = w' := by
  have HR := Lib.hid hR
  have HF := Lib.hid (fun z W => show Calls Try.prog 29 #[.int .i64 z] W fun e w' => e = .returned (.bool (usF z)) ∧ W = w' from isUsed_any z W)
  clear hR
  go_enter Try.func43, Try.ntmps43
  go_wp2
  go_loop [8] (fun x => ∃ k : Nat, k ≤ zs.length ∧ x = .int .i64 k ∧ Hid (∀ j, j < k → ∀ hj : j < zs.length, usF zs[j] = false)) (fun x => zs.length - (intOf x).toNat)
  case atStart => exact ⟨0, Nat.zero_le _, rfl, Lib.hid (fun i hi => by omega)⟩
  case round =>
    obtain ⟨k, hk, rfl, HG⟩ := hrel
    by_cases hlt : k < zs.length
    · have hlt' : (k : Int) < (zs.length : Int) := by omega
      obtain ⟨b, off, rfl, hc⟩ := HR.out.at_ hlt
      have HC := Lib.hid (HF.out zs[k])
      cases q : usF zs[k]
      · rw [q] at HC
        have HG2 := Lib.hid (show ∀ i, i < k + 1 → ∀ hi : i < zs.length, usF zs[i] = false from fun i h1 hi => by
          by_cases e : i = k
          · subst e; exact q
          · exact HG.out i (by omega) hi)
        clear q
        generalize zs[k] = z at *
        go_wp2_with fail
        refine (HC.out _).mono ?_
        rintro e w1 ⟨rfl, rfl⟩
        go_wp2
        go_round
        case rel => exact ⟨k + 1, by omega, by go_num, HG2⟩
        case measure => simp [intOf]; omega
      · rw [q] at HC
        have HV := Lib.hid (fstI_some (i := 0) hlt HG.out q)
        clear q
        generalize zs[k] = z at *
        go_wp2_with fail
        refine (HC.out _).mono ?_
        rintro e w1 ⟨rfl, rfl⟩
        go_wp2
        go_ret
        exact ⟨by first | (rw [HV.out, Nat.zero_add]; done) | (rw [HV.out, Nat.zero_add]; rfl), rfl⟩
    · have hlt' : ¬ (k : Int) < (zs.length : Int) := by omega
      have HV := Lib.hid (fstI_none (f := usF) (zs := zs) (i := 0) (fun z hz => by
        obtain ⟨j, hj, rfl⟩ := List.getElem_of_mem hz
        exact HG.out j (by omega) hj))
      go_wp2
      go_ret
      exact ⟨by first | (rw [HV.out]; done) | (rw [HV.out]; rfl), rfl⟩
set_option maxRecDepth 100000 in
theorem containsFuncU_any (A : Option Addr) (c : Nat) (zs : List Int) (w : World) (hR : Row w A zs) (hn : zs.length ≤ 1000) :
    Calls Try.prog 30 #[.slice A zs.length c, .func (.func 29) #[] #[]] w fun e w' => e = .returned (.bool (zs.any usF)) ∧ w = w' := by
  have H := Lib.hid (indexFuncU_any A c zs w hR hn)
  clear hR
  cases q : zs.any usF
  · have h := fst_neg (i := 0).2 q
    rw [h] at H
    go_enter Try.func30, Try.ntmps30
    go_wp2_with fail
    refine H.out.mono ?_
    rintro e w1 ⟨rfl, rfl⟩
    go_wp2
    go_ret
    exact ⟨rfl, rfl⟩
  · have h : 0 ≤ fstI usF zs 0 := by
      rcases fst_ge (f := usF) (zs := zs) (i := 0) with h | h
      · have := fst_neg.1 h; rw [q] at this; cases this
      · exact h
    have h' : decide (0 ≤ fstI usF zs 0) = true := decide_eq_true h
    generalize fstI usF zs 0 = y at *
    go_enter Try.func30, Try.ntmps30
    go_wp2_with fail
    refine H.out.mono ?_
    rintro e w1 ⟨rfl, rfl⟩
    go_wp2
    go_ret
    exact ⟨rfl, rfl⟩
theorem any_wrong {us : List Int} : us.any wrF = !us.all (fun z => decide (0 ≤ z) && decide (z ≤ 1000000000)) := by
  induction us with
  | nil => rfl
  | cons z zs ih => rw [List.any_cons, List.all_cons, ih, Bool.not_and]; rfl
theorem un_len {us : List Int} {n : Int} (h : ¬ (us.length : Int) = n) : unB us n = false := by unfold unB; rw [decide_eq_false h, Bool.and_false]
theorem un_is {us : List Int} {n : Int} (h : (us.length : Int) = n) : unB us n = (us.all (fun z => decide (0 ≤ z) && decide (z ≤ 1000000000)) && us.any (fun z => decide (0 < z))) := by unfold unB; rw [decide_eq_true h, Bool.and_true]
set_option maxRecDepth 100000 in
set_option maxHeartbeats 2000000 in
theorem areUnits_any (A : Option Addr) (c : Nat) (us : List Int) (n : Int) (w : World) (hR : Row w A us) (hn : us.length ≤ 250) :
    Calls Try.prog 19 #[.slice A us.length c, .int .i64 n] w fun e w' => e = .returned (.bool (unB us n)) ∧ w = w' := by
  have H1 := Lib.hid (containsFuncW_any A c us w hR (by omega))
  have H2 := Lib.hid (containsFuncU_any A c us w hR (by omega))
  clear hR
  by_cases hl : (us.length : Int) = n
  · subst hl
    have HV := Lib.hid (un_is (us := us) rfl)
    rw [any_wrong] at H1
    rw [show us.any usF = us.any (fun z => decide (0 < z)) from rfl] at H2
    generalize us.all (fun z => decide (0 ≤ z) && decide (z ≤ 1000000000)) = a at *
    generalize us.any (fun z => decide (0 < z)) = b at *
    cases a
    · go_enter Try.func19, Try.ntmps19
      go_wp2_with fail
      refine H1.out.mono ?_
      rintro e w1 ⟨rfl, rfl⟩
      go_wp2
      go_ret
      exact ⟨by first | (rw [HV.out]; done) | (rw [HV.out]; rfl), rfl⟩
    · cases b <;>
      · go_enter Try.func19, Try.ntmps19
        go_wp2_with fail
        refine H1.out.mono ?_
        rintro e w1 ⟨rfl, rfl⟩
        go_wp2_with fail
        refine H2.out.mono ?_
        rintro e w2 ⟨rfl, rfl⟩
        go_wp2
        go_ret
        exact ⟨by first | (rw [HV.out]; done) | (rw [HV.out]; rfl), rfl⟩
  · have hl' : ((us.length : Int) == n) = false := by simpa using hl
    have HV := Lib.hid (un_len hl)
    go_enter Try.func19, Try.ntmps19
    go_wp2
    go_ret
    exact ⟨by first | (rw [HV.out]; done) | (rw [HV.out]; rfl), rfl⟩

/-! Check -/
theorem ck_kind {m c s p a b : Int} {us : List Int} (h : m < 1 ∨ 4 < m) : ckE m c s p a b us = 10 := by unfold ckE; rw [if_pos h]
theorem ck_range {m c s p a b : Int} {us : List Int} (h : ¬ (m < 1 ∨ 4 < m)) (k : c < 1 ∨ 1000000000000 < c ∨ s < 0 ∨ c < s ∨ p < 1 ∨ 200 < p) : ckE m c s p a b us = 3 := by unfold ckE; rw [if_neg h, if_pos k]
theorem ck_rate {m c s p a b : Int} {us : List Int} (h : m = 2) (k : ¬ (c < 1 ∨ 1000000000000 < c ∨ s < 0 ∨ c < s ∨ p < 1 ∨ 200 < p)) : ckE m c s p a b us = if rtB a b then 0 else 2 := by
  unfold ckE; rw [if_neg (by omega), if_neg k]; subst h
  cases rtB a b <;> simp
theorem ck_unit {m c s p a b : Int} {us : List Int} (h : m = 4) (k : ¬ (c < 1 ∨ 1000000000000 < c ∨ s < 0 ∨ c < s ∨ p < 1 ∨ 200 < p)) : ckE m c s p a b us = if unB us p then 0 else 2 := by
  unfold ckE; rw [if_neg (by omega), if_neg k]; subst h
  cases unB us p <;> simp
theorem ck_ok {m c s p a b : Int} {us : List Int} (h : m = 1 ∨ m = 3) (k : ¬ (c < 1 ∨ 1000000000000 < c ∨ s < 0 ∨ c < s ∨ p < 1 ∨ 200 < p)) : ckE m c s p a b us = 0 := by
  unfold ckE; rw [if_neg (by omega), if_neg k, if_neg (fun q => by omega), if_neg (fun q => by omega)]
/-- what is known of a plan's fields. -/
structure PlF (w : World) (m c s p a b : Int) (A : Option Addr) (us : List Int) : Prop where
  m : r64 m
  c : r64 c
  s : r64 s
  p : r64 p
  a : r64 a
  b : r64 b
  u : Row w A us
theorem PlF.below {w w' : World} {m c s p a b : Int} {A : Option Addr} {us : List Int} (h : PlF w m c s p a b A us) (hb : Below w.heap.size w w') : PlF w' m c s p a b A us := ⟨h.m, h.c, h.s, h.p, h.a, h.b, row_b h.u hb⟩
set_option maxRecDepth 100000 in
set_option maxHeartbeats 4000000 in
theorem check_any (m c s p a b : Int) (A : Option Addr) (uc : Nat) (us : List Int) (w : World) (h : PlF w m c s p a b A us) (hn : us.length ≤ 250) :
    Calls Try.prog 10 #[.agg #[.int .i64 m, .int .i64 c, .int .i64 s, .int .i64 p, .int .i64 a, .int .i64 b, .slice A us.length uc]] w fun e w' => e = .returned (.int .i64 (ckE m c s p a b us)) ∧ Below w.heap.size w w' := by
  obtain ⟨hm, hc, hs, hp, ha, hb, hR⟩ := h
  have HP := Lib.hid (Q7.alloc w (.int .i64 m) (.int .i64 c) (.int .i64 s) (.int .i64 p) (.int .i64 a) (.int .i64 b) (.slice A us.length uc) 26)
  have HB0 := Lib.hid ((Below.refl w.heap.size w).alloc (Nat.le_refl _) (Obj.cells #[.int .i64 m, .int .i64 c, .int .i64 s, .int .i64 p, .int .i64 a, .int .i64 b, .slice A us.length uc] 26))
  have HR1 := Lib.hid (row_b hR ((Below.refl w.heap.size w).alloc (Nat.le_refl _) (Obj.cells #[.int .i64 m, .int .i64 c, .int .i64 s, .int .i64 p, .int .i64 a, .int .i64 b, .slice A us.length uc] 26)))
  clear hR
  by_cases h1 : m < 1 ∨ 4 < m
  · have HV := Lib.hid (ck_kind (c := c) (s := s) (p := p) (a := a) (b := b) (us := us) h1)
    rcases h1 with h1 | h1
    · have q1 : decide (m < 1) = true := decide_eq_true h1
      go_enter Try.func10, Try.ntmps10
      have x0 := HP.out.c0
      have x1 := HP.out.c1
      have x2 := HP.out.c2
      have x3 := HP.out.c3
      have x4 := HP.out.c4
      have x5 := HP.out.c5
      have x6 := HP.out.c6
      go_wp2
      go_ret
      exact ⟨by first | (rw [HV.out]; done) | (rw [HV.out]; rfl), HB0.out⟩
    · have q1 : decide (m < 1) = false := decide_eq_false (by omega)
      have q2 : decide (4 < m) = true := decide_eq_true h1
      go_enter Try.func10, Try.ntmps10
      have x0 := HP.out.c0
      have x1 := HP.out.c1
      have x2 := HP.out.c2
      have x3 := HP.out.c3
      have x4 := HP.out.c4
      have x5 := HP.out.c5
      have x6 := HP.out.c6
      go_wp2
      go_ret
      exact ⟨by first | (rw [HV.out]; done) | (rw [HV.out]; rfl), HB0.out⟩
  have p1 : decide (m < 1) = false := decide_eq_false (by omega)
  have p2 : decide (4 < m) = false := decide_eq_false (by omega)
  have C1 := Lib.hid (fun W => isWithin_any c 1 1000000000000 W)
  have C2 := Lib.hid (fun W => isWithin_any s 0 c W)
  have C3 := Lib.hid (fun W => isWithin_any p 1 200 W)
  by_cases h2 : 1 ≤ c ∧ c ≤ 1000000000000
  case neg =>
    have q : inB c 1 1000000000000 = false := by unfold inB; simp; omega
    have HV := Lib.hid (ck_range (m := m) (c := c) (s := s) (p := p) (a := a) (b := b) (us := us) h1 (by omega))
    rw [q] at C1
    clear q
    go_enter Try.func10, Try.ntmps10
    have x0 := HP.out.c0
    have x1 := HP.out.c1
    have x2 := HP.out.c2
    have x3 := HP.out.c3
    have x4 := HP.out.c4
    have x5 := HP.out.c5
    have x6 := HP.out.c6
    go_wp2_with fail
    refine (C1.out _).mono ?_
    rintro e w_ ⟨rfl, rfl⟩
    go_wp2
    go_ret
    exact ⟨by first | (rw [HV.out]; done) | (rw [HV.out]; rfl), HB0.out⟩
  rw [in_yes h2.1 h2.2] at C1
  by_cases h3 : 0 ≤ s ∧ s ≤ c
  case neg =>
    have q : inB s 0 c = false := by unfold inB; simp; omega
    have HV := Lib.hid (ck_range (m := m) (c := c) (s := s) (p := p) (a := a) (b := b) (us := us) h1 (by omega))
    rw [q] at C2
    clear q
    go_enter Try.func10, Try.ntmps10
    have x0 := HP.out.c0
    have x1 := HP.out.c1
    have x2 := HP.out.c2
    have x3 := HP.out.c3
    have x4 := HP.out.c4
    have x5 := HP.out.c5
    have x6 := HP.out.c6
    go_wp2_with fail
    refine (C1.out _).mono ?_
    rintro e w_ ⟨rfl, rfl⟩
    go_wp2_with fail
    refine (C2.out _).mono ?_
    rintro e w_ ⟨rfl, rfl⟩
    go_wp2
    go_ret
    exact ⟨by first | (rw [HV.out]; done) | (rw [HV.out]; rfl), HB0.out⟩
  rw [in_yes h3.1 h3.2] at C2
  by_cases h4 : 1 ≤ p ∧ p ≤ 200
  case neg =>
    have q : inB p 1 200 = false := by unfold inB; simp; omega
    have HV := Lib.hid (ck_range (m := m) (c := c) (s := s) (p := p) (a := a) (b := b) (us := us) h1 (by omega))
    rw [q] at C3
    clear q
    go_enter Try.func10, Try.ntmps10
    have x0 := HP.out.c0
    have x1 := HP.out.c1
    have x2 := HP.out.c2
    have x3 := HP.out.c3
    have x4 := HP.out.c4
    have x5 := HP.out.c5
    have x6 := HP.out.c6
    go_wp2_with fail
    refine (C1.out _).mono ?_
    rintro e w_ ⟨rfl, rfl⟩
    go_wp2_with fail
    refine (C2.out _).mono ?_
    rintro e w_ ⟨rfl, rfl⟩
    go_wp2_with fail
    refine (C3.out _).mono ?_
    rintro e w_ ⟨rfl, rfl⟩
    go_wp2
    go_ret
    exact ⟨by first | (rw [HV.out]; done) | (rw [HV.out]; rfl), HB0.out⟩
  rw [in_yes h4.1 h4.2] at C3
  have hk : ¬ (c < 1 ∨ 1000000000000 < c ∨ s < 0 ∨ c < s ∨ p < 1 ∨ 200 < p) := by omega
  by_cases m2 : m = 2
  · have HV := Lib.hid (ck_rate (c := c) (s := s) (p := p) (a := a) (b := b) (us := us) m2 hk)
    have H := Lib.hid (fun W => isRate_any a b W ha hb)
    subst m2
    cases q : rtB a b <;>
    · rw [q] at HV H
      clear q
      go_enter Try.func10, Try.ntmps10
      have x0 := HP.out.c0
      have x1 := HP.out.c1
      have x2 := HP.out.c2
      have x3 := HP.out.c3
      have x4 := HP.out.c4
      have x5 := HP.out.c5
      have x6 := HP.out.c6
      go_wp2_with fail
      refine (C1.out _).mono ?_
      rintro e w_ ⟨rfl, rfl⟩
      go_wp2_with fail
      refine (C2.out _).mono ?_
      rintro e w_ ⟨rfl, rfl⟩
      go_wp2_with fail
      refine (C3.out _).mono ?_
      rintro e w_ ⟨rfl, rfl⟩
      go_wp2_with fail
      refine (H.out _).mono ?_
      rintro e w1 ⟨rfl, hb⟩
      clear x0 x1 x2 x3 x4 x5 x6
      have HP1 := Lib.hid (HP.out.below hb)
      have HB1 := Lib.hid (HB0.out.trans (hb.mono HB0.out.size))
      have HR2 := Lib.hid (row_b HR1.out hb)
      clear hb HP HB0 HR1
      have x0 := HP1.out.c0
      have x1 := HP1.out.c1
      have x2 := HP1.out.c2
      have x3 := HP1.out.c3
      have x4 := HP1.out.c4
      have x5 := HP1.out.c5
      have x6 := HP1.out.c6
      go_wp2
      go_ret
      exact ⟨by first | (rw [HV.out]; done) | (rw [HV.out]; rfl), HB1.out⟩
  have m2' : (m == 2) = false := by simpa using m2
  by_cases m4 : m = 4
  · have HV := Lib.hid (ck_unit (c := c) (s := s) (p := p) (a := a) (b := b) (us := us) m4 hk)
    have H := Lib.hid (areUnits_any A uc us p _ HR1.out hn)
    subst m4
    cases q : unB us p <;>
    · rw [q] at HV H
      clear q
      go_enter Try.func10, Try.ntmps10
      have x0 := HP.out.c0
      have x1 := HP.out.c1
      have x2 := HP.out.c2
      have x3 := HP.out.c3
      have x4 := HP.out.c4
      have x5 := HP.out.c5
      have x6 := HP.out.c6
      go_wp2_with fail
      refine (C1.out _).mono ?_
      rintro e w_ ⟨rfl, rfl⟩
      go_wp2_with fail
      refine (C2.out _).mono ?_
      rintro e w_ ⟨rfl, rfl⟩
      go_wp2_with fail
      refine (C3.out _).mono ?_
      rintro e w_ ⟨rfl, rfl⟩
      go_wp2_with fail
      refine (H.out).mono ?_
      rintro e w_ ⟨rfl, rfl⟩
      go_wp2
      go_ret
      exact ⟨by first | (rw [HV.out]; done) | (rw [HV.out]; rfl), HB0.out⟩
  have m4' : (m == 4) = false := by simpa using m4
  have HV := Lib.hid (ck_ok (c := c) (s := s) (p := p) (a := a) (b := b) (us := us) (show m = 1 ∨ m = 3 by omega) hk)
  go_enter Try.func10, Try.ntmps10
  have x0 := HP.out.c0
  have x1 := HP.out.c1
  have x2 := HP.out.c2
  have x3 := HP.out.c3
  have x4 := HP.out.c4
  have x5 := HP.out.c5
  have x6 := HP.out.c6
  go_wp2_with fail
  refine (C1.out _).mono ?_
  rintro e w_ ⟨rfl, rfl⟩
  go_wp2_with fail
  refine (C2.out _).mono ?_
  rintro e w_ ⟨rfl, rfl⟩
  go_wp2_with fail
  refine (C3.out _).mono ?_
  rintro e w_ ⟨rfl, rfl⟩
  go_wp2
  go_ret
  exact ⟨by first | (rw [HV.out]; done) | (rw [HV.out]; rfl), HB0.out⟩
end Go.Proofs.Ytmehihfdfpnfjaa
