/- What lineError and divider of package tax return; sums in maps and slices. Written by wip/mk_txd.py. -/
import Derived.Test.YtelahgmnkhkgkaaTxC
import Derived.Test.YtelahgmnkhkgkaaMps
namespace Go.Proofs.Ytelahgmnkhkgkaa
open Go.RowKit Go.Sort
set_option linter.unusedVariables false
set_option linter.unusedSimpArgs false

structure Q2 (w : World) (B : Nat) (a b : Value) : Prop where
  lt : B < w.heap.size
  c0 : w.cell? ⟨B, 0, none⟩ = some a
  c1 : w.cell? ⟨B, 1, none⟩ = some b
theorem Q2.alloc (w : World) (a b : Value) (t : TypeId) : Q2 (w.alloc (Obj.cells #[a, b] t)) w.heap.size a b :=
  ⟨by simp, by rw [World.cell?_alloc_at _ _ _ _ rfl]; rfl, by rw [World.cell?_alloc_at _ _ _ _ rfl]; rfl⟩
theorem Q2.below {w w' : World} {B : Nat} {a b : Value} (h : Q2 w B a b) (hb : Below w.heap.size w w') : Q2 w' B a b :=
  ⟨Nat.lt_of_lt_of_le h.lt hb.size, by rw [hb.cell h.lt]; exact h.c0, by rw [hb.cell h.lt]; exact h.c1⟩
structure Q3 (w : World) (B : Nat) (a b c : Value) : Prop where
  lt : B < w.heap.size
  c0 : w.cell? ⟨B, 0, none⟩ = some a
  c1 : w.cell? ⟨B, 1, none⟩ = some b
  c2 : w.cell? ⟨B, 2, none⟩ = some c
theorem Q3.alloc (w : World) (a b c : Value) (t : TypeId) : Q3 (w.alloc (Obj.cells #[a, b, c] t)) w.heap.size a b c :=
  ⟨by simp, by rw [World.cell?_alloc_at _ _ _ _ rfl]; rfl, by rw [World.cell?_alloc_at _ _ _ _ rfl]; rfl, by rw [World.cell?_alloc_at _ _ _ _ rfl]; rfl⟩
theorem Q3.below {w w' : World} {B : Nat} {a b c : Value} (h : Q3 w B a b c) (hb : Below w.heap.size w w') : Q3 w' B a b c :=
  ⟨Nat.lt_of_lt_of_le h.lt hb.size, by rw [hb.cell h.lt]; exact h.c0, by rw [hb.cell h.lt]; exact h.c1, by rw [hb.cell h.lt]; exact h.c2⟩
def lnE (C : List Cd) (x : Ln) : Int := if withB x.1 1000000000000 = false then 4 else if x.2.toList.isEmpty = false ∧ atC C x.2 = false then 28 else 0
def linesE (C : List Cd) : List Ln → Int
  | [] => 0
  | x :: r => if lnE C x = 0 then linesE C r else lnE C x
theorem linesE_drop {C : List Cd} {L : List Ln} : ∀ k, k ≤ L.length → (∀ i, i < k → (h : i < L.length) → lnE C L[i] = 0) → linesE C L = linesE C (L.drop k)
  | 0, _, _ => rfl
  | k + 1, hk, h => by
    rw [linesE_drop k (by omega) (fun i hi hl => h i (by omega) hl), List.drop_eq_getElem_cons (show k < L.length by omega)]
    show (if lnE C L[k] = 0 then linesE C (L.drop (k + 1)) else _) = _
    rw [if_pos (h k (by omega) (by omega))]
theorem linesE_all {C : List Cd} : ∀ {L : List Ln}, linesE C L = 0 → ∀ x ∈ L, lnE C x = 0
  | [], _, x, hx => by simp at hx
  | y :: r, h, x, hx => by
    unfold linesE at h
    split at h
    · rename_i q
      rw [List.mem_cons] at hx
      rcases hx with rfl | hx
      · exact q
      · exact linesE_all h x hx
    · rename_i q; exact absurd h q
theorem linesE_cases {C : List Cd} : ∀ (L : List Ln), linesE C L = 0 ∨ linesE C L = 4 ∨ linesE C L = 28
  | [] => .inl rfl
  | y :: r => by
    unfold linesE
    split
    · exact linesE_cases r
    · unfold lnE
      split
      · simp
      · split <;> simp
set_option maxRecDepth 100000 in
set_option maxHeartbeats 3000000 in
theorem lineError_any (A B : Option Addr) (c d : Nat) (L : List Ln) (C : List Cd) (w : World) (hL : RowL w A L) (hBd : BdL L) (hR : RowC w B C) (hn : L.length ≤ 200) (hc : C.length ≤ 200) (hS : SrtC C) :
    Calls Try.prog 32 #[.slice A L.length c, .slice B C.length d] w fun e w' => e = .returned (.int .i64 (linesE C L)) ∧ Below w.heap.size w w' := by
  have HL := Lib.hid hL
  have HR := Lib.hid hR
  have HBd := Lib.hid hBd
  clear hL hR hBd
  go_enter Try.func32, Try.ntmps32
  go_wp2
  go_loopw [11] (fun x wr => ∃ k : Nat, k ≤ L.length ∧ x = .int .i64 k ∧ Hid (∀ i, i < k → (h : i < L.length) → lnE C L[i] = 0) ∧ Hid (Below w.heap.size w wr)) (fun x _ => L.length - (intOf x).toNat)
  case atStart => exact ⟨0, Nat.zero_le _, rfl, Lib.hid (fun i hi => by omega), Lib.hid (Below.refl _ _)⟩
  case round =>
    obtain ⟨k, hk, rfl, HK, HB⟩ := hrel
    by_cases h : k < L.length
    · have h' : (k : Int) < (L.length : Int) := by omega
      obtain ⟨b, off, rfl, hl, hcl⟩ := (HL.out.below HB.out) (by omega)
      obtain ⟨c0, c1⟩ := hcl k h
      obtain ⟨⟨a1, a2⟩, s1⟩ := HBd.out L[k] (List.getElem_mem h)
      have HG := Lib.hid (linesE_drop k hk HK.out)
      rw [List.drop_eq_getElem_cons h] at HG
      have HG2 := Lib.hid (show linesE C L = if lnE C L[k] = 0 then linesE C (L.drop (k + 1)) else lnE C L[k] from HG.out)
      have HK2 := Lib.hid (show lnE C L[k] = 0 → ∀ i, i < k + 1 → (h : i < L.length) → lnE C L[i] = 0 from fun q i hi hl => by
        by_cases e : i = k
        · subst e; exact q
        · exact HK.out i (by omega) hl)
      have HE := Lib.hid (show lnE C L[k] = if withB L[k].1 1000000000000 = false then 4 else if L[k].2.toList.isEmpty = false ∧ atC C L[k].2 = false then 28 else 0 from rfl)
      generalize lnE C L[k] = le at *
      obtain ⟨am, hS1⟩ : ∃ am, L[k].1 = am := ⟨_, rfl⟩
      obtain ⟨T, hT⟩ : ∃ T, L[k].2 = T := ⟨_, rfl⟩
      rw [hS1] at c0 HE a1 a2
      rw [hT] at c1 HE s1
      have hp := Q2.alloc wr (.int .i64 am) (.string T) 49
      have hb1 : Below wr.heap.size wr (wr.alloc (Obj.cells #[.int .i64 am, .string T] 49)) := (Below.refl _ _).alloc (Nat.le_refl _) _
      have HB2 := Lib.hid (HB.out.trans (hb1.mono HB.out.size))
      have HP := Lib.hid hp
      have HF := Lib.hid (fun W (hr : RowC W B C) => find_any B d C T W hr hc hS)
      have HI := Lib.hid (fun W => isWithin_any am 1000000000000 W (by omega) (by omega) a1 a2)
      have HR2 := Lib.hid ((HR.out.below HB.out).below hb1)
      have l0 := hp.c0
      have l1 := hp.c1
      clear hS1 hT hcl hp hb1 HG
      cases q1 : withB am 1000000000000
      · rw [q1] at HI HE
        have HX := Lib.hid (show linesE C L = 4 by
          have e : le = 4 := by rw [HE.out, if_pos rfl]
          rw [HG2.out, if_neg (by rw [e]; decide), e])
        clear HE HG2 HK2 HK
        go_wp2_with fail
        refine (HI.out _).mono ?_
        rintro e w_ ⟨rfl, rfl⟩
        go_wp2
        go_ret
        exact ⟨ret_int (by rw [HX.out]), HB2.out⟩
      · rw [q1] at HI HE
        generalize (lowC C T : Int) = lw at *
        by_cases q2 : T.toList.isEmpty = false ∧ atC C T = false
        · obtain ⟨q3, q4⟩ := q2
          rw [q4] at HF
          have HX := Lib.hid (show linesE C L = 28 by
            have e : le = 28 := by rw [HE.out, if_neg (by decide), if_pos ⟨q3, q4⟩]
            rw [HG2.out, if_neg (by rw [e]; decide), e])
          clear HE HG2 HK2 HK q4
          go_wp2_with fail
          refine (HI.out _).mono ?_
          rintro e w_ ⟨rfl, rfl⟩
          go_wp2_with fail
          refine (HF.out _ HR2.out).mono ?_
          rintro e w3 ⟨rfl, hb⟩
          have HB3 := Lib.hid (HB2.out.trans (hb.mono HB2.out.size))
          have m1 := (HP.out.below hb).c1
          clear hb l0 l1
          go_wp2
          go_ret
          exact ⟨ret_int (by rw [HX.out]), HB3.out⟩
        · have HKn := Lib.hid (HK2.out (by rw [HE.out, if_neg (by decide), if_neg q2]))
          clear HE HG2 HK2 HK
          cases q3 : T.toList.isEmpty
          · have q4 : atC C T = true := by
              cases z : atC C T
              · exact absurd ⟨q3, z⟩ q2
              · rfl
            rw [q4] at HF
            clear q2 q4
            go_wp2_with fail
            refine (HI.out _).mono ?_
            rintro e w_ ⟨rfl, rfl⟩
            go_wp2_with fail
            refine (HF.out _ HR2.out).mono ?_
            rintro e w3 ⟨rfl, hb⟩
            have HB3 := Lib.hid (HB2.out.trans (hb.mono HB2.out.size))
            have m1 := (HP.out.below hb).c1
            clear hb l0 l1
            go_wp2
            go_roundw
            case rel => exact ⟨k + 1, by omega, by go_num, HKn, HB3⟩
            case measure => simp [intOf]; omega
          · generalize atC C T = zz at *
            clear q2
            go_wp2_with fail
            refine (HI.out _).mono ?_
            rintro e w_ ⟨rfl, rfl⟩
            go_wp2_with fail
            refine (HF.out _ HR2.out).mono ?_
            rintro e w3 ⟨rfl, hb⟩
            have HB3 := Lib.hid (HB2.out.trans (hb.mono HB2.out.size))
            have m1 := (HP.out.below hb).c1
            clear hb l0 l1
            go_wp2
            go_roundw
            case rel => exact ⟨k + 1, by omega, by go_num, HKn, HB3⟩
            case measure => simp [intOf]; omega
    · have h' : ¬ (k : Int) < (L.length : Int) := by omega
      have HX := Lib.hid (show linesE C L = 0 by rw [linesE_drop k hk HK.out, List.drop_eq_nil_of_le (by omega)]; rfl)
      go_wp2
      go_ret
      exact ⟨ret_int (by rw [HX.out]), HB.out⟩
/-- the function that divides a line's amount. -/
def dvF (way : Int) (b : Nat) : Value := if way = 1 then .func (.func 58) #[] #[.pointer (some ⟨b, 0, none⟩)] else if way = 3 then .func (.func 59) #[] #[.pointer (some ⟨b, 0, none⟩)] else .func (.func 60) #[] #[]
def divV (way x n d m : Int) : Int × Int := if way = 1 then (x, (onV x n d m).1) else if way = 3 then ((inV x n d m).1, (inV x n d m).2.1) else (x, 0)
set_option maxHeartbeats 1000000 in
theorem divider_any (way m : Int) (w : World) : Calls Try.prog 33 #[.int .i64 way, .int .i64 m] w fun e w' => e = .returned (dvF way w.heap.size) ∧ w' = w.alloc (Obj.cells #[.int .i64 m] 3) := by
  unfold dvF
  by_cases h1 : way = 1
  · subst h1
    go_enter Try.func33, Try.ntmps33
    go_wp2
    go_ret
    exact ⟨rfl, rfl⟩
  · rw [if_neg h1]
    have h1' : (way == 1) = false := by simpa using h1
    by_cases h3 : way = 3
    · subst h3
      go_enter Try.func33, Try.ntmps33
      go_wp2
      go_ret
      exact ⟨rfl, rfl⟩
    · rw [if_neg h3]
      have h3' : (way == 3) = false := by simpa using h3
      go_enter Try.func33, Try.ntmps33
      go_wp2
      go_ret
      exact ⟨rfl, rfl⟩
set_option maxHeartbeats 2000000 in
theorem dv1_any (x n d m : Int) (b : Nat) (w : World) (x1 : -9223372036854775808 ≤ x) (x2 : x ≤ 9223372036854775807) (n1 : -9223372036854775808 ≤ n) (n2 : n ≤ 9223372036854775807) (d1 : -9223372036854775808 ≤ d) (d2 : d ≤ 9223372036854775807) (hm : w.cell? ⟨b, 0, none⟩ = some (.int .i64 m)) (hb : b < w.heap.size) :
    Calls Try.prog 58 #[.int .i64 x, .agg #[.int .i64 n, .int .i64 d], .pointer (some ⟨b, 0, none⟩)] w fun e w' => e = .returned (.tuple #[.int .i64 x, .int .i64 (onV x n d m).1]) ∧ Below w.heap.size w w' := by
  have HB0 := Lib.hid ((Below.refl w.heap.size w).alloc (Nat.le_refl _) (Obj.cells #[.int .i64 n, .int .i64 d] 23))
  have hp := Q2.alloc w (.int .i64 n) (.int .i64 d) 23
  have l0 := hp.c0
  have l1 := hp.c1
  have l2 : (w.alloc (Obj.cells #[.int .i64 n, .int .i64 d] 23)).cell? ⟨b, 0, none⟩ = some (.int .i64 m) := by rw [((Below.refl w.heap.size w).alloc (Nat.le_refl _) _).cell hb]; exact hm
  have H := Lib.hid (fun W => on_any x n d m W x1 x2 n1 n2 d1 d2)
  clear hp hm
  generalize onV x n d m = v at *
  obtain ⟨v1, v2⟩ := v
  go_enter Try.func58, Try.ntmps58
  go_wp2_with fail
  refine (H.out _).mono ?_
  rintro e W1 ⟨rfl, hb⟩
  have HB1 := Lib.hid (HB0.out.trans (hb.mono HB0.out.size))
  clear hb
  go_wp2
  go_ret2
  exact ⟨rfl, HB1.out⟩
set_option maxHeartbeats 2000000 in
theorem dv2_any (x n d m : Int) (b : Nat) (w : World) (x1 : -9223372036854775808 ≤ x) (x2 : x ≤ 9223372036854775807) (n1 : -9223372036854775808 ≤ n) (n2 : n ≤ 9223372036854775807) (d1 : -9223372036854775808 ≤ d) (d2 : d ≤ 9223372036854775807) (hm : w.cell? ⟨b, 0, none⟩ = some (.int .i64 m)) (hb : b < w.heap.size) :
    Calls Try.prog 59 #[.int .i64 x, .agg #[.int .i64 n, .int .i64 d], .pointer (some ⟨b, 0, none⟩)] w fun e w' => e = .returned (.tuple #[.int .i64 (inV x n d m).1, .int .i64 (inV x n d m).2.1]) ∧ Below w.heap.size w w' := by
  have HB0 := Lib.hid ((Below.refl w.heap.size w).alloc (Nat.le_refl _) (Obj.cells #[.int .i64 n, .int .i64 d] 23))
  have hp := Q2.alloc w (.int .i64 n) (.int .i64 d) 23
  have l0 := hp.c0
  have l1 := hp.c1
  have l2 : (w.alloc (Obj.cells #[.int .i64 n, .int .i64 d] 23)).cell? ⟨b, 0, none⟩ = some (.int .i64 m) := by rw [((Below.refl w.heap.size w).alloc (Nat.le_refl _) _).cell hb]; exact hm
  have H := Lib.hid (fun W => in_any x n d m W x1 x2 n1 n2 d1 d2)
  clear hp hm
  generalize inV x n d m = v at *
  obtain ⟨v1, v2, v3⟩ := v
  go_enter Try.func59, Try.ntmps59
  go_wp2_with fail
  refine (H.out _).mono ?_
  rintro e W1 ⟨rfl, hb⟩
  have HB1 := Lib.hid (HB0.out.trans (hb.mono HB0.out.size))
  clear hb
  go_wp2
  go_ret2
  exact ⟨rfl, HB1.out⟩
set_option maxHeartbeats 2000000 in
theorem dv3_any (x n d : Int) (w : World) :
    Calls Try.prog 60 #[.int .i64 x, .agg #[.int .i64 n, .int .i64 d]] w fun e w' => e = .returned (.tuple #[.int .i64 x, .int .i64 0]) ∧ Below w.heap.size w w' := by
  have HB0 := Lib.hid ((Below.refl w.heap.size w).alloc (Nat.le_refl _) (Obj.cells #[.int .i64 n, .int .i64 d] 23))
  go_enter Try.func60, Try.ntmps60
  go_wp2
  go_ret2
  exact ⟨rfl, HB0.out⟩
/-- sums as values and data. -/
def smV (s : Sm) : Value := .agg #[.string s.1, .int .i64 s.2.1, .int .i64 s.2.2]
def smD (s : Sm) : DataW Unit := .agg [.lit (.string s.1.data.toList), .lit (.int .i64 s.2.1), .lit (.int .i64 s.2.2)]
def smR : Value → Option (DataW Unit × List MemPlace)
  | .agg a => match a.toList with
    | [.string c, .int .i64 n, .int .i64 t] => some (smD (c, n, t), [])
    | _ => none
  | _ => none
def ES : Els Sm where
  enc := smV
  dat := smD
  rd := smR
  zero := (⟨#[]⟩, 0, 0)
  is := fun a => rfl
  inv := fun v z h => by
    unfold smR at h
    split at h
    · rename_i a
      split at h
      · rename_i c n t e
        cases h
        refine ⟨(c, n, t), ?_, rfl⟩
        unfold smV
        congr 1
        apply Array.ext'
        exact e
      · cases h
    · cases h
  inj := fun a b h => by
    obtain ⟨a1, a2, a3⟩ := a
    obtain ⟨b1, b2, b3⟩ := b
    simp only [smD, DataW.agg.injEq, List.cons.injEq, DataW.lit.injEq, Lit.string.injEq, Lit.int.injEq, true_and, and_true] at h
    obtain ⟨h1, h2, h3⟩ := h
    have e : a1 = b1 := by
      apply ba_ext
      rw [ByteArray.toList_eq, ByteArray.toList_eq]; exact h1
    rw [e, h2, h3]
/-- sums that the call owns. -/
def smC (s : Sm) : List Value := [.string s.1, .int .i64 s.2.1, .int .i64 s.2.2]
def smCs (L : List Sm) : List Value := L.flatMap smC
theorem smCs_len (L : List Sm) : (smCs L).length = L.length * 3 := by
  induction L with
  | nil => rfl
  | cons t L ih =>
    have e : smCs (t :: L) = smC t ++ smCs L := rfl
    rw [e, List.length_append, ih]; simp [smC]; omega
theorem smCs_get : ∀ (L : List Sm) (i : Nat) (h : i < L.length), (smCs L)[i * 3]? = some (.string L[i].1) ∧ (smCs L)[i * 3 + 1]? = some (.int .i64 L[i].2.1) ∧ (smCs L)[i * 3 + 2]? = some (.int .i64 L[i].2.2)
  | [], i, h => by simp at h
  | t :: L, 0, h => ⟨rfl, rfl, rfl⟩
  | t :: L, i + 1, h => by
    obtain ⟨h1, h2, h3⟩ := smCs_get L i (by simpa using h)
    have e : smCs (t :: L) = .string t.1 :: .int .i64 t.2.1 :: .int .i64 t.2.2 :: smCs L := rfl
    rw [e, show (i + 1) * 3 = i * 3 + 1 + 1 + 1 by omega]
    exact ⟨by simpa using h1, by simpa using h2, by simpa using h3⟩
theorem smCs_one {L : List Sm} : ∀ u ∈ smCs L, u.oneCell' = true := by
  intro u hu
  obtain ⟨s, _, hs⟩ := List.mem_flatMap.1 hu
  simp [smC] at hs
  rcases hs with rfl | rfl | rfl <;> rfl
def OwnS (w : World) (base : Nat) (v : Value) (L : List Sm) : Prop := w.ownsRow base 51 3 v L.length (smCs L)
theorem OwnS.nil (w : World) (base : Nat) : OwnS w base (.slice none 0 0) [] := World.ownsRow_nil w base _ 3
theorem OwnS.shape {w : World} {base : Nat} {v : Value} {L : List Sm} (h : OwnS w base v L) : ∃ ao cap, v = .slice ao L.length cap := by
  rcases h.2 with ⟨e, n⟩ | ⟨g, cap, cur, e, _, _, hc, _⟩
  · exact ⟨none, 0, by rw [e, n]⟩
  · exact ⟨_, cap, e⟩
theorem OwnS.below {w w' : World} {base : Nat} {v : Value} {L : List Sm} (h : OwnS w base v L) (hb : Below w.heap.size w w') : OwnS w' base v L := by
  refine ⟨h.1, ?_⟩
  rcases h.2 with x | ⟨g, cap, cur, e1, e2, e3, e4⟩
  · exact .inl x
  · exact .inr ⟨g, cap, cur, e1, e2, by rw [hb.block g (lt_of_block e3)]; exact e3, e4⟩
theorem OwnS.lower {w : World} {base base' : Nat} {v : Value} {L : List Sm} (h : OwnS w base v L) (hb : base' ≤ base) : OwnS w base' v L := by
  refine ⟨h.1, ?_⟩
  rcases h.2 with x | ⟨g, cap, cur, e1, e2, e3, e4⟩
  · exact .inl x
  · exact .inr ⟨g, cap, cur, e1, Nat.le_trans hb e2, e3, e4⟩
def RowS (w : World) (A : Option Addr) (L : List Sm) : Prop :=
  0 < L.length → ∃ b off, A = some ⟨b, off, none⟩ ∧ b < w.heap.size ∧ ∀ i, (h : i < L.length) → w.cell? ⟨b, off + i * 3, none⟩ = some (.string L[i].1) ∧ w.cell? ⟨b, off + i * 3 + 1, none⟩ = some (.int .i64 L[i].2.1) ∧ w.cell? ⟨b, off + i * 3 + 2, none⟩ = some (.int .i64 L[i].2.2)
theorem RowS.below {w w' : World} {A : Option Addr} {L : List Sm} (h : RowS w A L) (hb : Below w.heap.size w w') : RowS w' A L := by
  intro h0
  obtain ⟨b, off, e, hl, hc⟩ := h h0
  exact ⟨b, off, e, Nat.lt_of_lt_of_le hl hb.size, fun i hi => ⟨by rw [hb.cell hl]; exact (hc i hi).1, by rw [hb.cell hl]; exact (hc i hi).2.1, by rw [hb.cell hl]; exact (hc i hi).2.2⟩⟩
theorem OwnS.row {w : World} {base : Nat} {ao : Option Addr} {n cap : Nat} {L : List Sm} (h : OwnS w base (.slice ao n cap) L) : RowS w ao L := by
  intro h0
  have h' := h
  rcases h.2 with ⟨e, n⟩ | ⟨g, cap, cur, e, _, e3, _⟩
  · omega
  · injection e with e1 e2 e4
    subst e1
    refine ⟨g, 0, rfl, lt_of_block e3, fun i hi => ?_⟩
    obtain ⟨g1, g2, g3⟩ := smCs_get L i hi
    have q1 := World.ownsRow.cells h' (g := g) rfl _ _ g1
    have q2 := World.ownsRow.cells h' (g := g) rfl _ _ g2
    have q3 := World.ownsRow.cells h' (g := g) rfl _ _ g3
    rw [addr_is] at q1 q2 q3
    exact ⟨q1, by rw [Nat.add_assoc]; exact q2, by rw [Nat.add_assoc]; exact q3⟩
theorem und_sums : Try.prog.underlying 40 = some (.slice 51) := by kernel_rfl
theorem inf_sum : (Try.prog.info? 51).map (fun i => (i.zero, i.size, i.bytes)) = some (some (.agg #[.string ⟨#[]⟩, .int .i64 0, .int .i64 0]), 3, 32) := by kernel_rfl
/-- a sum appended. -/
theorem wpList_sum {w : World} {ops : Array Oper} {rest : List Oper} {o : Oper} {a : Act} {Q : Exit → Act → World → Prop} (hgd : o.guard = none) (s x : Operand)
    (ho : o.op = .call { callee := .builtin .append, args := #[s, x], argTypes := #[40, 40] })
    (base : Nat) (v : Value) (L : List Sm) (y : Sm) (hs : a.eval s = v) (hown : OwnS w base v L) (ad : Addr) (c : Nat) (hx : a.eval x = .slice (some ad) 1 c)
    (hc : ∀ j u, (smC y)[j]? = some u → w.cell? (ad.add j) = some u) (hl : L.length < 1000) (hbase : base ≤ w.heap.size)
    (h : ∀ v' w', OwnS w' base v' (L ++ [y]) → Below base w w' → wpList Try.prog ops Q rest (a.put o.dst v') w') : wpList Try.prog ops Q (o :: rest) a w := by
  obtain ⟨i0, hi, hz0, hz1, hz2⟩ := info_parts inf_sum
  refine wpList_append_own w hgd s x _ ho base _ i0 (.agg #[.string ⟨#[]⟩, .int .i64 0, .int .i64 0]) 3 32 und_sums hi hz0 hz1 hz2 (by kernel_rfl) (by decide) v _ _ hs hown ad 1 c (smC y) hx rfl hc ?_ ?_ ?_ hbase ?_
  · intro u hu
    exact smCs_one (L := [y]) u (by simpa [smCs] using hu)
  · unfold maxLen; omega
  · omega
  · intro v' w' h1 h2 _
    refine h v' w' ?_ ((Below.refl base w).grown h2 hbase fun k hk => (hown.lt k hk).1)
    have e : smCs (L ++ [y]) = smCs L ++ smC y := by unfold smCs; rw [List.flatMap_append]; simp
    unfold OwnS
    rw [List.length_append, e]
    exact h1
/-- integers that the call owns. -/
def inV1 (n : Int) : Value := .int .i64 n
def OwnI (w : World) (base : Nat) (v : Value) (l : List Int) : Prop := OwnV w base 3 v (l.map inV1)
theorem und_ints : Try.prog.underlying 39 = some (.slice 3) := by kernel_rfl
theorem inf_int : (Try.prog.info? 3).map (fun i => (i.zero, i.size, i.bytes)) = some (some (.int .i64 0), 1, 8) := by kernel_rfl
theorem wpList_int {w : World} {ops : Array Oper} {rest : List Oper} {o : Oper} {a : Act} {Q : Exit → Act → World → Prop} (hgd : o.guard = none) (s x : Operand)
    (ho : o.op = .call { callee := .builtin .append, args := #[s, x], argTypes := #[39, 39] })
    (base : Nat) (v : Value) (l : List Int) (y : Int) (hs : a.eval s = v) (hown : OwnI w base v l) (ad : Addr) (c : Nat) (hx : a.eval x = .slice (some ad) 1 c) (hc : RowV w (some ad) [inV1 y])
    (hl : l.length < 10000) (hbase : base ≤ w.heap.size)
    (h : ∀ v' w', OwnI w' base v' (l ++ [y]) → Below base w w' → wpList Try.prog ops Q rest (a.put o.dst v') w') : wpList Try.prog ops Q (o :: rest) a w := by
  refine wpList_vals und_ints inf_int rfl (by omega) hgd s x ho base v (l.map inV1) [inV1 y] hs hown (some ad) c hx (fun e => by cases e) hc ?_ (by simp; omega) hbase ?_
  · intro z hz; simp at hz; subst hz; rfl
  · intro v' w' h1 h2
    exact h v' w' (by unfold OwnI; rw [List.map_append]; exact h1) h2
theorem row_int (w : World) (y : Int) (t : TypeId) : RowV (w.alloc (Obj.cells #[.int .i64 y] t)) (some ⟨w.heap.size, 0, none⟩) [inV1 y] :=
  RowV.block (by simp) fun i x hx => by
    match i, hx with
    | 0, hx => rw [World.cell?_alloc_at _ _ _ _ rfl]; simpa [inV1] using hx
theorem cells_sum (w : World) (y : Sm) (t : TypeId) : ∀ j u, (smC y)[j]? = some u → (w.alloc (Obj.cells #[.string y.1, .int .i64 y.2.1, .int .i64 y.2.2] t)).cell? ((⟨w.heap.size, 0, none⟩ : Addr).add j) = some u := by
  intro j u hj
  rw [addr_is, World.cell?_alloc_at _ _ _ _ rfl]
  simpa [smC] using hj
end Go.Proofs.Ytelahgmnkhkgkaa
