/- Plain facts on rates of exchange: what a table must be, which rate applies on a day, cross rates. No conditions. -/
import Derived.Test.YtdeoplbdgbgimaaCur
import Derived.Test.YtdeoplbdgbgimaaWkd
import Derived.Test.YtdeoplbdgbgimaaFrD
namespace Go.Proofs.Ytdeoplbdgbgimaa
open Go.RowKit Go.Sort
set_option linter.unusedVariables false
set_option linter.unusedSimpArgs false

/-- a rate: currency, kind, day, fraction. -/
abbrev Rt := ByteArray × Int × Int × Int × Int
def zR : Rt := (⟨#[]⟩, 0, 0, 0, 0)
def plE (cur : ByteArray) (kind day : Int) : Int := if codeB cur = false then 13 else if kind < 1 ∨ 3 < kind then 10 else if ¬ (0 ≤ day ∧ day ≤ 109572) then 11 else 0
def raE (base : ByteArray) (r : Rt) : Int := if r.1 = base then 13 else if plE r.1 r.2.1 r.2.2.1 ≠ 0 then plE r.1 r.2.1 r.2.2.1 else if rightB r.2.2.2.1 r.2.2.2.2 = false ∨ r.2.2.2.1 ≤ 0 then 2 else 0
def plc (r : Rt) : ByteArray × Int × Int := (r.1, r.2.1, r.2.2.1)
def dupB (P : List Rt) (s : ByteArray × Int × Int) : Bool := P.any (fun q => decide (plc q = s))
def scn (base : ByteArray) : List Rt → List Rt → Int × Int
  | _, [] => (0, 0)
  | P, r :: R => if raE base r ≠ 0 then ((P.length : Int), raE base r) else if dupB P (plc r) = true then ((P.length : Int), 8) else scn base (P ++ [r]) R
def chk (base : ByteArray) (L : List Rt) : Int × Int := if codeB base = false then (0, 13) else if 2000 < L.length then (0, 9) else scn base [] L
def OkR (base : ByteArray) (L : List Rt) : Prop := codeB base = true ∧ L.length ≤ 2000 ∧ (∀ r ∈ L, raE base r = 0) ∧ L.Pairwise (fun a b => plc a ≠ plc b)
theorem dupB_false {P : List Rt} {s : ByteArray × Int × Int} : dupB P s = false ↔ ∀ q ∈ P, plc q ≠ s := by
  unfold dupB; rw [List.any_eq_false]; simp
theorem dupB_snoc (P : List Rt) (r : Rt) (s : ByteArray × Int × Int) : dupB (P ++ [r]) s = (dupB P s || decide (plc r = s)) := by
  unfold dupB; rw [List.any_append]; simp
theorem scn_step {base : ByteArray} {L : List Rt} {k : Nat} (hk : k < L.length) (h : scn base [] L = scn base (L.take k) (L.drop k)) :
    scn base [] L = if raE base L[k] ≠ 0 then ((k : Int), raE base L[k]) else if dupB (L.take k) (plc L[k]) = true then ((k : Int), 8) else scn base (L.take (k + 1)) (L.drop (k + 1)) := by
  rw [h, List.drop_eq_getElem_cons hk, scn, List.take_succ_eq_append_getElem hk, List.length_take, Nat.min_eq_left (by omega)]
theorem scn_end {base : ByteArray} {L : List Rt} {k : Nat} (hk : ¬ k < L.length) (h : scn base [] L = scn base (L.take k) (L.drop k)) : scn base [] L = (0, 0) := by
  rw [h, List.drop_eq_nil_of_le (by omega)]; rfl
theorem raE_ne (base : ByteArray) (r : Rt) : raE base r = 0 ∨ raE base r = 13 ∨ raE base r = 10 ∨ raE base r = 11 ∨ raE base r = 2 := by
  unfold raE plE
  repeat' split
  all_goals simp_all
theorem scn_ok {base : ByteArray} : ∀ (R P : List Rt), (scn base P R).2 = 0 ↔ (∀ r ∈ R, raE base r = 0) ∧ (∀ r ∈ R, ∀ q ∈ P, plc q ≠ plc r) ∧ R.Pairwise (fun a b => plc a ≠ plc b)
  | [], P => by simp [scn]
  | r :: R, P => by
    unfold scn
    by_cases h1 : raE base r = 0
    · rw [if_neg (by simpa using h1)]
      cases h2 : dupB P (plc r)
      · rw [if_neg (by decide), scn_ok R (P ++ [r])]
        rw [dupB_false] at h2
        simp only [List.mem_cons, List.mem_append, List.pairwise_cons, List.mem_nil_iff, or_false]
        constructor
        · rintro ⟨a, b, c⟩
          refine ⟨?_, ?_, ?_, c⟩
          · rintro x (rfl | hx)
            · exact h1
            · exact a x hx
          · rintro x (rfl | hx) q hq
            · exact h2 q hq
            · exact b x hx q (.inl hq)
          · intro x hx
            exact b x hx r (.inr rfl)
        · rintro ⟨a, b, c, d⟩
          refine ⟨fun x hx => a x (.inr hx), ?_, d⟩
          rintro x hx q (hq | rfl)
          · exact b x (.inr hx) q hq
          · exact c x hx
      · rw [if_pos rfl]
        constructor
        · intro h; simp at h
        · rintro ⟨a, b, c⟩
          exfalso
          have : dupB P (plc r) = false := dupB_false.2 (b r (by simp))
          rw [h2] at this; cases this
    · rw [if_pos h1]
      constructor
      · intro h; exact absurd h h1
      · rintro ⟨a, b, c⟩; exact absurd (a r (by simp)) h1
theorem scn_zero {base : ByteArray} : ∀ (R P : List Rt), (scn base P R).2 = 0 → scn base P R = (0, 0)
  | [], P, _ => rfl
  | r :: R, P, h => by
    unfold scn at h ⊢
    by_cases h1 : raE base r = 0
    · rw [if_neg (by simpa using h1)] at h ⊢
      cases h2 : dupB P (plc r)
      · rw [h2, if_neg (by decide)] at h
        rw [if_neg (by decide)]
        exact scn_zero R _ h
      · rw [h2, if_pos rfl] at h; cases h
    · rw [if_pos h1] at h; exact absurd h h1
theorem chk_ok {base : ByteArray} {L : List Rt} : (chk base L).2 = 0 ↔ OkR base L := by
  unfold chk OkR
  cases h1 : codeB base
  · simp
  · rw [if_neg (by decide)]
    by_cases h2 : 2000 < L.length
    · rw [if_pos h2]; simp; omega
    · rw [if_neg h2, scn_ok]
      simp
      intro _ _
      omega
theorem chk_zero {base : ByteArray} {L : List Rt} (h : (chk base L).2 = 0) : chk base L = (0, 0) := by
  have h0 := chk_ok.1 h
  unfold chk at h ⊢
  rw [if_neg (by rw [h0.1]; decide), if_neg (by have := h0.2.1; omega)] at h ⊢
  exact scn_zero _ _ h
theorem plE_ok {c : ByteArray} {k d : Int} (h : plE c k d = 0) : codeB c = true ∧ (1 ≤ k ∧ k ≤ 3) ∧ (0 ≤ d ∧ d ≤ 109572) := by
  unfold plE at h
  cases h2 : codeB c
  · rw [h2, if_pos rfl] at h; omega
  rw [h2, if_neg (by decide)] at h
  by_cases h3 : k < 1 ∨ 3 < k
  · rw [if_pos h3] at h; omega
  rw [if_neg h3] at h
  by_cases h4 : 0 ≤ d ∧ d ≤ 109572
  · exact ⟨rfl, by omega, h4⟩
  · rw [if_pos h4] at h; omega
theorem raE_ok {base : ByteArray} {r : Rt} (h : raE base r = 0) : r.1 ≠ base ∧ codeB r.1 = true ∧ (1 ≤ r.2.1 ∧ r.2.1 ≤ 3) ∧ (0 ≤ r.2.2.1 ∧ r.2.2.1 ≤ 109572) ∧ rightB r.2.2.2.1 r.2.2.2.2 = true ∧ 0 < r.2.2.2.1 := by
  unfold raE at h
  by_cases h1 : r.1 = base
  · rw [if_pos h1] at h; omega
  rw [if_neg h1] at h
  by_cases h2 : plE r.1 r.2.1 r.2.2.1 = 0
  · rw [if_neg (by simpa using h2)] at h
    obtain ⟨a, b, c⟩ := plE_ok h2
    by_cases h5 : rightB r.2.2.2.1 r.2.2.2.2 = false ∨ r.2.2.2.1 ≤ 0
    · rw [if_pos h5] at h; omega
    · refine ⟨h1, a, b, c, ?_, ?_⟩
      · cases q : rightB r.2.2.2.1 r.2.2.2.2
        · exact absurd (.inl q) h5
        · rfl
      · apply Classical.byContradiction
        intro q
        exact h5 (.inr (by omega))
  · rw [if_pos (by simpa using h2)] at h; exact absurd h h2
theorem OkR.rev {base : ByteArray} {L : List Rt} (h : OkR base L) : OkR base L.reverse := by
  obtain ⟨a, b, c, d⟩ := h
  refine ⟨a, by simpa using b, fun r hr => c r (by simpa using hr), ?_⟩
  rw [List.pairwise_reverse]
  exact d.imp (fun h => Ne.symm h)
theorem chk_rev (base : ByteArray) (L : List Rt) : ((chk base L.reverse).2 = 0) ↔ ((chk base L).2 = 0) := by
  rw [chk_ok, chk_ok]
  exact ⟨fun h => by have := h.rev; rwa [List.reverse_reverse] at this, fun h => h.rev⟩
/-- the rate r is for this currency and kind, and valid on the day d. -/
def mt (c : ByteArray) (k d : Int) (r : Rt) : Bool := decide ((r.1, r.2.1) = (c, k)) && decide (r.2.2.1 ≤ d)
def bstF (c : ByteArray) (k d : Int) (acc : Option Rt) (r : Rt) : Option Rt := if mt c k d r = true ∧ (∀ q, acc = some q → q.2.2.1 < r.2.2.1) then some r else acc
instance (c : ByteArray) (k d : Int) (acc : Option Rt) (r : Rt) : Decidable (mt c k d r = true ∧ (∀ q, acc = some q → q.2.2.1 < r.2.2.1)) := by
  cases acc with
  | none => exact decidable_of_iff (mt c k d r = true) (by simp)
  | some q => exact decidable_of_iff (mt c k d r = true ∧ q.2.2.1 < r.2.2.1) (by simp)
def bst (L : List Rt) (c : ByteArray) (k d : Int) : Option Rt := L.foldl (bstF c k d) none
theorem bst_snoc (L : List Rt) (r : Rt) (c : ByteArray) (k d : Int) : bst (L ++ [r]) c k d = bstF c k d (bst L c k d) r := by
  unfold bst; rw [List.foldl_append]; rfl
def Best (L : List Rt) (c : ByteArray) (k d : Int) (r : Rt) : Prop := r ∈ L ∧ mt c k d r = true ∧ ∀ q ∈ L, mt c k d q = true → q.2.2.1 ≤ r.2.2.1
theorem bst_spec (c : ByteArray) (k d : Int) : ∀ (n : Nat) (L : List Rt), L.length = n → (∀ r, bst L c k d = some r → Best L c k d r) ∧ (bst L c k d = none → ∀ q ∈ L, mt c k d q = false)
  | 0, L, h => by
    obtain rfl := List.length_eq_zero_iff.1 h
    exact ⟨fun r h => (by cases h), fun _ q hq => (by cases hq)⟩
  | n + 1, L, h => by
    obtain ⟨M, x, rfl⟩ : ∃ M x, L = M ++ [x] := by
      rcases List.eq_nil_or_concat L with e | ⟨M, x, e⟩
      · subst e; cases h
      · exact ⟨M, x, by simpa using e⟩
    obtain ⟨h1, h2⟩ := bst_spec c k d n M (by simpa using h)
    rw [bst_snoc]
    unfold bstF
    split
    · rename_i hc
      refine ⟨fun r hr => ?_, fun hr => by cases hr⟩
      cases hr
      refine ⟨by simp, hc.1, fun q hq hm => ?_⟩
      rw [List.mem_append, List.mem_singleton] at hq
      rcases hq with hq | rfl
      · cases e : bst M c k d with
        | none => rw [h2 e q hq] at hm; cases hm
        | some y =>
          have := hc.2 y e
          have := (h1 y e).2.2 q hq hm
          omega
      · omega
    · rename_i hc
      refine ⟨fun r hr => ?_, fun hr q hq => ?_⟩
      · obtain ⟨a1, a2, a3⟩ := h1 r hr
        refine ⟨by simp [a1], a2, fun q hq hm => ?_⟩
        rw [List.mem_append, List.mem_singleton] at hq
        rcases hq with hq | rfl
        · exact a3 q hq hm
        · apply Classical.byContradiction
          intro hlt
          exact hc ⟨hm, fun y hy => by rw [hr] at hy; cases hy; omega⟩
      · rw [List.mem_append, List.mem_singleton] at hq
        rcases hq with hq | rfl
        · exact h2 hr q hq
        · cases hm : mt c k d q
          · rfl
          · exact absurd ⟨hm, fun y hy => by rw [hr] at hy; cases hy⟩ hc
theorem bst_some {L : List Rt} {c : ByteArray} {k d : Int} {r : Rt} (h : bst L c k d = some r) : Best L c k d r := (bst_spec c k d _ L rfl).1 r h
theorem bst_none {L : List Rt} {c : ByteArray} {k d : Int} (h : bst L c k d = none) : ∀ q ∈ L, mt c k d q = false := (bst_spec c k d _ L rfl).2 h
theorem mt_is {c : ByteArray} {k d : Int} {r : Rt} (h : mt c k d r = true) : r.1 = c ∧ r.2.1 = k ∧ r.2.2.1 ≤ d := by
  unfold mt at h
  simp at h
  exact ⟨h.1.1, h.1.2, h.2⟩
theorem mt_of {c : ByteArray} {k d : Int} {r : Rt} (h1 : r.1 = c) (h2 : r.2.1 = k) (h3 : r.2.2.1 ≤ d) : mt c k d r = true := by
  unfold mt; simp [h1, h2, h3]
theorem pw_eq {L : List Rt} (h : L.Pairwise (fun a b => plc a ≠ plc b)) : ∀ {a b : Rt}, a ∈ L → b ∈ L → plc a = plc b → a = b := by
  induction L with
  | nil => intro a b ha; cases ha
  | cons x L ih =>
    rw [List.pairwise_cons] at h
    intro a b ha hb e
    rcases List.mem_cons.1 ha with rfl | ha'
    · rcases List.mem_cons.1 hb with rfl | hb'
      · rfl
      · exact absurd e (h.1 b hb')
    · rcases List.mem_cons.1 hb with rfl | hb'
      · exact absurd e.symm (h.1 a ha')
      · exact ih h.2 ha' hb' e
theorem best_one {L : List Rt} (h : L.Pairwise (fun a b => plc a ≠ plc b)) {c : ByteArray} {k d : Int} {a b : Rt} (ha : Best L c k d a) (hb : Best L c k d b) : a = b := by
  refine pw_eq h ha.1 hb.1 ?_
  obtain ⟨a1, a2, a3⟩ := mt_is ha.2.1
  obtain ⟨b1, b2, b3⟩ := mt_is hb.2.1
  have := ha.2.2 b hb.1 hb.2.1
  have := hb.2.2 a ha.1 ha.2.1
  unfold plc
  rw [a1, a2, b1, b2, show a.2.2.1 = b.2.2.1 by omega]
theorem bst_is {L : List Rt} (h : L.Pairwise (fun a b => plc a ≠ plc b)) {c : ByteArray} {k d : Int} {r : Rt} (hr : Best L c k d r) : bst L c k d = some r := by
  cases e : bst L c k d with
  | none => have := bst_none e r hr.1; rw [hr.2.1] at this; cases this
  | some q => rw [best_one h (bst_some e) hr]
theorem bst_no {L : List Rt} {c : ByteArray} {k d : Int} (h : ∀ q ∈ L, mt c k d q = false) : bst L c k d = none := by
  cases e : bst L c k d with
  | none => rfl
  | some q => have h1 := bst_some e; have h2 := h q h1.1; rw [h1.2.1] at h2; cases h2
theorem bst_rev {L : List Rt} (h : L.Pairwise (fun a b => plc a ≠ plc b)) (c : ByteArray) (k d : Int) : bst L.reverse c k d = bst L c k d := by
  cases e : bst L.reverse c k d with
  | none => exact (bst_no fun q hq => bst_none e q (by simpa using hq)).symm
  | some r =>
    obtain ⟨a, b, f⟩ := bst_some e
    exact (bst_is h ⟨by simpa using a, b, fun q hq => f q (by simpa using hq)⟩).symm
/-- what Find returns. -/
def fnd (base : ByteArray) (L : List Rt) (c : ByteArray) (k d : Int) : Int × Int × Int :=
  if plE c k d ≠ 0 then (0, 0, plE c k d) else if c = base then (1, 1, 0) else match bst L c k d with
    | none => (0, 0, 20)
    | some r => (r.2.2.2.1, r.2.2.2.2, 0)
/-- of the cross rate. -/
def crN (a b c d : Int) : Int := ((a.natAbs / Nat.gcd a.natAbs c.natAbs) * (d.natAbs / Nat.gcd d.natAbs b.natAbs) : Nat)
def crD (a b c d : Int) : Int := ((c.natAbs / Nat.gcd a.natAbs c.natAbs) * (b.natAbs / Nat.gcd d.natAbs b.natAbs) : Nat)
def crs (base : ByteArray) (L : List Rt) (from_ to_ : ByteArray) (k d : Int) : Int × Int × Int :=
  if (fnd base L from_ k d).2.2 ≠ 0 then (0, 0, (fnd base L from_ k d).2.2) else if (fnd base L to_ k d).2.2 ≠ 0 then (0, 0, (fnd base L to_ k d).2.2)
  else (crN (fnd base L from_ k d).1 (fnd base L from_ k d).2.1 (fnd base L to_ k d).1 (fnd base L to_ k d).2.1, crD (fnd base L from_ k d).1 (fnd base L from_ k d).2.1 (fnd base L to_ k d).1 (fnd base L to_ k d).2.1, 0)
/-- a fraction of the table. -/
def Fr1 (n d : Int) : Prop := (1 ≤ n ∧ n ≤ 1000000) ∧ (1 ≤ d ∧ d ≤ 1000000) ∧ Nat.gcd n.natAbs d.natAbs = 1
theorem fnd_ok {base : ByteArray} {L : List Rt} (h : OkR base L) {c : ByteArray} {k d : Int} (e : (fnd base L c k d).2.2 = 0) : Fr1 (fnd base L c k d).1 (fnd base L c k d).2.1 := by
  unfold fnd at e ⊢
  by_cases h1 : plE c k d = 0
  · rw [if_neg (by simpa using h1)] at e ⊢
    by_cases h2 : c = base
    · rw [if_pos h2]; exact ⟨by decide, by decide, by decide⟩
    · rw [if_neg h2] at e ⊢
      cases q : bst L c k d with
      | none => rw [q] at e; cases e
      | some r =>
        have hr := raE_ok (h.2.2.1 r (bst_some q).1)
        have h5 := hr.2.2.2.2.1
        unfold rightB at h5
        have h5 := of_decide_eq_true h5
        obtain ⟨p1, p2, p3, p4, p5⟩ := h5
        exact ⟨⟨by have := hr.2.2.2.2.2; show 1 ≤ r.2.2.2.1; omega, p4⟩, ⟨p1, p2⟩, p5⟩
  · rw [if_pos h1] at e; exact absurd e h1
theorem div_gcd_cop {a b : Nat} (ha : 0 < a) : Nat.Coprime (a / Nat.gcd a b) (b / Nat.gcd a b) := Nat.coprime_div_gcd_div_gcd (Nat.gcd_pos_of_pos_left _ ha)
theorem cross_nat {a b c d : Nat} (ha : 0 < a) (hb : 0 < b) (hc : 0 < c) (hd : 0 < d) (h1 : Nat.gcd a b = 1) (h2 : Nat.gcd c d = 1) :
    (a * d) / Nat.gcd (a * d) (b * c) = (a / Nat.gcd a c) * (d / Nat.gcd d b) ∧ (b * c) / Nat.gcd (a * d) (b * c) = (c / Nat.gcd a c) * (b / Nat.gcd d b) := by
  have g1 : 0 < Nat.gcd a c := Nat.gcd_pos_of_pos_left _ ha
  have g2 : 0 < Nat.gcd d b := Nat.gcd_pos_of_pos_left _ hd
  have k1 := div_gcd_cop (b := c) ha
  have k2 := div_gcd_cop (b := b) hd
  obtain ⟨p, hp⟩ := Nat.gcd_dvd_left a c
  obtain ⟨q, hq⟩ := Nat.gcd_dvd_right a c
  obtain ⟨r, hr⟩ := Nat.gcd_dvd_left d b
  obtain ⟨s, hs⟩ := Nat.gcd_dvd_right d b
  have e1 : a / Nat.gcd a c = p := by rw [Nat.div_eq_of_eq_mul_right g1 hp]
  have e2 : c / Nat.gcd a c = q := by rw [Nat.div_eq_of_eq_mul_right g1 hq]
  have e3 : d / Nat.gcd d b = r := by rw [Nat.div_eq_of_eq_mul_right g2 hr]
  have e4 : b / Nat.gcd d b = s := by rw [Nat.div_eq_of_eq_mul_right g2 hs]
  rw [e1, e2] at k1
  rw [e3, e4] at k2
  rw [e1, e2, e3, e4]
  generalize Nat.gcd a c = x at *
  generalize Nat.gcd d b = y at *
  subst hp hq hr hs
  have k3 : Nat.Coprime p s := Nat.Coprime.coprime_dvd_left ⟨x, Nat.mul_comm _ _⟩ (Nat.Coprime.coprime_dvd_right ⟨y, Nat.mul_comm _ _⟩ h1)
  have k4 : Nat.Coprime q r := Nat.Coprime.coprime_dvd_left ⟨x, Nat.mul_comm _ _⟩ (Nat.Coprime.coprime_dvd_right ⟨y, Nat.mul_comm _ _⟩ h2)
  have k5 : Nat.Coprime (p * r) (s * q) := Nat.Coprime.mul_right (Nat.Coprime.mul_left k3 k2) (Nat.Coprime.mul_left k1 k4.symm)
  have f1 : x * p * (y * r) = x * y * (p * r) := by rw [Nat.mul_mul_mul_comm]
  have f2 : y * s * (x * q) = x * y * (s * q) := by rw [Nat.mul_mul_mul_comm, Nat.mul_comm y x]
  have hxy : 0 < x * y := Nat.mul_pos g1 g2
  rw [f1, f2, Nat.gcd_mul_left, k5.gcd_eq_one, Nat.mul_one, Nat.mul_div_cancel_left _ hxy, Nat.mul_div_cancel_left _ hxy]
  exact ⟨rfl, Nat.mul_comm _ _⟩
theorem Fr1.nat {n d : Int} (h : Fr1 n d) : ∃ a b : Nat, n = (a : Int) ∧ d = (b : Int) ∧ 0 < a ∧ 0 < b ∧ a ≤ 1000000 ∧ b ≤ 1000000 ∧ Nat.gcd a b = 1 := by
  obtain ⟨⟨h1, h2⟩, ⟨h3, h4⟩, h5⟩ := h
  exact ⟨n.natAbs, d.natAbs, by omega, by omega, by omega, by omega, by omega, by omega, h5⟩
/-- what is known of the cross rate. -/
theorem cr_pos {a b c d : Int} (h1 : Fr1 a b) (h2 : Fr1 c d) : (1 ≤ crN a b c d ∧ crN a b c d ≤ 1000000000000) ∧ (1 ≤ crD a b c d ∧ crD a b c d ≤ 1000000000000) := by
  obtain ⟨A, B, rfl, rfl, ha, hb, ha2, hb2, _⟩ := h1.nat
  obtain ⟨C, D, rfl, rfl, hc, hd, hc2, hd2, _⟩ := h2.nat
  have lo : ∀ {x y : Nat}, 0 < x → 0 < x / Nat.gcd x y ∧ x / Nat.gcd x y ≤ x := fun {x y} h =>
    ⟨Nat.div_pos (Nat.gcd_le_left _ h) (Nat.gcd_pos_of_pos_left _ h), Nat.div_le_self _ _⟩
  have lo2 : ∀ {x y : Nat}, 0 < y → 0 < y / Nat.gcd x y ∧ y / Nat.gcd x y ≤ y := fun {x y} h =>
    ⟨Nat.div_pos (Nat.gcd_le_right _ h) (Nat.gcd_pos_of_pos_right _ h), Nat.div_le_self _ _⟩
  have q1 := lo (y := C) ha
  have q2 := lo (y := B) hd
  have q3 := lo2 (x := A) hc
  have q4 := lo2 (x := D) hb
  unfold crN crD
  simp only [Int.natAbs_natCast]
  have m1 := Nat.mul_le_mul (show A / Nat.gcd A C ≤ 1000000 by omega) (show D / Nat.gcd D B ≤ 1000000 by omega)
  have m2 := Nat.mul_le_mul (show C / Nat.gcd A C ≤ 1000000 by omega) (show B / Nat.gcd D B ≤ 1000000 by omega)
  have n1 := Nat.mul_pos q1.1 q2.1
  have n2 := Nat.mul_pos q3.1 q4.1
  omega
theorem cr_swap (a b c d : Int) : crN a b c d = crD c d a b ∧ crD a b c d = crN c d a b := by
  unfold crN crD
  rw [Nat.gcd_comm c.natAbs a.natAbs, Nat.gcd_comm b.natAbs d.natAbs]
  exact ⟨rfl, rfl⟩
theorem cr_same {a b : Int} (h : Fr1 a b) : crN a b a b = 1 ∧ crD a b a b = 1 := by
  obtain ⟨A, B, rfl, rfl, ha, hb, _⟩ := h.nat
  unfold crN crD
  simp only [Int.natAbs_natCast, Nat.gcd_self]
  rw [Nat.div_self ha, Nat.div_self hb]
  exact ⟨rfl, rfl⟩
end Go.Proofs.Ytdeoplbdgbgimaa
