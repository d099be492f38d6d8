/- Sheets that have the same sums by keys are equal; what follows for sums, differences and folded sheets. Plain facts. -/
import Derived.Test.YtenhnnfemehbcaaShN
import Derived.Test.YtenhnnfemehbcaaShT
import Derived.Test.YtenhnnfemehbcaaShX
namespace Go.Proofs.Ytenhnnfemehbcaa
open Go.RowKit Go.Sort
set_option linter.unusedVariables false
set_option linter.unusedSimpArgs false

instance memKy (k : Ky) (K : List Ky) : Decidable (k ∈ K) := decidable_of_iff (∃ a, a ∈ K ∧ a = k) (by simp)
/-- the same sums by every key. -/
def EqS (A B : List Cl) : Prop := ∀ k, amS (sel A k) = amS (sel B k) ∧ baS (sel A k) = baS (sel B k)
theorem EqS.refl (A : List Cl) : EqS A A := fun k => ⟨rfl, rfl⟩
theorem EqS.symm {A B : List Cl} (h : EqS A B) : EqS B A := fun k => ⟨(h k).1.symm, (h k).2.symm⟩
theorem EqS.trans {A B C : List Cl} (h : EqS A B) (g : EqS B C) : EqS A C := fun k => ⟨(h k).1.trans (g k).1, (h k).2.trans (g k).2⟩
theorem amS_app (a b : List Cl) : amS (a ++ b) = amS a + amS b := by unfold amS; rw [List.map_append, List.sum_append]
theorem baS_app (a b : List Cl) : baS (a ++ b) = baS a + baS b := by unfold baS; rw [List.map_append, List.sum_append]
theorem eqs_app {A B C D : List Cl} (h : EqS A B) (g : EqS C D) : EqS (A ++ C) (B ++ D) := fun k => by
  obtain ⟨h1, h2⟩ := h k
  obtain ⟨g1, g2⟩ := g k
  rw [sel_app, sel_app, amS_app, amS_app, baS_app, baS_app, h1, h2, g1, g2]
  exact ⟨rfl, rfl⟩
theorem eqs_perm {A B : List Cl} (h : A.Perm B) : EqS A B := fun k => perm_sum (sel_perm h k)
theorem sel_none {L : List Cl} {k : Ky} (h : k ∉ keysK L) : sel L k = [] := by
  refine sel_no fun c hc e => h ?_
  exact ((keysK_of L).mem k).2 ⟨c, hc, e⟩
theorem emp_none {L : List Cl} {k : Ky} (h : k ∉ keysK L) : emp (celK L k) = true := by
  unfold celK emp
  rw [sel_none h]
  rfl
theorem bad_none {L : List Cl} {k : Ky} (h : k ∉ keysK L) : badK L k = false := by
  unfold badK
  rw [sel_none h]
  rfl
theorem ofL_keys (L : List Cl) (h : (keysK L).any (badK L) = false) : ofL L = ((keysK L).filter (fun k => !emp (celK L k))).map (celK L) := by
  unfold ofL
  rw [h, List.filter_map]
  rfl
theorem inc_filter {K : List Ky} (h : Inc K) (p : Ky → Bool) : Inc (K.filter p) := List.Pairwise.filter _ h
theorem eqs_cel {A B : List Cl} (h : EqS A B) : celK A = celK B ∧ badK A = badK B := by
  constructor
  · funext k; unfold celK; rw [(h k).1, (h k).2]
  · funext k; unfold badK; rw [(h k).1, (h k).2]
theorem eqs_any {A B : List Cl} (h : EqS A B) (q : (keysK A).any (badK A) = true) : (keysK B).any (badK B) = true := by
  obtain ⟨k, hk, hb⟩ := List.any_eq_true.1 q
  rw [(eqs_cel h).2] at hb
  refine List.any_eq_true.2 ⟨k, ?_, hb⟩
  apply Classical.byContradiction
  intro n
  rw [bad_none n] at hb
  cases hb
theorem any_eqs {A B : List Cl} (h : EqS A B) : (keysK A).any (badK A) = (keysK B).any (badK B) := by
  cases e : (keysK A).any (badK A)
  · cases f : (keysK B).any (badK B)
    · rfl
    · rw [eqs_any h.symm f] at e; cases e
  · rw [eqs_any h e]
theorem of_eqs {A B : List Cl} (h : EqS A B) : ofE A = ofE B ∧ ofL A = ofL B := by
  have ha := any_eqs h
  have hE : ofE A = ofE B := by unfold ofE; rw [ha]
  refine ⟨hE, ?_⟩
  cases e : (keysK A).any (badK A)
  · have f : (keysK B).any (badK B) = false := by rw [← ha]; exact e
    rw [ofL_keys A e, ofL_keys B f, (eqs_cel h).1]
    congr 1
    refine inc_uniq (inc_filter (keysK_of A).inc _) (inc_filter (keysK_of B).inc _) (fun k => ?_)
    rw [List.mem_filter, List.mem_filter]
    have g1 : (!emp (celK B k)) = true → k ∈ keysK B := fun q => by
      apply Classical.byContradiction
      intro n
      rw [emp_none n] at q
      cases q
    have g2 : (!emp (celK B k)) = true → k ∈ keysK A := fun q => by
      apply Classical.byContradiction
      intro n
      rw [← (eqs_cel h).1, emp_none n] at q
      cases q
    exact ⟨fun ⟨_, q⟩ => ⟨g1 q, q⟩, fun ⟨_, q⟩ => ⟨g2 q, q⟩⟩
  · have f : (keysK B).any (badK B) = true := by rw [← ha]; exact e
    unfold ofL
    rw [e, f]
    rfl
theorem ofE_zero {L : List Cl} (h : ofE L = 0) : (keysK L).any (badK L) = false := by
  cases e : (keysK L).any (badK L)
  · rfl
  · unfold ofE at h; rw [e] at h; cases h
theorem ofE_two (L : List Cl) : ofE L = 0 ∨ ofE L = 4 := by
  unfold ofE
  cases (keysK L).any (badK L)
  · exact .inl rfl
  · exact .inr rfl
/-- cells of strictly increasing keys: one of each. -/
theorem inc_sel {f : Ky → Cl} (hf : ∀ k, (f k).1 = k) : ∀ {K : List Ky}, Inc K → ∀ k, sel (K.map f) k = if k ∈ K then [f k] else []
  | [], _, k => by simp [sel]
  | a :: x, h, k => by
    obtain ⟨p1, p2⟩ := List.pairwise_cons.1 h
    have ih := inc_sel hf p2 k
    rw [List.map_cons, show f a :: x.map f = [f a] ++ x.map f from rfl, sel_app, ih]
    by_cases e : a = k
    · subst e
      have n : a ∉ x := fun q => by
        have := p1 a q
        rw [cmpK_self] at this
        omega
      rw [if_neg n, if_pos List.mem_cons_self, sel_all (by intro c hc; obtain rfl := List.mem_singleton.1 hc; exact hf a)]
      rfl
    · rw [sel_no (by intro c hc; obtain rfl := List.mem_singleton.1 hc; rw [hf a]; exact e)]
      by_cases m : k ∈ x
      · rw [if_pos m, if_pos (List.mem_cons_of_mem _ m)]; rfl
      · rw [if_neg m, if_neg (by rw [List.mem_cons]; rintro (q | q); exact e q.symm; exact m q)]; rfl
theorem emp_sums {c : Cl} (h : emp c = true) : c.2.1 = 0 ∧ c.2.2 = 0 := by
  unfold emp at h
  simpa using h
theorem ofL_eqs {L : List Cl} (h : ofE L = 0) : EqS (ofL L) L := by
  intro k
  rw [ofL_keys L (ofE_zero h), inc_sel (fun _ => rfl) (inc_filter (keysK_of L).inc _)]
  by_cases m : k ∈ (keysK L).filter (fun k => !emp (celK L k))
  · rw [if_pos m]
    unfold amS baS celK
    simp
    exact ⟨rfl, rfl⟩
  · rw [if_neg m]
    by_cases n : k ∈ keysK L
    · have e : emp (celK L k) = true := by
        cases q : emp (celK L k)
        · exact absurd (List.mem_filter.2 ⟨n, by rw [q]; rfl⟩) m
        · rfl
      obtain ⟨e1, e2⟩ := emp_sums e
      exact ⟨e1.symm, e2.symm⟩
    · rw [sel_none n]; exact ⟨rfl, rfl⟩
/-- what a sheet is. -/
structure Sht (S : List Cl) : Prop where
  inc : S.Pairwise (fun x y => cmpK x.1 y.1 < 0)
  ok : ∀ c ∈ S, emp c = false ∧ okSum c.2.1 = true ∧ okSum c.2.2 = true
theorem sht_right {S : List Cl} (h : Sht S) : rightB S = true := by
  refine right_ok fun i hi => ?_
  have e : S[i]! = S[i] := getElem!_pos S i hi
  obtain ⟨h1, h2, h3⟩ := h.ok S[i] (List.getElem_mem hi)
  unfold okC
  rw [e, h1, h2, h3]
  have ho : orC S i = true := by
    unfold orC
    by_cases z : i = 0
    · simp [z]
    · have q := List.pairwise_iff_getElem.1 h.inc (i - 1) i (by omega) hi (by omega)
      have e1 : S[i - 1]! = S[i - 1] := getElem!_pos S (i - 1) (by omega)
      rw [e, e1, decide_eq_true q]
      simp
  rw [ho]
  rfl
theorem right_sht {S : List Cl} (h : rightB S = true) : Sht S := by
  have step : ∀ i, (hi : i + 1 < S.length) → cmpK (S[i]'(by omega)).1 S[i + 1].1 < 0 := fun i hi => by
    have q := right_at h (i + 1) hi
    unfold okC orC at q
    rw [getElem!_pos S (i + 1) hi, show i + 1 - 1 = i by omega, getElem!_pos S i (by omega)] at q
    simp at q
    exact q.1
  refine ⟨?_, ?_⟩
  · refine List.pairwise_iff_getElem.2 fun i j hi hj hij => ?_
    obtain ⟨d, rfl⟩ : ∃ d, j = i + 1 + d := ⟨j - (i + 1), by omega⟩
    clear hij
    induction d with
    | zero => exact step i hj
    | succ d ih =>
      have q := ih (by omega)
      exact cmpK_lt q (Int.le_of_lt (step (i + 1 + d) (by omega)))
  · intro c hc
    obtain ⟨i, hi, rfl⟩ := List.getElem_of_mem hc
    have q := right_at h i hi
    unfold okC at q
    rw [getElem!_pos S i hi] at q
    simp at q
    exact ⟨q.2.1, q.2.2.1, q.2.2.2⟩
theorem bad_no {L : List Cl} {k : Ky} (h : badK L k = false) : okSum (amS (sel L k)) = true ∧ okSum (baS (sel L k)) = true := by
  unfold badK at h
  simpa using h
theorem ofL_sht {L : List Cl} (h : ofE L = 0) : Sht (ofL L) := by
  have hz := ofE_zero h
  rw [ofL_keys L hz]
  constructor
  · rw [List.pairwise_map]
    exact inc_filter (keysK_of L).inc _
  · intro c hc
    obtain ⟨k, hk, rfl⟩ := List.mem_map.1 hc
    obtain ⟨hk1, hk2⟩ := List.mem_filter.1 hk
    have hb : badK L k = false := by
      cases q : badK L k
      · rfl
      · rw [List.any_eq_true.2 ⟨k, hk1, q⟩] at hz; cases hz
    exact ⟨by simpa using hk2, (bad_no hb).1, (bad_no hb).2⟩
theorem ofL_right (L : List Cl) : rightB (ofL L) = true := by
  rcases ofE_two L with h | h
  · exact sht_right (ofL_sht h)
  · have : ofL L = [] := by
      unfold ofE at h
      unfold ofL
      cases e : (keysK L).any (badK L)
      · rw [e] at h; cases h
      · rfl
    rw [this]; rfl
/-- the sheet of a sheet. -/
theorem sht_of {S : List Cl} (h : Sht S) : ofE S = 0 ∧ ofL S = S := by
  have hg : Grps (S.map fun c => [c]) := by
    refine ⟨?_, ?_, ?_⟩
    · intro x hx
      obtain ⟨c, _, rfl⟩ := List.mem_map.1 hx
      simp
    · intro x hx c hc
      obtain ⟨d, _, rfl⟩ := List.mem_map.1 hx
      obtain rfl := List.mem_singleton.1 hc
      rfl
    · rw [List.map_map]
      unfold Inc
      rw [List.pairwise_map]
      exact h.inc
  have hf : (S.map fun c => [c]).flatten = S := by
    clear h hg
    induction S with
    | nil => rfl
    | cons a x ih => rw [List.map_cons, List.flatten_cons, ih]; rfl
  obtain ⟨g1, g2⟩ := hg.of
  rw [hf] at g1 g2
  have hb : (S.map fun c => [c]).any badG = false := by
    cases e : (S.map fun c => [c]).any badG
    · rfl
    · obtain ⟨x, hx, hb⟩ := List.any_eq_true.1 e
      obtain ⟨c, hc, rfl⟩ := List.mem_map.1 hx
      obtain ⟨_, h2, h3⟩ := h.ok c hc
      unfold badG amS baS at hb
      simp [h2, h3] at hb
  rw [hb] at g1 g2
  refine ⟨g1, g2.trans ?_⟩
  have hc : (S.map fun c => [c]).map celG = S := by
    rw [List.map_map]
    conv => rhs; rw [← List.map_id S]
    refine List.map_congr_left fun c _ => ?_
    obtain ⟨k, m, n⟩ := c
    show (k, amS [(k, m, n)], baS [(k, m, n)]) = (k, m, n)
    unfold amS baS
    simp
  show List.filter _ ((S.map fun c => [c]).map celG) = S
  rw [hc]
  exact List.filter_eq_self.2 (fun c hc => by rw [(h.ok c hc).1]; rfl)
/-- negated cells. -/
def negC (c : Cl) : Cl := (c.1, -c.2.1, -c.2.2)
theorem sum_neg (L : List Cl) : amS (L.map negC) = -amS L ∧ baS (L.map negC) = -baS L := by
  unfold amS baS
  induction L with
  | nil => exact ⟨rfl, rfl⟩
  | cons a x ih =>
    simp only [List.map_cons, List.sum_cons]
    rw [ih.1, ih.2]
    constructor <;> (show -_ + _ = _; omega)
theorem sel_neg (L : List Cl) (k : Ky) : sel (L.map negC) k = (sel L k).map negC := by
  unfold sel
  rw [List.filter_map]
  rfl
theorem eqs_neg (A : List Cl) : EqS (A ++ A.map negC) [] := fun k => by
  rw [sel_app, sel_neg, amS_app, baS_app, (sum_neg _).1, (sum_neg _).2]
  show amS _ + -amS _ = 0 ∧ baS _ + -baS _ = 0
  omega
theorem eqs_back {S A B : List Cl} (h : EqS S (A ++ B)) : EqS (S ++ B.map negC) A := fun k => by
  obtain ⟨h1, h2⟩ := h k
  rw [sel_app, sel_neg, amS_app, baS_app, (sum_neg _).1, (sum_neg _).2, h1, h2, sel_app, amS_app, baS_app]
  omega
theorem okSum_neg {n : Int} (h : okSum n = true) : okSum (-n) = true := by
  unfold okSum at *
  simp at *
  omega
theorem sht_neg {S : List Cl} (h : Sht S) : Sht (S.map negC) := by
  constructor
  · rw [List.pairwise_map]
    exact h.inc
  · intro c hc
    obtain ⟨d, hd, rfl⟩ := List.mem_map.1 hc
    obtain ⟨h1, h2, h3⟩ := h.ok d hd
    refine ⟨?_, okSum_neg h2, okSum_neg h3⟩
    unfold emp negC at *
    simp at *
    intro q
    exact h1 q
/-- the sum over a list of keys. -/
theorem keys_sum (p : Ky → Bool) : ∀ (A : List Cl) (K : List Ky), Inc K → (∀ c ∈ A, c.1 ∈ K) → amS (A.filter fun c => p c.1) = ((K.filter p).map fun k => amS (sel A k)).sum ∧ baS (A.filter fun c => p c.1) = ((K.filter p).map fun k => baS (sel A k)).sum := by
  have add : ∀ (K : List Ky) (f g : Ky → Int), (K.map fun k => f k + g k).sum = (K.map f).sum + (K.map g).sum := by
    intro K f g
    induction K with
    | nil => rfl
    | cons a x ih => simp only [List.map_cons, List.sum_cons, ih]; omega
  have one : ∀ (K : List Ky) (k : Ky) (n : Int), Inc K → (K.map fun j => if k = j then n else 0).sum = if k ∈ K then n else 0 := by
    intro K k n hK
    induction K with
    | nil => simp
    | cons a x ih =>
      obtain ⟨p1, p2⟩ := List.pairwise_cons.1 hK
      rw [List.map_cons, List.sum_cons, ih p2]
      by_cases e : k = a
      · subst e
        have n1 : k ∉ x := fun q => by
          have := p1 k q
          rw [cmpK_self] at this
          omega
        rw [if_pos rfl, if_neg n1, if_pos List.mem_cons_self]; omega
      · rw [if_neg e]
        by_cases m : k ∈ x
        · rw [if_pos m, if_pos (List.mem_cons_of_mem _ m)]; omega
        · rw [if_neg m, if_neg (by rw [List.mem_cons]; rintro (q | q); exact e q; exact m q)]; omega
  intro A K hK
  induction A with
  | nil =>
    intro _
    have z : ∀ K : List Ky, (K.map fun _ => (0 : Int)).sum = 0 := by
      intro K
      induction K with
      | nil => rfl
      | cons a x ih => rw [List.map_cons, List.sum_cons, ih]; rfl
    exact ⟨(z _).symm, (z _).symm⟩
  | cons c A ih =>
    intro hA
    obtain ⟨i1, i2⟩ := ih (fun d hd => hA d (List.mem_cons_of_mem _ hd))
    have hc := hA c List.mem_cons_self
    have s1 : ∀ k, amS (sel (c :: A) k) = (if c.1 = k then c.2.1 else 0) + amS (sel A k) := fun k => by
      rw [show c :: A = [c] ++ A from rfl, sel_app, amS_app]
      by_cases e : c.1 = k
      · rw [if_pos e, sel_all (by intro d hd; obtain rfl := List.mem_singleton.1 hd; exact e)]; simp [amS]
      · rw [if_neg e, sel_no (by intro d hd; obtain rfl := List.mem_singleton.1 hd; exact e)]; simp [amS]
    have s2 : ∀ k, baS (sel (c :: A) k) = (if c.1 = k then c.2.2 else 0) + baS (sel A k) := fun k => by
      rw [show c :: A = [c] ++ A from rfl, sel_app, baS_app]
      by_cases e : c.1 = k
      · rw [if_pos e, sel_all (by intro d hd; obtain rfl := List.mem_singleton.1 hd; exact e)]; simp [baS]
      · rw [if_neg e, sel_no (by intro d hd; obtain rfl := List.mem_singleton.1 hd; exact e)]; simp [baS]
    rw [show (fun k => amS (sel (c :: A) k)) = fun k => (if c.1 = k then c.2.1 else 0) + amS (sel A k) from funext s1, show (fun k => baS (sel (c :: A) k)) = fun k => (if c.1 = k then c.2.2 else 0) + baS (sel A k) from funext s2, add, add, ← i1, ← i2, one _ _ _ (inc_filter hK p), one _ _ _ (inc_filter hK p)]
    cases e : p c.1
    · rw [List.filter_cons_of_neg (p := fun c : Cl => p c.1) (by rw [e]; decide), if_neg (by rw [List.mem_filter, e]; simp), if_neg (by rw [List.mem_filter, e]; simp)]
      omega
    · rw [List.filter_cons_of_pos (p := fun c : Cl => p c.1) e, if_pos (List.mem_filter.2 ⟨hc, e⟩), if_pos (List.mem_filter.2 ⟨hc, e⟩)]
      unfold amS baS
      simp [List.map_cons, List.sum_cons]
theorem eqs_filter {A B : List Cl} (h : EqS A B) (p : Ky → Bool) : amS (A.filter fun c => p c.1) = amS (B.filter fun c => p c.1) ∧ baS (A.filter fun c => p c.1) = baS (B.filter fun c => p c.1) := by
  have k1 := (keysK_of (A ++ B)).inc
  have k2 : ∀ c ∈ A, c.1 ∈ keysK (A ++ B) := fun c hc => ((keysK_of (A ++ B)).mem _).2 ⟨c, List.mem_append_left _ hc, rfl⟩
  have k3 : ∀ c ∈ B, c.1 ∈ keysK (A ++ B) := fun c hc => ((keysK_of (A ++ B)).mem _).2 ⟨c, List.mem_append_right _ hc, rfl⟩
  obtain ⟨a1, a2⟩ := keys_sum p A _ k1 k2
  obtain ⟨b1, b2⟩ := keys_sum p B _ k1 k3
  rw [a1, a2, b1, b2, show (fun k => amS (sel A k)) = fun k => amS (sel B k) from funext fun k => (h k).1, show (fun k => baS (sel A k)) = fun k => baS (sel B k) from funext fun k => (h k).2]
  exact ⟨rfl, rfl⟩
theorem eqs_map {A B : List Cl} (h : EqS A B) (f : Ky → Ky) : EqS (A.map fun c => (f c.1, c.2)) (B.map fun c => (f c.1, c.2)) := fun k => by
  have s : ∀ L : List Cl, sel (L.map fun c => (f c.1, c.2)) k = (L.filter fun c => decide (cmpK (f c.1) k = 0)).map fun c => (f c.1, c.2) := fun L => by
    unfold sel
    rw [List.filter_map]
    rfl
  have t : ∀ L : List Cl, amS (L.map fun c => (f c.1, c.2)) = amS L ∧ baS (L.map fun c => (f c.1, c.2)) = baS L := fun L => by
    unfold amS baS
    rw [List.map_map, List.map_map]
    exact ⟨rfl, rfl⟩
  rw [s, s, (t _).1, (t _).2, (t _).1, (t _).2]
  exact eqs_filter h (fun q => decide (cmpK (f q) k = 0))
theorem eqs_all {A B : List Cl} (h : EqS A B) : amS A = amS B ∧ baS A = baS B := by
  have q := eqs_filter h (fun _ => true)
  rwa [List.filter_eq_self.2 (fun _ _ => rfl), List.filter_eq_self.2 (fun _ _ => rfl)] at q
/-! masks -/
theorem and_two : ∀ n m : Fin 32, ∀ k : Fin 5, (0 ≤ bits BinOp.and IntKind.i64 (n.val : Int) (m.val : Int) ∧ bits BinOp.and IntKind.i64 (n.val : Int) (m.val : Int) ≤ 31) ∧ ((bits BinOp.and IntKind.i64 (n.val : Int) (m.val : Int) / 2 ^ k.val % 2 = 0) ↔ ((n.val : Int) / 2 ^ k.val % 2 = 0 ∨ (m.val : Int) / 2 ^ k.val % 2 = 0)) := by decide +kernel
theorem mb_two {m n : Int} (m0 : 0 ≤ m) (m1 : m ≤ 31) (n0 : 0 ≤ n) (n1 : n ≤ 31) (i : Nat) (hi : i < 5) (a : ByteArray) : mb n i (mb m i a) = mb (bits .and .i64 m n) i a := by
  obtain ⟨x, hx, rfl⟩ := mask_cases m0 m1
  obtain ⟨y, hy, rfl⟩ := mask_cases n0 n1
  have q := (and_two ⟨x, hx⟩ ⟨y, hy⟩ ⟨i, hi⟩).2
  dsimp only at q
  unfold mb
  by_cases h1 : (x : Int) / 2 ^ i % 2 = 0
  · rw [if_pos h1, if_pos (q.2 (.inl h1))]
    split <;> rfl
  · by_cases h2 : (y : Int) / 2 ^ i % 2 = 0
    · rw [if_pos h2, if_pos (q.2 (.inr h2))]
    · rw [if_neg h1, if_neg h2, if_neg (fun z => (q.1 z).elim h1 h2)]
theorem mask_two {m n : Int} (m0 : 0 ≤ m) (m1 : m ≤ 31) (n0 : 0 ≤ n) (n1 : n ≤ 31) (a : Ky) : mskK n (mskK m a) = mskK (bits .and .i64 m n) a := by
  unfold mskK
  simp only [mb_two m0 m1 n0 n1 0 (by omega), mb_two m0 m1 n0 n1 1 (by omega), mb_two m0 m1 n0 n1 2 (by omega), mb_two m0 m1 n0 n1 3 (by omega), mb_two m0 m1 n0 n1 4 (by omega)]
theorem mask_bd {m n : Int} (m0 : 0 ≤ m) (m1 : m ≤ 31) (n0 : 0 ≤ n) (n1 : n ≤ 31) : 0 ≤ bits .and .i64 m n ∧ bits .and .i64 m n ≤ 31 := by
  obtain ⟨x, hx, rfl⟩ := mask_cases m0 m1
  obtain ⟨y, hy, rfl⟩ := mask_cases n0 n1
  exact (and_two ⟨x, hx⟩ ⟨y, hy⟩ ⟨0, by omega⟩).1
theorem fold_two {L : List Cl} {m n : Int} (m0 : 0 ≤ m) (m1 : m ≤ 31) (n0 : 0 ≤ n) (n1 : n ≤ 31) (hL : rightB L = true) (h : foE L m = 0) :
    foE (foL L m) n = foE L (bits .and .i64 m n) ∧ foL (foL L m) n = foL L (bits .and .i64 m n) ∧ baS (foL L m) = baS L := by
  obtain ⟨q0, q1⟩ := mask_bd m0 m1 n0 n1
  have e1 : foB L m = true := by unfold foB; rw [hL, decide_eq_true m0, decide_eq_true m1]; rfl
  have e2 : foB L (bits .and .i64 m n) = true := by unfold foB; rw [hL, decide_eq_true q0, decide_eq_true q1]; rfl
  unfold foE at h
  rw [if_pos e1] at h
  have hl : foL L m = ofL (L.map (mskC m)) := by unfold foL; rw [if_pos e1]
  rw [hl]
  have e3 : foB (ofL (L.map (mskC m))) n = true := by unfold foB; rw [ofL_right, decide_eq_true n0, decide_eq_true n1]; rfl
  unfold foE foL
  rw [if_pos e2, if_pos e2, if_pos e3, if_pos e3]
  have g := ofL_eqs h
  have g2 := eqs_map g (mskK n)
  rw [List.map_map] at g2
  have hm : ((fun c : Cl => (mskK n c.1, c.2)) ∘ mskC m) = mskC (bits .and .i64 m n) := by
    funext c
    show (mskK n (mskK m c.1), c.2) = (mskK (bits .and .i64 m n) c.1, c.2)
    rw [mask_two m0 m1 n0 n1]
  rw [hm] at g2
  obtain ⟨z1, z2⟩ := of_eqs g2
  refine ⟨z1, z2, ?_⟩
  rw [(eqs_all g).2]
  unfold baS
  rw [List.map_map]
  rfl
end Go.Proofs.Ytenhnnfemehbcaa
