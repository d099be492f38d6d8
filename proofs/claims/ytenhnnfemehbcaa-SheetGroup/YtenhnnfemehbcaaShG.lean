/- Groups of sorted cells: plain facts. -/
import Derived.Test.YtenhnnfemehbcaaShF
namespace Go.Proofs.Ytenhnnfemehbcaa
open Go.RowKit Go.Sort
set_option linter.unusedVariables false
set_option linter.unusedSimpArgs false

/-- a group of cells, its key. -/
def grpS (S : List Cl) (g : Nat × Nat) : List Cl := (S.drop g.1).take g.2
def hdK (x : List Cl) : Ky := (x.headD default).1
/-- groups that are lists: none empty, each of one key, the keys increasing. -/
structure Grps (X : List (List Cl)) : Prop where
  ne : ∀ x ∈ X, x ≠ []
  same : ∀ x ∈ X, ∀ c ∈ x, c.1 = hdK x
  asc : Inc (X.map hdK)
theorem hdK_mem {x : List Cl} (h : x ≠ []) : ∃ c ∈ x, c.1 = hdK x := by
  cases x with
  | nil => exact absurd rfl h
  | cons a r => exact ⟨a, List.mem_cons_self, rfl⟩
theorem Grps.tail {x : List Cl} {X : List (List Cl)} (h : Grps (x :: X)) : Grps X :=
  ⟨fun y hy => h.ne y (List.mem_cons_of_mem _ hy), fun y hy => h.same y (List.mem_cons_of_mem _ hy), (List.pairwise_cons.1 h.asc).2⟩
theorem sel_app (a b : List Cl) (k : Ky) : sel (a ++ b) k = sel a k ++ sel b k := List.filter_append ..
theorem sel_all {x : List Cl} {k : Ky} (h : ∀ c ∈ x, c.1 = k) : sel x k = x := by
  unfold sel
  rw [List.filter_eq_self]
  intro c hc
  rw [h c hc, cmpK_self]; rfl
theorem sel_no {x : List Cl} {k : Ky} (h : ∀ c ∈ x, c.1 ≠ k) : sel x k = [] := by
  unfold sel
  rw [List.filter_eq_nil_iff]
  intro c hc
  simp
  intro q
  exact h c hc (cmpK_eq.1 q)
theorem Grps.sel : ∀ {X : List (List Cl)}, Grps X → ∀ x ∈ X, sel X.flatten (hdK x) = x
  | [], _, x, hx => by cases hx
  | y :: X, h, x, hx => by
    obtain ⟨p1, p2⟩ := List.pairwise_cons.1 h.asc
    rw [List.flatten_cons, sel_app]
    rcases List.mem_cons.1 hx with e | e
    · subst e
      rw [sel_all (h.same x List.mem_cons_self), sel_no, List.append_nil]
      intro c hc q
      obtain ⟨z, hz, hcz⟩ := List.mem_flatten.1 hc
      have e1 := h.same z (List.mem_cons_of_mem _ hz) c hcz
      have := p1 (hdK z) (List.mem_map.2 ⟨z, hz, rfl⟩)
      rw [← e1, q, cmpK_self] at this
      omega
    · rw [sel_no, List.nil_append, h.tail.sel x e]
      intro c hc q
      have e1 := h.same y List.mem_cons_self c hc
      have := p1 (hdK x) (List.mem_map.2 ⟨x, e, rfl⟩)
      rw [← e1, q, cmpK_self] at this
      omega
theorem Grps.keys {X : List (List Cl)} (h : Grps X) : keysK X.flatten = X.map hdK := by
  refine inc_uniq (keysK_of _).inc h.asc (fun k => ?_)
  rw [(keysK_of _).mem]
  constructor
  · rintro ⟨c, hc, rfl⟩
    obtain ⟨x, hx, hcx⟩ := List.mem_flatten.1 hc
    exact List.mem_map.2 ⟨x, hx, (h.same x hx c hcx).symm⟩
  · intro hk
    obtain ⟨x, hx, rfl⟩ := List.mem_map.1 hk
    obtain ⟨c, hc, e⟩ := hdK_mem (h.ne x hx)
    exact ⟨c, List.mem_flatten.2 ⟨x, hx, hc⟩, e⟩
/-- a group's sums are too large; a group's cell. -/
def badG (x : List Cl) : Bool := !(okSum (amS x) && okSum (baS x))
def celG (x : List Cl) : Cl := (hdK x, amS x, baS x)
theorem any_congr {α : Type} {l : List α} {p q : α → Bool} (h : ∀ a ∈ l, p a = q a) : l.any p = l.any q := by
  induction l with
  | nil => rfl
  | cons a r ih => rw [List.any_cons, List.any_cons, h a List.mem_cons_self, ih fun b hb => h b (List.mem_cons_of_mem _ hb)]
theorem Grps.of {X : List (List Cl)} (h : Grps X) : ofE X.flatten = (if X.any badG = true then 4 else 0) ∧ ofL X.flatten = if X.any badG = true then [] else (X.map celG).filter (fun c => !emp c) := by
  have e1 : (X.map hdK).any (badK X.flatten) = X.any badG := by
    rw [List.any_map]
    refine any_congr fun x hx => ?_
    show badK X.flatten (hdK x) = badG x
    unfold badK badG
    rw [h.sel x hx]
  have e2 : (X.map hdK).map (celK X.flatten) = X.map celG := by
    rw [List.map_map]
    refine List.map_congr_left fun x hx => ?_
    show celK X.flatten (hdK x) = celG x
    unfold celK celG
    rw [h.sel x hx]
  unfold ofE ofL
  rw [h.keys, e1, e2]
  exact ⟨rfl, rfl⟩
/-- the groups so far: they cover S up to f. -/
structure Runs (S : List Cl) (G : List (Nat × Nat)) (f : Nat) : Prop where
  cover : (G.map (grpS S)).flatten = S.take f
  bnd : ∀ g ∈ G, 0 < g.2 ∧ g.1 + g.2 ≤ S.length
  grps : Grps (G.map (grpS S))
  last : ∀ g ∈ G, ∀ h : f < S.length, cmpK (hdK (grpS S g)) S[f].1 < 0
theorem Runs.nil (S : List Cl) : Runs S [] 0 := ⟨by simp, (fun g hg => absurd hg (by simp)), ⟨(fun x hx => absurd hx (by simp)), (fun x hx => absurd hx (by simp)), List.Pairwise.nil⟩, (fun g hg => absurd hg (by simp))⟩
theorem grpS_at {S : List Cl} {f m : Nat} {c : Cl} (hc : c ∈ grpS S (f, m)) : ∃ j, ∃ h : j < S.length, f ≤ j ∧ j < f + m ∧ c = S[j] := by
  have hc : c ∈ (S.drop f).take m := hc
  obtain ⟨i, hi, e⟩ := List.getElem_of_mem hc
  have hi' : i < m ∧ i < S.length - f := by
    rw [List.length_take, List.length_drop] at hi
    omega
  refine ⟨f + i, by omega, by omega, by omega, ?_⟩
  rw [← e, List.getElem_take, List.getElem_drop]
theorem grpS_head {S : List Cl} {f m : Nat} (hf : f < S.length) (hm : 0 < m) : hdK (grpS S (f, m)) = S[f].1 := by
  unfold grpS hdK
  rw [List.drop_eq_getElem_cons hf]
  cases m with
  | zero => omega
  | succ m => rfl
theorem sorted_at {S : List Cl} (h : SrtC S) {i j : Nat} (hij : i ≤ j) (hj : j < S.length) : cmpK (S[i]'(by omega)).1 S[j].1 ≤ 0 := by
  rcases Nat.lt_or_ge i j with k | k
  · exact List.pairwise_iff_getElem.1 h i j (by omega) hj k
  · have e : i = j := by omega
    subst e; rw [cmpK_self]; omega
theorem Runs.step {S : List Cl} {G : List (Nat × Nat)} {f i : Nat} (h : Runs S G f) (hs : SrtC S) (hf : f < i) (hi : i ≤ S.length) (heq : ∀ j, f ≤ j → j < i → ∀ q : j < S.length, S[j].1 = (S[f]'(by omega)).1) (hne : ∀ q : i < S.length, ¬ cmpK (S[f]'(by omega)).1 S[i].1 = 0) : Runs S (G ++ [(f, i - f)]) i := by
  have hfl : f < S.length := by omega
  have hh := grpS_head (S := S) (m := i - f) hfl (by omega)
  have hx : ∀ q : i < S.length, cmpK S[f].1 S[i].1 < 0 := fun q => by
    have := sorted_at hs (Nat.le_of_lt hf) q
    have := hne q
    omega
  refine ⟨?_, ?_, ⟨?_, ?_, ?_⟩, ?_⟩
  · rw [List.map_append, List.flatten_append, h.cover]
    show S.take f ++ [grpS S (f, i - f)].flatten = _
    rw [List.flatten_cons, List.flatten_nil, List.append_nil]
    unfold grpS
    rw [← List.take_add, show f + (i - f) = i by omega]
  · intro g hg
    rcases List.mem_append.1 hg with q | q
    · exact h.bnd g q
    · obtain rfl : g = (f, i - f) := by simpa using q
      exact ⟨by show 0 < i - f; omega, by show f + (i - f) ≤ _; omega⟩
  · intro x hx
    rw [List.map_append] at hx
    rcases List.mem_append.1 hx with q | q
    · exact h.grps.ne x q
    · obtain rfl : x = grpS S (f, i - f) := by simpa using q
      intro e
      have : (grpS S (f, i - f)).length = 0 := by rw [e]; rfl
      unfold grpS at this
      rw [List.length_take, List.length_drop] at this
      omega
  · intro x hx c hc
    rw [List.map_append] at hx
    rcases List.mem_append.1 hx with q | q
    · exact h.grps.same x q c hc
    · obtain rfl : x = grpS S (f, i - f) := by simpa using q
      obtain ⟨j, hj, j1, j2, rfl⟩ := grpS_at hc
      rw [hh]
      exact heq j j1 (by omega) hj
  · rw [List.map_append, List.map_append]
    refine List.pairwise_append.2 ⟨h.grps.asc, by simp, ?_⟩
    intro a ha b hb
    obtain rfl : b = hdK (grpS S (f, i - f)) := by simpa using hb
    rw [List.map_map] at ha
    obtain ⟨g, hg, rfl⟩ := List.mem_map.1 ha
    rw [hh]
    exact h.last g hg hfl
  · intro g hg q
    rcases List.mem_append.1 hg with z | z
    · exact cmpK_lt (h.last g z hfl) (Int.le_of_lt (hx q))
    · obtain rfl : g = (f, i - f) := by simpa using z
      rw [hh]
      exact hx q
theorem Runs.full {S : List Cl} {G : List (Nat × Nat)} (h : Runs S G S.length) : (G.map (grpS S)).flatten = S := by rw [h.cover, List.take_length]
end Go.Proofs.Ytenhnnfemehbcaa
