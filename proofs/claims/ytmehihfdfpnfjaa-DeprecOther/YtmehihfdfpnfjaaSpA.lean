/- Plain facts on stable sorting, with no Go in sight: numbers 0, 1, .. in an order that falls by a size; equal sizes stay in their order. -/
namespace Go.Proofs.Ytmehihfdfpnfjaa
set_option linter.unusedVariables false

/-- i comes ahead of j: its size is larger, or the sizes are equal and i is the smaller number. -/
def Bef (r : Nat → Int) (i j : Nat) : Prop := r j < r i ∨ (r i = r j ∧ i < j)
theorem Bef.trans {r : Nat → Int} {i j k : Nat} (h : Bef r i j) (g : Bef r j k) : Bef r i k := by unfold Bef at *; omega
theorem bef_more {r : Nat → Int} {i j : Nat} (h : r j < r i) : Bef r i j := .inl h
theorem bef_rest {r : Nat → Int} {i j : Nat} (h : ¬ r i < r j) (k : i < j) : Bef r i j := by unfold Bef; omega
/-- the places a to b hold numbers in order. -/
def Srt (r : Nat → Int) (σ : Nat → Nat) (a b : Nat) : Prop := ∀ i j, a ≤ i → i < j → j < b → Bef r (σ i) (σ j)
/-- what the places a to b hold is rearranged among themselves. -/
def Rar (a b : Nat) (σ σ' : Nat → Nat) : Prop := ∃ τ υ : Nat → Nat, (∀ k, a ≤ k → k < b → a ≤ τ k ∧ τ k < b) ∧ (∀ k, ¬ (a ≤ k ∧ k < b) → τ k = k) ∧ (∀ k, τ (υ k) = k) ∧ (∀ k, υ (τ k) = k) ∧ ∀ k, σ' k = σ (τ k)
theorem Rar.refl (a b : Nat) (σ : Nat → Nat) : Rar a b σ σ := ⟨id, id, fun k h1 h2 => ⟨h1, h2⟩, fun _ _ => rfl, fun _ => rfl, fun _ => rfl, fun _ => rfl⟩
theorem Rar.trans {a b : Nat} {σ σ' σ'' : Nat → Nat} (h : Rar a b σ σ') (g : Rar a b σ' σ'') : Rar a b σ σ'' := by
  obtain ⟨τ, ω, h1, h2, h3, h5, h4⟩ := h
  obtain ⟨υ, ψ, g1, g2, g3, g5, g4⟩ := g
  refine ⟨fun k => τ (υ k), fun k => ψ (ω k), fun k k1 k2 => ?_, fun k hk => ?_, fun k => ?_, fun k => ?_, fun k => by rw [g4, h4]⟩
  · obtain ⟨x, y⟩ := g1 k k1 k2; exact h1 _ x y
  · show τ (υ k) = k
    rw [g2 k hk, h2 k hk]
  · show τ (υ (ψ (ω k))) = k
    rw [g3, h3]
  · show ψ (ω (τ (υ k))) = k
    rw [h5, g5]
theorem Rar.wide {a b a' b' : Nat} {σ σ' : Nat → Nat} (h : Rar a b σ σ') (h1 : a' ≤ a) (h2 : b ≤ b') : Rar a' b' σ σ' := by
  obtain ⟨τ, υ, t1, t2, t3, t5, t4⟩ := h
  refine ⟨τ, υ, fun k k1 k2 => ?_, fun k hk => t2 k (by omega), t3, t5, t4⟩
  by_cases q : a ≤ k ∧ k < b
  · have := t1 k q.1 q.2; omega
  · rw [t2 k q]; omega
theorem Rar.out {a b : Nat} {σ σ' : Nat → Nat} (h : Rar a b σ σ') {k : Nat} (hk : ¬ (a ≤ k ∧ k < b)) : σ' k = σ k := by
  obtain ⟨τ, _, _, t2, _, _, t4⟩ := h; rw [t4, t2 k hk]
/-- what held of all that the places hold holds still. -/
theorem Rar.all {a b : Nat} {σ σ' : Nat → Nat} (h : Rar a b σ σ') {Q : Nat → Prop} (hQ : ∀ k, a ≤ k → k < b → Q (σ k)) : ∀ k, a ≤ k → k < b → Q (σ' k) := by
  obtain ⟨τ, _, t1, _, _, _, t4⟩ := h
  intro k k1 k2
  rw [t4]; exact hQ _ (t1 k k1 k2).1 (t1 k k1 k2).2
/-- the numbers below n, each once. -/
structure Prm (n : Nat) (σ : Nat → Nat) : Prop where
  bd : ∀ k, k < n → σ k < n
  inj : ∀ i j, i < n → j < n → σ i = σ j → i = j
  sur : ∀ k, k < n → ∃ j, j < n ∧ σ j = k
theorem Rar.prm {a b : Nat} {σ σ' : Nat → Nat} (h : Rar a b σ σ') {n : Nat} (hb : b ≤ n) (hp : Prm n σ) : Prm n σ' := by
  obtain ⟨τ, υ, t1, t2, t3, t5, t4⟩ := h
  have tn : ∀ k, k < n → τ k < n := fun k hk => by
    by_cases q : a ≤ k ∧ k < b
    · have := t1 k q.1 q.2; omega
    · rw [t2 k q]; exact hk
  have un : ∀ k, k < n → υ k < n := fun k hk => by
    by_cases q : a ≤ υ k ∧ υ k < b
    · omega
    · have := t2 _ q; rw [t3] at this; omega
  refine ⟨fun k hk => by rw [t4]; exact hp.bd _ (tn k hk), fun i j h1 h2 e => ?_, fun k hk => ?_⟩
  · rw [t4, t4] at e
    have := hp.inj _ _ (tn i h1) (tn j h2) e
    rw [← t5 i, this, t5]
  · obtain ⟨j, j1, j2⟩ := hp.sur k hk
    exact ⟨υ j, un j j1, by rw [t4, t3]; exact j2⟩
/-- two places exchanged. -/
def swp (σ : Nat → Nat) (i j : Nat) : Nat → Nat := fun k => if k = i then σ j else if k = j then σ i else σ k
theorem swp_rar {a b i j : Nat} (σ : Nat → Nat) (hi : a ≤ i ∧ i < b) (hj : a ≤ j ∧ j < b) : Rar a b σ (swp σ i j) := by
  refine ⟨fun k => if k = i then j else if k = j then i else k, fun k => if k = i then j else if k = j then i else k, fun k k1 k2 => ?_, fun k hk => ?_, fun k => ?_, fun k => ?_, fun k => ?_⟩
  · simp only
    repeat' split
    all_goals omega
  · show (if k = i then j else if k = j then i else k) = k
    rw [if_neg (by omega), if_neg (by omega)]
  · simp only
    repeat' split
    all_goals omega
  · simp only
    repeat' split
    all_goals omega
  · unfold swp
    simp only
    repeat' split
    all_goals rfl
/-! insertion -/
/-- one more number moves down: it lies at j. -/
structure Ins (r : Nat → Int) (σ0 σ : Nat → Nat) (a i j : Nat) : Prop where
  le : a ≤ j ∧ j ≤ i
  at_ : σ j = σ0 i
  rest : ∀ p q, a ≤ p → p < q → q ≤ i → p ≠ j → q ≠ j → Bef r (σ p) (σ q)
  up : ∀ q, j < q → q ≤ i → Bef r (σ j) (σ q)
  rar : Rar a (i + 1) σ0 σ
  low : ∀ p, a ≤ p → p ≤ i → p ≠ j → σ p < σ j
theorem ins_start {r : Nat → Int} {σ0 σ : Nat → Nat} {a i : Nat} (ha : a ≤ i) (hs : Srt r σ a i) (hr : Rar a i σ0 σ) (hp : ∀ p q, a ≤ p → p < q → q ≤ i → σ0 p < σ0 q) : Ins r σ0 σ a i i := by
  have hi : σ i = σ0 i := hr.out (by omega)
  refine ⟨⟨ha, Nat.le_refl _⟩, hi, fun p q h1 h2 h3 h4 h5 => hs p q h1 h2 (by omega), fun q h1 h2 => by omega, hr.wide (Nat.le_refl _) (by omega), fun p h1 h2 h3 => ?_⟩
  rw [hi]
  exact hr.all (Q := fun x => x < σ0 i) (fun k k1 k2 => hp k i k1 k2 (Nat.le_refl _)) p h1 (by omega)
theorem ins_step {r : Nat → Int} {σ0 σ : Nat → Nat} {a i j : Nat} (h : Ins r σ0 σ a i j) (hj : a < j) (hc : r (σ (j - 1)) < r (σ j)) : Ins r σ0 (swp σ j (j - 1)) a i (j - 1) := by
  have e1 : swp σ j (j - 1) (j - 1) = σ j := by unfold swp; rw [if_neg (by omega), if_pos rfl]
  have e2 : swp σ j (j - 1) j = σ (j - 1) := by unfold swp; rw [if_pos rfl]
  have e3 : ∀ k, k ≠ j → k ≠ j - 1 → swp σ j (j - 1) k = σ k := fun k h1 h2 => by unfold swp; rw [if_neg h1, if_neg h2]
  have hle := h.le
  refine ⟨by omega, by rw [e1]; exact h.at_, fun p q h1 h2 h3 h4 h5 => ?_, fun q h1 h2 => ?_, h.rar.trans (swp_rar σ (by omega) (by omega)), fun p h1 h2 h3 => ?_⟩
  · by_cases hp : p = j
    · subst hp; rw [e2, e3 q (by omega) (by omega)]; exact h.rest _ _ (by omega) (by omega) h3 (by omega) (by omega)
    · rw [e3 p hp h4]
      by_cases hq : q = j
      · subst hq; rw [e2]; exact h.rest _ _ h1 (by omega) (by omega) (by omega) (by omega)
      · rw [e3 q hq h5]; exact h.rest _ _ h1 h2 h3 hp hq
  · rw [e1]
    by_cases hq : q = j
    · subst hq; rw [e2]; exact bef_more hc
    · rw [e3 q hq (by omega)]; exact h.up q (by omega) h2
  · rw [e1]
    by_cases hp : p = j
    · subst hp; rw [e2]; exact h.low _ (by omega) (by omega) (by omega)
    · rw [e3 p hp h3]; exact h.low p h1 h2 hp
theorem ins_end {r : Nat → Int} {σ0 σ : Nat → Nat} {a i j : Nat} (h : Ins r σ0 σ a i j) (hc : j = a ∨ ¬ r (σ (j - 1)) < r (σ j)) : Srt r σ a (i + 1) := by
  have hle := h.le
  have hd : ∀ p, a ≤ p → p < j → Bef r (σ p) (σ j) := fun p h1 h2 => by
    rcases hc with hc | hc
    · omega
    · have h3 : Bef r (σ (j - 1)) (σ j) := bef_rest hc (h.low _ (by omega) (by omega) (by omega))
      by_cases hp : p = j - 1
      · rw [hp]; exact h3
      · exact (h.rest p (j - 1) h1 (by omega) (by omega) (by omega) (by omega)).trans h3
  intro p q h1 h2 h3
  by_cases hp : p = j
  · subst hp; exact h.up q h2 (by omega)
  · by_cases hq : q = j
    · subst hq; exact hd p h1 h2
    · exact h.rest p q h1 h2 (by omega) hp hq
/-! ranges exchanged, rotation -/
def swR (σ : Nat → Nat) (a b n : Nat) : Nat → Nat := fun p => if a ≤ p ∧ p < a + n then σ (p + (b - a)) else if b ≤ p ∧ p < b + n then σ (p - (b - a)) else σ p
theorem swR_zero (σ : Nat → Nat) (a b : Nat) : swR σ a b 0 = σ := by
  funext p; unfold swR; rw [if_neg (by omega), if_neg (by omega)]
theorem swR_step (σ : Nat → Nat) (a b n : Nat) (h : a + n < b) : swp (swR σ a b n) (a + n) (b + n) = swR σ a b (n + 1) := by
  funext p
  unfold swp swR
  by_cases h1 : p = a + n
  · subst h1
    rw [if_pos rfl, if_neg (by omega), if_neg (by omega), if_pos (by omega)]
    congr 1; omega
  · rw [if_neg h1]
    by_cases h2 : p = b + n
    · subst h2
      rw [if_pos rfl, if_neg (by omega), if_neg (by omega), if_neg (by omega), if_pos (by omega)]
      congr 1; omega
    · rw [if_neg h2]
      repeat' split
      all_goals first | rfl | omega
/-- the target of a rotation of a..m and m..b. -/
def rot (σ : Nat → Nat) (a m b : Nat) : Nat → Nat := fun p => if a ≤ p ∧ p < a + (b - m) then σ (p + (m - a)) else if a + (b - m) ≤ p ∧ p < b then σ (p - (b - m)) else σ p
structure RotI (T σ : Nat → Nat) (m i j : Nat) : Prop where
  pos : 0 < i ∧ 0 < j ∧ i ≤ m
  out : ∀ p, ¬ (m - i ≤ p ∧ p < m + j) → σ p = T p
  lo : ∀ p, m - i ≤ p → p < m - i + j → T p = σ (p + i)
  hi : ∀ p, m - i + j ≤ p → p < m + j → T p = σ (p - j)
theorem rot_start (σ : Nat → Nat) {a m b : Nat} (h1 : a < m) (h2 : m < b) : RotI (rot σ a m b) σ m (m - a) (b - m) := by
  refine ⟨by omega, fun p hp => ?_, fun p h3 h4 => ?_, fun p h3 h4 => ?_⟩
  · unfold rot; rw [if_neg (by omega), if_neg (by omega)]
  · unfold rot; rw [if_pos (by omega)]
  · unfold rot; rw [if_neg (by omega), if_pos (by omega)]
theorem rot_gt {T σ : Nat → Nat} {m i j : Nat} (h : RotI T σ m i j) (hij : j < i) : RotI T (swR σ (m - i) m j) m (i - j) j := by
  have hp := h.pos
  refine ⟨by omega, fun p q => ?_, fun p h1 h2 => ?_, fun p h1 h2 => ?_⟩
  · unfold swR
    by_cases h1 : m - i ≤ p ∧ p < m - i + j
    · rw [if_pos h1, h.lo p h1.1 h1.2]; congr 1; omega
    · rw [if_neg h1, if_neg (by omega)]; exact h.out p (by omega)
  · rw [h.hi p (by omega) (by omega)]
    unfold swR
    rw [if_neg (by omega), if_pos (by omega)]; congr 1; omega
  · rw [h.hi p (by omega) (by omega)]
    unfold swR
    rw [if_neg (by omega), if_neg (by omega)]
theorem rot_lt {T σ : Nat → Nat} {m i j : Nat} (h : RotI T σ m i j) (hij : i < j) : RotI T (swR σ (m - i) (m + j - i) i) m i (j - i) := by
  have hp := h.pos
  refine ⟨by omega, fun p q => ?_, fun p h1 h2 => ?_, fun p h1 h2 => ?_⟩
  · unfold swR
    rw [if_neg (by omega)]
    by_cases h1 : m + j - i ≤ p ∧ p < m + j - i + i
    · rw [if_pos h1, h.hi p (by omega) (by omega)]; congr 1; omega
    · rw [if_neg h1]; exact h.out p (by omega)
  · rw [h.lo p (by omega) (by omega)]
    unfold swR
    rw [if_neg (by omega), if_neg (by omega)]
  · rw [h.lo p (by omega) (by omega)]
    unfold swR
    rw [if_pos (by omega)]; congr 1; omega
theorem rot_end {T σ : Nat → Nat} {m i : Nat} (h : RotI T σ m i i) : swR σ (m - i) m i = T := by
  have hp := h.pos
  funext p
  unfold swR
  by_cases h1 : m - i ≤ p ∧ p < m - i + i
  · rw [if_pos h1, h.lo p (by omega) (by omega)]; congr 1; omega
  · rw [if_neg h1]
    by_cases h2 : m ≤ p ∧ p < m + i
    · rw [if_pos h2, h.hi p (by omega) (by omega)]; congr 1; omega
    · rw [if_neg h2]; exact h.out p (by omega)
theorem rot_rar (σ : Nat → Nat) {a m b : Nat} (h1 : a ≤ m) (h2 : m ≤ b) : Rar a b σ (rot σ a m b) := by
  refine ⟨fun p => if a ≤ p ∧ p < a + (b - m) then p + (m - a) else if a + (b - m) ≤ p ∧ p < b then p - (b - m) else p, fun p => if a ≤ p ∧ p < m then p + (b - m) else if m ≤ p ∧ p < b then p - (m - a) else p, fun k k1 k2 => ?_, fun k hk => ?_, fun k => ?_, fun k => ?_, fun k => ?_⟩
  · simp only
    repeat' split
    all_goals omega
  · simp only
    rw [if_neg (by omega), if_neg (by omega)]
  · simp only
    repeat' split
    all_goals omega
  · simp only
    repeat' split
    all_goals omega
  · unfold rot
    simp only
    repeat' split
    all_goals rfl
/-! the merge -/
/-- two neighbouring parts in order, the numbers of the first below those of the second. -/
structure Twp (r : Nat → Int) (σ : Nat → Nat) (a m b : Nat) : Prop where
  l : Srt r σ a m
  u : Srt r σ m b
  x : ∀ p q, a ≤ p → p < m → m ≤ q → q < b → σ p < σ q
/-- the number at a moved up to i - 1. -/
def mvU (σ : Nat → Nat) (a k : Nat) : Nat → Nat := fun p => if a ≤ p ∧ p < k then σ (p + 1) else if p = k then σ a else σ p
theorem mvU_zero (σ : Nat → Nat) (a : Nat) : mvU σ a a = σ := by
  funext p; unfold mvU
  rw [if_neg (by omega)]
  split
  · rename_i h; rw [h]
  · rfl
theorem mvU_step (σ : Nat → Nat) (a k : Nat) (h : a ≤ k) : swp (mvU σ a k) k (k + 1) = mvU σ a (k + 1) := by
  funext p
  unfold swp mvU
  by_cases h1 : p = k
  · subst h1; rw [if_pos rfl, if_neg (by omega), if_neg (by omega), if_pos (by omega)]
  · rw [if_neg h1]
    by_cases h2 : p = k + 1
    · subst h2; rw [if_pos rfl, if_neg (by omega), if_pos rfl, if_neg (by omega), if_pos rfl]
    · rw [if_neg h2]
      by_cases h3 : a ≤ p ∧ p < k
      · rw [if_pos h3, if_pos (by omega)]
      · rw [if_neg h3, if_neg h1, if_neg (by omega), if_neg h2]
theorem mvU_rar (σ : Nat → Nat) {a k b : Nat} (h : a ≤ k) (hb : k < b) : Rar a b σ (mvU σ a k) := by
  refine ⟨fun p => if a ≤ p ∧ p < k then p + 1 else if p = k then a else p, fun p => if p = a then k else if a < p ∧ p ≤ k then p - 1 else p, fun q k1 k2 => ?_, fun q hk => ?_, fun q => ?_, fun q => ?_, fun q => ?_⟩
  · simp only
    repeat' split
    all_goals omega
  · simp only
    rw [if_neg (by omega), if_neg (by omega)]
  · simp only
    repeat' split
    all_goals omega
  · simp only
    repeat' split
    all_goals omega
  · unfold mvU
    simp only
    repeat' split
    all_goals rfl
theorem two_up {r : Nat → Int} {σ : Nat → Nat} {a b i : Nat} (h : Twp r σ a (a + 1) b) (h1 : a + 1 ≤ i) (h2 : i ≤ b) (hl : ∀ q, a + 1 ≤ q → q < i → Bef r (σ q) (σ a)) (hu : ∀ q, i ≤ q → q < b → Bef r (σ a) (σ q)) : Srt r (mvU σ a (i - 1)) a b := by
  intro p q h3 h4 h5
  unfold mvU
  by_cases p1 : p < i - 1
  · rw [if_pos (by omega)]
    by_cases q1 : q < i - 1
    · rw [if_pos (by omega)]; exact h.u _ _ (by omega) (by omega) (by omega)
    · rw [if_neg (by omega)]
      by_cases q2 : q = i - 1
      · rw [if_pos q2]; exact hl _ (by omega) (by omega)
      · rw [if_neg q2]; exact h.u _ _ (by omega) (by omega) (by omega)
  · rw [if_neg (by omega)]
    by_cases p2 : p = i - 1
    · rw [if_pos p2, if_neg (by omega), if_neg (by omega)]; exact hu _ (by omega) (by omega)
    · rw [if_neg p2, if_neg (by omega), if_neg (by omega)]; exact h.u _ _ (by omega) (by omega) (by omega)
/-- the number at m moved down to k. -/
def mvD (σ : Nat → Nat) (m k : Nat) : Nat → Nat := fun p => if k < p ∧ p ≤ m then σ (p - 1) else if p = k then σ m else σ p
theorem mvD_zero (σ : Nat → Nat) (m : Nat) : mvD σ m m = σ := by
  funext p; unfold mvD
  rw [if_neg (by omega)]
  split
  · rename_i h; rw [h]
  · rfl
theorem mvD_step (σ : Nat → Nat) (m k : Nat) (h : k ≤ m) (h0 : 0 < k) : swp (mvD σ m k) k (k - 1) = mvD σ m (k - 1) := by
  funext p
  unfold swp mvD
  by_cases h1 : p = k
  · subst h1; rw [if_pos rfl, if_neg (by omega), if_neg (by omega), if_pos (by omega)]
  · rw [if_neg h1]
    by_cases h2 : p = k - 1
    · rw [if_pos h2, if_neg (by omega), if_pos rfl, if_neg (by omega), if_pos h2]
    · rw [if_neg h2]
      by_cases h3 : k < p ∧ p ≤ m
      · rw [if_pos h3, if_pos (by omega)]
      · rw [if_neg h3, if_neg h1, if_neg (by omega), if_neg h2]
theorem mvD_rar (σ : Nat → Nat) {a k m : Nat} (h : k ≤ m) (ha : a ≤ k) : Rar a (m + 1) σ (mvD σ m k) := by
  refine ⟨fun p => if k < p ∧ p ≤ m then p - 1 else if p = k then m else p, fun p => if p = m then k else if k ≤ p ∧ p < m then p + 1 else p, fun q k1 k2 => ?_, fun q hk => ?_, fun q => ?_, fun q => ?_, fun q => ?_⟩
  · simp only
    repeat' split
    all_goals omega
  · simp only
    rw [if_neg (by omega), if_neg (by omega)]
  · simp only
    repeat' split
    all_goals omega
  · simp only
    repeat' split
    all_goals omega
  · unfold mvD
    simp only
    repeat' split
    all_goals rfl
theorem two_down {r : Nat → Int} {σ : Nat → Nat} {a m i : Nat} (h : Twp r σ a m (m + 1)) (h1 : a ≤ i) (h2 : i ≤ m) (hl : ∀ q, a ≤ q → q < i → Bef r (σ q) (σ m)) (hu : ∀ q, i ≤ q → q < m → Bef r (σ m) (σ q)) : Srt r (mvD σ m i) a (m + 1) := by
  intro p q h3 h4 h5
  unfold mvD
  by_cases p1 : p < i
  · rw [if_neg (by omega), if_neg (by omega)]
    by_cases q1 : i < q
    · rw [if_pos (by omega)]; exact h.l _ _ (by omega) (by omega) (by omega)
    · rw [if_neg (by omega)]
      by_cases q2 : q = i
      · rw [if_pos q2]; exact hl _ (by omega) (by omega)
      · rw [if_neg q2]; exact h.l _ _ (by omega) (by omega) (by omega)
  · by_cases p2 : p = i
    · rw [if_neg (by omega), if_pos p2, if_pos (by omega)]; exact hu _ (by omega) (by omega)
    · rw [if_pos (by omega), if_pos (by omega)]; exact h.l _ _ (by omega) (by omega) (by omega)
/-- where the merge cuts: start s, end n - s, n = mid + m. -/
structure Cut (r : Nat → Int) (σ : Nat → Nat) (a m b mid s : Nat) : Prop where
  i : a < m ∧ m < b ∧ a ≤ mid ∧ mid ≤ b
  s1 : a ≤ s ∧ s ≤ m ∧ s ≤ mid ∧ m + mid ≤ s + b
  lo : a < s → m + mid - s < b → Bef r (σ (s - 1)) (σ (m + mid - s))
  hi : s < m → m < m + mid - s → Bef r (σ (m + mid - s - 1)) (σ s)
theorem Cut.parts {r : Nat → Int} {σ : Nat → Nat} {a m b mid s : Nat} (h : Twp r σ a m b) (c : Cut r σ a m b mid s) :
    Twp r (rot σ s m (m + mid - s)) a s mid ∧ Twp r (rot σ s m (m + mid - s)) mid (m + mid - s) b ∧ ∀ p q, a ≤ p → p < mid → mid ≤ q → q < b → Bef r (rot σ s m (m + mid - s) p) (rot σ s m (m + mid - s) q) := by
  have ci := c.i
  have cs := c.s1
  have e1 : ∀ p, p < s → rot σ s m (m + mid - s) p = σ p := fun p hp => by unfold rot; rw [if_neg (by omega), if_neg (by omega)]
  have e2 : ∀ p, s ≤ p → p < mid → rot σ s m (m + mid - s) p = σ (p + (m - s)) := fun p h1 h2 => by unfold rot; rw [if_pos (by omega)]
  have e3 : ∀ p, mid ≤ p → p < m + mid - s → rot σ s m (m + mid - s) p = σ (p - (mid - s)) := fun p h1 h2 => by
    unfold rot; rw [if_neg (by omega), if_pos (by omega)]; congr 1; omega
  have e4 : ∀ p, m + mid - s ≤ p → rot σ s m (m + mid - s) p = σ p := fun p h1 => by unfold rot; rw [if_neg (by omega), if_neg (by omega)]
  refine ⟨⟨?_, ?_, ?_⟩, ⟨?_, ?_, ?_⟩, ?_⟩
  · intro i j h1 h2 h3; rw [e1 i (by omega), e1 j h3]; exact h.l i j h1 h2 (by omega)
  · intro i j h1 h2 h3; rw [e2 i h1 (by omega), e2 j (by omega) h3]; exact h.u _ _ (by omega) (by omega) (by omega)
  · intro p q h1 h2 h3 h4; rw [e1 p h2, e2 q h3 h4]; exact h.x _ _ (by omega) (by omega) (by omega) (by omega)
  · intro i j h1 h2 h3; rw [e3 i h1 (by omega), e3 j (by omega) h3]; exact h.l _ _ (by omega) (by omega) (by omega)
  · intro i j h1 h2 h3; rw [e4 i h1, e4 j (by omega)]; exact h.u _ _ (by omega) (by omega) (by omega)
  · intro p q h1 h2 h3 h4; rw [e3 p h1 h2, e4 q h3]; exact h.x _ _ (by omega) (by omega) (by omega) (by omega)
  · intro p q h1 h2 h3 h4
    by_cases p1 : p < s
    · rw [e1 p p1]
      by_cases q1 : q < m + mid - s
      · rw [e3 q h3 q1]; exact h.l _ _ (by omega) (by omega) (by omega)
      · rw [e4 q (by omega)]
        have x := c.lo (by omega) (by omega)
        have x1 : p = s - 1 ∨ Bef r (σ p) (σ (s - 1)) := by
          by_cases e : p = s - 1
          · exact .inl e
          · exact .inr (h.l _ _ (by omega) (by omega) (by omega))
        have x2 : q = m + mid - s ∨ Bef r (σ (m + mid - s)) (σ q) := by
          by_cases e : q = m + mid - s
          · exact .inl e
          · exact .inr (h.u _ _ (by omega) (by omega) (by omega))
        rcases x1 with rfl | x1 <;> rcases x2 with rfl | x2
        · exact x
        · exact x.trans x2
        · exact x1.trans x
        · exact (x1.trans x).trans x2
    · rw [e2 p (by omega) h2]
      by_cases q1 : q < m + mid - s
      · rw [e3 q h3 q1]
        have x := c.hi (by omega) (by omega)
        have x1 : p + (m - s) = m + mid - s - 1 ∨ Bef r (σ (p + (m - s))) (σ (m + mid - s - 1)) := by
          by_cases e : p + (m - s) = m + mid - s - 1
          · exact .inl e
          · exact .inr (h.u _ _ (by omega) (by omega) (by omega))
        have x2 : q - (mid - s) = s ∨ Bef r (σ s) (σ (q - (mid - s))) := by
          by_cases e : q - (mid - s) = s
          · exact .inl e
          · exact .inr (h.l _ _ (by omega) (by omega) (by omega))
        rcases x1 with x1 | x1 <;> rcases x2 with x2 | x2
        · rw [x1, x2]; exact x
        · rw [x1]; exact x.trans x2
        · rw [x2]; exact x1.trans x
        · exact (x1.trans x).trans x2
      · rw [e4 q (by omega)]; exact h.u _ _ (by omega) (by omega) (by omega)
/-- both parts sorted: the whole is. -/
theorem srt_join {r : Nat → Int} {σ σ' : Nat → Nat} {a m b : Nat} (hx : ∀ p q, a ≤ p → p < m → m ≤ q → q < b → Bef r (σ p) (σ q)) (h1 : Rar a m σ σ') (hs : Srt r σ' a m) {σ'' : Nat → Nat} (h2 : Rar m b σ' σ'') (ht : Srt r σ'' m b) : Srt r σ'' a b := by
  have hx' : ∀ p q, a ≤ p → p < m → m ≤ q → q < b → Bef r (σ'' p) (σ'' q) := by
    intro p q p1 p2 q1 q2
    rw [h2.out (k := p) (by omega)]
    refine h2.all (Q := fun y => Bef r (σ' p) y) (fun k k1 k2 => ?_) q q1 q2
    rw [h1.out (k := k) (by omega)]
    exact h1.all (Q := fun y => Bef r y (σ k)) (fun i i1 i2 => hx i k i1 i2 k1 k2) p p1 p2
  intro i j i1 i2 i3
  by_cases e1 : j < m
  · rw [h2.out (k := i) (by omega), h2.out (k := j) (by omega)]; exact hs i j i1 i2 e1
  · by_cases e2 : m ≤ i
    · exact ht i j e2 i2 i3
    · exact hx' i j i1 (by omega) (by omega) i3
theorem Twp.same {r : Nat → Int} {σ σ' : Nat → Nat} {a m b : Nat} (h : Twp r σ a m b) (e : ∀ k, a ≤ k → k < b → σ' k = σ k) (hm : a ≤ m ∧ m ≤ b) : Twp r σ' a m b :=
  ⟨fun i j h1 h2 h3 => by rw [e i h1 (by omega), e j (by omega) (by omega)]; exact h.l i j h1 h2 h3, fun i j h1 h2 h3 => by rw [e i (by omega) (by omega), e j (by omega) h3]; exact h.u i j h1 h2 h3, fun p q h1 h2 h3 h4 => by rw [e p h1 (by omega), e q (by omega) h4]; exact h.x p q h1 h2 h3 h4⟩
/-- there is one order only. -/
theorem srt_one {r : Nat → Int} {n : Nat} {σ ρ : Nat → Nat} (h1 : Srt r σ 0 n) (p1 : Prm n σ) (h2 : Srt r ρ 0 n) (p2 : Prm n ρ) : ∀ j, j < n → σ j = ρ j := by
  intro j
  induction j using Nat.strongRecOn with
  | ind j ih =>
    intro hj
    by_cases e : σ j = ρ j
    · exact e
    · exfalso
      obtain ⟨i, i1, i2⟩ := p2.sur _ (p1.bd j hj)
      obtain ⟨k, k1, k2⟩ := p1.sur _ (p2.bd j hj)
      have hi : j < i := by
        rcases Nat.lt_trichotomy i j with x | x | x
        · have := ih i x i1; rw [i2] at this; have := p1.inj _ _ i1 hj this; omega
        · subst x; exact absurd i2.symm e
        · exact x
      have hk : j < k := by
        rcases Nat.lt_trichotomy k j with x | x | x
        · have := ih k x k1; rw [k2] at this; have := p2.inj _ _ hj k1 this; omega
        · subst x; exact absurd k2 e
        · exact x
      have b1 := h2 j i (Nat.zero_le _) hi i1
      have b2 := h1 j k (Nat.zero_le _) hk k1
      rw [i2] at b1
      rw [k2] at b2
      unfold Bef at b1 b2
      omega
end Go.Proofs.Ytmehihfdfpnfjaa
