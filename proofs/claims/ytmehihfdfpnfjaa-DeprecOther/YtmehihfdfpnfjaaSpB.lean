/- Plain facts on sorting in blocks, with no Go in sight. -/
import Derived.Test.YtmehihfdfpnfjaaSpA
namespace Go.Proofs.Ytmehihfdfpnfjaa
set_option linter.unusedVariables false

/-- every block of s places is in order, and holds its own numbers. -/
structure Blk (r : Nat → Int) (σ : Nat → Nat) (n s : Nat) : Prop where
  srt : ∀ p q, p < q → q < n → p / s = q / s → Bef r (σ p) (σ q)
  blk : ∀ p, p < n → σ p / s = p / s
  prm : Prm n σ
/-- blocks of 20 below a are done, the rest is untouched. -/
structure Ph1 (r : Nat → Int) (σ : Nat → Nat) (n a : Nat) : Prop where
  a1 : a % 20 = 0 ∧ a ≤ n
  srt : ∀ p q, p < q → q < n → q < a → p / 20 = q / 20 → Bef r (σ p) (σ q)
  idn : ∀ p, a ≤ p → σ p = p
  blk : ∀ p, p < n → σ p / 20 = p / 20
  prm : Prm n σ
theorem ph1_start (r : Nat → Int) (n : Nat) : Ph1 r (fun k => k) n 0 :=
  ⟨by omega, fun p q h1 h2 h3 => by omega, fun _ _ => rfl, fun _ _ => rfl, ⟨fun _ h => h, fun _ _ _ _ h => h, fun k h => ⟨k, h, rfl⟩⟩⟩
theorem ph1_step {r : Nat → Int} {σ σ' : Nat → Nat} {n a : Nat} (h : Ph1 r σ n a) (hb : a + 20 ≤ n) (hr : Rar a (a + 20) σ σ') (hs : Srt r σ' a (a + 20)) : Ph1 r σ' n (a + 20) := by
  have h1 := h.a1
  refine ⟨by omega, fun p q x1 x2 x3 x4 => ?_, fun p x => by rw [hr.out (by omega)]; exact h.idn p (by omega), fun p x => ?_, hr.prm hb h.prm⟩
  · by_cases e : a ≤ p
    · exact hs p q e x1 x3
    · rw [hr.out (k := p) (by omega), hr.out (k := q) (by omega)]; exact h.srt p q x1 x2 (by omega) x4
  · by_cases e : a ≤ p ∧ p < a + 20
    · have := hr.all (Q := fun y => y / 20 = a / 20) (fun k k1 k2 => by rw [h.idn k k1]; omega) p e.1 e.2
      omega
    · rw [hr.out e]; exact h.blk p x
theorem ph1_end {r : Nat → Int} {σ σ' : Nat → Nat} {n a : Nat} (h : Ph1 r σ n a) (hb : n < a + 20) (hr : Rar a n σ σ') (hs : Srt r σ' a n) : Blk r σ' n 20 := by
  have h1 := h.a1
  refine ⟨fun p q x1 x2 x3 => ?_, fun p x => ?_, hr.prm (Nat.le_refl _) h.prm⟩
  · by_cases e : a ≤ p
    · exact hs p q e x1 x2
    · rw [hr.out (k := p) (by omega), hr.out (k := q) (by omega)]; exact h.srt p q x1 x2 (by omega) x3
  · by_cases e : a ≤ p ∧ p < n
    · have := hr.all (Q := fun y => y / 20 = a / 20) (fun k k1 k2 => by rw [h.idn k k1]; omega) p e.1 e.2
      omega
    · rw [hr.out e]; exact h.blk p x
/-- blocks of 2 s below a are done, the rest is in blocks of s. -/
structure Ph2 (r : Nat → Int) (σ : Nat → Nat) (n s a : Nat) : Prop where
  a1 : a % (2 * s) = 0 ∧ a ≤ n
  dn : ∀ p q, p < q → q < n → q < a → p / (2 * s) = q / (2 * s) → Bef r (σ p) (σ q)
  td : ∀ p q, a ≤ p → p < q → q < n → p / s = q / s → Bef r (σ p) (σ q)
  bl : ∀ p, a ≤ p → p < n → σ p / s = p / s
  b2 : ∀ p, p < n → σ p / (2 * s) = p / (2 * s)
  prm : Prm n σ
def Siz (s : Nat) : Prop := s = 20 ∨ s = 40 ∨ s = 80 ∨ s = 160
theorem ph2_start {r : Nat → Int} {σ : Nat → Nat} {n s : Nat} (hs : Siz s) (h : Blk r σ n s) : Ph2 r σ n s 0 := by
  refine ⟨by simp, fun p q x1 x2 x3 => by omega, fun p q x1 x2 x3 x4 => h.srt p q x2 x3 x4, fun p _ x => h.blk p x, fun p x => ?_, h.prm⟩
  have := h.blk p x
  rcases hs with rfl | rfl | rfl | rfl <;> omega
theorem ph2_two {r : Nat → Int} {σ : Nat → Nat} {n s a b : Nat} (hs : Siz s) (h : Ph2 r σ n s a) (hm : a + s < b) (hb : b ≤ n) (hb2 : b ≤ a + 2 * s) : Twp r σ a (a + s) b := by
  have h1 := h.a1
  refine ⟨fun i j x1 x2 x3 => h.td i j x1 x2 (by omega) ?_, fun i j x1 x2 x3 => h.td i j (by omega) x2 (by omega) ?_, fun p q x1 x2 x3 x4 => ?_⟩
  · rcases hs with rfl | rfl | rfl | rfl <;> omega
  · rcases hs with rfl | rfl | rfl | rfl <;> omega
  · have e1 := h.bl p x1 (by omega)
    have e2 := h.bl q (by omega) (by omega)
    rcases hs with rfl | rfl | rfl | rfl <;> omega
theorem ph2_step {r : Nat → Int} {σ σ' : Nat → Nat} {n s a : Nat} (hs : Siz s) (h : Ph2 r σ n s a) (hb : a + 2 * s ≤ n) (hr : Rar a (a + 2 * s) σ σ') (ht : Srt r σ' a (a + 2 * s)) : Ph2 r σ' n s (a + 2 * s) := by
  have h1 := h.a1
  refine ⟨⟨?_, hb⟩, fun p q x1 x2 x3 x4 => ?_, fun p q x1 x2 x3 x4 => ?_, fun p x1 x2 => ?_, fun p x => ?_, hr.prm hb h.prm⟩
  · rcases hs with rfl | rfl | rfl | rfl <;> omega
  · by_cases e : a ≤ p
    · exact ht p q e x1 x3
    · have : ¬ a ≤ q := by rcases hs with rfl | rfl | rfl | rfl <;> omega
      rw [hr.out (k := p) (by omega), hr.out (k := q) (by omega)]; exact h.dn p q x1 x2 (by omega) x4
  · rw [hr.out (k := p) (by omega), hr.out (k := q) (by omega)]; exact h.td p q (by omega) x2 x3 x4
  · rw [hr.out (k := p) (by omega)]; exact h.bl p (by omega) x2
  · by_cases e : a ≤ p ∧ p < a + 2 * s
    · have := hr.all (Q := fun y => y / (2 * s) = a / (2 * s)) (fun k k1 k2 => by rw [h.b2 k (by omega)]; rcases hs with rfl | rfl | rfl | rfl <;> omega) p e.1 e.2
      rcases hs with rfl | rfl | rfl | rfl <;> omega
    · rw [hr.out e]; exact h.b2 p x
theorem ph2_tail {r : Nat → Int} {σ σ' : Nat → Nat} {n s a : Nat} (hs : Siz s) (h : Ph2 r σ n s a) (hb : n < a + 2 * s) (hr : Rar a n σ σ') (ht : Srt r σ' a n) : Blk r σ' n (2 * s) := by
  have h1 := h.a1
  refine ⟨fun p q x1 x2 x4 => ?_, fun p x => ?_, hr.prm (Nat.le_refl _) h.prm⟩
  · by_cases e : a ≤ p
    · exact ht p q e x1 x2
    · have : ¬ a ≤ q := by rcases hs with rfl | rfl | rfl | rfl <;> omega
      rw [hr.out (k := p) (by omega), hr.out (k := q) (by omega)]; exact h.dn p q x1 x2 (by omega) x4
  · by_cases e : a ≤ p ∧ p < n
    · have := hr.all (Q := fun y => y / (2 * s) = a / (2 * s)) (fun k k1 k2 => by rw [h.b2 k (by omega)]; rcases hs with rfl | rfl | rfl | rfl <;> omega) p e.1 e.2
      rcases hs with rfl | rfl | rfl | rfl <;> omega
    · rw [hr.out e]; exact h.b2 p x
theorem ph2_none {r : Nat → Int} {σ : Nat → Nat} {n s a : Nat} (hs : Siz s) (h : Ph2 r σ n s a) (hb : n ≤ a + s) : Blk r σ n (2 * s) :=
  ph2_tail hs h (by rcases hs with rfl | rfl | rfl | rfl <;> omega) (Rar.refl _ _ _) fun p q x1 x2 x3 => h.td p q x1 x2 x3 (by have := h.a1; rcases hs with rfl | rfl | rfl | rfl <;> omega)
theorem blk_end {r : Nat → Int} {σ : Nat → Nat} {n s : Nat} (h : Blk r σ n s) (hn : n ≤ s) : Srt r σ 0 n ∧ Prm n σ :=
  ⟨fun p q _ x1 x2 => h.srt p q x1 x2 (by rw [Nat.div_eq_of_lt (by omega), Nat.div_eq_of_lt (by omega)]), h.prm⟩
theorem siz_two {s n : Nat} (h : Siz s) (hn : n ≤ 200) (hs : 2 * s < n) : Siz (2 * s) := by unfold Siz at *; omega
end Go.Proofs.Ytmehihfdfpnfjaa
