/- Plain facts on lines of bytes, with no Go in sight: the words of a line, the notation of words, and that the words of their notation are these words. No conditions. -/
import Derived.Test.YtelahgmnkhkgkaaWdM
namespace Go.Proofs.Ytelahgmnkhkgkaa
set_option linter.unusedSimpArgs false
set_option linter.unusedVariables false

/-- the words of a line: the error, the words ahead of it (kind, text, offset), the offset of the problem. -/
def pre (w : Int × List UInt8 × Nat) (x : Int × List (Int × List UInt8 × Nat) × Nat) : Int × List (Int × List UInt8 × Nat) × Nat := (x.1, w :: x.2.1, x.2.2)
def cuF : Nat → List UInt8 → Nat → Int × List (Int × List UInt8 × Nat) × Nat
  | 0, _, _ => (0, [], 0)
  | _ + 1, [], _ => (0, [], 0)
  | n + 1, c :: r, a =>
    if (c.toNat : Int) = 32 then cuF n r (a + 1)
    else if (c.toNat : Int) = 35 then (0, [], 0)
    else if (woL (c :: r)).1 = 0 then pre ((woL (c :: r)).2.1, (woL (c :: r)).2.2.1, a) (cuF n ((c :: r).drop (woL (c :: r)).2.2.2) (a + (woL (c :: r)).2.2.2))
    else ((woL (c :: r)).1, [], a + (woL (c :: r)).2.2.2)
def cuV (l : List UInt8) (a : Nat) : Int × List (Int × List UInt8 × Nat) × Nat := cuF l.length l a
theorem wo_eta {l : List UInt8} (h : (woL l).1 = 0) : woL l = (0, (woL l).2.1, (woL l).2.2.1, (woL l).2.2.2) := by rw [← h]
theorem cuF_fuel : ∀ (m : Nat) (l : List UInt8) (a n : Nat), l.length ≤ m → m ≤ n → cuF n l a = cuF m l a
  | 0, l, a, n, h, _ => by
    have : l = [] := List.length_eq_zero_iff.1 (by omega)
    subst this
    cases n <;> rfl
  | m + 1, [], a, n, _, h => by
    obtain ⟨n, rfl⟩ : ∃ k, n = k + 1 := ⟨n - 1, by omega⟩
    rfl
  | m + 1, c :: r, a, n, h, h2 => by
    obtain ⟨n, rfl⟩ : ∃ k, n = k + 1 := ⟨n - 1, by omega⟩
    simp at h
    rw [cuF, cuF]
    split
    · exact cuF_fuel m r (a + 1) n h (by omega)
    · split
      · rfl
      · split
        · rename_i hw
          have := (woL_ok (wo_eta hw)).1
          rw [cuF_fuel m _ _ n (by rw [List.length_drop]; simp; omega) (by omega)]
        · rfl
theorem cuV_nil (a : Nat) : cuV [] a = (0, [], 0) := rfl
theorem cuV_blank {c : UInt8} {r : List UInt8} {a : Nat} (h : (c.toNat : Int) = 32) : cuV (c :: r) a = cuV r (a + 1) := by
  unfold cuV; simp only [List.length_cons]; rw [cuF, if_pos h]
theorem cuV_hash {c : UInt8} {r : List UInt8} {a : Nat} (h : (c.toNat : Int) = 35) : cuV (c :: r) a = (0, [], 0) := by
  unfold cuV; simp only [List.length_cons]; rw [cuF, if_neg (by omega), if_pos h]
theorem cuV_bad {c : UInt8} {r : List UInt8} {a : Nat} {e kd : Int} {S : List UInt8} {k : Nat} (h1 : (c.toNat : Int) ≠ 32) (h2 : (c.toNat : Int) ≠ 35) (h : woL (c :: r) = (e, kd, S, k)) (he : e ≠ 0) : cuV (c :: r) a = (e, [], a + k) := by
  unfold cuV; simp only [List.length_cons]; rw [cuF, if_neg h1, if_neg h2, h, if_neg he]
theorem cuV_word {l : List UInt8} {a : Nat} {kd : Int} {S : List UInt8} {k : Nat} (h : woL l = (0, kd, S, k)) : cuV l a = pre (kd, S, a) (cuV (l.drop k) (a + k)) := by
  cases l with
  | nil => simp [woL] at h
  | cons c r =>
    obtain ⟨q1, q2, _, _, q5⟩ := woL_ok h
    have := q5 c r rfl
    unfold cuV; simp only [List.length_cons]
    rw [cuF, if_neg this.1, if_neg this.2, h]
    simp only [if_true]
    rw [cuF_fuel ((c :: r).drop k).length _ _ r.length (Nat.le_refl _) (by rw [List.length_drop]; simp; omega)]
/-- a comment changes no word. -/
theorem cuV_comment (x : List UInt8) : ∀ (n : Nat) (l : List UInt8) (a : Nat), l.length ≤ n → (cuV l a).1 = 0 → cuV (l ++ 32 :: 35 :: x) a = (0, (cuV l a).2.1, 0) := by
  intro n
  induction n with
  | zero =>
    intro l a h _
    have : l = [] := List.length_eq_zero_iff.1 (by omega)
    subst this
    rw [List.nil_append, cuV_blank (by decide), cuV_hash (by decide)]; rfl
  | succ n ih =>
    intro l a h h0
    cases l with
    | nil => rw [List.nil_append, cuV_blank (by decide), cuV_hash (by decide)]; rfl
    | cons c r =>
      simp at h
      by_cases h1 : (c.toNat : Int) = 32
      · rw [cuV_blank h1] at h0
        rw [List.cons_append, cuV_blank h1, cuV_blank h1]
        exact ih r (a + 1) h h0
      · by_cases h2 : (c.toNat : Int) = 35
        · rw [List.cons_append, cuV_hash h2, cuV_hash h2]
        · by_cases hw : (woL (c :: r)).1 = 0
          · have hw' := wo_eta hw
            generalize (woL (c :: r)).2.1 = kd at hw'
            generalize (woL (c :: r)).2.2.1 = S at hw'
            generalize (woL (c :: r)).2.2.2 = k at hw'
            obtain ⟨q1, q2, _⟩ := woL_ok hw'
            have e1 := cuV_word (a := a) hw'
            have e2 := cuV_word (a := a) (woL_app (35 :: x) hw')
            rw [e1] at h0 ⊢
            rw [e2, List.drop_append_of_le_length q2]
            have := ih ((c :: r).drop k) (a + k) (by rw [List.length_drop]; simp; omega) h0
            rw [this]
            rfl
          · have e1 := cuV_bad (a := a) h1 h2 (show woL (c :: r) = ((woL (c :: r)).1, (woL (c :: r)).2.1, (woL (c :: r)).2.2.1, (woL (c :: r)).2.2.2) from rfl) hw
            rw [e1] at h0
            exact absurd h0 hw
/-- a word that Join takes. -/
def goodW (kd : Int) (S : List UInt8) : Prop := if kd = 3 then plainB S = true else woL S = (0, kd, S, S.length)
instance (kd : Int) (S : List UInt8) : Decidable (goodW kd S) := by unfold goodW; infer_instance
/-- its notation. -/
def noL (kd : Int) (S : List UInt8) : List UInt8 := if kd = 3 then quL S else S
theorem good_wo {kd : Int} {S : List UInt8} (h : goodW kd S) : woL (noL kd S) = (0, kd, S, (noL kd S).length) := by
  unfold goodW at h; unfold noL
  split
  · rename_i e; subst e; exact woL_quote (by simpa using h)
  · rename_i e; rw [if_neg e] at h; exact h
theorem wo_len {l : List UInt8} {kd : Int} {S : List UInt8} {k : Nat} (h : woL l = (0, kd, S, k)) (h3 : kd ≠ 3) : k ≤ 60 := by
  cases l with
  | nil => simp [woL] at h
  | cons c r =>
    rw [woL_cons] at h
    split at h
    · have := lim_ok h; omega
    · split at h
      · have := lim_ok h; omega
      · split at h
        · exact absurd (txW_ok h).2.2.1 h3
        · have := sgW_ok h
          have h2 : sgL (c :: r) ≤ 2 := by unfold sgL; split <;> (try split) <;> (try split) <;> omega
          omega
theorem good_len {kd : Int} {S : List UInt8} (h : goodW kd S) : (noL kd S).length ≤ 122 := by
  by_cases e : kd = 3
  · unfold goodW at h; rw [if_pos e] at h
    unfold noL; rw [if_pos e]; unfold quL
    unfold plainB at h; simp only [Bool.and_eq_true, decide_eq_true_eq] at h
    have := escL_len S
    simp; omega
  · have := wo_len (good_wo h) e; omega
theorem cuV_one {l : List UInt8} {kd : Int} {S : List UInt8} (a : Nat) (h : woL l = (0, kd, S, l.length)) : cuV l a = (0, [(kd, S, a)], 0) := by
  rw [cuV_word h]; simp [cuV_nil, pre]
theorem cuV_more {l : List UInt8} {kd : Int} {S : List UInt8} (a : Nat) (x : List UInt8) (h : woL l = (0, kd, S, l.length)) : cuV (l ++ 32 :: x) a = pre (kd, S, a) (cuV x (a + l.length + 1)) := by
  rw [cuV_word (woL_app x h)]; simp [cuV_blank (c := 32) (by decide)]
theorem cuV_first {e kd : Int} {S : List UInt8} {p o : Nat} {ws : List (Int × List UInt8 × Nat)} : ∀ (n : Nat) (l : List UInt8) (a : Nat), l.length ≤ n → cuV l a = (e, (kd, S, o) :: ws, p) → ∃ j k, o = a + j ∧ woL (l.drop j) = (0, kd, S, k) := by
  intro n
  induction n with
  | zero =>
    intro l a h h0
    have : l = [] := List.length_eq_zero_iff.1 (by omega)
    subst this
    rw [cuV_nil] at h0; simp at h0
  | succ n ih =>
    intro l a h h0
    cases l with
    | nil => rw [cuV_nil] at h0; simp at h0
    | cons c r =>
      simp at h
      by_cases h1 : (c.toNat : Int) = 32
      · rw [cuV_blank h1] at h0
        obtain ⟨j, k, q1, q2⟩ := ih r (a + 1) h h0
        exact ⟨j + 1, k, by omega, by simpa using q2⟩
      · by_cases h2 : (c.toNat : Int) = 35
        · rw [cuV_hash h2] at h0; simp at h0
        · by_cases hw : (woL (c :: r)).1 = 0
          · have hw' := wo_eta hw
            rw [cuV_word hw'] at h0
            unfold pre at h0
            simp only [Prod.mk.injEq, List.cons.injEq] at h0
            obtain ⟨_, ⟨⟨g1, g2, g3⟩, _⟩, _⟩ := h0
            exact ⟨0, (woL (c :: r)).2.2.2, by omega, by rw [g1, g2] at hw'; exact hw'⟩
          · rw [cuV_bad (a := a) h1 h2 (show woL (c :: r) = ((woL (c :: r)).1, (woL (c :: r)).2.1, (woL (c :: r)).2.2.1, (woL (c :: r)).2.2.2) from rfl) hw] at h0
            simp at h0
/-- the word is the only one of its notation. -/
theorem good_of {kd : Int} {S : List UInt8} {p o : Nat} {e : Int} {ws : List (Int × List UInt8 × Nat)} (hp : kd = 3 → plainB S = true) (h : cuV (noL kd S) 0 = (e, (kd, S, o) :: ws, p)) : goodW kd S := by
  unfold goodW
  by_cases h3 : kd = 3
  · rw [if_pos h3]; exact hp h3
  · rw [if_neg h3]
    unfold noL at h; rw [if_neg h3] at h
    obtain ⟨j, k, _, q⟩ := cuV_first S.length S 0 (Nat.le_refl _) h
    obtain ⟨r1, r2, _, r4, _⟩ := woL_ok q
    have r5 := (r4 h3).1
    have hl : S.length = min k (S.length - j) := by
      have := congrArg List.length r5
      rw [List.length_take, List.length_drop] at this; exact this
    rw [List.length_drop] at r2
    have hj : j = 0 := by omega
    subst hj
    have hk : k = S.length := by omega
    rw [hk] at q
    simpa using q
theorem good_cut {kd : Int} {S : List UInt8} (h : goodW kd S) : cuV (noL kd S) 0 = (0, [(kd, S, 0)], 0) := cuV_one 0 (good_wo h)
/-- the words of a line are good, lie at or behind a, and their offsets increase. -/
theorem cuV_goods : ∀ (n : Nat) (l : List UInt8) (a : Nat), l.length ≤ n → (∀ w ∈ (cuV l a).2.1, goodW w.1 w.2.1 ∧ a ≤ w.2.2) ∧ (cuV l a).2.1.Pairwise (fun v w => v.2.2 < w.2.2) ∧ (cuV l a).2.1.length ≤ l.length := by
  intro n
  induction n with
  | zero =>
    intro l a h
    have : l = [] := List.length_eq_zero_iff.1 (by omega)
    subst this
    rw [cuV_nil]; simp
  | succ n ih =>
    intro l a h
    cases l with
    | nil => rw [cuV_nil]; simp
    | cons c r =>
      simp at h
      by_cases h1 : (c.toNat : Int) = 32
      · rw [cuV_blank h1]
        obtain ⟨q1, q2, q3⟩ := ih r (a + 1) h
        exact ⟨fun w hw => ⟨(q1 w hw).1, by have := (q1 w hw).2; omega⟩, q2, by simp; omega⟩
      · by_cases h2 : (c.toNat : Int) = 35
        · rw [cuV_hash h2]; simp
        · by_cases hw : (woL (c :: r)).1 = 0
          · have hw' := wo_eta hw
            generalize (woL (c :: r)).2.1 = kd at hw'
            generalize (woL (c :: r)).2.2.1 = S at hw'
            generalize (woL (c :: r)).2.2.2 = k at hw'
            obtain ⟨r1, r2, r3, r4, _⟩ := woL_ok hw'
            rw [cuV_word hw']
            obtain ⟨q1, q2, q3⟩ := ih ((c :: r).drop k) (a + k) (by rw [List.length_drop]; simp; omega)
            have hg : goodW kd S := by
              unfold goodW; split
              · exact r3 (by assumption)
              · exact (r4 (by assumption)).2
            unfold pre
            refine ⟨fun w hw => ?_, ?_, ?_⟩
            · rcases List.mem_cons.1 hw with e | e
              · subst e; exact ⟨hg, Nat.le_refl _⟩
              · exact ⟨(q1 w e).1, by have := (q1 w e).2; omega⟩
            · exact List.pairwise_cons.2 ⟨fun w hw => by have := (q1 w hw).2; show a < w.2.2; omega, q2⟩
            · rw [List.length_drop] at q3; simp at q3 ⊢; omega
          · rw [cuV_bad (a := a) h1 h2 (show woL (c :: r) = ((woL (c :: r)).1, (woL (c :: r)).2.1, (woL (c :: r)).2.2.1, (woL (c :: r)).2.2.2) from rfl) hw]; simp
/-- the line of words. -/
def joL : List (Int × List UInt8 × Nat) → List UInt8
  | [] => []
  | [w] => noL w.1 w.2.1
  | w :: v :: r => noL w.1 w.2.1 ++ 32 :: joL (v :: r)
/-- the words with the offsets that they have in their line. -/
def ofL : Nat → List (Int × List UInt8 × Nat) → List (Int × List UInt8 × Nat)
  | _, [] => []
  | a, w :: r => (w.1, w.2.1, a) :: ofL (a + (noL w.1 w.2.1).length + 1) r
theorem cuV_join : ∀ (ws : List (Int × List UInt8 × Nat)) (a : Nat), (∀ w ∈ ws, goodW w.1 w.2.1) → cuV (joL ws) a = (0, ofL a ws, 0)
  | [], a, _ => rfl
  | [w], a, h => by
    rw [joL, cuV_one a (good_wo (h w (by simp)))]; rfl
  | w :: v :: r, a, h => by
    rw [joL, cuV_more a _ (good_wo (h w (by simp))), cuV_join (v :: r) _ (fun x hx => h x (by simp at hx ⊢; right; exact hx))]
    rfl
theorem ofL_len : ∀ (ws : List (Int × List UInt8 × Nat)) (a : Nat), (ofL a ws).length = ws.length
  | [], _ => rfl
  | w :: r, a => by simp [ofL, ofL_len r]
theorem ofL_get : ∀ (ws : List (Int × List UInt8 × Nat)) (a i : Nat) (h : i < ws.length) (h' : i < (ofL a ws).length), ((ofL a ws)[i]).1 = (ws[i]).1 ∧ ((ofL a ws)[i]).2.1 = (ws[i]).2.1
  | [], _, _, h, _ => absurd h (by simp)
  | w :: r, a, 0, _, _ => ⟨rfl, rfl⟩
  | w :: r, a, i + 1, h, h' => by
    simp only [ofL, List.getElem_cons_succ]
    exact ofL_get r _ i (by simpa using h) (by simpa [ofL_len] using h)
theorem joL_snoc (w : Int × List UInt8 × Nat) : ∀ (ws : List (Int × List UInt8 × Nat)), ws ≠ [] → joL (ws ++ [w]) = joL ws ++ 32 :: noL w.1 w.2.1
  | [], h => absurd rfl h
  | [v], _ => rfl
  | v :: u :: r, _ => by
    have := joL_snoc w (u :: r) (by simp)
    simp only [List.cons_append] at this ⊢
    rw [joL, this, joL]; simp
end Go.Proofs.Ytelahgmnkhkgkaa
