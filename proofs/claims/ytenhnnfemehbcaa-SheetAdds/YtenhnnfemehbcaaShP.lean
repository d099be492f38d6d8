/- The examples of package sheet: plain facts. -/
import Derived.Test.YtenhnnfemehbcaaShO
namespace Go.Proofs.Ytenhnnfemehbcaa
open Go.RowKit Go.Sort
set_option linter.unusedVariables false
set_option linter.unusedSimpArgs false

theorem lt_lit {a b : ByteArray} (h : Op.bytesLess a.data.toList b.data.toList = true) : cmpS a b = -1 := by
  unfold cmpS ltS
  rw [ByteArray.toList_eq, ByteArray.toList_eq, h]
  rfl
def t10 : ByteArray := ⟨#[49, 48]⟩
def t20 : ByteArray := ⟨#[50, 48]⟩
def t30 : ByteArray := ⟨#[51, 48]⟩
theorem key_lt {a b : ByteArray} (h : cmpS a b = -1) (m n : Int) : cmpK (ceL a m).1 (ceL b n).1 = -1 := by
  unfold cmpK
  show cmpL [⟨#[97]⟩, a, _, _, _] [⟨#[97]⟩, b, _, _, _] = -1
  unfold cmpL
  rw [if_pos (cmpS_eq.2 rfl)]
  unfold cmpL
  rw [if_neg (by omega), h]
theorem c1020 : cmpS t10 t20 = -1 := lt_lit (by decide)
theorem c1030 : cmpS t10 t30 = -1 := lt_lit (by decide)
theorem c2030 : cmpS t20 t30 = -1 := lt_lit (by decide)
def L5 : List Cl := [ceL t20 (-5), ceL t10 7, ceL t20 2, ceL t30 1, ceL t30 (-1)]
def S2 : List Cl := [ceL t10 7, ceL t20 (-3)]
def cA : Cl := ((⟨#[97]⟩, ⟨#[]⟩, ⟨#[]⟩, ⟨#[]⟩, ⟨#[]⟩), 4, 4)
theorem lv_grps : Grps [[ceL t10 7], [ceL t20 (-5), ceL t20 2], [ceL t30 1, ceL t30 (-1)]] := by
  refine ⟨by simp, ?_, ?_⟩
  · intro x hx c hc
    simp at hx
    rcases hx with rfl | rfl | rfl
    · simp at hc; subst hc; rfl
    · simp at hc; rcases hc with rfl | rfl <;> rfl
    · simp at hc; rcases hc with rfl | rfl <;> rfl
  · show List.Pairwise _ [(ceL t10 7).1, (ceL t20 (-5)).1, (ceL t30 1).1]
    have h1 := key_lt c1020 7 (-5)
    have h2 := key_lt c1030 7 1
    have h3 := key_lt c2030 (-5) 1
    simp [h1, h2, h3]
theorem lv_of : ofE L5 = 0 ∧ ofL L5 = S2 := by
  have hp : List.Perm [ceL t10 7, ceL t20 (-5), ceL t20 2, ceL t30 1, ceL t30 (-1)] L5 := List.Perm.swap _ _ _
  obtain ⟨h1, h2⟩ := of_perm hp
  obtain ⟨h3, h4⟩ := lv_grps.of
  rw [← h1, ← h2]
  have e : ([[ceL t10 7], [ceL t20 (-5), ceL t20 2], [ceL t30 1, ceL t30 (-1)]] : List (List Cl)).any badG = false := by decide
  rw [e] at h3 h4
  exact ⟨h3, h4⟩
theorem lv_right : rightB S2 = true := by
  refine right_ok fun i hi => ?_
  have hi : i < 2 := hi
  rcases (show i = 0 ∨ i = 1 by omega) with e | e <;> subst e
  · rfl
  · unfold okC
    have e1 : orC S2 1 = true := by
      unfold orC
      show (decide (1 = 0) || decide (cmpK (ceL t10 7).1 (ceL t20 (-3)).1 < 0)) = true
      rw [key_lt c1020]
      rfl
    rw [e1]
    rfl
theorem lv_fold : foE S2 1 = 0 ∧ foL S2 1 = [cA] := by
  have hb : foB S2 1 = true := by unfold foB; rw [lv_right]; rfl
  unfold foE foL
  rw [hb]
  have hm : S2.map (mskC 1) = [[((⟨#[97]⟩, ⟨#[]⟩, ⟨#[]⟩, ⟨#[]⟩, ⟨#[]⟩), 7, 7), ((⟨#[97]⟩, ⟨#[]⟩, ⟨#[]⟩, ⟨#[]⟩, ⟨#[]⟩), -3, -3)]].flatten := rfl
  rw [hm]
  have g : Grps [[(((⟨#[97]⟩, ⟨#[]⟩, ⟨#[]⟩, ⟨#[]⟩, ⟨#[]⟩), 7, 7) : Cl), ((⟨#[97]⟩, ⟨#[]⟩, ⟨#[]⟩, ⟨#[]⟩, ⟨#[]⟩), -3, -3)]] := by
    refine ⟨by simp, ?_, ?_⟩
    · intro x hx c hc
      simp at hx
      subst hx
      simp at hc; rcases hc with rfl | rfl <;> rfl
    · show List.Pairwise _ [_]
      simp
  obtain ⟨h3, h4⟩ := g.of
  have e : ([[(((⟨#[97]⟩, ⟨#[]⟩, ⟨#[]⟩, ⟨#[]⟩, ⟨#[]⟩), 7, 7) : Cl), ((⟨#[97]⟩, ⟨#[]⟩, ⟨#[]⟩, ⟨#[]⟩, ⟨#[]⟩), -3, -3)]] : List (List Cl)).any badG = false := by decide
  rw [e] at h3 h4
  exact ⟨h3, h4⟩
theorem lv_base : suV (baS S2) = 4 ∧ suE (baS S2) = 0 := by decide
theorem lv_cmp : cmpK (ceL t10 7).1 (ceL t20 (-3)).1 = -1 := key_lt c1020 _ _
theorem bd5 : BdS L5 := by
  intro c hc
  simp [L5] at hc
  rcases hc with rfl | rfl | rfl | rfl | rfl <;> simp [r64, ceL]
theorem bd2 : BdS S2 := by
  intro c hc
  simp [S2] at hc
  rcases hc with rfl | rfl <;> simp [r64, ceL]
end Go.Proofs.Ytenhnnfemehbcaa
