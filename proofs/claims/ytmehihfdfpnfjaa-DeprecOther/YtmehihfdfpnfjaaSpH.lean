/- What symMergeCmpFunc of package slices does, all cases. -/
import Derived.Test.YtmehihfdfpnfjaaSpG
namespace Go.Proofs.Ytmehihfdfpnfjaa
open Go.RowKit Go.Sort
set_option linter.unusedVariables false
set_option linter.unusedSimpArgs false

theorem merge_end {r : Nat → Int} {σ τ ρ π : Nat → Nat} {a s e mid b : Nat} (h0 : Rar s e σ τ) (hs : a ≤ s ∧ e ≤ b ∧ a ≤ mid ∧ mid ≤ b) (hx : ∀ p q, a ≤ p → p < mid → mid ≤ q → q < b → Bef r (τ p) (τ q)) (h1 : Rar a mid τ ρ) (h2 : Srt r ρ a mid) (h3 : Rar mid b ρ π) (h4 : Srt r π mid b) : Rar a b σ π ∧ Srt r π a b :=
  ⟨((h0.wide hs.1 hs.2.1).trans (h1.wide (Nat.le_refl _) hs.2.2.2)).trans (h3.wide hs.2.2.1 (Nat.le_refl _)), srt_join hx h1 h2 h3 h4⟩
def RecH (P N c : Nat) (r : Nat → Int) (d : Nat) : Prop := ∀ (τ : Nat → Nat) (a m b : Nat) (W : World), b - a < d → a < m → m < b → b ≤ N → Twp r τ a m b → Prs W P N r τ → Calls Try.prog 80 #[.slice (some ⟨P, 0, none⟩) N c, .int .i64 a, .int .i64 m, .int .i64 b, cmpV] W (SortP P N r τ a b W)
end Go.Proofs.Ytmehihfdfpnfjaa
