/- What Even of package split returns, Same of package accountingref08, many of package accountinglaw08. -/
import Derived.Test.YtmehihfdfpnfjaaSpP
namespace Go.Proofs.Ytmehihfdfpnfjaa
open Go.RowKit Go.Sort
set_option linter.unusedVariables false
set_option linter.unusedSimpArgs false

theorem ShP.lower {x : Int} {zs : List Int} {w w1 : World} {e : Ending} {w' : World} (h : ShP x zs w1 e w') (hb : Below w.heap.size w w1) : ShP x zs w e w' := by
  refine ⟨?_, hb.trans (h.2.mono hb.size)⟩
  rcases h.1 with q | ⟨q, P, σ, q1, q2, q3⟩
  · exact .inl q
  · exact .inr ⟨q, P, σ, q1, Nat.le_trans hb.size q2, q3⟩
theorem row_ones {w : World} {L n : Nat} (h : PaV w L n (fun _ => .int .i64 1)) : Row w (some ⟨L, 0, none⟩) (List.replicate n 1) := by
  refine ⟨fun _ => ⟨L, 0, rfl, h.1, fun k hk => ?_⟩, fun z hz => ?_⟩
  · have := (h.2 k (by simpa using hk)).1
    simpa using this
  · have := List.eq_of_mem_replicate hz
    omega
end Go.Proofs.Ytmehihfdfpnfjaa
