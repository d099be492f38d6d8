/- Keys of the maps of package fx; rates as cells. No conditions. -/
import Derived.Test.YtdeoplbdgbgimaaFxA
import Derived.Test.YtdeoplbdgbgimaaGrp
import Derived.Test.YtdeoplbdgbgimaaKys
import Derived.Test.YtdeoplbdgbgimaaShelf
namespace Go.Proofs.Ytdeoplbdgbgimaa
open Go.RowKit Go.Sort
set_option linter.unusedVariables false
set_option linter.unusedSimpArgs false

theorem laidOutP : laidOutB Try.prog = true := by kernel_rfl
def kvS (s : ByteArray × Int) : Value := .agg #[.string s.1, .int .i64 s.2]
def kvR (s : ByteArray × Int × Int) : Value := .agg #[.string s.1, .int .i64 s.2.1, .int .i64 s.2.2, .int .i64 0, .int .i64 0]
theorem kvS_inj (a b : ByteArray × Int) (h : kvS a = kvS b) : a = b := by
  obtain ⟨a1, a2⟩ := a
  obtain ⟨b1, b2⟩ := b
  simpa [kvS] using h
theorem kvR_inj (a b : ByteArray × Int × Int) (h : kvR a = kvR b) : a = b := by
  obtain ⟨a1, a2, a3⟩ := a
  obtain ⟨b1, b2, b3⟩ := b
  simpa [kvR] using h
theorem lawS : Go.WideMaps.KeyLaw Try.prog 63 := deep_law_laid laidOutP (m := 5) (by omega) (by decide +kernel) (by kernel_rfl) (by kernel_rfl)
theorem lawR : Go.WideMaps.KeyLaw Try.prog 51 := deep_law_laid laidOutP (m := 5) (by omega) (by decide +kernel) (by kernel_rfl) (by kernel_rfl)
theorem typesN : ∃ m, Try.prog.types.size + 1 = m + 4 := ⟨Try.prog.types.size - 3, by decide +kernel⟩
theorem cellsS : Try.prog.cellsOf 63 = 2 := by kernel_rfl
theorem cellsR : Try.prog.cellsOf 51 = 5 := by kernel_rfl
theorem cellsF : Try.prog.cellsOf 37 = 2 := by kernel_rfl
theorem cellsI : Try.prog.cellsOf 3 = 1 := by kernel_rfl
theorem cellsT : Try.prog.cellsOf 9 = 1 := by kernel_rfl
theorem keyS (s : ByteArray × Int) (h1 : s.1.size ≤ maxLen) (h2 : r64 s.2) : ∃ l, keyOf Try.prog 63 (kvS s) = some l := by
  obtain ⟨m, hm⟩ := typesN
  have e := keyOf_two (d := m + 2) hm Try.underlying63 (by kernel_rfl) rfl rfl rfl rfl cellsS cellsT cellsI (.string s.1) (.int .i64 s.2)
  rw [lits_str Try.underlying9 h1, lits_int Try.underlying3 (wf_r64 h2)] at e
  exact ⟨_, e⟩
theorem keyR (s : ByteArray × Int × Int) (h1 : s.1.size ≤ maxLen) (h2 : r64 s.2.1) (h3 : r64 s.2.2) : ∃ l, keyOf Try.prog 51 (kvR s) = some l := by
  obtain ⟨m, hm⟩ := typesN
  have hz : (Lit.int .i64 0).wf = true := by decide
  have e0 : Try.prog.keyLits (m + 3) 37 [.int .i64 0, .int .i64 0] = some ([.int .i64 0] ++ [.int .i64 0]) := by
    have e := lits_two (d := m + 2) Try.underlying37 rfl rfl rfl rfl cellsF cellsI cellsI (.int .i64 0) (.int .i64 0)
    rw [lits_int Try.underlying3 hz] at e
    exact e
  exact ⟨_, keyOf_four (d := m + 2) hm Try.underlying51 (by kernel_rfl) rfl rfl rfl rfl rfl rfl rfl rfl cellsR cellsT cellsI cellsI cellsF (.string s.1) (.int .i64 s.2.1) (.int .i64 s.2.2) (.int .i64 0) (.int .i64 0) (lits_str Try.underlying9 h1) (lits_int Try.underlying3 (wf_r64 h2)) (lits_int Try.underlying3 (wf_r64 h3)) e0⟩
theorem invS (key : Value) (kl : Lit) (h : keyOf Try.prog 63 key = some kl) : ∃ x, key = kvS x := by
  obtain ⟨m, hm⟩ := typesN
  obtain ⟨a, b, x, y, rfl, h1, h2⟩ := keyOf_two_inv (d := m + 2) hm Try.underlying63 (by kernel_rfl) rfl rfl rfl rfl cellsS cellsT cellsI h
  obtain ⟨s, rfl⟩ := lits_str_inv Try.underlying9 h1
  obtain ⟨n, rfl⟩ := lits_int_inv Try.underlying3 h2
  exact ⟨(s, n), rfl⟩
def rtC (r : Rt) : List Value := [.string r.1, .int .i64 r.2.1, .int .i64 r.2.2.1, .int .i64 r.2.2.2.1, .int .i64 r.2.2.2.2]
theorem rtC_len (r : Rt) : (rtC r).length = 5 := rfl
theorem rtC_one (r : Rt) : ∀ v ∈ rtC r, v.oneCell' = true := by
  intro v hv
  simp [rtC] at hv
  rcases hv with rfl | rfl | rfl | rfl | rfl <;> rfl
def ser (r : Rt) : ByteArray × Int := (r.1, r.2.1)
def slF (L : List Rt) (s : ByteArray × Int) : List Rt := L.filter (fun r => decide (ser r = s))
theorem slF_more {L : List Rt} {k : Nat} (hk : k < L.length) : slF (L.take (k + 1)) = fun t => if t = ser L[k] then slF (L.take k) (ser L[k]) ++ [L[k]] else slF (L.take k) t := by
  funext t
  unfold slF
  rw [List.take_succ_eq_append_getElem hk, List.filter_append]
  by_cases e : t = ser L[k]
  · subst e; simp
  · have e2 : ¬ ser L[k] = t := fun h => e h.symm
    rw [if_neg e]; simp [e2]
/-- booleans as elements of a map. -/
def blR : Value → Option (DataW Unit × List MemPlace)
  | .bool b => some (.lit (.bool b), [])
  | _ => none
def EB : Els Bool where
  enc := .bool
  dat := fun b => .lit (.bool b)
  rd := blR
  zero := false
  is := fun a => rfl
  inv := fun v z h => by
    unfold blR at h
    split at h
    · rename_i b; cases h; exact ⟨b, rfl, rfl⟩
    · cases h
  inj := fun a b h => by simpa using h
end Go.Proofs.Ytdeoplbdgbgimaa
