/- What keys that are structs read as: for any program. No conditions. -/
import Derived.Test.YtdeoplbdgbgimaaQs
import Derived.DeepKeys4
namespace Go.Proofs.Ytdeoplbdgbgimaa
open Go.RowKit
set_option linter.unusedVariables false
set_option linter.unusedSimpArgs false

section
variable {P : Program} {k : TypeId}
theorem lits_str {d : Nat} {t : TypeId} (u : P.underlying t = some .string) {s : ByteArray} (h : s.size ≤ maxLen) : P.keyLits (d + 1) t [.string s] = some [.string s.data.toList] := by
  unfold Program.keyLits; rw [u]; simp [h]
theorem lits_int {d : Nat} {t : TypeId} (u : P.underlying t = some (.int .i64)) {n : Int} (h : (Lit.int .i64 n).wf = true) : P.keyLits (d + 1) t [.int .i64 n] = some [.int .i64 n] := by
  unfold Program.keyLits; rw [u]; simp [h]
theorem lits_str_inv {d : Nat} {t : TypeId} (u : P.underlying t = some .string) {v : Value} {l : List Lit} (h : P.keyLits (d + 1) t [v] = some l) : ∃ s, v = .string s := by
  unfold Program.keyLits at h; rw [u] at h
  cases v <;> simp at h
  exact ⟨_, rfl⟩
theorem lits_int_inv {d : Nat} {t : TypeId} (u : P.underlying t = some (.int .i64)) {v : Value} {l : List Lit} (h : P.keyLits (d + 1) t [v] = some l) : ∃ n, v = .int .i64 n := by
  unfold Program.keyLits at h; rw [u] at h
  cases v <;> simp at h
  obtain ⟨⟨h, _⟩, _⟩ := h
  subst h
  exact ⟨_, rfl⟩
theorem lits_two {d : Nat} {f0 f1 : Field} (u : P.underlying k = some (.struct #[f0, f1])) (n0 : (f0.name != "_") = true) (n1 : (f1.name != "_") = true) (o0 : f0.offset = 0) (o1 : f1.offset = 1) (c : P.cellsOf k = 2) (c0 : P.cellsOf f0.type = 1) (c1 : P.cellsOf f1.type = 1) (a b : Value) :
    P.keyLits (d + 1) k [a, b] = (do let x ← P.keyLits d f0.type [a]; let y ← P.keyLits d f1.type [b]; some (x ++ y)) := by
  conv => lhs; unfold Program.keyLits
  rw [u]
  simp only [List.length_cons, List.length_nil, c, o0, o1, c0, c1]
  have : (#[f0, f1] : Array Field).all (fun x => x.name != "_") = true := by simp only [List.all_toArray, List.all_cons, n0, n1, List.all_nil]; rfl
  rw [if_pos ⟨by simp, this⟩]
  cases h1 : P.keyLits d f0.type [a] <;> cases h2 : P.keyLits d f1.type [b] <;> simp [o0, o1, c0, c1, h1, h2]
theorem keyOf_two {d : Nat} {f0 f1 : Field} (hm : P.types.size + 1 = d + 2) (u : P.underlying k = some (.struct #[f0, f1])) (kt : P.keyType k = true) (n0 : (f0.name != "_") = true) (n1 : (f1.name != "_") = true) (o0 : f0.offset = 0) (o1 : f1.offset = 1) (c : P.cellsOf k = 2) (c0 : P.cellsOf f0.type = 1) (c1 : P.cellsOf f1.type = 1) (a b : Value) :
    keyOf P k (.agg #[a, b]) = (do let x ← P.keyLits (d + 1) f0.type [a]; let y ← P.keyLits (d + 1) f1.type [b]; some (.string (keyBytes (x ++ y)))) := by
  unfold keyOf
  rw [u]
  have hf : (Value.agg #[a, b]).formed P k = true := by simp [Value.formed, u, c]
  simp only [kt, hf, Bool.true_and, if_true, hm]
  show Option.map _ (P.keyLits (d + 1 + 1) k [a, b]) = _
  rw [lits_two u n0 n1 o0 o1 c c0 c1]
  cases h1 : P.keyLits (d + 1) f0.type [a] <;> cases h2 : P.keyLits (d + 1) f1.type [b] <;> rfl
theorem keyOf_two_inv {d : Nat} {f0 f1 : Field} (hm : P.types.size + 1 = d + 2) (u : P.underlying k = some (.struct #[f0, f1])) (kt : P.keyType k = true) (n0 : (f0.name != "_") = true) (n1 : (f1.name != "_") = true) (o0 : f0.offset = 0) (o1 : f1.offset = 1) (c : P.cellsOf k = 2) (c0 : P.cellsOf f0.type = 1) (c1 : P.cellsOf f1.type = 1) {key : Value} {kl : Lit} (h : keyOf P k key = some kl) :
    ∃ a b x y, key = .agg #[a, b] ∧ P.keyLits (d + 1) f0.type [a] = some x ∧ P.keyLits (d + 1) f1.type [b] = some y := by
  have hf : key.formed P k = true := by
    unfold keyOf at h
    rw [u] at h
    simp only [kt, Bool.true_and] at h
    split at h
    · assumption
    · cases h
  cases key <;> simp [Value.formed, u] at hf
  rename_i cs
  rw [c] at hf
  obtain ⟨l⟩ := cs
  match l, hf with
  | [a, b], _ =>
    clear hf
    rw [keyOf_two hm u kt n0 n1 o0 o1 c c0 c1] at h
    cases h1 : P.keyLits (d + 1) f0.type [a] with
    | none => rw [h1] at h; cases h
    | some x =>
      cases h2 : P.keyLits (d + 1) f1.type [b] with
      | none => rw [h1, h2] at h; cases h
      | some y => exact ⟨a, b, x, y, rfl, h1, h2⟩
theorem lits_four {d : Nat} {f0 f1 f2 f3 : Field} (u : P.underlying k = some (.struct #[f0, f1, f2, f3])) (n0 : (f0.name != "_") = true) (n1 : (f1.name != "_") = true) (n2 : (f2.name != "_") = true) (n3 : (f3.name != "_") = true) (o0 : f0.offset = 0) (o1 : f1.offset = 1) (o2 : f2.offset = 2) (o3 : f3.offset = 3) (c : P.cellsOf k = 5) (c0 : P.cellsOf f0.type = 1) (c1 : P.cellsOf f1.type = 1) (c2 : P.cellsOf f2.type = 1) (c3 : P.cellsOf f3.type = 2) (a b x y z : Value) {la lb lx ly : List Lit}
    (h1 : P.keyLits d f0.type [a] = some la) (h2 : P.keyLits d f1.type [b] = some lb) (h3 : P.keyLits d f2.type [x] = some lx) (h4 : P.keyLits d f3.type [y, z] = some ly) :
    P.keyLits (d + 1) k [a, b, x, y, z] = some (la ++ (lb ++ (lx ++ ly))) := by
  conv => lhs; unfold Program.keyLits
  rw [u]
  simp only [List.length_cons, List.length_nil, c, o0, o1, o2, o3, c0, c1, c2, c3]
  have : (#[f0, f1, f2, f3] : Array Field).all (fun x => x.name != "_") = true := by simp only [List.all_toArray, List.all_cons, n0, n1, n2, n3, List.all_nil]; rfl
  rw [if_pos ⟨by simp, this⟩]
  simp [o0, o1, o2, o3, c0, c1, c2, c3, h1, h2, h3, h4]
theorem keyOf_four {d : Nat} {f0 f1 f2 f3 : Field} (hm : P.types.size + 1 = d + 2) (u : P.underlying k = some (.struct #[f0, f1, f2, f3])) (kt : P.keyType k = true) (n0 : (f0.name != "_") = true) (n1 : (f1.name != "_") = true) (n2 : (f2.name != "_") = true) (n3 : (f3.name != "_") = true) (o0 : f0.offset = 0) (o1 : f1.offset = 1) (o2 : f2.offset = 2) (o3 : f3.offset = 3) (c : P.cellsOf k = 5) (c0 : P.cellsOf f0.type = 1) (c1 : P.cellsOf f1.type = 1) (c2 : P.cellsOf f2.type = 1) (c3 : P.cellsOf f3.type = 2) (a b x y z : Value) {la lb lx ly : List Lit}
    (h1 : P.keyLits (d + 1) f0.type [a] = some la) (h2 : P.keyLits (d + 1) f1.type [b] = some lb) (h3 : P.keyLits (d + 1) f2.type [x] = some lx) (h4 : P.keyLits (d + 1) f3.type [y, z] = some ly) :
    keyOf P k (.agg #[a, b, x, y, z]) = some (.string (keyBytes (la ++ (lb ++ (lx ++ ly))))) := by
  unfold keyOf
  rw [u]
  have hf : (Value.agg #[a, b, x, y, z]).formed P k = true := by simp [Value.formed, u, c]
  simp only [kt, hf, Bool.true_and, if_true, hm]
  show Option.map _ (P.keyLits (d + 1 + 1) k [a, b, x, y, z]) = _
  rw [lits_four u n0 n1 n2 n3 o0 o1 o2 o3 c c0 c1 c2 c3 a b x y z h1 h2 h3 h4]
  rfl
end
end Go.Proofs.Ytdeoplbdgbgimaa
