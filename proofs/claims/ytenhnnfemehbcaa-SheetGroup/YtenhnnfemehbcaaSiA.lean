/- Slices of keys that the call owns; a key put into its place. Plain facts. -/
import Derived.Test.YtenhnnfemehbcaaShX
namespace Go.Proofs.Ytenhnnfemehbcaa
open Go.RowKit
set_option linter.unusedVariables false
set_option linter.unusedSimpArgs false

theorem kyC_len (k : Ky) : (kyC k).length = 5 := rfl
theorem kyC_one (k : Ky) : ∀ v ∈ kyC k, v.oneCell' = true := by
  intro v hv
  simp [kyC] at hv
  rcases hv with rfl | rfl | rfl | rfl | rfl <;> rfl
theorem flatK_at : ∀ (K : List Ky) (i j : Nat) (hi : i < K.length) (v : Value), (kyC K[i])[j]? = some v → (K.flatMap kyC)[i * 5 + j]? = some v
  | x :: L, 0, j, _, v, hv => by
    rw [List.flatMap_cons, Nat.zero_mul, Nat.zero_add]
    have hj : j < (kyC x).length := (List.getElem?_eq_some_iff.1 hv).1
    rw [List.getElem?_append_left hj]
    exact hv
  | x :: L, i + 1, j, hi, v, hv => by
    rw [List.flatMap_cons, List.getElem?_append_right (by rw [kyC_len]; omega), kyC_len, show (i + 1) * 5 + j - 5 = i * 5 + j by omega]
    exact flatK_at L i j (by simpa using hi) v hv
theorem flatK_len : ∀ K : List Ky, (K.flatMap kyC).length = K.length * 5
  | [] => rfl
  | x :: L => by rw [List.flatMap_cons, List.length_append, flatK_len L, kyC_len, List.length_cons]; omega
theorem flatK_set : ∀ (K : List Ky) (k : Nat) (hk : k < K.length) (a1 a2 a3 a4 a5 : ByteArray),
    (((((K.flatMap kyC).set (k * 5) (.string a1)).set (k * 5 + 1) (.string a2)).set (k * 5 + 2) (.string a3)).set (k * 5 + 3) (.string a4)).set (k * 5 + 4) (.string a5) = (K.set k (a1, a2, a3, a4, a5)).flatMap kyC
  | x :: L, 0, _, a1, a2, a3, a4, a5 => by
    rw [List.set_cons_zero, List.flatMap_cons, List.flatMap_cons]
    rfl
  | x :: L, k + 1, hk, a1, a2, a3, a4, a5 => by
    have ih := flatK_set L k (by simpa using hk) a1 a2 a3 a4 a5
    rw [List.set_cons_succ, List.flatMap_cons, List.flatMap_cons, ← ih]
    have e : ∀ (F : List Value) (n : Nat) (v : Value), (kyC x ++ F).set (n + 5) v = kyC x ++ F.set n v := fun F n v => by
      rw [List.set_append_right _ _ (by rw [kyC_len]; omega), kyC_len, Nat.add_sub_cancel]
    rw [show (k + 1) * 5 = k * 5 + 5 by omega, show k * 5 + 5 + 1 = k * 5 + 1 + 5 by omega, show k * 5 + 5 + 2 = k * 5 + 2 + 5 by omega, show k * 5 + 5 + 3 = k * 5 + 3 + 5 by omega, show k * 5 + 5 + 4 = k * 5 + 4 + 5 by omega, e, e, e, e, e]
/-- keys that the call owns. -/
def OwnK (w : World) (base : Nat) (v : Value) (K : List Ky) : Prop := w.ownsRow base 23 5 v K.length (K.flatMap kyC)
theorem OwnK.nil (w : World) (base : Nat) : OwnK w base (.slice none 0 0) [] := World.ownsRow_nil w base _ 5
theorem OwnK.below {w w' : World} {base : Nat} {v : Value} {K : List Ky} (h : OwnK w base v K) (hb : Below w.heap.size w w') : OwnK w' base v K :=
  World.ownsRow.kept h (row := none) ⟨hb.os, hb.tape, hb.output, hb.size, fun k hk _ => hb.block k hk⟩ (by
    cases e : v.ownBlock
    · exact .inl rfl
    · exact .inr (by simp))
theorem OwnK.shape {w : World} {base : Nat} {v : Value} {K : List Ky} (h : OwnK w base v K) : ∃ ao cap, v = .slice ao K.length cap ∧ (0 < K.length → ∃ g, ao = some ⟨g, 0, none⟩ ∧ base ≤ g ∧ g < w.heap.size) := by
  rcases h.2 with ⟨rfl, n⟩ | ⟨g, cap, cur, rfl, hb, hg, h1, h2, _, _⟩
  · rw [n]
    exact ⟨none, 0, rfl, fun h => absurd h (by omega)⟩
  · exact ⟨_, cap, rfl, fun _ => ⟨g, rfl, hb, lt_of_block hg⟩⟩
/-- the five values of the key i, none of them frozen. -/
theorem OwnK.at {w : World} {base g n cap : Nat} {K : List Ky} (h : OwnK w base (.slice (some ⟨g, 0, none⟩) n cap) K) {i : Nat} (hi : i < K.length) (j : Nat) (v : Value) (hv : (kyC K[i])[j]? = some v) :
    w.cell? ⟨g, i * 5 + j, none⟩ = some v ∧ w.frozen? ⟨g, i * 5 + j, none⟩ = false := by
  have hn : n = K.length := by
    obtain ⟨_, _, e, _⟩ := h.shape
    injection e
  subst hn
  have hj : j < 5 := (List.getElem?_eq_some_iff.1 hv).1
  exact ⟨(World.ownsRow.cellAt h (i * 5 + j) (by have : (i + 1) * 5 ≤ K.length * 5 := Nat.mul_le_mul_right 5 hi; omega)).trans (flatK_at K i j hi v hv), World.ownsRow.frozenAt h _⟩
theorem OwnK.set {w : World} {base g n cap : Nat} {K : List Ky} (h : OwnK w base (.slice (some ⟨g, 0, none⟩) n cap) K) {k : Nat} (hk : k < K.length) (a1 a2 a3 a4 a5 : ByteArray) :
    OwnK (((((w.setCell ⟨g, k * 5, none⟩ (.string a1)).setCell ⟨g, k * 5 + 1, none⟩ (.string a2)).setCell ⟨g, k * 5 + 2, none⟩ (.string a3)).setCell ⟨g, k * 5 + 3, none⟩ (.string a4)).setCell ⟨g, k * 5 + 4, none⟩ (.string a5)) base (.slice (some ⟨g, 0, none⟩) n cap) (K.set k (a1, a2, a3, a4, a5)) := by
  have hn : n = K.length := by
    obtain ⟨_, _, e, _⟩ := h.shape
    injection e
  subst hn
  have q := (((((World.ownsRow.stored h (k * 5) (.string a1)).1).stored (k * 5 + 1) (.string a2)).1.stored (k * 5 + 2) (.string a3)).1.stored (k * 5 + 3) (.string a4)).1.stored (k * 5 + 4) (.string a5)
  have e := flatK_set K k hk a1 a2 a3 a4 a5
  unfold OwnK
  rw [List.length_set, ← e]
  exact q.1
theorem und_keys : Try.prog.underlying 64 = some (.slice 23) := by kernel_rfl
theorem inf_key : (Try.prog.info? 23).map (fun i => (i.zero, i.size, i.bytes)) = some (some (.agg #[.string ⟨#[]⟩, .string ⟨#[]⟩, .string ⟨#[]⟩, .string ⟨#[]⟩, .string ⟨#[]⟩]), 5, 80) := by kernel_rfl
theorem row_key (w : World) (x : Ky) (t : TypeId) : ∀ j u, (kyC x)[j]? = some u → (w.alloc (Obj.cells (kyC x).toArray t)).cell? ((⟨w.heap.size, 0, none⟩ : Addr).add j) = some u := by
  intro j u hj
  rw [addr_is, World.cell?_alloc_at _ _ _ _ rfl, Nat.zero_add]
  simpa using hj
/-- one key appended. -/
theorem wpList_key {w : World} {ops : Array Oper} {rest : List Oper} {o : Oper} {a : Act} {Q : Exit → Act → World → Prop} (hgd : o.guard = none) (s x : Operand)
    (ho : o.op = .call { callee := .builtin .append, args := #[s, x], argTypes := #[64, 64] })
    (base : Nat) (v : Value) (L : List Ky) (y : Ky) (hs : a.eval s = v) (hown : OwnK w base v L) (ad : Addr) (c : Nat) (hx : a.eval x = .slice (some ad) 1 c) (hc : ∀ j u, (kyC y)[j]? = some u → w.cell? (ad.add j) = some u)
    (hl : L.length < 10000) (hbase : base ≤ w.heap.size)
    (h : ∀ v' w', OwnK w' base v' (L ++ [y]) → Below base w w' → wpList Try.prog ops Q rest (a.put o.dst v') w') : wpList Try.prog ops Q (o :: rest) a w := by
  obtain ⟨i0, hi, hz0, hz1, hz2⟩ := info_parts inf_key
  refine wpList_append_own_at w hgd s x _ ho base 23 i0 _ 5 80 und_keys hi hz0 hz1 hz2 rfl (by decide) v L.length (L.flatMap kyC) hs hown ad 1 c (kyC y) hx rfl hc (kyC_one y) (by unfold maxLen; omega) (by omega) hbase ?_
  intro v' w' h1 h2 _ _
  refine h v' w' ?_ ?_
  · unfold OwnK
    rw [List.length_append, List.flatMap_append]
    simpa using h1
  · refine (Below.refl base w).grown h2 hbase (fun k hk => ?_)
    exact (hown.lt k hk).1
/-! a key put into its place -/
theorem keys_take {L : List Cl} {i : Nat} (h : i < L.length) : keysK (L.take (i + 1)) = insK L[i].1 (keysK (L.take i)) := by
  refine KeysOf.uniq (L := L.take (i + 1)) (L' := L[i] :: L.take i) (keysK_of _) (keysK_of (L[i] :: L.take i)) (fun k => ?_)
  rw [List.take_succ_eq_append_getElem h]
  constructor
  · rintro ⟨c, hc, e⟩
    rcases List.mem_append.1 hc with q | q
    · exact ⟨c, List.mem_cons_of_mem _ q, e⟩
    · exact ⟨c, by rw [List.mem_singleton.1 q]; exact List.mem_cons_self, e⟩
  · rintro ⟨c, hc, e⟩
    rcases List.mem_cons.1 hc with q | q
    · exact ⟨c, List.mem_append_right _ (by rw [q]; exact List.mem_singleton.2 rfl), e⟩
    · exact ⟨c, List.mem_append_left _ q, e⟩
theorem ins_same {q : Ky} : ∀ {K : List Ky}, Inc K → q ∈ K → insK q K = K
  | [], _, h => absurd h (by simp)
  | a :: x, hI, h => by
    obtain ⟨p1, p2⟩ := List.pairwise_cons.1 hI
    unfold insK
    rcases List.mem_cons.1 h with e | e
    · subst e
      rw [cmpK_self, if_neg (by omega), if_pos rfl]
    · have h1 := p1 q e
      have h2 := cmpK_swap a q
      rw [if_neg (by omega), if_neg (by omega), ins_same p2 e]
theorem ins_at {q : Ky} : ∀ {K : List Ky} {k : Nat}, k ≤ K.length → (∀ j, (h : j < K.length) → j < k → cmpK K[j] q < 0) → (∀ j, (h : j < K.length) → k ≤ j → 0 < cmpK K[j] q) → insK q K = K.take k ++ q :: K.drop k
  | [], k, _, _, _ => by simp [insK]
  | a :: x, 0, _, _, h2 => by
    have h := h2 0 (by simp) (Nat.le_refl _)
    have h3 := cmpK_swap q a
    have h4 : (a :: x)[0] = a := rfl
    rw [h4] at h
    unfold insK
    rw [if_pos (by omega)]
    rfl
  | a :: x, k + 1, hk, h1, h2 => by
    have h := h1 0 (by simp) (by omega)
    have h4 : (a :: x)[0] = a := rfl
    rw [h4] at h
    have h3 := cmpK_swap q a
    unfold insK
    rw [if_neg (by omega), if_neg (by omega), ins_at (K := x) (k := k) (by simpa using hk) (fun j hj hjk => h1 (j + 1) (by simpa using hj) (by omega)) (fun j hj hjk => h2 (j + 1) (by simpa using hj) (by omega))]
    rfl
/-- in increasing keys: those ahead of one that is not greater. -/
theorem inc_ahead {K : List Ky} (hI : Inc K) {q : Ky} {k : Nat} (hk : k < K.length) (h : cmpK K[k] q ≤ 0) : ∀ j, (hj : j < K.length) → j < k → cmpK K[j] q < 0 := fun j hj hjk =>
  cmpK_lt (List.pairwise_iff_getElem.1 hI j k hj hk hjk) h
/-- the row while keys are shifted: the place j is free. -/
def shfK (K : List Ky) (j : Nat) (z : Ky) : List Ky := K.take j ++ z :: K.drop j
theorem shf_len (K : List Ky) (j : Nat) (z : Ky) : (shfK K j z).length = K.length + 1 := by
  unfold shfK
  rw [List.length_append, List.length_cons, List.length_take, List.length_drop]
  omega
theorem shf_last (K : List Ky) (z : Ky) : K ++ [z] = shfK K K.length z := by
  unfold shfK
  rw [List.take_length, List.drop_length]
theorem shf_before {K : List Ky} {j : Nat} (hj : j < K.length) (z : Ky) : (shfK K (j + 1) z)[j]'(by rw [shf_len]; omega) = K[j] := by
  unfold shfK
  rw [List.getElem_append_left (by rw [List.length_take]; omega), List.getElem_take]
theorem shf_step {K : List Ky} {j : Nat} (hj : j < K.length) (z : Ky) : (shfK K (j + 1) z).set (j + 1) K[j] = shfK K j K[j] := by
  unfold shfK
  rw [List.set_append_right _ _ (by rw [List.length_take]; omega), List.length_take, show j + 1 - min (j + 1) K.length = 0 by omega, List.set_cons_zero, List.take_succ_eq_append_getElem hj, List.append_assoc]
  congr 1
  show K[j] :: K[j] :: K.drop (j + 1) = K[j] :: K.drop j
  rw [← List.drop_eq_getElem_cons hj]
theorem shf_put {K : List Ky} {k : Nat} (hk : k ≤ K.length) (z q : Ky) : (shfK K k z).set k q = K.take k ++ q :: K.drop k := by
  unfold shfK
  rw [List.set_append_right _ _ (by rw [List.length_take]; omega), List.length_take, show k - min k K.length = 0 by omega, List.set_cons_zero]
end Go.Proofs.Ytenhnnfemehbcaa
