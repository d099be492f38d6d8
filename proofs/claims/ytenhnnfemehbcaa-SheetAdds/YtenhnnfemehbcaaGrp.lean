/- Maps of slices that a call owns (each slice a row of structs of its own), as functions of the key; rows that are sorted. No conditions. -/
import Derived.Test.YtenhnnfemehbcaaMpk
import Derived.Test.YtenhnnfemehbcaaRow1
import Derived.Maps.AppendAt
import Derived.Shelf.SlSortCmp.WholeK
namespace Go.Proofs.Ytenhnnfemehbcaa
open Go.RowKit Go.Maps
set_option linter.unusedVariables false
set_option linter.unusedSimpArgs false

/-- a slice that is nil, or begins at its block's first cell. -/
def HdV : Option (Nat × Nat × Nat) → Value
  | none => .slice none 0 0
  | some (b, n, c) => .slice (some ⟨b, 0, none⟩) n c
def HdD : Option (Nat × Nat × Nat) → DataW Unit
  | none => .agg []
  | some (b, n, c) => .agg [.lit (.int .i64 b), .lit (.int .i64 n), .lit (.int .i64 c)]
def HdR : Value → Option (DataW Unit × List MemPlace)
  | .slice none 0 0 => some (HdD none, [])
  | .slice (some ⟨b, 0, none⟩) n c => some (HdD (some (b, n, c)), [])
  | _ => none
def EH : Els (Option (Nat × Nat × Nat)) where
  enc := HdV
  dat := HdD
  rd := HdR
  zero := none
  is := fun a => by cases a <;> rfl
  inv := fun v z h => by
    unfold HdR at h
    split at h
    · cases h; exact ⟨none, rfl, rfl⟩
    · rename_i b n c; cases h; exact ⟨some (b, n, c), rfl, rfl⟩
    · cases h
  inj := fun a b h => by
    cases a with
    | none => cases b with
      | none => rfl
      | some y => obtain ⟨y1, y2, y3⟩ := y; simp [HdD] at h
    | some x => cases b with
      | none => obtain ⟨x1, x2, x3⟩ := x; simp [HdD] at h
      | some y =>
        obtain ⟨x1, x2, x3⟩ := x
        obtain ⟨y1, y2, y3⟩ := y
        simp only [HdD, DataW.agg.injEq, List.cons.injEq, DataW.lit.injEq, Lit.int.injEq, true_and, and_true] at h
        obtain ⟨h1, h2, h3⟩ := h
        rw [show x1 = y1 by omega, show x2 = y2 by omega, show x3 = y3 by omega]
variable {κ β : Type}
/-- block M is a map of at most n entries; the slice at key s owns a row of structs of K cells, that of the list l s, from block base on; no two keys' slices lie in one row. -/
structure GrpM (kv : κ → Value) (cs : β → List Value) (T k : TypeId) (K : Nat) (w : World) (base M n : Nat) (g : κ → Option (Option (Nat × Nat × Nat))) (l : κ → List β) : Prop where
  map : MapK EH kv w k M n g
  own : ∀ s, w.ownsRow base T K (HdV ((g s).getD none)) (l s).length ((l s).flatMap cs)
  apart : ∀ s s' b, s ≠ s' → (HdV ((g s).getD none)).ownBlock = some b → (HdV ((g s').getD none)).ownBlock ≠ some b
  full : ∀ s c, g s = some c → ∃ b cp, c = some (b, (l s).length, cp) ∧ l s ≠ []
  low : M < base
theorem GrpM.made (kv : κ → Value) (cs : β → List Value) (T k : TypeId) (K : Nat) (w : World) : GrpM kv cs T k K (w.alloc (.map #[] 0)) (w.heap.size + 1) w.heap.size 0 (fun _ => none) (fun _ => []) where
  map := MapK.made EH kv w k
  own := fun s => World.ownsRow_nil _ _ _ _
  apart := fun s s' b _ h => by cases h
  full := fun s c h => by cases h
  low := by omega
theorem GrpM.grown {kv : κ → Value} {cs : β → List Value} {T k : TypeId} {K : Nat} {w w' : World} {base M n : Nat} {g : κ → Option (Option (Nat × Nat × Nat))} {l : κ → List β} (h : GrpM kv cs T k K w base M n g l) (hg : w.grownBy w' none) : GrpM kv cs T k K w' base M n g l where
  map := h.map.kept hg (by simp)
  own := fun s => (h.own s).kept hg (by cases (HdV ((g s).getD none)).ownBlock <;> simp)
  apart := h.apart
  full := h.full
  low := h.low
theorem below_grownBy {w w' : World} (h : Below w.heap.size w w') : w.grownBy w' none := ⟨h.os, h.tape, h.output, h.size, fun k hk _ => h.block k hk⟩
theorem GrpM.below {kv : κ → Value} {cs : β → List Value} {T k : TypeId} {K : Nat} {w w' : World} {base M n : Nat} {g : κ → Option (Option (Nat × Nat × Nat))} {l : κ → List β} (h : GrpM kv cs T k K w base M n g l) (hb : Below w.heap.size w w') : GrpM kv cs T k K w' base M n g l := h.grown (below_grownBy hb)
theorem HdV_own {o : Option (Nat × Nat × Nat)} {b : Nat} (h : (HdV o).ownBlock = some b) : ∃ n c, o = some (b, n, c) := by
  cases o with
  | none => cases h
  | some x =>
    obtain ⟨x1, n, c⟩ := x
    have h : some x1 = some b := h
    cases h
    exact ⟨n, c, rfl⟩
/-- one element appended to the slice at key s. W3 W4 W5 W6: ahead of the entry, behind it, behind the append, behind the store. -/
theorem GrpM.step [DecidableEq κ] {kv : κ → Value} {cs : β → List Value} {T k : TypeId} {K : Nat} {W3 W4 W5 W6 : World} {base M n : Nat} {g : κ → Option (Option (Nat × Nat × Nat))} {l : κ → List β} (h : GrpM kv cs T k K W3 base M n g l) (s : κ) (x : β)
    (g4 : W3.grownBy W4 (some M)) (hb4 : base ≤ W4.heap.size) {v' : Value} (o5 : W5.ownsRow base T K v' ((l s).length + 1) ((l s).flatMap cs ++ cs x)) (g5 : W4.grownBy W5 (HdV ((g s).getD none)).ownBlock) (loc : v'.ownBlock = (HdV ((g s).getD none)).ownBlock ∨ v'.ownBlock = some W4.heap.size)
    {c : Option (Nat × Nat × Nat)} (hv : v' = HdV c) (m6 : MapK EH kv W6 k M (n + 1) (updK g s c)) (g6 : W5.grownBy W6 (some M)) :
    GrpM kv cs T k K W6 base M (n + 1) (updK g s c) (fun t => if t = s then l s ++ [x] else l t) := by
  subst hv
  have hM : ∀ t, (HdV ((g t).getD none)).ownBlock = none ∨ (HdV ((g t).getD none)).ownBlock ≠ some M := fun t => by
    by_cases e : (HdV ((g t).getD none)).ownBlock = some M
    · have := ((h.own t).lt M e).1; have := h.low; omega
    · exact .inr e
  have hM' : (HdV c).ownBlock = none ∨ (HdV c).ownBlock ≠ some M := by
    by_cases e : (HdV c).ownBlock = some M
    · have := (o5.lt M e).1; have := h.low; omega
    · exact .inr e
  have o4 : ∀ t, W4.ownsRow base T K (HdV ((g t).getD none)) (l t).length ((l t).flatMap cs) := fun t => (h.own t).kept g4 (hM t)
  have apart' : ∀ t b, t ≠ s → (HdV ((g t).getD none)).ownBlock = some b → (HdV c).ownBlock ≠ some b := fun t b hts e1 e2 => by
    rcases loc with q | q
    · rw [q] at e2; exact h.apart t s b hts e1 e2
    · rw [q] at e2
      cases e2
      have := ((o4 t).lt _ e1).2
      omega
  have up : ∀ t, updK g s c t = if t = s then some c else g t := fun t => rfl
  refine ⟨m6, fun t => ?_, fun t t' b hne e1 e2 => ?_, fun t d hd => ?_, h.low⟩
  · rw [up]
    by_cases e : t = s
    · subst e
      rw [if_pos rfl, if_pos rfl]
      have := o5.kept g6 hM'
      rw [List.flatMap_append, List.length_append]
      simpa using this
    · rw [if_neg e, if_neg e]
      refine ((o4 t).kept g5 ?_).kept g6 (hM t)
      cases q : (HdV ((g t).getD none)).ownBlock with
      | none => exact .inl rfl
      | some b => exact .inr (fun z => h.apart t s b e q z.symm)
  · rw [up] at e1 e2
    by_cases e : t = s
    · subst e
      rw [if_pos rfl] at e1
      rw [if_neg (fun z => hne z.symm)] at e2
      exact apart' t' b (fun z => hne z.symm) e2 e1
    · rw [if_neg e] at e1
      by_cases e' : t' = s
      · subst e'
        rw [if_pos rfl] at e2
        exact apart' t b e e1 e2
      · rw [if_neg e'] at e2
        exact h.apart t t' b hne e1 e2
  · rw [up] at hd
    by_cases e : t = s
    · subst e
      rw [if_pos rfl] at hd
      have hd := Option.some.inj hd
      subst hd
      rw [if_pos rfl]
      rcases o5.2 with ⟨_, q⟩ | ⟨b, cap, cur, q, _⟩
      · omega
      · cases c with
        | none => cases q
        | some z =>
          obtain ⟨z1, z2, z3⟩ := z
          have q : Value.slice (some ⟨z1, 0, none⟩) z2 z3 = _ := q
          cases q
          exact ⟨_, _, by rw [List.length_append]; rfl, by simp⟩
    · rw [if_neg e] at hd ⊢
      exact h.full t d hd
theorem flatMap_at {cs : β → List Value} {K : Nat} (hK : ∀ x, (cs x).length = K) : ∀ (L : List β) (i c : Nat) (hi : i < L.length) (hc : c < K), (L.flatMap cs)[i * K + c]? = (cs L[i])[c]?
  | [], i, c, hi, _ => by simp at hi
  | x :: L, 0, c, _, hc => by
    rw [List.flatMap_cons, Nat.zero_mul, Nat.zero_add, List.getElem?_append_left (by rw [hK]; exact hc)]
    rfl
  | x :: L, i + 1, c, hi, hc => by
    rw [List.flatMap_cons, List.getElem?_append_right (by rw [hK, Nat.add_mul]; omega), hK]
    rw [show (i + 1) * K + c - K = i * K + c by rw [Nat.add_mul]; omega, flatMap_at hK L i c (by simpa using hi) hc]
    rfl
/-- a row that the call owns, as the sort takes it. -/
theorem own_holds [Inhabited β] {cs : β → List Value} {K : Nat} (hK : ∀ x, (cs x).length = K) (h0 : 0 < K) {w : World} {base : Nat} {T : TypeId} {b n c : Nat} {L : List β} (h : w.ownsRow base T K (.slice (some ⟨b, 0, none⟩) n c) n (L.flatMap cs)) (hn : n = L.length) : Go.Sort.HoldsK cs K w b 0 L.toArray ∧ b < w.heap.size := by
  have hlt := (h.lt b rfl).2
  refine ⟨fun j hj => ?_, hlt⟩
  rw [Go.Sort.size_flatK] at hj
  have hj : j < L.length * K := by simpa using hj
  have hi : j / K < L.length := (Nat.div_lt_iff_lt_mul h0).2 hj
  have hc : j % K < K := Nat.mod_lt _ h0
  have hjx : j / K * K + j % K = j := Nat.div_add_mod' j K
  have e := flatMap_at hK L (j / K) (j % K) hi hc
  rw [hjx] at e
  have hcs : (cs L[j / K])[j % K]? = some (cs L[j / K])[j % K]! := by
    rw [List.getElem?_eq_getElem (by rw [hK]; exact hc), getElem!_pos _ _ (by rw [hK]; exact hc)]
  rw [hcs] at e
  have hg := h.cells (g := b) rfl j _ e
  rw [addr_is] at hg
  rw [Go.Sort.get_flatK _ _ _ _ (by simpa using hj)]
  have hd : L.toArray[j / K]! = L[j / K] := by rw [getElem!_pos _ _ (by simpa using hi)]; simp
  rw [hd]
  refine ⟨hg, ?_⟩
  rcases h.2 with ⟨q, _⟩ | ⟨g, cap, cur, q, _, hb, _⟩
  · cases q
  · cases q
    unfold World.frozen?
    simp [hb]
theorem sorted_grown [Inhabited β] {cs : β → List Value} {K : Nat} (w : World) (b off m : Nat) (d : Array β) (os : Array Obj) (hb : b < w.heap.size) : w.grownBy (sortWorldK cs K w b off m d os) (some b) := by
  refine ⟨rfl, rfl, rfl, ?_, fun k hk hne => ?_⟩
  · unfold sortWorldK
    rw [Go.Sort.size_grow, Go.Sort.size_putRowK]
    exact Nat.le_add_right _ _
  · have hne : k ≠ b := fun e => hne (by rw [e])
    unfold sortWorldK Go.Sort.grow Go.Sort.putRowK Go.Sort.putRow Go.Sort.mapBlock Go.Sort.ahead
    simp only []
    rw [Array.getElem?_append_left (by simpa using hk), Array.getElem?_modify, if_neg (fun e => hne e.symm)]
/-- what the sort leaves. -/
theorem sorted_row [Inhabited β] {cs : β → List Value} {K : Nat} {w : World} {b off m : Nat} {L : List β} {d' : Array β} {os : Array Obj} {lt : β → β → Bool} (hH : Go.Sort.HoldsK cs K w b off L.toArray) (hb : b < w.heap.size) (hp : Go.Sort.PermIn 0 L.toArray.size L.toArray d') (hs : Go.Sort.SortedIn lt 0 L.toArray.size d') :
    ∃ L' : List β, L'.Perm L ∧ L'.Pairwise (fun x y => lt y x = false) ∧ Go.Sort.HoldsK cs K (sortWorldK cs K w b off m d' os) b off L'.toArray := by
  obtain ⟨h1, h2, h3⟩ := hp
  refine ⟨d'.toList, ?_, ?_, ?_⟩
  · rw [← h1] at h3
    have e1 : (d'.extract 0 d'.size).toList = d'.toList := by simp
    have e2 : (L.toArray.extract 0 d'.size).toList = L := by rw [h1]; simp
    rw [e1, e2] at h3
    exact h3
  · rw [List.pairwise_iff_getElem]
    intro i j hi hj hij
    have hi' : i < d'.size := by simpa using hi
    have hj' : j < d'.size := by simpa using hj
    have := hs i j (Nat.zero_le _) hij (by omega)
    rw [getElem!_pos d' i hi', getElem!_pos d' j hj'] at this
    simpa using this
  · have := holdsK_sortWorldK_c cs K w b off L.toArray d' m os hH hb (by simpa using h1)
    simpa using this
end Go.Proofs.Ytenhnnfemehbcaa
