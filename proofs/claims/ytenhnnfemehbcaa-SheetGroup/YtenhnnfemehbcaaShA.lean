/- Cells of sheets: keys and how they are ordered, the sheet of some cells. Plain facts. -/
import Derived.Test.YtenhnnfemehbcaaLtb
namespace Go.Proofs.Ytenhnnfemehbcaa
open Go.RowKit
set_option linter.unusedVariables false
set_option linter.unusedSimpArgs false

abbrev Ky := ByteArray × ByteArray × ByteArray × ByteArray × ByteArray
/-- a cell: its key, its amount, its base. -/
abbrev Cl := Ky × Int × Int
def kyL (k : Ky) : List ByteArray := [k.1, k.2.1, k.2.2.1, k.2.2.2.1, k.2.2.2.2]
theorem kyL_inj {a b : Ky} (h : kyL a = kyL b) : a = b := by
  obtain ⟨a1, a2, a3, a4, a5⟩ := a
  obtain ⟨b1, b2, b3, b4, b5⟩ := b
  simp [kyL] at h
  obtain ⟨rfl, rfl, rfl, rfl, rfl⟩ := h
  rfl
/-- the order of lists of strings of one length. -/
def cmpL : List ByteArray → List ByteArray → Int
  | a :: x, b :: y => if cmpS a b = 0 then cmpL x y else cmpS a b
  | _, _ => 0
def cmpK (a b : Ky) : Int := cmpL (kyL a) (kyL b)
theorem cmpS_bd (a b : ByteArray) : -1 ≤ cmpS a b ∧ cmpS a b ≤ 1 := by unfold cmpS; split <;> (try split) <;> omega
theorem cmpS_eq {a b : ByteArray} : cmpS a b = 0 ↔ a = b := by rw [cmpS_zero]; exact ⟨fun h => ba_ext h, fun h => by rw [h]⟩
theorem cmpS_swap (a b : ByteArray) : cmpS b a = -cmpS a b := by
  unfold cmpS
  by_cases h1 : ltS a b = true
  · have h2 := ltS_asym h1
    simp [h1, h2]
  · by_cases h2 : ltS b a = true
    · simp [h1, h2]
    · simp [h1, h2]
theorem cmpS_trans {a b c : ByteArray} (h1 : cmpS a b ≤ 0) (h2 : cmpS b c ≤ 0) : cmpS a c ≤ 0 ∧ (cmpS a c = 0 → cmpS a b = 0 ∧ cmpS b c = 0) := by
  by_cases e1 : cmpS a b = 0
  · have := cmpS_eq.1 e1; subst this
    exact ⟨h2, fun h => ⟨e1, h⟩⟩
  · by_cases e2 : cmpS b c = 0
    · have := cmpS_eq.1 e2; subst this
      exact ⟨h1, fun h => ⟨h, e2⟩⟩
    · have l1 := (cmpS_neg a b).1 (by omega)
      have l2 := (cmpS_neg b c).1 (by omega)
      have l3 := (cmpS_neg a c).2 (ltS_trans l1 l2)
      exact ⟨by omega, fun h => by omega⟩
theorem cmpL_bd : ∀ x y : List ByteArray, -1 ≤ cmpL x y ∧ cmpL x y ≤ 1
  | [], _ => by simp [cmpL]
  | _ :: _, [] => by simp [cmpL]
  | a :: x, b :: y => by
    unfold cmpL
    split
    · exact cmpL_bd x y
    · exact cmpS_bd a b
theorem cmpL_eq : ∀ {x y : List ByteArray}, x.length = y.length → (cmpL x y = 0 ↔ x = y)
  | [], [], _ => by simp [cmpL]
  | a :: x, b :: y, h => by
    unfold cmpL
    by_cases e : cmpS a b = 0
    · rw [if_pos e, cmpL_eq (by simpa using h)]
      have := cmpS_eq.1 e
      simp [this]
    · rw [if_neg e]
      exact ⟨fun q => absurd q e, fun q => by injection q with q1 _; exact absurd (cmpS_eq.2 q1) e⟩
theorem cmpL_swap : ∀ x y : List ByteArray, cmpL y x = -cmpL x y
  | [], [] => by simp [cmpL]
  | [], _ :: _ => by simp [cmpL]
  | _ :: _, [] => by simp [cmpL]
  | a :: x, b :: y => by
    unfold cmpL
    have h := cmpS_swap a b
    by_cases e : cmpS a b = 0
    · rw [if_pos e, if_pos (by omega)]; exact cmpL_swap x y
    · rw [if_neg e, if_neg (by omega)]; exact h
theorem cmpL_trans : ∀ {x y z : List ByteArray}, x.length = y.length → y.length = z.length → cmpL x y ≤ 0 → cmpL y z ≤ 0 → cmpL x z ≤ 0
  | [], _, _, _, _, _, _ => by simp [cmpL]
  | a :: x, b :: y, c :: z, h1, h2, h3, h4 => by
    unfold cmpL at h3 h4 ⊢
    by_cases e1 : cmpS a b = 0
    · rw [if_pos e1] at h3
      have := cmpS_eq.1 e1; subst this
      by_cases e2 : cmpS a c = 0
      · rw [if_pos e2] at h4 ⊢; exact cmpL_trans (by simpa using h1) (by simpa using h2) h3 h4
      · rw [if_neg e2] at h4 ⊢; exact h4
    · rw [if_neg e1] at h3
      by_cases e2 : cmpS b c = 0
      · have := cmpS_eq.1 e2; subst this
        rw [if_neg e1]; exact h3
      · rw [if_neg e2] at h4
        obtain ⟨t1, t2⟩ := cmpS_trans h3 h4
        rw [if_neg (fun q => e1 (t2 q).1)]; exact t1
theorem cmpK_bd (a b : Ky) : -1 ≤ cmpK a b ∧ cmpK a b ≤ 1 := cmpL_bd _ _
theorem cmpK_eq {a b : Ky} : cmpK a b = 0 ↔ a = b := by
  unfold cmpK
  rw [cmpL_eq (by rfl)]
  exact ⟨kyL_inj, fun h => by rw [h]⟩
theorem cmpK_swap (a b : Ky) : cmpK b a = -cmpK a b := cmpL_swap _ _
theorem cmpK_trans {a b c : Ky} (h1 : cmpK a b ≤ 0) (h2 : cmpK b c ≤ 0) : cmpK a c ≤ 0 := cmpL_trans (x := kyL a) (y := kyL b) (z := kyL c) rfl rfl h1 h2
theorem cmpK_lt {a b c : Ky} (h1 : cmpK a b < 0) (h2 : cmpK b c ≤ 0) : cmpK a c < 0 := by
  have h3 := cmpK_trans (a := a) (b := b) (c := c) (by omega) h2
  have : cmpK a c ≠ 0 := fun q => by
    have e := cmpK_eq.1 q; subst e
    have s := cmpK_swap a b
    omega
  omega
theorem cmpK_lt' {a b c : Ky} (h1 : cmpK a b ≤ 0) (h2 : cmpK b c < 0) : cmpK a c < 0 := by
  have h3 := cmpK_trans (a := a) (b := b) (c := c) h1 (by omega)
  have : cmpK a c ≠ 0 := fun q => by
    have e := cmpK_eq.1 q; subst e
    have s := cmpK_swap a b
    omega
  omega
theorem cmpK_self (a : Ky) : cmpK a a = 0 := cmpK_eq.2 rfl
/-! sorted lists of keys -/
/-- strictly increasing. -/
def Inc (K : List Ky) : Prop := K.Pairwise (fun a b => cmpK a b < 0)
theorem inc_uniq : ∀ {K K' : List Ky}, Inc K → Inc K' → (∀ k, k ∈ K ↔ k ∈ K') → K = K'
  | [], [], _, _, _ => rfl
  | [], b :: y, _, _, h => absurd ((h b).2 List.mem_cons_self) (by simp)
  | a :: x, [], _, _, h => absurd ((h a).1 List.mem_cons_self) (by simp)
  | a :: x, b :: y, h1, h2, h => by
    obtain ⟨p1, p2⟩ := List.pairwise_cons.1 h1
    obtain ⟨q1, q2⟩ := List.pairwise_cons.1 h2
    have e : a = b := by
      rcases List.mem_cons.1 ((h a).1 List.mem_cons_self) with e | e
      · exact e
      · rcases List.mem_cons.1 ((h b).2 List.mem_cons_self) with f | f
        · exact f.symm
        · have u := q1 a e
          have v := p1 b f
          have s := cmpK_swap a b
          omega
    subst e
    rw [inc_uniq p2 q2 (fun k => ?_)]
    constructor
    · intro hk
      rcases List.mem_cons.1 ((h k).1 (List.mem_cons_of_mem _ hk)) with e | e
      · subst e; have := p1 k hk; rw [cmpK_self] at this; omega
      · exact e
    · intro hk
      rcases List.mem_cons.1 ((h k).2 (List.mem_cons_of_mem _ hk)) with e | e
      · subst e; have := q1 k hk; rw [cmpK_self] at this; omega
      · exact e
/-- the keys of cells: strictly increasing, each that occurs. -/
structure KeysOf (L : List Cl) (K : List Ky) : Prop where
  inc : Inc K
  mem : ∀ k, k ∈ K ↔ ∃ c ∈ L, c.1 = k
theorem KeysOf.uniq {L L' : List Cl} {K K' : List Ky} (h : KeysOf L K) (h' : KeysOf L' K') (hp : ∀ k, (∃ c ∈ L, c.1 = k) ↔ ∃ c ∈ L', c.1 = k) : K = K' :=
  inc_uniq h.inc h'.inc (fun k => by rw [h.mem, h'.mem, hp])
/-- a key put into a list of keys. -/
def insK (k : Ky) : List Ky → List Ky
  | [] => [k]
  | a :: x => if cmpK k a < 0 then k :: a :: x else if cmpK k a = 0 then a :: x else a :: insK k x
theorem insK_mem {k : Ky} : ∀ {K : List Ky} {z : Ky}, z ∈ insK k K ↔ z = k ∨ z ∈ K
  | [], z => by simp [insK]
  | a :: x, z => by
    unfold insK
    split
    · simp
    · split
      · rename_i h
        have := cmpK_eq.1 h
        subst this
        simp
      · rw [List.mem_cons, insK_mem, List.mem_cons]
        constructor <;> (intro h; rcases h with h | h | h <;> simp [h])
theorem insK_inc {k : Ky} : ∀ {K : List Ky}, Inc K → Inc (insK k K)
  | [], _ => by simp [insK, Inc]
  | a :: x, h => by
    obtain ⟨p1, p2⟩ := List.pairwise_cons.1 h
    unfold insK
    split
    · rename_i hk
      refine List.pairwise_cons.2 ⟨fun z hz => ?_, h⟩
      rcases List.mem_cons.1 hz with e | e
      · subst e; exact hk
      · exact cmpK_lt hk (Int.le_of_lt (p1 z e))
    · split
      · exact h
      · refine List.pairwise_cons.2 ⟨fun z hz => ?_, insK_inc p2⟩
        rcases insK_mem.1 hz with e | e
        · subst e
          have := cmpK_swap a z
          omega
        · exact p1 z e
def keysK : List Cl → List Ky
  | [] => []
  | c :: r => insK c.1 (keysK r)
theorem keysK_of : ∀ L : List Cl, KeysOf L (keysK L)
  | [] => ⟨List.Pairwise.nil, fun k => by simp [keysK]⟩
  | c :: r => by
    obtain ⟨h1, h2⟩ := keysK_of r
    refine ⟨insK_inc h1, fun k => ?_⟩
    show k ∈ insK c.1 (keysK r) ↔ _
    rw [insK_mem, h2]
    constructor
    · rintro (e | ⟨d, hd, e⟩)
      · exact ⟨c, List.mem_cons_self, e.symm⟩
      · exact ⟨d, List.mem_cons_of_mem _ hd, e⟩
    · rintro ⟨d, hd, e⟩
      rcases List.mem_cons.1 hd with q | q
      · subst q; exact .inl e.symm
      · exact .inr ⟨d, q, e⟩
/-! sums -/
def sel (L : List Cl) (k : Ky) : List Cl := L.filter (fun c => decide (cmpK c.1 k = 0))
def amS (L : List Cl) : Int := (L.map (fun c => c.2.1)).sum
def baS (L : List Cl) : Int := (L.map (fun c => c.2.2)).sum
theorem perm_sum {L L' : List Cl} (h : L.Perm L') : amS L = amS L' ∧ baS L = baS L' := by
  have p1 := h.map (fun c => c.2.1)
  have p2 := h.map (fun c => c.2.2)
  have g : ∀ {x y : List Int}, x.Perm y → x.sum = y.sum := by
    intro x y hp
    induction hp with
    | nil => rfl
    | cons a _ ih => simp [ih]
    | swap a b l => simp; omega
    | trans _ _ ih1 ih2 => rw [ih1, ih2]
  exact ⟨g p1, g p2⟩
theorem sel_perm {L L' : List Cl} (h : L.Perm L') (k : Ky) : (sel L k).Perm (sel L' k) := h.filter _
def okSum (n : Int) : Bool := decide (-1000000000000000 ≤ n) && decide (n ≤ 1000000000000000)
/-- the cell of a key, where its sums are not too large. -/
def badK (L : List Cl) (k : Ky) : Bool := !(okSum (amS (sel L k)) && okSum (baS (sel L k)))
def celK (L : List Cl) (k : Ky) : Cl := (k, amS (sel L k), baS (sel L k))
def emp (c : Cl) : Bool := decide (c.2.1 = 0) && decide (c.2.2 = 0)
/-- the sheet of cells, and the error. -/
def ofE (L : List Cl) : Int := if (keysK L).any (badK L) = true then 4 else 0
def ofL (L : List Cl) : List Cl := if (keysK L).any (badK L) = true then [] else ((keysK L).map (celK L)).filter (fun c => !emp c)
theorem of_perm {L L' : List Cl} (h : L.Perm L') : ofE L = ofE L' ∧ ofL L = ofL L' := by
  have hk : keysK L = keysK L' := (keysK_of L).uniq (keysK_of L') (fun k => ⟨fun ⟨c, a, b⟩ => ⟨c, h.mem_iff.1 a, b⟩, fun ⟨c, a, b⟩ => ⟨c, h.mem_iff.2 a, b⟩⟩)
  have hb : badK L = badK L' := by
    funext k
    unfold badK
    rw [(perm_sum (sel_perm h k)).1, (perm_sum (sel_perm h k)).2]
  have hc : celK L = celK L' := by
    funext k
    unfold celK
    rw [(perm_sum (sel_perm h k)).1, (perm_sum (sel_perm h k)).2]
  unfold ofE ofL
  rw [hk, hb, hc]
  exact ⟨rfl, rfl⟩
end Go.Proofs.Ytenhnnfemehbcaa
