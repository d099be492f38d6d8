/- Tags in memory; what isTag and Get of package dims, named, Get and Same of package accountingref09 return. -/
import Derived.Test.YtjoinifjkpaapaaDoorWdB
import Derived.Test.YtjoinifjkpaapaaDoorRow1
import Derived.Laws.ResultCell
import Derived.Laws.StructEq
import Derived.Lib.QuietBelow
import Derived.BigQuiet
namespace Go.Proofs.YtjoinifjkpaapaaDoor
open Go.RowKit
set_option linter.unusedVariables false
set_option linter.unusedSimpArgs false

/-- two cells of a block. -/
structure Pr2 (w : World) (B : Nat) (a b : Value) : Prop where
  lt : B < w.heap.size
  c0 : w.cell? ⟨B, 0, none⟩ = some a
  c1 : w.cell? ⟨B, 1, none⟩ = some b
theorem Pr2.alloc (w : World) (a b : Value) (t : TypeId) : Pr2 (w.alloc (Obj.cells #[a, b] t)) w.heap.size a b :=
  ⟨by simp, by rw [World.cell?_alloc_at _ _ _ _ rfl]; rfl, by rw [World.cell?_alloc_at _ _ _ _ rfl]; rfl⟩
theorem Pr2.below {w w' : World} {B : Nat} {a b : Value} (h : Pr2 w B a b) (hb : Below w.heap.size w w') : Pr2 w' B a b :=
  ⟨Nat.lt_of_lt_of_le h.lt hb.size, by rw [hb.cell h.lt]; exact h.c0, by rw [hb.cell h.lt]; exact h.c1⟩
abbrev Tg := ByteArray × ByteArray
/-- the tags L lie where the slice with address A begins. -/
def RowT (w : World) (A : Option Addr) (L : List Tg) : Prop :=
  (0 < L.length → ∃ b off, A = some ⟨b, off, none⟩ ∧ b < w.heap.size ∧ ∀ i, (h : i < L.length) → w.cell? ⟨b, off + i * 2, none⟩ = some (.string L[i].1) ∧ w.cell? ⟨b, off + i * 2 + 1, none⟩ = some (.string L[i].2)) ∧ ∀ t ∈ L, t.1.size ≤ 400 ∧ t.2.size ≤ 400
theorem RowT.below {w w' : World} {A : Option Addr} {L : List Tg} (h : RowT w A L) (hb : Below w.heap.size w w') : RowT w' A L := by
  refine ⟨fun h0 => ?_, h.2⟩
  obtain ⟨b, off, e, hl, hc⟩ := h.1 h0
  exact ⟨b, off, e, Nat.lt_of_lt_of_le hl hb.size, fun i hi => ⟨by rw [hb.cell hl]; exact (hc i hi).1, by rw [hb.cell hl]; exact (hc i hi).2⟩⟩
theorem RowT.bd {w : World} {A : Option Addr} {L : List Tg} (h : RowT w A L) {i : Nat} (hi : i < L.length) : L[i].1.size ≤ 400 ∧ L[i].2.size ≤ 400 := h.2 _ (List.getElem_mem hi)
def tagB (a b : ByteArray) : Bool := codB a && codB b
set_option maxHeartbeats 2000000 in
theorem isTag_any (a b : ByteArray) (w : World) (ha : a.size ≤ 400) (hb : b.size ≤ 400) :
    Calls Tryd.prog 24 #[.agg #[.string a, .string b]] w fun e w' => e = .returned (.bool (tagB a b)) ∧ Below w.heap.size w w' := by
  have H1 := Lib.hid (fun W => code_any a W (by unfold maxLen; omega))
  have H2 := Lib.hid (fun W => code_any b W (by unfold maxLen; omega))
  have hp := Pr2.alloc w (.string a) (.string b) 32
  have l0 := hp.c0
  have l1 := hp.c1
  have HB := Lib.hid ((Below.refl w.heap.size w).alloc (Nat.le_refl _) (Obj.cells #[.string a, .string b] 32))
  have HE := Lib.hid (show tagB a b = (codB a && codB b) from rfl)
  clear hp
  cases ca : codB a
  · rw [ca] at H1 HE
    go_enter Tryd.func24, Tryd.ntmps24
    go_wp2_with fail
    refine (H1.out _).mono ?_
    rintro e w2 ⟨rfl, rfl⟩
    go_wp2
    go_ret
    exact ⟨ret_bool (by rw [HE.out]; rfl), HB.out⟩
  · rw [ca] at H1 HE
    generalize codB b = cb at *
    go_enter Tryd.func24, Tryd.ntmps24
    go_wp2_with fail
    refine (H1.out _).mono ?_
    rintro e w2 ⟨rfl, rfl⟩
    go_wp2_with fail
    refine (H2.out _).mono ?_
    rintro e w2 ⟨rfl, rfl⟩
    go_wp2
    go_ret
    exact ⟨ret_bool (by rw [HE.out]; simp), HB.out⟩
set_option maxHeartbeats 2000000 in
theorem named_any (a b : ByteArray) (w : World) (ha : a.size ≤ 400) (hb : b.size ≤ 400) :
    Calls Tryd.prog 26 #[.agg #[.string a, .string b]] w fun e w' => e = .returned (.bool (tagB a b)) ∧ Below w.heap.size w w' := by
  have H1 := Lib.hid (fun W => rCode_any a W (by unfold maxLen; omega))
  have H2 := Lib.hid (fun W => rCode_any b W (by unfold maxLen; omega))
  have hp := Pr2.alloc w (.string a) (.string b) 32
  have l0 := hp.c0
  have l1 := hp.c1
  have HB := Lib.hid ((Below.refl w.heap.size w).alloc (Nat.le_refl _) (Obj.cells #[.string a, .string b] 32))
  have HE := Lib.hid (show tagB a b = (codB a && codB b) from rfl)
  clear hp
  cases ca : codB a
  · rw [ca] at H1 HE
    go_enter Tryd.func26, Tryd.ntmps26
    go_wp2_with fail
    refine (H1.out _).mono ?_
    rintro e w2 ⟨rfl, rfl⟩
    go_wp2
    go_ret
    exact ⟨ret_bool (by rw [HE.out]; rfl), HB.out⟩
  · rw [ca] at H1 HE
    generalize codB b = cb at *
    go_enter Tryd.func26, Tryd.ntmps26
    go_wp2_with fail
    refine (H1.out _).mono ?_
    rintro e w2 ⟨rfl, rfl⟩
    go_wp2_with fail
    refine (H2.out _).mono ?_
    rintro e w2 ⟨rfl, rfl⟩
    go_wp2
    go_ret
    exact ⟨ret_bool (by rw [HE.out]; simp), HB.out⟩
/-- the value of the first tag with a name. -/
def getV : List Tg → ByteArray → ByteArray × Bool
  | [], _ => (⟨#[]⟩, false)
  | t :: L, n => if (t.1.toList == n.toList) = true then (t.2, true) else getV L n
theorem getV_drop {L : List Tg} {n : ByteArray} : ∀ k, k ≤ L.length → (∀ i, i < k → (h : i < L.length) → (L[i].1.toList == n.toList) = false) → getV L n = getV (L.drop k) n
  | 0, _, _ => rfl
  | k + 1, hk, h => by
    rw [getV_drop k (by omega) (fun i hi hl => h i (by omega) hl), List.drop_eq_getElem_cons (show k < L.length by omega)]
    show (if (L[k].1.toList == n.toList) = true then (L[k].2, true) else getV (L.drop (k + 1)) n) = _
    rw [h k (by omega) (by omega)]; rfl
set_option maxRecDepth 100000 in
set_option maxHeartbeats 2000000 in
theorem get_any (A : Option Addr) (c : Nat) (L : List Tg) (nm : ByteArray) (w : World) (hR : RowT w A L) (hn : L.length ≤ 100) :
    Calls Tryd.prog 23 #[.slice A L.length c, .string nm] w fun e w' => e = .returned (.tuple #[.string (getV L nm).1, .bool (getV L nm).2]) ∧ Below w.heap.size w w' := by
  have HR := Lib.hid hR
  clear hR
  go_enter Tryd.func23, Tryd.ntmps23
  go_wp2
  go_loopw [10] (fun x wr => ∃ k : Nat, k ≤ L.length ∧ x = .int .i64 k ∧ Hid (∀ i, i < k → (h : i < L.length) → (L[i].1.toList == nm.toList) = false) ∧ Hid (Below w.heap.size w wr)) (fun x _ => L.length - (intOf x).toNat)
  case atStart => exact ⟨0, Nat.zero_le _, rfl, Lib.hid (fun i hi => by omega), Lib.hid (Below.refl _ _)⟩
  case round =>
    obtain ⟨k, hk, rfl, HK, HB⟩ := hrel
    by_cases h : k < L.length
    · have h' : (k : Int) < (L.length : Int) := by omega
      obtain ⟨b, off, rfl, hl, hc⟩ := (HR.out.below HB.out).1 (by omega)
      obtain ⟨c0, c1⟩ := hc k h
      have HG := Lib.hid (getV_drop k hk HK.out)
      rw [List.drop_eq_getElem_cons h] at HG
      have HK2 := Lib.hid (show (L[k].1.toList == nm.toList) = false → ∀ i, i < k + 1 → (h : i < L.length) → (L[i].1.toList == nm.toList) = false from fun q i hi hl => by
        by_cases e : i = k
        · subst e; exact q
        · exact HK.out i (by omega) hl)
      clear hc
      obtain ⟨S, hS⟩ : ∃ S, L[k].1 = S := ⟨_, rfl⟩
      obtain ⟨T, hT⟩ : ∃ T, L[k].2 = T := ⟨_, rfl⟩
      rw [hS] at c0 HK2
      rw [hT] at c1
      have hp := Pr2.alloc wr (.string S) (.string T) 32
      have l0 := hp.c0
      have l1 := hp.c1
      have HB2 := Lib.hid (HB.out.alloc (by have := HB.out.size; omega) (Obj.cells #[.string S, .string T] 32))
      clear hp
      by_cases q : (S.toList == nm.toList) = true
      · have HE := Lib.hid (show getV L nm = (T, true) by
          rw [HG.out]
          show (if (L[k].1.toList == nm.toList) = true then (L[k].2, true) else _) = _
          rw [hS, hT, if_pos q])
        clear hS hT HG HK2
        go_wp2
        go_ret2
        exact ⟨by rw [HE.out]; rfl, HB2.out⟩
      · have q' : (S.toList == nm.toList) = false := by simpa using q
        have HK3 := Lib.hid (HK2.out q')
        clear hS hT HG HK2 q
        go_wp2
        go_roundw
        case rel => exact ⟨k + 1, by omega, by go_num, HK3, HB2⟩
        case measure => simp [intOf]; omega
    · have h' : ¬ (k : Int) < (L.length : Int) := by omega
      have HE := Lib.hid (show getV L nm = (⟨#[]⟩, false) by rw [getV_drop k hk HK.out, List.drop_eq_nil_of_le (by omega)]; rfl)
      go_wp2
      go_ret2
      exact ⟨by rw [HE.out]; rfl, HB.out⟩
set_option maxRecDepth 100000 in
set_option maxHeartbeats 2000000 in
theorem rGet_any (A : Option Addr) (c : Nat) (L : List Tg) (nm : ByteArray) (w : World) (hR : RowT w A L) (hn : L.length ≤ 100) :
    Calls Tryd.prog 27 #[.slice A L.length c, .string nm] w fun e w' => e = .returned (.tuple #[.string (getV L nm).1, .bool (getV L nm).2]) ∧ w = w' := by
  have HR := Lib.hid hR
  clear hR
  go_enter Tryd.func27, Tryd.ntmps27
  go_wp2
  go_loop [6] (fun x => ∃ k : Nat, k ≤ L.length ∧ x = .int .i64 k ∧ Hid (∀ i, i < k → (h : i < L.length) → (L[i].1.toList == nm.toList) = false)) (fun x => L.length - (intOf x).toNat)
  case atStart => exact ⟨0, Nat.zero_le _, rfl, Lib.hid (fun i hi => by omega)⟩
  case round =>
    obtain ⟨k, hk, rfl, HK⟩ := hrel
    by_cases h : k < L.length
    · have h' : (k : Int) < (L.length : Int) := by omega
      obtain ⟨b, off, rfl, hl, hc⟩ := HR.out.1 (by omega)
      obtain ⟨c0, c1⟩ := hc k h
      have HG := Lib.hid (getV_drop k hk HK.out)
      rw [List.drop_eq_getElem_cons h] at HG
      have HK2 := Lib.hid (show (L[k].1.toList == nm.toList) = false → ∀ i, i < k + 1 → (h : i < L.length) → (L[i].1.toList == nm.toList) = false from fun q i hi hl => by
        by_cases e : i = k
        · subst e; exact q
        · exact HK.out i (by omega) hl)
      clear hc
      obtain ⟨S, hS⟩ : ∃ S, L[k].1 = S := ⟨_, rfl⟩
      obtain ⟨T, hT⟩ : ∃ T, L[k].2 = T := ⟨_, rfl⟩
      rw [hS] at c0 HK2
      rw [hT] at c1
      by_cases q : (S.toList == nm.toList) = true
      · have HE := Lib.hid (show getV L nm = (T, true) by
          rw [HG.out]
          show (if (L[k].1.toList == nm.toList) = true then (L[k].2, true) else _) = _
          rw [hS, hT, if_pos q])
        clear hS hT HG HK2
        go_wp2
        go_ret2
        exact ⟨by rw [HE.out]; rfl, rfl⟩
      · have q' : (S.toList == nm.toList) = false := by simpa using q
        have HK3 := Lib.hid (HK2.out q')
        clear hS hT HG HK2 q
        go_wp2
        go_round
        case rel => exact ⟨k + 1, by omega, by go_num, HK3⟩
        case measure => simp [intOf]; omega
    · have h' : ¬ (k : Int) < (L.length : Int) := by omega
      have HE := Lib.hid (show getV L nm = (⟨#[]⟩, false) by rw [getV_drop k hk HK.out, List.drop_eq_nil_of_le (by omega)]; rfl)
      go_wp2
      go_ret2
      exact ⟨by rw [HE.out]; rfl, rfl⟩
end Go.Proofs.YtjoinifjkpaapaaDoor
