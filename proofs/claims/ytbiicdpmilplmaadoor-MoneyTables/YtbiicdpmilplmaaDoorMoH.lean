/- The statement MoneyTables of package accountinglaw07. -/
import Derived.Test.YtbiicdpmilplmaaDoorMoG
import Derived.Deep.SlicePairs
namespace Go.Proofs.YtbiicdpmilplmaaDoor
open Go.RowKit Go.Sort
set_option linter.unusedVariables false

theorem lt_of_cell {w : World} {p : Addr} {v : Value} (h : w.cell? p = some v) : p.block < w.heap.size := by
  rcases Nat.lt_or_ge p.block w.heap.size with hl | hl
  · exact hl
  · simp [World.cell?, Array.getElem?_eq_none hl] at h
theorem add_is (b off k : Nat) : (⟨b, off, none⟩ : Addr).add k = ⟨b, off + k, none⟩ := by
  unfold Addr.add; split
  · rename_i e; subst e; rfl
  · rfl
theorem rowC_of {H : Type} {enc : TypeId × Value → H} {w : World} {base : Nat} {spare : Nat → Bool} {held : Bool} {A : Option Addr} {len cap : Nat} {d : DataW H} {p : List MemPlace}
    (h : DataW.Trod enc Tryd.prog w base spare held 22 (.slice A len cap) d p) : ∃ (C : Nat → ByteArray) (D : Nat → Int), RowC w A len C D ∧ len ≤ maxLen := by
  obtain ⟨fuel, hf⟩ := h
  rcases Go.Deep.open_slice_pairs Tryd.underlying22 Tryd.underlying46 (by kernel_rfl) rfl rfl (by kernel_rfl) (by kernel_rfl) hf with ⟨hcs, _⟩ | ⟨a, l, c, m, n, V0, V1, D0, D1, P0, P1, hcs, hb, hl, hm, hmm, _, hcell⟩
  · simp [Value.cells] at hcs
    obtain ⟨rfl, rfl, rfl⟩ := hcs
    exact ⟨fun _ => ⟨#[]⟩, fun _ => 0, fun i hi => absurd hi (by omega), by unfold maxLen; omega⟩
  · simp [Value.cells] at hcs
    obtain ⟨rfl, rfl, rfl⟩ := hcs
    have hlm : len ≤ m := by rw [hmm]; split <;> omega
    have each : ∀ i, i < len → ∃ q : ByteArray × Int, V0 i = .string q.1 ∧ V1 i = .int .i64 q.2 ∧ q.1.size ≤ maxLen := by
      intro i hi
      obtain ⟨_, _, t0, t1⟩ := hcell i (by omega)
      obtain ⟨s, e0, _, hs⟩ := DataW.trod_string Tryd.underlying9 t0
      obtain ⟨z, e1, _, _⟩ := DataW.trod_int Tryd.underlying3 t1
      simp at e0 e1
      exact ⟨(s, z), e0, e1, hs⟩
    obtain ⟨q, hq⟩ := Go.Deep.choose_lt each
    refine ⟨fun i => (q i).1, fun i => (q i).2, fun i hi => ?_, by omega⟩
    obtain ⟨c0, c1, _, _⟩ := hcell i (by omega)
    obtain ⟨g0, g1, g2⟩ := hq i hi
    obtain ⟨b, off, spot⟩ := a
    have hspot : spot = none := by simpa [Addr.add] using World.cell?_spot (hcell 0 (by omega)).1
    subst hspot
    rw [add_is] at c0 c1
    rw [g0] at c0
    rw [g1] at c1
    exact ⟨g2, b, off, rfl, lt_of_cell c0, c0, by rw [Nat.add_assoc]; exact c1⟩

/-- both packages answer alike. -/
theorem tables_ex (n : Nat) (C : Nat → ByteArray) (D : Nat → Int) (T : ByteArray) (hn : n ≤ 1000) : ∃ (v : Int) (b g : Bool),
    (∀ (A : Option Addr) (c : Nat) (w : World), RowC w A n C D → Calls Tryd.prog 10 #[.slice A n c, .string T] w fun e w' => e = .returned (.tuple #[.int .i64 v, .bool b]) ∧ Below w.heap.size w w') ∧
    (∀ (A : Option Addr) (c : Nat) (w : World), RowC w A n C D → Calls Tryd.prog 11 #[.slice A n c, .string T] w fun e w' => e = .returned (.tuple #[.int .i64 v, .bool b]) ∧ Below w.heap.size w w') ∧
    (∀ (A : Option Addr) (c : Nat) (w : World), RowC w A n C D → Calls Tryd.prog 14 #[.slice A n c] w fun e w' => e = .returned (.bool g) ∧ Below w.heap.size w w') ∧
    (∀ (A : Option Addr) (c : Nat) (w : World), RowC w A n C D → Calls Tryd.prog 15 #[.slice A n c] w fun e w' => e = .returned (.bool g) ∧ Below w.heap.size w w') := by
  by_cases h : GoodC n C D
  · rcases first_match (fun j => (C j).toList == T.toList) n with hf | ⟨k, hk, hm, hf⟩
    · exact ⟨0, false, true, fun A c w hR => digits_none A n c C D T w hR hn h hf, fun A c w hR => rdigits_none A n c C D T w hR hn h hf, fun A c w hR => right_yes A n c C D w hR hn h, fun A c w hR => rRight_yes A n c C D w hR hn h⟩
    · exact ⟨D k, true, true, fun A c w hR => digits_hit A n c C D T w hR hn h k hk hm hf, fun A c w hR => rdigits_hit A n c C D T w hR hn h k hk hm hf, fun A c w hR => right_yes A n c C D w hR hn h, fun A c w hR => rRight_yes A n c C D w hR hn h⟩
  · exact ⟨0, false, false, fun A c w hR => digits_bad A n c C D T w hR hn h, fun A c w hR => rdigits_bad A n c C D T w hR hn h, fun A c w hR => right_not A n c C D w hR hn h, fun A c w hR => rRight_not A n c C D w hR hn h⟩

set_option maxHeartbeats 4000000 in
theorem moneyTables_walk (A : Option Addr) (n c : Nat) (C : Nat → ByteArray) (D : Nat → Int) (T : ByteArray) (w : World) (ht : Tab w) (hRn : RowC w A n C D ∧ n ≤ maxLen) (hT : T.size ≤ maxLen) :
    Calls Tryd.prog 3 #[.slice A n c, .string T] w fun e w' => e = .returned (.bool true) ∧ Below w.heap.size w w' := by
  obtain ⟨hR, hn⟩ := hRn
  have H5 := Lib.hid (fun w => code_any T w hT)
  have H6 := Lib.hid (fun w => rCode_any T w hT)
  unfold maxLen at hn hT
  by_cases h50 : 50 < n
  · have q1 : (50 : Int) < (n : Int) := by omega
    go_enter Tryd.func3, Tryd.ntmps3
    go_wp2
    go_ret
    exact ⟨rfl, Below.refl _ _⟩
  have q1 : ¬ (50 : Int) < (n : Int) := by omega
  by_cases h100 : 100 < T.size
  · have q2 : (100 : Int) < (T.size : Int) := by omega
    go_enter Tryd.func3, Tryd.ntmps3
    go_wp2
    go_ret
    exact ⟨rfl, Below.refl _ _⟩
  have q2 : ¬ (100 : Int) < (T.size : Int) := by omega
  obtain ⟨v, b, g, h1, h2, h3, h4⟩ := tables_ex n C D T (by omega)
  have H1 := Lib.hid (h1 A c)
  have H2 := Lib.hid (h2 A c)
  have H3 := Lib.hid (h3 A c)
  have H4 := Lib.hid (h4 A c)
  have H9 := Lib.hid (fun w ht => lives_any w ht)
  have HR := Lib.hid hR
  clear h1 h2 h3 h4 hR
  generalize codeB T = cb at *
  go_enter Tryd.func3, Tryd.ntmps3
  go_wp2_with fail
  refine (H1.out _ HR.out).mono ?_
  rintro e W1 ⟨rfl, hb1⟩
  have HB1 := Lib.hid (hb1)
  clear hb1
  go_wp2_with fail
  refine (H2.out _ (HR.out.below HB1.out)).mono ?_
  rintro e W2 ⟨rfl, hb2⟩
  have HB2 := Lib.hid (HB1.out.trans ((hb2).mono HB1.out.size))
  clear HB1 hb2
  go_wp2_with fail
  refine (H5.out _).mono ?_
  rintro e W3 ⟨rfl, hb3⟩
  have HB3 := Lib.hid (HB2.out.trans ((hb3).mono HB2.out.size))
  clear HB2 hb3
  go_wp2_with fail
  refine (H6.out _).mono ?_
  rintro e w_ ⟨rfl, rfl⟩
  go_wp2_with fail
  refine (H3.out _ (HR.out.below HB3.out)).mono ?_
  rintro e W3 ⟨rfl, hb3⟩
  have HB4 := Lib.hid (HB3.out.trans ((hb3).mono HB3.out.size))
  clear HB3 hb3
  go_wp2_with fail
  refine (H4.out _ (HR.out.below HB4.out)).mono ?_
  rintro e W4 ⟨rfl, hb4⟩
  have HB5 := Lib.hid (HB4.out.trans ((hb4).mono HB4.out.size))
  clear HB4 hb4
  go_wp2_with fail
  refine (H9.out _ (ht.below HB5.out)).mono ?_
  rintro e W6 ⟨rfl, hb6⟩
  have HB6 := Lib.hid (HB5.out.trans ((hb6).mono HB5.out.size))
  clear HB5 hb6
  go_wp2
  go_ret
  exact ⟨rfl, HB6.out⟩
end Go.Proofs.YtbiicdpmilplmaaDoor
