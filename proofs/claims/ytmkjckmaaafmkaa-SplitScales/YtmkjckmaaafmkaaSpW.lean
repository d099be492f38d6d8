/- The laws SplitSums and SplitEvenReference return true. Written by wip/mk_spw.py. -/
import Derived.Test.YtmkjckmaaafmkaaSpV
import Derived.Lib.QuietBelow
namespace Go.Proofs.Ytmkjckmaaafmkaa
open Go.RowKit Go.Sort
set_option linter.unusedVariables false
set_option linter.unusedSimpArgs false

/-- a slice of integers that came in (as the frame of a law's proof says it). -/
def IsRow (k : IntKind) (w : World) (a : Option Addr) (len cap : Nat) (zs : List Int) : Prop :=
  (a = none ∧ len = 0 ∧ cap = 0 ∧ zs = []) ∨
  ∃ x, a = some x ∧ len ≤ cap ∧ cap ≤ maxLen ∧ zs.length = cap ∧ (∀ i, i < zs.length → w.cell? (x.add i) = some (.int k (zs.getD i 0))) ∧ ∀ n ∈ zs, (Lit.int k n).wf = true
theorem i64_bd' {a : Int} (h : (Lit.int .i64 a).wf = true) : -9223372036854775808 ≤ a ∧ a ≤ 9223372036854775807 := by
  simp [Lit.wf, IntKind.min, IntKind.max, IntKind.signed, IntKind.bits] at h; omega
theorem lt_of_cell {w : World} {p : Addr} {v : Value} (h : w.cell? p = some v) : p.block < w.heap.size := by
  rcases Nat.lt_or_ge p.block w.heap.size with hl | hl
  · exact hl
  · simp [World.cell?, Array.getElem?_eq_none hl] at h
theorem row_of {w : World} {a : Option Addr} {len cap : Nat} {zs : List Int} (h : IsRow .i64 w a len cap zs) : ∃ ys : List Int, ys.length = len ∧ Row w a ys ∧ (a = none → cap = 0) ∧ len ≤ 9223372036854775807 := by
  rcases h with ⟨rfl, rfl, rfl, rfl⟩ | ⟨x, rfl, hl, hm, hz, hc, hw⟩
  · exact ⟨[], rfl, ⟨fun h => absurd h (by simp), by simp⟩, fun _ => rfl, by omega⟩
  · refine ⟨zs.take len, by simp; omega, ⟨fun h => ?_, fun z hz' => i64_bd' (hw z (List.mem_of_mem_take hz'))⟩, fun e => (by cases e), by unfold maxLen at hm; omega⟩
    obtain ⟨b, off, spot⟩ := x
    have hlt : 0 < zs.length := by simp at h; omega
    have hc0 := hc 0 hlt
    have hspot : spot = none := by simpa [Addr.add] using World.cell?_spot hc0
    subst hspot
    have hb : b < w.heap.size := by have := lt_of_cell hc0; simpa [Addr.add] using this
    refine ⟨b, off, rfl, hb, fun k hk => ?_⟩
    have hk' : k < zs.length := by simp at hk; omega
    have := hc k hk'
    rw [addr_is] at this
    rw [this]
    simp [List.getElem_take, List.getD, hk']
theorem sh_ok (x : Int) (A : Option Addr) (c : Nat) (zs : List Int) (w : World) (hR : Row w A zs) (hlen : (zs.length : Int) ≤ 9223372036854775807) (x1 : -9223372036854775808 ≤ x) (x2 : x ≤ 9223372036854775807) (h : shE x zs = 0) :
    Calls Try.prog 12 #[.int .i64 x, .slice A zs.length c] w fun e w' => ∃ B, e = .returned (.tuple #[.slice B zs.length zs.length, .int .i64 0]) ∧ Row w' B (shO x zs) ∧ Ord1 x.natAbs zs.sum.toNat (wtN zs) zs.length ∧ Below w.heap.size w w' := by
  refine (shares_any x A c zs w hR hlen x1 x2).mono ?_
  intro e w' q
  obtain ⟨ho, B, rfl, h1, h2⟩ := shP_shQ q
  exact ⟨B, by rw [shO_len h, h], h1, ho h, h2⟩
theorem sh_err (x : Int) (A : Option Addr) (c : Nat) (zs : List Int) (w : World) (hR : Row w A zs) (hlen : (zs.length : Int) ≤ 9223372036854775807) (x1 : -9223372036854775808 ≤ x) (x2 : x ≤ 9223372036854775807) (h : ¬ shE x zs = 0) :
    Calls Try.prog 12 #[.int .i64 x, .slice A zs.length c] w fun e w' => ∃ B, e = .returned (.tuple #[.slice B 0 0, .int .i64 (shE x zs)]) ∧ Below w.heap.size w w' := by
  refine (shares_any x A c zs w hR hlen x1 x2).mono ?_
  intro e w' q
  obtain ⟨ho, B, rfl, h1, h2⟩ := shP_shQ q
  exact ⟨B, by rw [shO_err h]; rfl, h2⟩
theorem sh_gen (x : Int) (A : Option Addr) (c : Nat) (zs : List Int) (w : World) (hR : Row w A zs) (hlen : (zs.length : Int) ≤ 9223372036854775807) (x1 : -9223372036854775808 ≤ x) (x2 : x ≤ 9223372036854775807) :
    Calls Try.prog 12 #[.int .i64 x, .slice A zs.length c] w fun e w' => ∃ B m er, e = .returned (.tuple #[.slice B m m, .int .i64 er]) ∧ Below w.heap.size w w' := by
  refine (shares_any x A c zs w hR hlen x1 x2).mono ?_
  intro e w' q
  obtain ⟨ho, B, rfl, h1, h2⟩ := shP_shQ q
  exact ⟨B, _, _, rfl, h2⟩
theorem lsum_sh {x : Int} {B : Option Addr} {c : Nat} {zs : List Int} {w : World} (h : shE x zs = 0) (ho : Ord1 x.natAbs zs.sum.toNat (wtN zs) zs.length) (hR : Row w B (shO x zs)) :
    Calls Try.prog 18 #[.slice B zs.length c] w fun e w' => e = .returned (.int .i64 x) ∧ w = w' := by
  have hf := fine_of h
  have q := lsum_any B c (shO x zs) w hR (by rw [shO_len h]; have := hf.n2; omega) (fun k hk => shO_part h ho k hk)
  rwa [shO_len h, shO_sum h ho] at q
theorem lsum_wt {x : Int} {A : Option Addr} {c : Nat} {zs : List Int} {w : World} (h : shE x zs = 0) (hR : Row w A zs) :
    Calls Try.prog 18 #[.slice A zs.length c] w fun e w' => e = .returned (.int .i64 zs.sum) ∧ w = w' := by
  have hf := fine_of h
  have ha := all_good hf.g.pos
  have := hf.g.t1
  exact lsum_any A c zs w hR (by have := hf.n2; omega) (fun k hk => by
    have h1 := take_le ha k
    have h2 : 0 ≤ (zs.take k).sum := sum_pos (all_pos fun z hz => by
      have := List.all_eq_true.1 ha z (List.mem_of_mem_take hz)
      simpa using this)
    omega)
theorem shE_many {x : Int} {zs : List Int} (h : 260 < zs.length) : shE x zs = 9 := by unfold shE; rw [if_pos (by omega)]
theorem own_none (w : World) (T : TypeId) : OwnV (w.alloc (.cells #[] T)) w.heap.size T (.slice (some ⟨w.heap.size, 0, none⟩) 0 0) [] := by
  exact ⟨rfl, .inr ⟨w.heap.size, 0, #[], rfl, Nat.le_refl _, by unfold World.alloc; simp, by simp, by unfold maxLen; omega, rfl, rfl⟩⟩
theorem rowV_of {w' : World} {A : Option Addr} {zs : List Int} (h : Row w' A zs) : RowV w' A (zs.map (Value.int .i64)) := by
  intro i x hx
  rw [List.getElem?_map] at hx
  obtain ⟨z, hz, rfl⟩ := Option.map_eq_some_iff.1 hx
  obtain ⟨hi, rfl⟩ := List.getElem?_eq_some_iff.1 hz
  obtain ⟨b, off, e, hl, hc⟩ := h.1 (by omega)
  exact ⟨b, off, e, hl, hc i hi⟩
theorem row_own {w : World} {B : Nat} {v : Value} {zs : List Int} (h : OwnV w B 3 v (zs.map (Value.int .i64))) (hz : ∀ z ∈ zs, -9223372036854775808 ≤ z ∧ z ≤ 9223372036854775807) : ∃ A c, v = .slice A zs.length c ∧ Row w A zs := by
  obtain ⟨A, c, rfl⟩ := h.shape
  refine ⟨A, c, by rw [List.length_map], fun hl => ?_, hz⟩
  have hr := h.row
  obtain ⟨b, off, e, hb, _⟩ := hr 0 (.int .i64 zs[0]) (by simp [hl])
  subst e
  refine ⟨b, off, rfl, hb, fun k hk => ?_⟩
  obtain ⟨b2, off2, e2, _, hc⟩ := hr k (.int .i64 zs[k]) (by simp [hk])
  injection e2 with e2
  injection e2 with e3 e4
  subst e3 e4
  exact hc
set_option maxRecDepth 100000 in
set_option maxHeartbeats 4000000 in
theorem splitSums_walk (a0 : Int) (a1 : Option Addr) (len1 cap1 : Nat) (z1 : List Int) (w : World) (w0 : (Lit.int .i64 a0).wf = true) (w1 : IsRow .i64 w a1 len1 cap1 z1) :
    Calls Try.prog 5 #[.int .i64 a0, .slice a1 len1 cap1] w fun e w' => e = .returned (.bool true) ∧ Below w.heap.size w w' := by
  obtain ⟨x1, x2⟩ := i64_bd' w0
  obtain ⟨zs, rfl, hR, hnil, hlen⟩ := row_of w1
  clear w0 w1
  have hlen' : (zs.length : Int) ≤ 9223372036854775807 := by omega
  have HL := Lib.hid (fun W => lives_any W)
  have HM := Lib.hid (fun W => many_any a1 cap1 zs.length W)
  by_cases q : shE a0 zs = 0
  rotate_left
  · have CE := Lib.hid (sh_err a0 a1 cap1 zs w hR hlen' x1 x2 q)
    have q' : (shE a0 zs != 0) = true := by simpa using q
    generalize shE a0 zs = er at *
    clear q hR
    by_cases hm : 260 < zs.length
    · rw [show decide (260 < zs.length) = true from decide_eq_true hm] at HM
      clear hm
      go_enter Try.func5, Try.ntmps5
      go_wp2_with fail
      refine CE.out.mono ?_
      rintro e w2 ⟨B, rfl, hb⟩
      have HB := Lib.hid hb
      clear hb
      go_wp2_with fail
      refine (HM.out _).mono ?_
      rintro e w3 ⟨rfl, rfl⟩
      go_wp2_with fail
      refine (HL.out _).mono ?_
      rintro e w4 ⟨rfl, hb4⟩
      go_wp2
      go_ret
      exact ⟨rfl, HB.out.trans (hb4.mono HB.out.size)⟩
    · rw [show decide (260 < zs.length) = false from decide_eq_false hm] at HM
      clear hm
      go_enter Try.func5, Try.ntmps5
      go_wp2_with fail
      refine CE.out.mono ?_
      rintro e w2 ⟨B, rfl, hb⟩
      have HB := Lib.hid hb
      clear hb
      go_wp2_with fail
      refine (HM.out _).mono ?_
      rintro e w3 ⟨rfl, rfl⟩
      go_wp2_with fail
      refine (HL.out _).mono ?_
      rintro e w4 ⟨rfl, hb4⟩
      go_wp2
      go_ret
      exact ⟨rfl, HB.out.trans (hb4.mono HB.out.size)⟩
  have hf := fine_of q
  have hn2 := hf.n2
  have hx1 := hf.x1
  have hx2 := hf.x2
  rw [show decide (260 < zs.length) = false from decide_eq_false (by omega)] at HM
  have CS := Lib.hid (sh_ok a0 a1 cap1 zs w hR hlen' x1 x2 q)
  have HR0 := Lib.hid hR
  have HQ := Lib.hid q
  have HF := Lib.hid hf
  clear q hf hR hnil
  go_enter Try.func5, Try.ntmps5
  go_wp2_with fail
  refine CS.out.mono ?_
  rintro e w2 ⟨B, rfl, hr, ho, hb⟩
  have HRz := Lib.hid (row_b HR0.out hb)
  have HRa := Lib.hid hr
  have HO := Lib.hid ho
  have HB := Lib.hid hb
  clear hr ho hb HR0 CS
  have CU := Lib.hid (lsum_sh (c := zs.length) HQ.out HO.out HRa.out)
  go_wp2_with fail
  refine (HM.out _).mono ?_
  rintro e w3 ⟨rfl, rfl⟩
  go_wp2_with fail
  refine CU.out.mono ?_
  rintro e w4 ⟨rfl, rfl⟩
  go_wp2_with fail
  refine (HL.out _).mono ?_
  rintro e w5 ⟨rfl, hb5⟩
  go_wp2
  go_ret
  exact ⟨rfl, HB.out.trans (hb5.mono HB.out.size)⟩
set_option maxRecDepth 100000 in
set_option maxHeartbeats 4000000 in
theorem splitEvenReference_walk (a0 a1 : Int) (w : World) (w0 : (Lit.int .i64 a0).wf = true) (w1 : (Lit.int .i64 a1).wf = true) :
    Calls Try.prog 4 #[.int .i64 a0, .int .i64 a1] w fun e w' => e = .returned (.bool true) ∧ Below w.heap.size w w' := by
  obtain ⟨x1, x2⟩ := i64_bd' w0
  obtain ⟨y1, y2⟩ := i64_bd' w1
  clear w0 w1
  have HL := Lib.hid (fun W => lives_any W)
  have CE := Lib.hid (even_all a0 a1 w x1 x2)
  have hle : (evO a0 a1).length ≤ 200 := by
    unfold evO
    split
    · simp
    · split
      · simp
      · unfold shO; split <;> simp; omega
  have HSm := Lib.hid (fun A B W (hA : Row W A (evO a0 a1)) (hB : Row W B (evO a0 a1)) => same_any A B (evO a0 a1).length (evO a0 a1).length (evO a0 a1) (evO a0 a1) W hA hB (by omega) (by omega))
  have hd : decide (evO a0 a1 = evO a0 a1) = true := by simp
  rw [hd] at HSm
  clear hd
  go_enter Try.func4, Try.ntmps4
  go_wp2_with fail
  refine CE.out.mono ?_
  rintro e w2 ⟨ho, A, rfl, hr, hb⟩
  have CR := Lib.hid (rEven_any a0 a1 w2 ho)
  have HRa := Lib.hid hr
  have HB := Lib.hid hb
  clear ho hr hb
  go_wp2_with fail
  refine CR.out.mono ?_
  rintro e w3 ⟨B, rfl, hr, hb⟩
  have CS := Lib.hid (HSm.out A B w3 (row_b HRa.out hb) hr)
  have HB := Lib.hid (HB.out.trans (hb.mono HB.out.size))
  clear hr hb HSm HRa CR CE hle
  generalize (evO a0 a1).length = m at *
  generalize evE a0 a1 = er at *
  go_wp2_with fail
  refine CS.out.mono ?_
  rintro e w4 ⟨rfl, hb4⟩
  have HB := Lib.hid (HB.out.trans (hb4.mono HB.out.size))
  clear hb4
  go_wp2_with fail
  refine (HL.out _).mono ?_
  rintro e w5 ⟨rfl, hb5⟩
  go_wp2
  go_ret
  exact ⟨rfl, HB.out.trans (hb5.mono HB.out.size)⟩
end Go.Proofs.Ytmkjckmaaafmkaa
