/- The laws NumSums and NumOrder return true, for every list of integers of 64 bits. -/
import Derived.Test.YtbmggfeneieglaaNumU
namespace Go.Proofs.Ytbmggfeneieglaa
open Go.RowKit
set_option linter.unusedVariables false

/-- a slice of integers that came in (as the frame of a law's proof says it). -/
def IsRow (k : IntKind) (w : World) (a : Option Addr) (len cap : Nat) (zs : List Int) : Prop :=
  (a = none ∧ len = 0 ∧ cap = 0 ∧ zs = []) ∨
  ∃ x, a = some x ∧ len ≤ cap ∧ cap ≤ maxLen ∧ zs.length = cap ∧ (∀ i, i < zs.length → w.cell? (x.add i) = some (.int k (zs.getD i 0))) ∧ ∀ n ∈ zs, (Lit.int k n).wf = true
theorem i64_bd' {a : Int} (h : (Lit.int .i64 a).wf = true) : -9223372036854775808 ≤ a ∧ a ≤ 9223372036854775807 := by
  simp [Lit.wf, IntKind.min, IntKind.max, IntKind.signed, IntKind.bits] at h; omega
theorem lt_of_cell {w : World} {p : Addr} {v : Value} (h : w.cell? p = some v) : p.block < w.heap.size := by
  rcases Nat.lt_or_ge p.block w.heap.size with hl | hl
  · exact hl
  · simp [World.cell?, Array.getElem?_eq_none hl] at h
theorem row_of {w : World} {a : Option Addr} {len cap : Nat} {zs : List Int} (h : IsRow .i64 w a len cap zs) : ∃ ys : List Int, ys.length = len ∧ Row w a ys := by
  rcases h with ⟨rfl, rfl, rfl, rfl⟩ | ⟨x, rfl, hl, hm, hz, hc, hw⟩
  · exact ⟨[], rfl, fun h => absurd h (by simp), by simp⟩
  · refine ⟨zs.take len, by simp; omega, ⟨fun h => ?_, fun z hz' => i64_bd' (hw z (List.mem_of_mem_take hz'))⟩⟩
    obtain ⟨b, off, spot⟩ := x
    have hlt : 0 < zs.length := by simp at h; omega
    have hc0 := hc 0 hlt
    have hspot : spot = none := by simpa [Addr.add] using World.cell?_spot hc0
    subst hspot
    have hb : b < w.heap.size := by have := lt_of_cell hc0; simpa [Addr.add] using this
    refine ⟨b, off, rfl, hb, fun k hk => ?_⟩
    have hk' : k < zs.length := by simp at hk; omega
    have := hc k hk'
    have ea : (⟨b, off, none⟩ : Addr).add k = ⟨b, off + k, none⟩ := by
      unfold Addr.add; split
      · rename_i e; subst e; rfl
      · rfl
    rw [ea] at this
    rw [this]
    simp [List.getElem_take, List.getD, hk']

theorem isRow_len {w : World} {a : Option Addr} {len cap : Nat} {zs : List Int} (h : IsRow .i64 w a len cap zs) : len ≤ 9223372036854775807 := by
  rcases h with ⟨rfl, rfl, rfl, rfl⟩ | ⟨x, rfl, hl, hm, _⟩
  · omega
  · unfold maxLen at hm; omega

set_option maxHeartbeats 400000 in
theorem numSums_walk (a0 : Option Addr) (len0 cap0 : Nat) (z0 : List Int) (w : World) (w0 : IsRow .i64 w a0 len0 cap0 z0) :
    Calls Try.prog 6 #[.slice a0 len0 cap0] w fun e w' => e = .returned (.bool true) ∧ Below w.heap.size w w' := by
  have hcap := isRow_len w0
  obtain ⟨ys, hlen, hR⟩ := row_of w0
  clear w0
  by_cases h : 2000 < len0
  · go_enter Try.func6, Try.ntmps6
    go_wp2
    go_ret
    exact ⟨rfl, Below.refl _ _⟩
  · subst hlen
    have A1 := Lib.hid (sum_any a0 cap0 ys w hR (by omega))
    have A2 := Lib.hid (rSum_any a0 cap0 ys w hR (by omega))
    have A5 := Lib.hid (lives_any w)
    generalize fit ys.sum = s at *
    generalize fits ys.sum = p at *
    go_enter Try.func6, Try.ntmps6
    go_wp2_with fail
    refine A1.out.mono ?_
    rintro e w' ⟨rfl, rfl⟩
    go_wp2_with fail
    refine A2.out.mono ?_
    rintro e w' ⟨rfl, rfl⟩
    go_wp2_with fail
    refine A5.out.mono ?_
    rintro e w' ⟨rfl, hb⟩
    go_wp2
    go_ret
    exact ⟨rfl, hb⟩

theorem Try.i64info : (Try.prog.info? 3).map (fun i => (i.zero, i.size, i.bytes)) = some (some (.int .i64 0), 1, 8) := by kernel_rfl
/-- the elements from j on, in the reverse order. -/
def revFrom (ys : List Int) (j : Nat) : List Int := (ys.drop j).reverse
theorem revFrom_len (ys : List Int) (j : Nat) : (revFrom ys j).length = ys.length - j := by unfold revFrom; simp
theorem revFrom_step (ys : List Int) {j : Nat} (h : j < ys.length) : revFrom ys j = revFrom ys (j + 1) ++ [ys[j]] := by
  unfold revFrom; rw [List.drop_eq_getElem_cons h]; simp
theorem revFrom_end (ys : List Int) : revFrom ys ys.length = [] := by unfold revFrom; simp
theorem revFrom_sum (ys : List Int) : (revFrom ys 0).sum = ys.sum := by unfold revFrom; simp [List.sum_reverse]
theorem row_below {B : Nat} {w w' : World} {A : Option Addr} {zs : List Int} (h : Row w A zs) (hB : B = w.heap.size) (hb : Below B w w') : Row w' A zs := by
  refine ⟨fun hl => ?_, h.2⟩
  obtain ⟨b, off, e, hlt, hc⟩ := h.1 hl
  exact ⟨b, off, e, Nat.lt_of_lt_of_le hlt (by have := hb.size; omega), fun k hk => (hb.cell (p := ⟨b, off + k, none⟩) (by rw [hB]; exact hlt)).trans (hc k hk)⟩
theorem row_own {w : World} {B n : Nat} {v : Value} {zs : List Int} (h : w.ownsRow B 3 1 v n (zs.map (Value.int .i64))) (hz : ∀ z ∈ zs, -9223372036854775808 ≤ z ∧ z ≤ 9223372036854775807) : ∃ A c, v = .slice A zs.length c ∧ Row w A zs := by
  have hn : zs.length = n := by have := h.1; simpa using this
  subst hn
  rcases h.2 with ⟨rfl, e⟩ | ⟨g, cap, cur, rfl, _, hg, _⟩
  · have e0 : zs.length = 0 := by first | exact e | (rw [List.map_eq_nil_iff] at e; rw [e]; rfl)
    rw [e0]
    exact ⟨_, _, rfl, fun h => absurd h (by omega), hz⟩
  · refine ⟨_, cap, rfl, fun _ => ⟨g, 0, rfl, ?_, fun k hk => ?_⟩, hz⟩
    · rcases Nat.lt_or_ge g w.heap.size with hl | hl
      · exact hl
      · rw [Array.getElem?_eq_none hl] at hg; cases hg
    · have := h.cellAt k (by omega)
      rw [Nat.zero_add, this]
      simp [hk]

set_option maxHeartbeats 1000000 in
theorem numOrder_walk (a0 : Option Addr) (len0 cap0 : Nat) (z0 : List Int) (w : World) (w0 : IsRow .i64 w a0 len0 cap0 z0) :
    Calls Try.prog 7 #[.slice a0 len0 cap0] w fun e w' => e = .returned (.bool true) ∧ Below w.heap.size w w' := by
  have hcap := isRow_len w0
  obtain ⟨ys, hlen, hR⟩ := row_of w0
  clear w0
  by_cases h : 2000 < len0
  · go_enter Try.func7, Try.ntmps7
    go_wp2
    go_ret
    exact ⟨rfl, Below.refl _ _⟩
  · subst hlen
    obtain ⟨i0, hi, hz0, hz1, hz2⟩ := info_parts Try.i64info
    generalize hB : w.heap.size = B at *
    have HB := Lib.hid hB
    clear hB
    go_enter Try.func7, Try.ntmps7
    go_wp2
    go_loopw [3, 4] (fun v i wr => ∃ j : Nat, j ≤ ys.length ∧ i = .int .i64 ((j : Int) - 1) ∧ wr.ownsRow B 3 1 v (revFrom ys j).length ((revFrom ys j).map (Value.int .i64)) ∧ Below B w wr) (fun _ i _ => (intOf i + 1).toNat)
    case atStart => exact ⟨ys.length, Nat.le_refl _, rfl, by rw [revFrom_end]; exact World.ownsRow_nil _ _ _ _, Below.refl _ _⟩
    case round =>
      obtain ⟨j, hj, rfl, hown, hb⟩ := hrel
      rcases j with _ | j
      · have hR' := row_below hR HB.out.symm hb
        obtain ⟨A, c, rfl, hM⟩ := row_own hown (fun z hz => hR.2 z (by unfold revFrom at hz; simpa using hz))
        have A1 := Lib.hid (sum_any a0 cap0 ys wr hR' (by omega))
        have A2 := sum_any A c (revFrom ys 0) wr hM (by rw [revFrom_len]; omega)
        rw [revFrom_sum] at A2
        have A2 := Lib.hid A2
        have A5 := Lib.hid (lives_any wr)
        generalize (revFrom ys 0).length = m at *
        generalize fit ys.sum = s at *
        generalize fits ys.sum = p at *
        clear hown hM hR hR'
        go_wp2_with fail
        refine A1.out.mono ?_
        rintro e w' ⟨rfl, rfl⟩
        go_wp2_with fail
        refine A2.out.mono ?_
        rintro e w' ⟨rfl, rfl⟩
        go_wp2_with fail
        refine A5.out.mono ?_
        rintro e w' ⟨rfl, hb5⟩
        go_wp2
        go_ret
        exact ⟨rfl, by exact hb.trans (hb5.mono (by have := hb.size; rw [HB.out] at this; exact this))⟩
      · have hlt : j < ys.length := by omega
        rw [show ((j + 1 : Nat) : Int) - 1 = (j : Int) by omega]
        obtain ⟨b, off, rfl, hc⟩ := (row_below hR HB.out.symm hb).at_ hlt
        have hsz := hb.size
        rw [HB.out] at hsz
        have hl1 := revFrom_len ys (j + 1)
        have hl2 : (revFrom ys (j + 1)).length ≤ 2000 := by omega
        have HL1 := Lib.hid hl1
        clear hl1
        generalize hx : ys[j] = x at *
        have HX := Lib.hid hx
        clear hx
        go_wp2_with (at_builtin; refine wpList_append_own _ rfl _ _ 27 rfl B 3 i0 (.int .i64 0) 1 8 Try.underlying27 hi hz0 hz1 hz2 rfl (by decide) _ _ _ rfl (hown.alloc _) ⟨wr.heap.size, 0, none⟩ 1 1 [.int .i64 x] rfl rfl ?c1 ?c2 ?c3 ?c4 ?c5 ?_)
        case c1 =>
          intro j u hj
          match j, hj with
          | 0, hj => simp at hj; subst hj; simp [Addr.add]
        case c2 => intro u hu; simp at hu; subst hu; rfl
        case c3 => unfold maxLen; omega
        case c4 => omega
        case c5 => simp; omega
        intro v' w1 hown' hgrow _
        have hb1 : Below B w w1 := by
          refine (hb.alloc (by first | exact hsz | exact Nat.le_refl _ | omega) _).grown hgrow (by simp; omega) ?_
          intro g hg
          exact (hown.lt g hg).1
        have hown2 : w1.ownsRow B 3 1 v' (revFrom ys j).length ((revFrom ys j).map (Value.int .i64)) := by
          rw [revFrom_step ys hlt, HX.out]
          simpa using hown'
        clear hown' hgrow hown hc hsz
        go_wp2
        go_roundw
        case rel => exact ⟨j, by omega, rfl, hown2, hb1⟩
        case measure => simp [intOf]
end Go.Proofs.Ytbmggfeneieglaa
