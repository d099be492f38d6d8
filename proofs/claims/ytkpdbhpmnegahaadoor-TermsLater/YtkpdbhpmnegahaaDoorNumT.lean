/- What num.Text returns, for every integer of 64 bits. -/
import Derived.Test.YtkpdbhpmnegahaaDoorTxt
import Derived.Test.YtkpdbhpmnegahaaDoorNumA
import Derived.Laws.BytesString
import Derived.Laws.OwnMore
namespace Go.Proofs.YtkpdbhpmnegahaaDoor
open Go.RowKit
set_option linter.unusedVariables false

theorem tdiv10_abs (z : Int) : (z.tdiv 10).natAbs = z.natAbs / 10 := Int.natAbs_tdiv z 10
theorem tmod10_abs (z : Int) : (z.tmod 10).natAbs = z.natAbs % 10 := Int.natAbs_tmod z 10

set_option maxHeartbeats 400000 in
theorem countDigits_any (n : Int) (w : World) (n1 : -9223372036854775808 ≤ n) (n2 : n ≤ 9223372036854775807) :
    Calls Tryd.prog 26 #[.int .i64 n] w fun e w' => e = .returned (.int .i64 ((dg n.natAbs).length : Nat)) ∧ w = w' := by
  have hL := dg_len20 (n := n.natAbs) (by omega)
  have H0 := Lib.hid (dg_len n.natAbs)
  go_enter Tryd.func26, Tryd.ntmps26
  go_wp2
  go_loop [0, 3] (fun z c => ∃ (y : Int) (k : Nat), z = .int .i64 y ∧ -9223372036854775808 ≤ y ∧ y ≤ 9223372036854775807 ∧ c = .int .i64 k ∧ k + len0 y.natAbs = (dg n.natAbs).length) (fun z _ => (intOf z).natAbs)
  case atStart =>
    have h := tdiv10_abs n
    exact ⟨n.tdiv 10, 1, rfl, by omega, by omega, rfl, by rw [h, H0.out]⟩
  case round =>
    obtain ⟨y, k, rfl, y1, y2, rfl, hk⟩ := hrel
    have HK := Lib.hid hk
    have hk20 : k ≤ 20 := by omega
    clear hk
    by_cases h : y = 0
    · subst h
      go_wp2
      go_ret
      exact ⟨ret_int (by have := HK.out; simp [len0] at this; omega), rfl⟩
    · have hb : (y != 0) = true := by simpa using h
      go_wp2
      have ht := tdiv10_abs y
      go_round
      case rel => exact ⟨y.tdiv 10, k + 1, rfl, by omega, by omega, by go_num, by rw [ht, ← HK.out, len0_step (n := y.natAbs) (by omega)]; omega⟩
      case measure => simp only [intOf, ht]; omega

theorem Tryd.u8info : (Tryd.prog.info? 5).map (fun i => (i.zero, i.size, i.bytes)) = some (some (.int .u8 0), 1, 1) := by kernel_rfl
theorem made_zero (n : Nat) : (madeCells #[.int .u8 0] (n * 1)).toList = List.replicate n (.int .u8 0) := by
  apply List.ext_getElem
  · simp [madeCells]
  · intro i h1 h2
    simp [madeCells, Nat.mod_one]
theorem push_bytes (l : List UInt8) : ∀ s : ByteArray, (l.map fun c => (c.toNat : Int)).foldl (fun r n => r.push (UInt8.ofNat n.toNat)) s = s ++ ⟨l.toArray⟩ := by
  induction l with
  | nil => intro s; apply ByteArray.ext; simp
  | cons c l ih =>
    intro s
    simp only [List.map_cons, List.foldl_cons]
    rw [ih]
    apply ByteArray.ext
    simp
theorem addr_add (B j : Nat) : (⟨B, 0, none⟩ : Addr).add j = ⟨B, j, none⟩ := by
  unfold Addr.add; split
  · rename_i h0; rw [h0]
  · simp
theorem conv_cells {w : World} {base B : Nat} {l : List UInt8} {src dst e : TypeId} (hs : Tryd.prog.underlying src = some (.slice e)) (he : Tryd.prog.underlying e = some (.int .u8)) (hd : Tryd.prog.underlying dst = some .string)
    (h : w.ownsRow base e 1 (.slice (some ⟨B, 0, none⟩) l.length l.length) l.length (l.map fun c => .int .u8 (c.toNat : Int))) :
    (convert src dst (.slice (some ⟨B, 0, none⟩) l.length l.length)).run Tryd.prog w = .ok (.string ⟨l.toArray⟩) w := by
  rw [run_convert_bytes_string w src dst e _ _ _ hs he hd]
  rw [run_bytesToString w _ _ _ (l.map fun c => (c.toNat : Int))]
  · rw [push_bytes]; simp
  · have hl := run_loadCells_list (P := Tryd.prog) (w := w) ⟨B, 0, none⟩ (l.map fun c => Value.int .u8 (c.toNat : Int)) (fun j v hv => by
      have hj : j < l.length := by have := (List.getElem?_eq_some_iff.1 hv).1; simpa using this
      have := h.cellAt j (by omega)
      rw [hv] at this
      rw [addr_add]; exact this)
    rw [List.length_map] at hl
    rw [hl, List.map_map]; rfl


theorem digit_abs {y : Int} : (if y.tmod 10 < 0 then -(y.tmod 10) else y.tmod 10) = ((y.natAbs % 10 : Nat) : Int) := by
  have := tmod10_abs y
  split <;> omega

theorem txt_round {w wr : World} {B L k a : Nat} {d : Int} (hown : wr.ownsRow B 5 1 (.slice (some ⟨B, 0, none⟩) L L) L (txtCells a k)) (hb : Below B w wr) (hlt : k < L) (hL : (dg a).length = L) (hd : d = ((a / 10 ^ k % 10 : Nat) : Int)) :
    (wr.setCell ⟨B, L - 1 - k, none⟩ (.int .u8 (48 + d))).ownsRow B 5 1 (.slice (some ⟨B, 0, none⟩) L L) L (txtCells a (k + 1)) ∧ Below B w (wr.setCell ⟨B, L - 1 - k, none⟩ (.int .u8 (48 + d))) := by
  subst hd hL
  have h := hown.stored ((dg a).length - 1 - k) (.int .u8 (48 + ((a / 10 ^ k % 10 : Nat) : Int)))
  rw [txtCells_step hlt] at h
  exact ⟨h.1, hb.setCell (Nat.le_refl _) _⟩
theorem div_step {y : Int} {a k : Nat} (h : y.natAbs = a / 10 ^ k) : (y.tdiv 10).natAbs = a / 10 ^ (k + 1) := by
  rw [tdiv10_abs, h, Nat.div_div_eq_div_mul, Nat.pow_succ]
theorem textS_neg {n : Int} (h : n < 0) : textS n = ⟨#[45]⟩ ++ ⟨(dg n.natAbs).toArray⟩ := by
  unfold textS text; rw [if_pos h]; apply ByteArray.ext; simp
theorem textS_nonneg {n : Int} (h : ¬ n < 0) : textS n = ⟨(dg n.natAbs).toArray⟩ := by
  unfold textS text; rw [if_neg h]

set_option maxHeartbeats 400000 in
theorem text_any (n : Int) (w : World) (n1 : -9223372036854775808 ≤ n) (n2 : n ≤ 9223372036854775807) :
    Calls Tryd.prog 14 #[.int .i64 n] w fun e w' => e = .returned (.string (textS n)) ∧ Below w.heap.size w w' := by
  have hL := dg_len20 (n := n.natAbs) (by omega)
  have hP := dg_pos n.natAbs
  obtain ⟨i0, hi, hz0, hz1, hz2⟩ := info_parts Tryd.u8info
  have HC := Lib.hid (countDigits_any n w n1 n2)
  generalize hLL : (dg n.natAbs).length = L at *
  have HL := Lib.hid hLL
  clear hLL
  go_enter Tryd.func14, Tryd.ntmps14
  go_wp2_with fail
  refine HC.out.mono ?_
  rintro e w' ⟨rfl, rfl⟩
  go_wp2_with (at_make; refine wpList_make_full _ rfl _ _ 59 rfl w.heap.size 5 i0 (.int .u8 0) 1 Tryd.underlying59 hi hz0 hz1 _ _ _ _ L rfl rfl rfl rfl ?_ ?_ ?_ ?_)
  · rw [hz2]; omega
  · unfold maxLen; omega
  · exact Nat.le_refl _
  · intro w1 hown hgr
    have hown1 : w1.ownsRow w.heap.size 5 1 (.slice (some ⟨w.heap.size, 0, none⟩) L L) L (txtCells n.natAbs 0) := by
      have e := made_zero L
      rw [Nat.mul_one] at e
      rw [e] at hown
      rw [txtCells_zero, HL.out]; exact hown
    have hb1 : Below w.heap.size w w1 := (Below.refl _ _).grown hgr (Nat.le_refl _) (by simp)
    clear hown hgr
    generalize hB : w.heap.size = B at *
    have HB := Lib.hid hB
    clear hB
    go_wp2_with fail
    go_loopw [5, 14] (fun z i wr => ∃ (y : Int) (k : Nat), k ≤ L ∧ i = .int .i64 k ∧ z = .int .i64 y ∧ (-9223372036854775808 ≤ y ∧ y ≤ 9223372036854775807) ∧ y.natAbs = n.natAbs / 10 ^ k ∧ wr.ownsRow B 5 1 (.slice (some ⟨B, 0, none⟩) L L) L (txtCells n.natAbs k) ∧ Below B w wr) (fun _ i _ => L - (intOf i).toNat)
    case atStart => exact ⟨n, 0, Nat.zero_le _, rfl, rfl, ⟨n1, n2⟩, by simp, hown1, hb1⟩
    case round =>
      obtain ⟨y, k, hk, rfl, rfl, ⟨y1, y2⟩, hy, hown, hb⟩ := hrel
      have HY := Lib.hid hy
      have HO := Lib.hid hown
      clear hy hown hown1
      by_cases hlt : k < L
      · have hfz := HO.out.frozenAt (L - 1 - k)
        have hcl : ∃ v, wr.cell? ⟨B, L - 1 - k, none⟩ = some v := by
          rw [HO.out.cellAt (L - 1 - k) (by omega)]
          exact ⟨_, List.getElem?_eq_getElem (by rw [txtCells_len, HL.out]; omega)⟩
        obtain ⟨v, hcell⟩ := hcl
        have ht := tmod10_abs y
        have t1 : -9 ≤ y.tmod 10 := by omega
        have t2 : y.tmod 10 ≤ 9 := by omega
        have HT := Lib.hid ht
        clear ht
        by_cases hneg : y.tmod 10 < 0
        · go_wp2
          have R := txt_round (d := -(y.tmod 10)) HO.out hb hlt HL.out (by rw [← HY.out, ← HT.out]; omega)
          have hq := tdiv10_abs y
          go_roundw
          case rel => exact ⟨y.tdiv 10, k + 1, by omega, by go_num, rfl, ⟨by omega, by omega⟩, div_step HY.out, R.1, R.2⟩
          case measure => simp [intOf]; omega
        · go_wp2
          have R := txt_round (d := y.tmod 10) HO.out hb hlt HL.out (by rw [← HY.out, ← HT.out]; omega)
          have hq := tdiv10_abs y
          go_roundw
          case rel => exact ⟨y.tdiv 10, k + 1, by omega, by go_num, rfl, ⟨by omega, by omega⟩, div_step HY.out, R.1, R.2⟩
          case measure => simp [intOf]; omega
      · have hkL : k = (dg n.natAbs).length := by rw [HL.out]; omega
        have hfull := HO.out
        rw [hkL, txtCells_full, ← HL.out] at hfull
        have hconv := conv_cells (src := 59) (dst := 9) Tryd.underlying59 Tryd.underlying5 Tryd.underlying9 hfull
        rw [HL.out] at hconv
        clear hkL hfull
        have hss : (⟨(dg n.natAbs).toArray⟩ : ByteArray).size ≤ 20 := by
          have e : (⟨(dg n.natAbs).toArray⟩ : ByteArray).size = (dg n.natAbs).length := by rw [← bytes_len, toList_mk]
          rw [e, HL.out]; exact hL
        by_cases hn : n < 0
        · have HN := Lib.hid (textS_neg hn)
          generalize (⟨(dg n.natAbs).toArray⟩ : ByteArray) = S at *
          go_wp2
          go_ret
          exact ⟨ret_str HN.out.symm, by rw [HB.out]; exact hb⟩
        · have HN := Lib.hid (textS_nonneg hn)
          generalize (⟨(dg n.natAbs).toArray⟩ : ByteArray) = S at *
          go_wp2
          go_ret
          exact ⟨ret_str HN.out.symm, by rw [HB.out]; exact hb⟩
end Go.Proofs.YtkpdbhpmnegahaaDoor
