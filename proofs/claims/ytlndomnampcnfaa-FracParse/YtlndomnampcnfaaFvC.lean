/- What minus of package accountingref03 returns. Written by wip/mk_fvc.py. -/
import Derived.Test.YtlndomnampcnfaaFvB
import Derived.Lib.ConvBytes
namespace Go.Proofs.Ytlndomnampcnfaa
open Go.RowKit Go.Sort
set_option linter.unusedVariables false
set_option linter.unusedSimpArgs false

theorem conv_pa (w : World) (T : TypeId) (l : List UInt8) : PaV (Lib.bytesWorld w T (bs l)) w.heap.size l.length (fun t => byV (l.getD t 0)) ∧ Below w.heap.size w (Lib.bytesWorld w T (bs l)) := by
  refine ⟨⟨by rw [Lib.bytesWorld_size]; omega, fun t ht => ⟨?_, ?_⟩⟩, ⟨?_, ?_, ?_, by rw [Lib.bytesWorld_size]; omega, fun k hk => Lib.bytesWorld_at_old w T (bs l) k hk⟩⟩
  · rw [Lib.bytesWorld_cell w T (bs l) t (by rw [bs_size]; exact ht)]; rfl
  · unfold World.frozen?
    rw [Lib.bytesWorld_at_new]
    have : l.length ≤ (Lib.bytesCells w T (bs l)).size := by
      unfold Lib.bytesCells; simp [bs]
    simp; omega
  all_goals (have q : Below w.heap.size w (w.drew.alloc (Obj.cells (Lib.bytesCells w T (bs l)) T)) := ((Below.refl _ _).drew).alloc (Nat.le_refl _) _; unfold Lib.bytesWorld World.freeze; simp; first | exact q.os | exact q.tape | exact q.output | skip)
theorem getD_mid (X : List UInt8) (c d : UInt8) (r : List UInt8) (t : Nat) (h : t ≠ X.length) : (X ++ c :: r).getD t 0 = (X ++ d :: r).getD t 0 := by
  rcases Nat.lt_or_ge t X.length with q | q
  · simp [List.getD, List.getElem?_append_left q]
  · obtain ⟨k, rfl⟩ : ∃ k, t = X.length + (k + 1) := ⟨t - X.length - 1, by omega⟩
    simp [List.getD, List.getElem?_append_right]
theorem getD_here (X : List UInt8) (c : UInt8) (r : List UInt8) : (X ++ c :: r).getD X.length 0 = c := by simp [List.getD]
theorem row_pa {w : World} {P n : Nat} {r : List UInt8} (h : PaV w P n (fun t => byV (r.getD t 0))) (hr : r.length = n) : RowB w (some ⟨P, 0, none⟩) r := by
  refine PaV.row h fun i x hx => ?_
  rw [List.getElem?_map] at hx
  obtain ⟨z, hz, rfl⟩ := Option.map_eq_some_iff.1 hx
  obtain ⟨hi, rfl⟩ := List.getElem?_eq_some_iff.1 hz
  exact ⟨by omega, by simp [List.getD, hi]⟩
theorem byte_of {v : Int} (h0 : 0 ≤ v) (h1 : v < 256) : ∃ c : UInt8, (c.toNat : Int) = v := ⟨UInt8.ofNat v.toNat, by rw [UInt8.toNat_ofNat']; omega⟩
set_option maxRecDepth 100000 in
set_option maxHeartbeats 8000000 in
theorem rMinus_any (n m : Nat) (w : World) (hle : m ≤ n) (hn : (dn n).length ≤ 120) : Calls Try.prog 39 #[.string (bs (dn n)), .string (bs (dn m))] w fun e w' => e = .returned (.string (bs (dn (n - m)))) ∧ Below w.heap.size w w' := by
  have hml : (dn m).length ≤ (dn n).length := by
    apply Classical.byContradiction
    intro hc
    have := dn_short (n := n) (m := m) (by omega)
    omega
  have hA := dn_all n
  have hB := dn_all m
  have eA := dec_dn n
  have eB := dec_dn m
  generalize dn n = A at *
  generalize dn m = B at *
  obtain ⟨c0, hconv⟩ : ∃ c0, (convert 9 72 (.string (bs A))).run Try.prog w = .ok (.slice (some ⟨w.heap.size, 0, none⟩) (bs A).size c0) (Lib.bytesWorld w 5 (bs A)) := ⟨_, Lib.run_convert_string_bytes w 9 72 5 (bs A) und_str und_bytes und_u8⟩
  obtain ⟨hp0, hb0⟩ := conv_pa w 5 A
  have HP0 := Lib.hid hp0
  have HB0 := Lib.hid hb0
  clear hp0 hb0
  generalize Lib.bytesWorld w 5 (bs A) = W0 at *
  obtain ⟨SA, hSA⟩ : ∃ T, bs A = T := ⟨_, rfl⟩
  obtain ⟨SB, hSB⟩ : ∃ T, bs B = T := ⟨_, rfl⟩
  have tA : Tx SA A := hSA ▸ tx_bs _
  have tB : Tx SB B := hSB ▸ tx_bs _
  rw [hSA] at hconv
  rw [hSA, hSB]
  clear hSA hSB
  obtain ⟨N, hN⟩ : ∃ N, A.length = N := ⟨_, rfl⟩
  obtain ⟨M, hM⟩ : ∃ M, B.length = M := ⟨_, rfl⟩
  have sA : SA.size = N := by rw [tA.size]; exact hN
  have sB : SB.size = M := by rw [tB.size]; exact hM
  rw [sA] at hconv
  rw [hN] at HP0 hn hml
  rw [hM] at hml
  have HA := Lib.hid (show Tx SA A ∧ A.all dig = true ∧ dec A = n ∧ A.length = N from ⟨tA, hA, eA, hN⟩)
  have HBb := Lib.hid (show Tx SB B ∧ B.all dig = true ∧ dec B = m ∧ B.length = M from ⟨tB, hB, eB, hM⟩)
  have HLe := Lib.hid hle
  clear tA tB hA hB eA eB hN hM hle
  go_enter Try.func39, Try.ntmps39
  go_wp2_with fail
  go_loopw [6, 7] (fun x y wr => ∃ (i j : Nat) (br : Int) (r : List UInt8), i + 1 = j ∧ i ≤ N ∧ y = .int .i64 (j : Int) ∧ x = .int .i64 br ∧ 0 ≤ br ∧ br ≤ 1 ∧ Hid (r.length = i ∧ r.all dig = true ∧ MinI A B r i br) ∧ Hid (PaV wr w.heap.size N (fun t => byV ((A.take (N - i) ++ r).getD t 0))) ∧ Hid (Below w.heap.size w wr)) (fun _ y _ => N + 1 - (intOf y).toNat)
  case atStart => exact ⟨0, 1, 0, [], rfl, Nat.zero_le _, rfl, rfl, by omega, by omega, Lib.hid ⟨rfl, rfl, min_start A B⟩, Lib.hid (HP0.out.congr2 fun t ht => by rw [Nat.sub_zero, List.append_nil, List.take_of_length_le (by rw [HA.out.2.2.2]; omega)]), HB0⟩
  case round =>
    clear HP0 HB0 hconv
    obtain ⟨i, j, br, r, hij, hiN, rfl, rfl, b0, b1, HI, HP, HB⟩ := hrel
    by_cases h : i < N
    · have h' : (j : Int) ≤ (N : Int) := by omega
      obtain ⟨p, hp⟩ : ∃ p, N - (i + 1) = p := ⟨_, rfl⟩
      have hidx : (N : Int) - (j : Int) = (p : Int) := by omega
      have hpN : p < N := by omega
      have hpN' : (p : Int) < (N : Int) := by omega
      have hpS : p < SA.size := by omega
      have hpA : p < A.length := by rw [HA.out.2.2.2]; exact hpN
      have hSp : SA[p] = A[p] := HA.out.1.at hpS hpA
      obtain ⟨xa1, xa2⟩ := dig_nat (List.all_eq_true.1 HA.out.2.1 _ (List.getElem_mem hpA))
      obtain ⟨xa, exa⟩ : ∃ xa : Int, (SA[p].toNat : Int) - 48 = xa := ⟨_, rfl⟩
      have hxa : xa = ((A[p].toNat - 48 : Nat) : Int) := by rw [← exa, hSp]; omega
      have xa0 : 0 ≤ xa := by omega
      have xa9 : xa ≤ 9 := by omega
      have HXa := Lib.hid hxa
      have p0 : wr.cell? ⟨w.heap.size, p, none⟩ = some (byV ((A.take (N - i) ++ r).getD p 0)) := (HP.out.2 p hpN).1
      have p1 := (HP.out.2 p hpN).2
      have hsplit : A.take (N - i) = A.take p ++ [A[p]] := by rw [show N - i = p + 1 by omega]; exact List.take_succ_eq_append_getElem hpA
      have hlp : (A.take p).length = p := by rw [List.length_take]; omega
      have HSt := Lib.hid (fun (c : UInt8) => show PaV (wr.setCell ⟨w.heap.size, p, none⟩ (.int .u8 (c.toNat : Int))) w.heap.size N (fun t => byV ((A.take (N - (i + 1)) ++ (c :: r)).getD t 0)) by
        have q := HP.out.set (g := fun t => byV ((A.take p ++ (c :: r)).getD t 0)) p hpN (fun t ht e => by rw [hsplit, List.append_assoc]; exact congrArg byV (getD_mid (A.take p) c A[p] r t (by omega)))
        rw [show (A.take p ++ c :: r).getD p 0 = c by have := getD_here (A.take p) c r; rwa [hlp] at this] at q
        rw [hp]
        exact q)
      have HBt := Lib.hid (fun (c : UInt8) => HB.out.setCell (p := ⟨w.heap.size, p, none⟩) (Nat.le_refl _) (.int .u8 (c.toNat : Int)))
      have HPp := Lib.hid hp
      clear hp hSp hxa hsplit hlp xa1 xa2
      unfold byV at p0
      generalize ((A.take (N - i) ++ r).getD p 0).toNat = old at *
      obtain ⟨x1, ex1⟩ : ∃ x1 : Int, xa - br = x1 := ⟨_, rfl⟩
      by_cases hb : i < M
      · have hb' : (j : Int) ≤ (M : Int) := by omega
        obtain ⟨q, hq⟩ : ∃ q, M - (i + 1) = q := ⟨_, rfl⟩
        have hidq : (M : Int) - (j : Int) = (q : Int) := by omega
        have hqM : q < M := by omega
        have hqM' : (q : Int) < (M : Int) := by omega
        have hqS : q < SB.size := by omega
        have hqB : q < B.length := by rw [HBb.out.2.2.2]; exact hqM
        have hSq : SB[q] = B[q] := HBb.out.1.at hqS hqB
        obtain ⟨xb1, xb2⟩ := dig_nat (List.all_eq_true.1 HBb.out.2.1 _ (List.getElem_mem hqB))
        obtain ⟨xb, exb⟩ : ∃ xb : Int, (SB[q].toNat : Int) - 48 = xb := ⟨_, rfl⟩
        have hxb : xb = ((B[q].toNat - 48 : Nat) : Int) := by rw [← exb, hSq]; omega
        have xb0 : 0 ≤ xb := by omega
        have xb9 : xb ≤ 9 := by omega
        obtain ⟨x2, ex2⟩ : ∃ x2 : Int, x1 - xb = x2 := ⟨_, rfl⟩
        have HIn := Lib.hid (fun (c : UInt8) (b2 : Int) (hv : ((c.toNat - 48 : Nat) : Int) = x2 + b2 * 10) => min_in (p := p) (q := q) (br2 := b2) HI.out.2.2 HI.out.1 (by rw [HA.out.2.2.2]; exact h) (by rw [HBb.out.2.2.2]; exact hb) (by rw [HA.out.2.2.2]; exact HPp.out) (by rw [HBb.out.2.2.2]; exact hq) (by rw [hv, ← ex2, ← ex1, HXa.out, hxb]))
        clear hq hSq hxb xb1 xb2
        by_cases hlt : x2 < 0
        · obtain ⟨x3, ex3⟩ : ∃ x3 : Int, x2 + 10 = x3 := ⟨_, rfl⟩
          obtain ⟨c, hc⟩ := byte_of (v := 48 + x3) (by omega) (by omega)
          have hc := hc.symm
          have x3a : 0 ≤ x3 := by omega
          have x3b : x3 ≤ 9 := by omega
          have cb1 : 48 ≤ (c.toNat : Int) := by omega
          have cb2 : (c.toNat : Int) ≤ 57 := by omega
          have hw8 : IntKind.u8.wrap (48 + x3) = 48 + x3 := by rw [IntKind.wrap_u8]; omega
          have HR2 := Lib.hid (show (c :: r).length = i + 1 ∧ (c :: r).all dig = true ∧ MinI A B (c :: r) (i + 1) 1 from ⟨by rw [List.length_cons, HI.out.1], by rw [List.all_cons, HI.out.2.1, dig_iff.2 ⟨by omega, by omega⟩]; rfl, HIn.out c 1 (by omega)⟩)
          have HS2 := Lib.hid (HSt.out c)
          have HB2 := Lib.hid (HBt.out c)
          rw [← hc] at HS2 HB2
          clear HIn HSt HBt HI HP HB hc
          go_wp2
          go_roundw
          case rel => exact ⟨i + 1, j + 1, 1, c :: r, by omega, by omega, by go_num, rfl, by omega, by omega, HR2, HS2, HB2⟩
          case measure => simp [intOf]; omega
        · obtain ⟨c, hc⟩ := byte_of (v := 48 + x2) (by omega) (by omega)
          have hc := hc.symm
          have x3b : x2 ≤ 9 := by omega
          have cb1 : 48 ≤ (c.toNat : Int) := by omega
          have cb2 : (c.toNat : Int) ≤ 57 := by omega
          have hw8 : IntKind.u8.wrap (48 + x2) = 48 + x2 := by rw [IntKind.wrap_u8]; omega
          have HR2 := Lib.hid (show (c :: r).length = i + 1 ∧ (c :: r).all dig = true ∧ MinI A B (c :: r) (i + 1) 0 from ⟨by rw [List.length_cons, HI.out.1], by rw [List.all_cons, HI.out.2.1, dig_iff.2 ⟨by omega, by omega⟩]; rfl, HIn.out c 0 (by omega)⟩)
          have HS2 := Lib.hid (HSt.out c)
          have HB2 := Lib.hid (HBt.out c)
          rw [← hc] at HS2 HB2
          clear HIn HSt HBt HI HP HB hc
          go_wp2
          go_roundw
          case rel => exact ⟨i + 1, j + 1, 0, c :: r, by omega, by omega, by go_num, rfl, by omega, by omega, HR2, HS2, HB2⟩
          case measure => simp [intOf]; omega
      · have hb' : ¬ (j : Int) ≤ (M : Int) := by omega
        obtain ⟨x2, ex2⟩ : ∃ x2 : Int, x1 = x2 := ⟨_, rfl⟩
        subst ex2
        have HIn := Lib.hid (fun (c : UInt8) (b2 : Int) (hv : ((c.toNat - 48 : Nat) : Int) = x1 + b2 * 10) => min_out (p := p) (br2 := b2) HI.out.2.2 HI.out.1 (by rw [HA.out.2.2.2]; exact h) (by rw [HBb.out.2.2.2]; exact hb) (by rw [HA.out.2.2.2]; exact HPp.out) (by rw [hv, ← ex1, HXa.out]))
        by_cases hlt : x1 < 0
        · obtain ⟨x3, ex3⟩ : ∃ x3 : Int, x1 + 10 = x3 := ⟨_, rfl⟩
          obtain ⟨c, hc⟩ := byte_of (v := 48 + x3) (by omega) (by omega)
          have hc := hc.symm
          have x3a : 0 ≤ x3 := by omega
          have x3b : x3 ≤ 9 := by omega
          have cb1 : 48 ≤ (c.toNat : Int) := by omega
          have cb2 : (c.toNat : Int) ≤ 57 := by omega
          have hw8 : IntKind.u8.wrap (48 + x3) = 48 + x3 := by rw [IntKind.wrap_u8]; omega
          have HR2 := Lib.hid (show (c :: r).length = i + 1 ∧ (c :: r).all dig = true ∧ MinI A B (c :: r) (i + 1) 1 from ⟨by rw [List.length_cons, HI.out.1], by rw [List.all_cons, HI.out.2.1, dig_iff.2 ⟨by omega, by omega⟩]; rfl, HIn.out c 1 (by omega)⟩)
          have HS2 := Lib.hid (HSt.out c)
          have HB2 := Lib.hid (HBt.out c)
          rw [← hc] at HS2 HB2
          clear HIn HSt HBt HI HP HB hc
          go_wp2
          go_roundw
          case rel => exact ⟨i + 1, j + 1, 1, c :: r, by omega, by omega, by go_num, rfl, by omega, by omega, HR2, HS2, HB2⟩
          case measure => simp [intOf]; omega
        · obtain ⟨c, hc⟩ := byte_of (v := 48 + x1) (by omega) (by omega)
          have hc := hc.symm
          have x3b : x1 ≤ 9 := by omega
          have cb1 : 48 ≤ (c.toNat : Int) := by omega
          have cb2 : (c.toNat : Int) ≤ 57 := by omega
          have hw8 : IntKind.u8.wrap (48 + x1) = 48 + x1 := by rw [IntKind.wrap_u8]; omega
          have HR2 := Lib.hid (show (c :: r).length = i + 1 ∧ (c :: r).all dig = true ∧ MinI A B (c :: r) (i + 1) 0 from ⟨by rw [List.length_cons, HI.out.1], by rw [List.all_cons, HI.out.2.1, dig_iff.2 ⟨by omega, by omega⟩]; rfl, HIn.out c 0 (by omega)⟩)
          have HS2 := Lib.hid (HSt.out c)
          have HB2 := Lib.hid (HBt.out c)
          rw [← hc] at HS2 HB2
          clear HIn HSt HBt HI HP HB hc
          go_wp2
          go_roundw
          case rel => exact ⟨i + 1, j + 1, 0, c :: r, by omega, by omega, by go_num, rfl, by omega, by omega, HR2, HS2, HB2⟩
          case measure => simp [intOf]; omega
    · have h' : ¬ (j : Int) ≤ (N : Int) := by omega
      obtain rfl : N = i := by omega
      have hr := HI.out.1
      have HE := Lib.hid (show dec r = n - m by
        have q := min_end (a := A) (b := B) (r := r) (br := br) (by rw [HA.out.2.2.2]; exact HI.out.2.2) (by rw [HA.out.2.2.2]; exact hr) HI.out.2.1 (by rw [HA.out.2.2.2, HBb.out.2.2.2]; exact hml) (by rw [HA.out.2.2.1, HBb.out.2.2.1]; exact HLe.out) b0
        rw [q, HA.out.2.2.1, HBb.out.2.2.1])
      have hrow : RowB wr (some ⟨w.heap.size, 0, none⟩) r := row_pa (HP.out.congr2 fun t ht => by rw [Nat.sub_self, List.take_zero, List.nil_append]) hr
      have hcv := hrow.conv' c0
      rw [hr] at hcv
      have HT := Lib.hid (rTrim_any r wr (by omega) HI.out.2.1)
      rw [HE.out] at HT
      obtain ⟨SR, hSR⟩ : ∃ T, bs r = T := ⟨_, rfl⟩
      rw [hSR] at hcv HT
      clear hSR hrow hr HE HI
      go_wp2_with fail
      refine HT.out.mono ?_
      rintro e w2 ⟨rfl, rfl⟩
      go_wp2
      go_ret
      exact ⟨rfl, HB.out⟩
end Go.Proofs.Ytlndomnampcnfaa
