/- The law SplitScales returns true. Written by wip/mk_spw.py. -/
import Derived.Test.YtmkjckmaaafmkaaSpW
import Derived.Lib.QuietBelow
namespace Go.Proofs.Ytmkjckmaaafmkaa
open Go.RowKit Go.Sort
set_option linter.unusedVariables false
set_option linter.unusedSimpArgs false

theorem rowV_lit (w : World) (T : TypeId) (y : Int) : RowV (w.alloc (.cells #[.int .i64 y] T)) (some ⟨w.heap.size, 0, none⟩) [.int .i64 y] := by
  intro i x hx
  have hi : i = 0 := by rcases i with _ | i; rfl; simp at hx
  subst hi
  simp at hx
  subst hx
  exact ⟨w.heap.size, 0, rfl, by simp, by rw [World.cell?_alloc_at _ _ _ _ rfl]; rfl⟩
theorem app_one {w : World} {ops : Array Oper} {rest : List Oper} {o : Oper} {a : Act} {Q : Exit → Act → World → Prop} (hgd : o.guard = none) (s x : Operand)
    (ho : o.op = .call { callee := .builtin .append, args := #[s, x], argTypes := #[22, 22] }) (base : Nat) (v : Value) (zs : List Int) (y : Int) (hs : a.eval s = v) (hown : OwnV w base 3 v (zs.map (Value.int .i64)))
    (W0 : World) (hW : w = W0.alloc (.cells #[.int .i64 y] 3)) (hx : a.eval x = .slice (some ⟨W0.heap.size, 0, none⟩) 1 1) (hl : zs.length < 1000) (hbase : base ≤ W0.heap.size)
    (h : ∀ v' w', OwnV w' base 3 v' ((zs ++ [y]).map (Value.int .i64)) → Below base W0 w' → wpList Try.prog ops Q rest (a.put o.dst v') w') : wpList Try.prog ops Q (o :: rest) a w := by
  subst hW
  have hr := rowV_lit W0 3 y
  refine wpList_vals und_ints inf_int rfl (by omega) hgd s x ho base v (zs.map (Value.int .i64)) [.int .i64 y] hs hown (some ⟨W0.heap.size, 0, none⟩) 1 hx (fun e => by cases e) hr (by intro z hz; simp at hz; subst hz; rfl) (by simp; omega) (by simp; omega) ?_
  intro v' w' h1 h2
  exact h v' w' (by rw [List.map_append]; exact h1) (((Below.refl base W0).alloc hbase _).trans h2)
set_option maxRecDepth 100000 in
set_option maxHeartbeats 4000000 in
theorem splitScales_walk (a0 : Int) (a1 : Option Addr) (len1 cap1 : Nat) (z1 : List Int) (a2 : Int) (w : World) (w0 : (Lit.int .i64 a0).wf = true) (w1 : IsRow .i64 w a1 len1 cap1 z1) (w2 : (Lit.int .i64 a2).wf = true) :
    Calls Try.prog 9 #[.int .i64 a0, .slice a1 len1 cap1, .int .i64 a2] w fun e w' => e = .returned (.bool true) ∧ Below w.heap.size w w' := by
  obtain ⟨x1, x2⟩ := i64_bd' w0
  obtain ⟨zs, rfl, hR, hnil, hlen⟩ := row_of w1
  clear w0 w1 w2 hnil
  have hlen' : (zs.length : Int) ≤ 9223372036854775807 := by omega
  have HL := Lib.hid (fun W => lives_any W)
  have HM := Lib.hid (fun W => many_any a1 cap1 zs.length W)
  have HR0 := Lib.hid hR
  clear hR
  by_cases hm : 260 < zs.length
  · rw [show decide (260 < zs.length) = true from decide_eq_true hm] at HM
    go_enter Try.func9, Try.ntmps9
    go_wp2_with fail
    refine (HM.out _).mono ?_
    rintro e w3 ⟨rfl, rfl⟩
    go_wp2_with fail
    refine (HL.out _).mono ?_
    rintro e w4 ⟨rfl, hb4⟩
    go_wp2
    go_ret
    exact ⟨rfl, hb4⟩
  rw [show decide (260 < zs.length) = false from decide_eq_false hm] at HM
  by_cases k1 : a2 < 1
  · have k1' : decide (a2 < 1) = true := decide_eq_true k1
    go_enter Try.func9, Try.ntmps9
    go_wp2_with fail
    refine (HM.out _).mono ?_
    rintro e w3 ⟨rfl, rfl⟩
    go_wp2_with fail
    refine (HL.out _).mono ?_
    rintro e w4 ⟨rfl, hb4⟩
    go_wp2
    go_ret
    exact ⟨rfl, hb4⟩
  have k1' : decide (a2 < 1) = false := decide_eq_false k1
  by_cases k2 : 1000 < a2
  · have k2' : decide (1000 < a2) = true := decide_eq_true k2
    go_enter Try.func9, Try.ntmps9
    go_wp2_with fail
    refine (HM.out _).mono ?_
    rintro e w3 ⟨rfl, rfl⟩
    go_wp2_with fail
    refine (HL.out _).mono ?_
    rintro e w4 ⟨rfl, hb4⟩
    go_wp2
    go_ret
    exact ⟨rfl, hb4⟩
  have k2' : decide (1000 < a2) = false := decide_eq_false k2
  have hk1 : 1 ≤ a2 := by omega
  have hk2 : a2 ≤ 1000 := by omega
  clear k1 k2
  have HOw := Lib.hid (show OwnV (w.alloc (.cells #[] 3)) w.heap.size 3 (.slice (some ⟨w.heap.size, 0, none⟩) 0 0) (((zs.take 0).map (fun z => z * a2)).map (Value.int .i64)) by simpa using own_none w 3)
  have HBw := Lib.hid ((Below.refl w.heap.size w).alloc (Nat.le_refl _) (.cells #[] 3))
  go_enter Try.func9, Try.ntmps9
  go_wp2_with fail
  refine (HM.out _).mono ?_
  rintro e w3 ⟨rfl, rfl⟩
  go_wp2_with fail
  go_loopw [7, 8] (fun v y wr => ∃ j : Nat, j ≤ zs.length ∧ y = .int .i64 j ∧ Hid (OwnV wr w.heap.size 3 v (((zs.take j).map (fun z => z * a2)).map (Value.int .i64))) ∧ Hid (∀ i, i < j → ∀ hi : i < zs.length, 0 ≤ zs[i] ∧ zs[i] ≤ 1000000000) ∧ Hid (Below w.heap.size w wr)) (fun _ y _ => zs.length - (intOf y).toNat)
  case atStart => exact ⟨0, Nat.zero_le _, rfl, HOw, Lib.hid (fun i hi => by omega), HBw⟩
  case round =>
    clear HOw HBw
    obtain ⟨j, hj, rfl, HO, HG, HB⟩ := hrel
    by_cases h : j < zs.length
    · have h' : (j : Int) < (zs.length : Int) := by omega
      obtain ⟨b, off, rfl, hc⟩ := (row_b HR0.out HB.out).at_ h
      have HG2 := Lib.hid (show 0 ≤ zs[j] → zs[j] ≤ 1000000000 → ∀ i, i < j + 1 → ∀ hi : i < zs.length, 0 ≤ zs[i] ∧ zs[i] ≤ 1000000000 from fun g1 g2 i h1 hi => by
        by_cases e : i = j
        · subst e; exact ⟨g1, g2⟩
        · exact HG.out i (by omega) hi)
      have HT := Lib.hid (show (zs.take (j + 1)).map (fun z => z * a2) = (zs.take j).map (fun z => z * a2) ++ [zs[j] * a2] by rw [List.take_succ_eq_append_getElem h, List.map_append]; rfl)
      have HSz := Lib.hid HB.out.size
      generalize zs[j] = z at *
      by_cases z1 : 1000000000 < z
      · have z1' : decide (1000000000 < z) = true := decide_eq_true z1
        go_wp2_with fail
        refine (HL.out _).mono ?_
        rintro e w4 ⟨rfl, hb4⟩
        go_wp2
        go_ret
        exact ⟨rfl, HB.out.trans (hb4.mono HB.out.size)⟩
      have z1' : decide (1000000000 < z) = false := decide_eq_false z1
      by_cases z2 : z < 0
      · have z2' : decide (z < 0) = true := decide_eq_true z2
        go_wp2_with fail
        refine (HL.out _).mono ?_
        rintro e w4 ⟨rfl, hb4⟩
        go_wp2
        go_ret
        exact ⟨rfl, HB.out.trans (hb4.mono HB.out.size)⟩
      have z2' : decide (z < 0) = false := decide_eq_false z2
      have HG2 := Lib.hid (HG2.out (by omega) (by omega))
      have m1 : 0 ≤ z * a2 := Int.mul_nonneg (by omega) (by omega)
      have m2 : z * a2 ≤ 1000000000000 := by
        have q1 := Int.mul_le_mul_of_nonneg_right (show z ≤ 1000000000 by omega) (show 0 ≤ a2 by omega)
        have q2 : 1000000000 * a2 ≤ 1000000000 * 1000 := by omega
        omega
      go_wp2_with (at_builtin; refine app_one rfl (.tmp 44) (.tmp 51) rfl w.heap.size _ ((zs.take j).map (fun z => z * a2)) (z * a2) rfl (OwnV.below HO.out ((Below.refl _ _).alloc (Nat.le_refl _) _)) wr rfl rfl (by simp; omega) HSz.out ?_; intro v' w5 hown hbel; rw [← HT.out] at hown; have HO2 := Lib.hid hown; have HB2 := Lib.hid (HB.out.trans hbel); clear hown hbel)
      go_wp2
      go_roundw
      case rel => exact ⟨j + 1, by omega, by go_num, HO2, HG2, HB2⟩
      case measure => simp [intOf]; omega
    · have h' : ¬ (j : Int) < (zs.length : Int) := by omega
      have hp : ∀ z ∈ zs, 0 ≤ z := fun z hz => by obtain ⟨i, hi, rfl⟩ := List.getElem_of_mem hz; exact (HG.out i (by omega) hi).1
      have hub : ∀ z ∈ zs, z ≤ 1000000000 := fun z hz => by obtain ⟨i, hi, rfl⟩ := List.getElem_of_mem hz; exact (HG.out i (by omega) hi).2
      have hsum : zs.length ≤ 200 → zs.sum * a2 ≤ 1000000000000000 := fun hn => by
        have q1 := sum_le 1000000000 zs hub
        have q0 := sum_pos (all_pos hp)
        have q2 : zs.sum ≤ 200000000000 := by omega
        have q3 := Int.mul_le_mul q2 hk2 (by omega) (by omega)
        omega
      have HEs := Lib.hid (shE_scale (x := a0) hp hk1 hsum)
      have HOs := Lib.hid (shO_scale (x := a0) hp hk1 hsum)
      have hown := HO.out
      rw [List.take_of_length_le (show zs.length ≤ j by omega)] at hown
      obtain ⟨A, c, rfl, hrow⟩ := row_own hown (fun y hy => by
        obtain ⟨z, hz, rfl⟩ := List.mem_map.1 hy
        have q1 := Int.mul_nonneg (hp z hz) (show 0 ≤ a2 by omega)
        have q2 := Int.mul_le_mul (hub z hz) hk2 (by omega) (by omega)
        omega)
      have HRm := Lib.hid hrow
      have HRz := Lib.hid (row_b HR0.out HB.out)
      clear hown hrow HO HG hp hub hsum HR0
      have hle : (shO a0 zs).length ≤ 260 := by unfold shO; split <;> simp; omega
      have HSm := Lib.hid (fun A B W (hA : Row W A (shO a0 zs)) (hB : Row W B (shO a0 zs)) => same_any A B (shO a0 zs).length (shO a0 zs).length (shO a0 zs) (shO a0 zs) W hA hB (by omega) (by omega))
      have hd : decide (shO a0 zs = shO a0 zs) = true := by simp
      rw [hd] at HSm
      clear hd
      have C1 := Lib.hid (shares_any a0 a1 cap1 zs wr HRz.out hlen' x1 x2)
      have C2 := Lib.hid (fun W (hb : Below wr.heap.size wr W) => shares_any a0 A c (zs.map (fun z => z * a2)) W (row_b HRm.out hb) (by rw [List.length_map]; exact hlen') x1 x2)
      generalize (zs.map (fun z => z * a2)).length = ml at *
      go_wp2_with fail
      refine C1.out.mono ?_
      intro e w4 hsp
      obtain ⟨_, B, rfl, hr, hb⟩ := shP_shQ hsp
      have HRa := Lib.hid hr
      have HB1 := Lib.hid hb
      clear hsp hr hb
      go_wp2_with fail
      refine (C2.out _ HB1.out).mono ?_
      intro e w5 hsp
      obtain ⟨_, C, rfl, hr, hb⟩ := shP_shQ hsp
      rw [HOs.out] at hr
      rw [HOs.out, HEs.out]
      have CS := Lib.hid (HSm.out B C w5 (row_b HRa.out hb) hr)
      have HB := Lib.hid ((HB.out.trans (HB1.out.mono HB.out.size)).trans (hb.mono (HB.out.trans (HB1.out.mono HB.out.size)).size))
      clear hsp hr hb C1 C2 HSm HRa hle HOs HEs HB1 HRm HRz
      generalize (shO a0 zs).length = m at *
      generalize shE a0 zs = er at *
      go_wp2_with fail
      refine CS.out.mono ?_
      rintro e w6 ⟨rfl, hb⟩
      have HB := Lib.hid (HB.out.trans (hb.mono HB.out.size))
      clear hb CS
      go_wp2_with fail
      refine (HL.out _).mono ?_
      rintro e w8 ⟨rfl, hb⟩
      go_wp2
      go_ret
      exact ⟨rfl, HB.out.trans (hb.mono HB.out.size)⟩
end Go.Proofs.Ytmkjckmaaafmkaa
