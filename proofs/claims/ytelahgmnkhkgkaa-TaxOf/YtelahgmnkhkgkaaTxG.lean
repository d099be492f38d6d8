/- What Of of package tax returns. Written by wip/mk_txf.py. -/
import Derived.Test.YtelahgmnkhkgkaaTxF
import Derived.OwnWalk
import Derived.Carry
import Derived.Lib.QuietBelow
import Derived.BigQuiet
namespace Go.Proofs.Ytelahgmnkhkgkaa
open Go.RowKit Go.Sort
set_option linter.unusedVariables false
set_option linter.unusedSimpArgs false

set_option maxRecDepth 100000 in
set_option maxHeartbeats 6000000 in
theorem of1_any (A B : Option Addr) (c d : Nat) (L : List Ln) (C : List Cd) (m : Int) (w : World) (hL : RowL w A L) (hBl : BdL L) (hR : RowC w B C) (hBc : BdC C) (hE : errO C L 1 m = 0) :
    Calls Try.prog 18 #[.slice A L.length c, .slice B C.length d, .int .i64 1, .int .i64 m] w fun e w' => ∃ v u, e = .returned (.tuple #[v, u, .int .i64 0]) ∧ OwnI w' w.heap.size v (ntK 1 m C L) ∧ OwnS w' w.heap.size u (inO 1 m (gK 1 m C L) C) ∧ Below w.heap.size w w' := by
  obtain ⟨_, hmo, hco, hl200, hli⟩ := errO_ok hE
  have hc200 := codes_len hco
  have hsr := codes_srt hco
  have H1 := Lib.hid (fun W => isMode_any m W)
  rw [hmo] at H1
  have H2 := Lib.hid (fun W hr => codes_any B d C W hr hBc (by omega))
  rw [hco] at H2
  have H3 := Lib.hid (fun W hl hr => lineError_any A B c d L C W hl hBl hr hl200 hc200 hsr)
  rw [hli] at H3
  have H4 := Lib.hid (fun W => divider_any 1 m W)
  have HFi := Lib.hid (fun T W hr => find_any B d C T W hr hc200 hsr)
  have HLn := Lib.hid (linesE_all hli)
  have HBd := Lib.hid (fun k hk => gK_bd (way := 1) hmo hco HLn.out k hk)
  have HRt := Lib.hid (fun s h => val_rate hco (s := s) h)
  have HDv := Lib.hid (fun x n d hr h1 h2 => div_bd (way := 1) (x := x) (n := n) (d := d) hmo hr h1 h2)
  have HBl := Lib.hid hBl
  have HBc := Lib.hid hBc
  have HL0 := Lib.hid hL
  have HR0 := Lib.hid hR
  have HInO := Lib.hid (fun W Bm n hM hr hG => inOrder_any B d C 1 m Bm n (gK 1 m C L) W hM hr hBc hc200 hG)
  have hmm := @run_makeMap Try.prog
  clear hE hmo hco hli hBl hBc hsr hL hR
  have hl200' : ¬ (200 : Int) < (L.length : Int) := by omega
  go_enter Try.func18, Try.ntmps18
  go_wp2_with fail
  refine (H1.out _).mono ?_
  rintro e w1 ⟨rfl, hb⟩
  have HB1 := Lib.hid hb
  have HR1 := Lib.hid (HR0.out.below hb)
  have HL1 := Lib.hid (HL0.out.below hb)
  clear hb
  go_wp2_with fail
  refine (H2.out _ HR1.out).mono ?_
  rintro e w2 ⟨rfl, hb⟩
  have HB2 := Lib.hid (HB1.out.trans (hb.mono HB1.out.size))
  have HR2 := Lib.hid (HR1.out.below hb)
  have HL2 := Lib.hid (HL1.out.below hb)
  clear hb
  go_wp2_with fail
  refine (H3.out _ HL2.out HR2.out).mono ?_
  rintro e w3 ⟨rfl, hb⟩
  have HB3 := Lib.hid (HB2.out.trans (hb.mono HB2.out.size))
  have HR3 := Lib.hid (HR2.out.below hb)
  have HL3 := Lib.hid (HL2.out.below hb)
  clear hb
  go_wp2_with fail
  refine (H4.out _).mono ?_
  rintro e w4 ⟨rfl, rfl⟩
  have hb4 : Below w3.heap.size w3 ((w3.alloc (Obj.cells #[.int .i64 m] 3)).alloc (.map #[] 0)) := ((Below.refl _ _).alloc (Nat.le_refl _) _).alloc (by simp) _
  have HB5 := Lib.hid (HB3.out.trans (hb4.mono HB3.out.size))
  have HR5 := Lib.hid (HR3.out.below hb4)
  have HL5 := Lib.hid (HL3.out.below hb4)
  have hM0 := MapS.made ES (w3.alloc (Obj.cells #[.int .i64 m] 3)) 9
  rw [World.size_alloc] at hM0
  have HM0 := Lib.hid hM0
  have hc0 : ((w3.alloc (Obj.cells #[.int .i64 m] 3)).alloc (.map #[] 0)).cell? ⟨w3.heap.size, 0, none⟩ = some (.int .i64 m) := by
    rw [((Below.refl (w3.alloc (Obj.cells #[.int .i64 m] 3)).heap.size _).alloc (Nat.le_refl _) _).cell (by simp), World.cell?_alloc_at _ _ _ _ rfl]; rfl
  have HC0 := Lib.hid hc0
  have hsz5 : ((w3.alloc (Obj.cells #[.int .i64 m] 3)).alloc (.map #[] 0)).heap.size = w3.heap.size + 2 := by simp
  have hw0 := HB3.out.size
  clear hb4 hM0 hc0 HB1 HB2 HB3 HR1 HR2 HR3 HL1 HL2 HL3 H1 H2 H3 H4
  unfold dvF
  go_wp2
  obtain ⟨W5, hW5⟩ : ∃ W5, (w3.alloc (Obj.cells #[.int .i64 m] 3)).alloc (.map #[] 0) = W5 := ⟨_, rfl⟩
  rw [hW5] at HB5 HR5 HL5 HM0 HC0 hsz5
  have HW5 := Lib.hid hW5
  clear hW5
  obtain ⟨b0, hb0⟩ : ∃ b0, w3.heap.size = b0 := ⟨_, rfl⟩
  have HM1 := Lib.hid (show MapT W5 (w3.heap.size + 1) 0 (fun _ => none) from HM0.out)
  clear HM0
  go_loopw [8, 53] (fun y x wr => ∃ (k : Nat) (v : Value), k ≤ L.length ∧ x = .int .i64 k ∧ y = v ∧ Hid (OwnI wr (w3.heap.size + 2) v (ntK 1 m C (L.take k))) ∧ Hid (∃ n, n ≤ k ∧ MapT wr (w3.heap.size + 1) n (gK 1 m C (L.take k))) ∧ Hid (wr.cell? ⟨w3.heap.size, 0, none⟩ = some (.int .i64 m)) ∧ w3.heap.size + 2 ≤ wr.heap.size ∧ Hid (Below w.heap.size w wr)) (fun _ x _ => L.length - (intOf x).toNat)
  case atStart => exact ⟨0, _, Nat.zero_le _, rfl, rfl, Lib.hid (OwnI.nil _ _), by rw [HW5.out]; exact Lib.hid ⟨0, Nat.le_refl _, HM1.out⟩, by rw [HW5.out]; exact HC0, by rw [HW5.out]; omega, by rw [HW5.out]; exact HB5⟩
  case round =>
    clear HM1 HC0 HB5 HR5 HL5 hsz5 HW5 W5 hmm
    obtain ⟨k, v, hk, rfl, rfl, HO, HM, HC, hsz, HB⟩ := hrel
    rw [hb0] at HO HM HC hsz hw0 ⊢
    clear hb0
    obtain ⟨n, hnk, hM⟩ := HM.out
    have HM := Lib.hid hM
    clear hM
    have hlen : (ntK 1 m C (L.take k)).length = k := by unfold ntK; rw [List.length_map, List.length_take]; omega
    obtain ⟨ao, cap, hv⟩ := HO.out.shape
    rw [hlen] at hv
    subst hv
    have HLt := Lib.hid HO.out.lt
    by_cases h : k < L.length
    · have h' : (k : Int) < (L.length : Int) := by omega
      obtain ⟨b, off, rfl, hl, hcl⟩ := (HL0.out.below HB.out) (by omega)
      obtain ⟨c0, c1⟩ := hcl k h
      obtain ⟨⟨a1, a2⟩, s1⟩ := HBl.out L[k] (List.getElem_mem h)
      obtain ⟨⟨a3, a4⟩, hval⟩ := line_ok (HLn.out L[k] (List.getElem_mem h))
      have HG := Lib.hid (show gK 1 m C (L.take (k + 1)) = gF 1 m C (gK 1 m C (L.take k)) L[k] from gK_more h)
      have HN := Lib.hid (show ntK 1 m C (L.take (k + 1)) = ntK 1 m C (L.take k) ++ [ntF 1 m C L[k]] from ntK_more h)
      have HBk := Lib.hid (HBd.out k hk)
      obtain ⟨am, hS1⟩ : ∃ am, L[k].1 = am := ⟨_, rfl⟩
      obtain ⟨T, hT⟩ : ∃ T, L[k].2 = T := ⟨_, rfl⟩
      have HGf := Lib.hid (show gF 1 m C (gK 1 m C (L.take k)) L[k] = if T.toList.isEmpty = true then gK 1 m C (L.take k) else updS (gK 1 m C (L.take k)) T.toList (T, ((gK 1 m C (L.take k) T.toList).getD z0).2.1 + (divV 1 am (valC C T).2.2.1 (valC C T).2.2.2 m).1, ((gK 1 m C (L.take k) T.toList).getD z0).2.2 + (divV 1 am (valC C T).2.2.1 (valC C T).2.2.2 m).2) by unfold gF nt1; rw [hS1, hT])
      have HNf := Lib.hid (show ntF 1 m C L[k] = if T.toList.isEmpty = true then am else (divV 1 am (valC C T).2.2.1 (valC C T).2.2.2 m).1 by unfold ntF nt1; rw [hS1, hT])
      rw [HGf.out] at HG
      rw [HNf.out] at HN
      rw [hS1] at c0 a1 a2 a3 a4
      rw [hT] at c1 s1 hval
      have hp := Q2.alloc wr (.int .i64 am) (.string T) 49
      have hb1 : Below wr.heap.size wr (wr.alloc (Obj.cells #[.int .i64 am, .string T] 49)) := (Below.refl _ _).alloc (Nat.le_refl _) _
      have HB2 := Lib.hid (HB.out.trans (hb1.mono HB.out.size))
      have HP := Lib.hid hp
      have HO2 := Lib.hid (HO.out.below hb1)
      have HM2 := Lib.hid (HM.out.below hb1 HM.out.lt)
      have hc2 : (wr.alloc (Obj.cells #[.int .i64 am, .string T] 49)).cell? ⟨b0, 0, none⟩ = some (.int .i64 m) := by rw [hb1.cell (show b0 < wr.heap.size by omega)]; exact HC.out
      have HC2 := Lib.hid hc2
      have l0 := hp.c0
      have l1 := hp.c1
      clear hS1 hT hcl hp hb1 hc2 HGf HNf HO HM HC
      generalize ntK 1 m C (L.take k) = nl at *
      generalize gK 1 m C (L.take k) = g at *
      have hsz1 : (wr.alloc (Obj.cells #[.int .i64 am, .string T] 49)).heap.size = wr.heap.size + 1 := by simp
      cases q3 : T.toList.isEmpty
      · have hat : atC C T = true := by
          rcases hval with q | q
          · rw [q3] at q; cases q
          · exact q
        rw [q3, if_neg (by decide)] at HG
        rw [q3, if_neg (by decide)] at HN
        have HF := Lib.hid (fun W hr => HFi.out T W hr)
        rw [hat] at HF
        obtain ⟨hlt, hnm⟩ := at_is hat
        have hrate := HRt.out _ hat
        have hvc : valC C T = C[lowC C T] := by unfold valC; rw [getC hlt]
        rw [hvc] at HG HN hrate
        obtain ⟨-, ⟨n1, n2⟩, ⟨d1, d2⟩⟩ := HBc.out C[lowC C T] (List.getElem_mem hlt)
        obtain ⟨fn, hfn⟩ : ∃ fn, C[lowC C T].2.2.1 = fn := ⟨_, rfl⟩
        obtain ⟨fd, hfd⟩ : ∃ fd, C[lowC C T].2.2.2 = fd := ⟨_, rfl⟩
        rw [hfn, hfd] at HG HN hrate
        rw [hfn] at n1 n2
        rw [hfd] at d1 d2
        obtain ⟨lw, hlw⟩ : ∃ lw, lowC C T = lw := ⟨_, rfl⟩
        have hlt' : (lw : Int) < (C.length : Int) := by omega
        have hRow : ∀ W, RowC W B C → ∃ b2 off2, B = some ⟨b2, off2, none⟩ ∧ W.cell? ⟨b2, off2 + lw * 4 + 2, none⟩ = some (.int .i64 fn) ∧ W.cell? ⟨b2, off2 + lw * 4 + 3, none⟩ = some (.int .i64 fd) := by
          intro W hr
          obtain ⟨b2, off2, e, _, hcc⟩ := hr (by omega)
          obtain ⟨_, _, g2, g3⟩ := hcc (lowC C T) hlt
          rw [hfn, hlw] at g2
          rw [hfd, hlw] at g3
          exact ⟨b2, off2, e, g2, g3⟩
        have HRow := Lib.hid hRow
        rw [hlw] at HF
        have HDb := Lib.hid (HDv.out am fn fd hrate a3 a4)
        have hdv : divV 1 am fn fd m = (am, (onV am fn fd m).1) := by unfold divV; simp
        have HK := Lib.hid (fun W hm => dv1_any am fn fd m b0 W a1 a2 n1 n2 d1 d2 hm (lt_cell hm))
        obtain ⟨x1, hx1⟩ : ∃ x1, (divV 1 am fn fd m).1 = x1 := ⟨_, rfl⟩
        obtain ⟨x2, hx2⟩ : ∃ x2, (divV 1 am fn fd m).2 = x2 := ⟨_, rfl⟩
        rw [hx1, hx2] at HG HDb
        rw [hx1] at HN
        have HK2 := Lib.hid (show ∀ W, W.cell? ⟨b0, 0, none⟩ = some (.int .i64 m) → Calls Try.prog 58 #[.int .i64 am, .agg #[.int .i64 fn, .int .i64 fd], .pointer (some ⟨b0, 0, none⟩)] W fun e w' => e = .returned (.tuple #[.int .i64 x1, .int .i64 x2]) ∧ Below W.heap.size W w' from fun W hm => by
          have q := HK.out W hm
          rw [← hx1, ← hx2, hdv]
          exact q)
        obtain ⟨⟨x11, x12⟩, ⟨x21, x22⟩⟩ := HDb.out
        have HBg := Lib.hid (HBk.out.get T.toList)
        obtain ⟨yc, yn, yt, hy⟩ : ∃ yc yn yt, (g T.toList).getD z0 = (yc, yn, yt) := ⟨_, _, _, rfl⟩
        rw [hy] at HG HBg
        have HY := Lib.hid hy
        obtain ⟨⟨y1, y2⟩, ⟨y3, y4⟩⟩ := HBg.out
        have y1 : -(2000000000000 * (k : Int)) ≤ yn := y1
        have y2 : yn ≤ 2000000000000 * (k : Int) := y2
        have y3 : -(2000000000000 * (k : Int)) ≤ yt := y3
        have y4 : yt ≤ 2000000000000 * (k : Int) := y4
        have hk2 : (k : Int) ≤ 200 := by omega
        have v1 : -9000000000000000 ≤ yn + x1 := by omega
        have v2 : yn + x1 ≤ 9000000000000000 := by omega
        have v3 : -9000000000000000 ≤ yt + x2 := by omega
        have v4 : yt + x2 ≤ 9000000000000000 := by omega
        have HR2 := Lib.hid (HR0.out.below HB2.out)
        clear hvc hfn hfd hx1 hx2 hdv HK hRow hval hat hnm hlt hlw hrate HRt HDb HDv HBg hy a3 a4 n1 n2 d1 d2 y1 y2 y3 y4 hk2 HBk HBd HLn
        go_wp2_with fail
        refine (HF.out _ HR2.out).mono ?_
        rintro e W3 ⟨rfl, hb⟩
        have HB3 := Lib.hid (HB2.out.trans (hb.mono HB2.out.size))
        have hp := HP.out.below hb
        have HP3 := Lib.hid hp
        have HO3 := Lib.hid (HO2.out.below hb)
        have HM3 := Lib.hid (HM2.out.below hb HM2.out.lt)
        have hc3 : W3.cell? ⟨b0, 0, none⟩ = some (.int .i64 m) := by rw [hb.cell (lt_cell HC2.out)]; exact HC2.out
        have HC3 := Lib.hid hc3
        have hsz3 : b0 + 2 ≤ W3.heap.size := by have := hb.size; simp at this; omega
        obtain ⟨b2, off2, rfl, g2, g3⟩ := HRow.out _ (HR2.out.below hb)
        have m0 := cell_regrown hp.c0
        have m1 := cell_regrown hp.c1
        have m2 := cell_regrown g2
        have m3 := cell_regrown g3
        have p0 := hp.c0
        have p1 := hp.c1
        have K1 : ∀ dd os, Calls Try.prog 58 #[.int .i64 am, .agg #[.int .i64 fn, .int .i64 fd], .pointer (some ⟨b0, 0, none⟩)] (grow (redrawn W3 dd) os) fun e w'' => e = .returned (.tuple #[.int .i64 x1, .int .i64 x2]) ∧ ∃ p : Regrown, w'' = grow (redrawn W3 p.d) p.os := fun dd os => Calls.regrown_of (HK2.out _ (cell_regrown hc3 dd os))
        clear hb hp hc3 l0 l1 HRow HF HK2
        go_wp2_with fail
        refine wp_region_quiet_below (l := _) (by kernel_rfl) (by kernel_rfl) ?_
        repeat (first | go_big_quiet_step (first | (go_at_call 58; exact K1 _ _)))
        refine wpQuiet_nil ?_
        intro w5 hw'
        obtain ⟨⟨dq2, osq2⟩, hw''⟩ := hw'
        have hb := below_regrown W3 dq2 osq2
        rw [← hw''] at hb
        clear hw'' K1 m0 m1 m2 m3 p0 p1
        have HB4 := Lib.hid (HB3.out.trans (hb.mono HB3.out.size))
        have HP4 := Lib.hid (HP3.out.below hb)
        have HO4 := Lib.hid (HO3.out.below hb)
        have HM4 := Lib.hid (HM3.out.below hb HM3.out.lt)
        have hc4 : w5.cell? ⟨b0, 0, none⟩ = some (.int .i64 m) := by rw [hb.cell (lt_cell HC3.out)]; exact HC3.out
        have HC4 := Lib.hid hc4
        have hsz4 : b0 + 2 ≤ w5.heap.size := Nat.le_trans hsz3 hb.size
        clear hb hc4 g2 g3 hsz3
        have hszw : wr.heap.size < w5.heap.size := HP4.out.lt
        have hba : Below w5.heap.size w5 (w5.alloc (Obj.cells #[.int .i64 x1] 3)) := (Below.refl _ _).alloc (Nat.le_refl _) _
        have HOa := Lib.hid (HO4.out.below hba)
        have HPa := Lib.hid (HP4.out.below hba)
        have HBa := Lib.hid hba
        clear hba
        go_wp2_with (first
          | (at_builtin; (refine wpList_intG rfl (.tmp 84) (.tmp 86) rfl (b0 + 2) _ nl x1 rfl HOa.out ⟨w5.heap.size, 0, none⟩ 1 rfl (row_int w5 x1 _) (by omega) (by simp; omega) ?_; intro v' w6 hown hgr; have hq1 := hgr.cell HPa.out.c1 (fun e => by have := HLt.out _ e.symm; dsimp only at this; omega); have hbel := (Below.refl (b0 + 2) _).grown hgr (by simp; omega) (fun kk hkk => (HLt.out kk hkk).1); have HO6 := Lib.hid hown; have HD6 := Lib.hid ((HBa.out.mono hsz4).trans hbel); clear hown hbel hgr; have hb7 : Below w6.heap.size w6 (w6.alloc (Obj.cells #[.string yc, .int .i64 yn, .int .i64 yt] 51)) := (Below.refl _ _).alloc (Nat.le_refl _) _; have hsz6 : b0 + 2 ≤ w6.heap.size := Nat.le_trans hsz4 HD6.out.size; have HO7 := Lib.hid (HO6.out.below hb7); have HD7 := Lib.hid (HD6.out.trans (hb7.mono hsz6)); have HB7 := Lib.hid (HB4.out.trans (HD7.out.mono (show w.heap.size ≤ b0 + 2 by omega))); have HM7 := Lib.hid (HM4.out.below HD7.out (show b0 + 1 < b0 + 2 by omega)); have hc7 : (w6.alloc (Obj.cells #[.string yc, .int .i64 yn, .int .i64 yt] 51)).cell? ⟨b0, 0, none⟩ = some (.int .i64 m) := (by rw [HD7.out.cell (show b0 < b0 + 2 by omega)]; exact HC4.out); have HC7 := Lib.hid hc7; have hq7 := Q3F.alloc w6 (.string yc) (.int .i64 yn) (.int .i64 yt) 51; have k0 := hq7.c0; have k1 := hq7.c1; have k2 := hq7.c2; have hq2 := (hb7.cell (lt_cell hq1)).trans hq1; clear hq7 hc7 hb7))
          | (at_lookup; refine look_is rfl _ _ rfl (b0 + 1) n g rfl (HM4.out.below HD6.out (show b0 + 1 < b0 + 2 by omega)) T rfl s1 yc yn yt HY.out ?_)
          | (at_mapUpdate; refine wpList_updS rfl _ _ _ _ rfl ES _ _ und_str und_map (b0 + 1) n g rfl HM7.out (by unfold maxLen; omega) T rfl s1 (T, yn + x1, yt + x2) rfl ?_; intro w8 hm8 hg8; have HM8 := Lib.hid hm8; have HO8 := Lib.hid (HO7.out.kept hg8 (show b0 + 1 < b0 + 2 by omega)); have HC8 := Lib.hid (hg8.cell HC7.out (by simp)); have HB8 := Lib.hid (below_updS HB7.out hg8 HB7.out.size (by omega)); have hsz8 : b0 + 2 ≤ w8.heap.size := Nat.le_trans (Nat.le_trans hsz4 HD7.out.size) hg8.size; clear hm8 hg8))
        go_roundw
        case rel => exact ⟨k + 1, _, by omega, by go_num, rfl, by rw [HN.out]; exact HO8, Lib.hid ⟨n + 1, by omega, by rw [HG.out]; exact HM8.out⟩, HC8, hsz8, HB8⟩
        case measure => simp [intOf]; omega
      · rw [q3, if_pos rfl] at HG HN
        have hT0 : T = ⟨#[]⟩ := by
          cases T with | mk x => simp [ByteArray.toList_eq] at q3; subst q3; rfl
        subst hT0
        go_wp2_with (at_builtin; (refine wpList_intG rfl _ _ rfl (b0 + 2) _ nl am rfl (HO2.out.below ((Below.refl _ _).alloc (Nat.le_refl _) _)) ⟨wr.heap.size + 1, 0, none⟩ 1 rfl (by have q := row_int (wr.alloc (Obj.cells #[.int .i64 am, .string ⟨#[]⟩] 49)) am 3; simp only [World.size_alloc] at q; exact q) (by omega) (by simp; omega) ?_; intro v' w6 hown hgr; have hbel := (Below.refl (b0 + 2) _).grown hgr (by simp; omega) (fun kk hkk => (HLt.out kk hkk).1); have HO6 := Lib.hid hown; have HD6 := Lib.hid (((Below.refl (b0 + 2) (wr.alloc (Obj.cells #[.int .i64 am, .string ⟨#[]⟩] 49))).alloc (by simp; omega) _).trans hbel); have HB6 := Lib.hid (HB2.out.trans (HD6.out.mono (by omega))); have HM6 := Lib.hid (HM2.out.below HD6.out (show b0 + 1 < b0 + 2 by omega)); have hc6 := (HD6.out.cell (show b0 < b0 + 2 by omega)).trans HC2.out; have HC6 := Lib.hid hc6; have hsz6 : b0 + 2 ≤ w6.heap.size := (by have := HD6.out.size; simp at this; omega); clear hown hbel hgr hc6))
        go_roundw
        case rel => exact ⟨k + 1, _, by omega, by go_num, rfl, by rw [HN.out]; exact HO6, Lib.hid ⟨n, by omega, by rw [HG.out]; exact HM6.out⟩, HC6, hsz6, HB6⟩
        case measure => simp [intOf]; omega
    · have h' : ¬ (k : Int) < (L.length : Int) := by omega
      have HE : L.take k = L := List.take_of_length_le (by omega)
      have HBk := Lib.hid (HBd.out k hk)
      rw [HE] at HM HO HBk
      have HRk := Lib.hid (HR0.out.below HB.out)
      have hG : ∀ (s : List UInt8) (a : Sm), gK 1 m C L s = some a → r64 a.2.1 := fun s a q => by
        have := (HBk.out s a q).1
        unfold r64
        omega
      have HG := Lib.hid hG
      clear hG HBk HBd
      go_wp2_with fail
      refine (HInO.out wr (b0 + 1) n HM.out HRk.out HG.out).mono ?_
      rintro e w9 ⟨u, rfl, hO9, hb9⟩
      have HO9 := Lib.hid (hO9.lower HB.out.size)
      have HO10 := Lib.hid ((HO.out.below hb9).lower (show w.heap.size ≤ b0 + 2 by omega))
      have HB9 := Lib.hid (HB.out.trans (hb9.mono HB.out.size))
      clear hO9 hb9
      go_wp2
      go_ret3
      exact ⟨_, _, rfl, HO10.out, HO9.out, HB9.out⟩
end Go.Proofs.Ytelahgmnkhkgkaa
