/- Tables in memory; what New of package fx returns. Written by wip/mk_fxd.py. -/
import Derived.Test.YtdeoplbdgbgimaaFxC
namespace Go.Proofs.Ytdeoplbdgbgimaa
open Go.RowKit Go.Sort
set_option linter.unusedVariables false
set_option linter.unusedSimpArgs false

theorem bySeries_any (A : Option Addr) (c : Nat) (L : List Rt) (w : World) (hR : RowR w A L) (hBd : BdR L) (hn : L.length ≤ 2000) :
    Calls Try.prog 25 #[.slice A L.length c] w fun e w' => e = .returned (.map (some w.heap.size)) ∧ Srs w' w.heap.size w.heap.size L ∧ Below w.heap.size w w' :=
  bySeries_loop A c L w hR hBd hn _ (fun w' h1 h2 => ⟨rfl, h1, h2⟩)
/-- blocks from N on stay. -/
def From (N : Nat) (w w' : World) : Prop := w.heap.size ≤ w'.heap.size ∧ ∀ k, N ≤ k → k < w.heap.size → w'.heap[k]? = w.heap[k]?
theorem From.below {N : Nat} {w w' : World} (h : Below w.heap.size w w') : From N w w' := ⟨h.size, fun k _ hk => h.block k hk⟩
theorem Srs.kept {w w' : World} {N M : Nat} {L : List Rt} (h : Srs w N M L) (hf : From N w w') : Srs w' N M L := by
  obtain ⟨h0, n, g, h1, h2, h3⟩ := h
  refine ⟨h0, n, g, ?_, h2, fun s c hs => ?_⟩
  · obtain ⟨D, ho, hs⟩ := h1
    have hlt := ho.lt
    obtain ⟨es, clock, e1, F, e2, e3⟩ := ho
    exact ⟨D, ⟨es, clock, (hf.2 M h0 hlt).trans e1, F, e2, e3⟩, hs⟩
  · obtain ⟨b, cp, l', e, ⟨q1, q2⟩, p1, p2, p3⟩ := h3 s c hs
    exact ⟨b, cp, l', e, ⟨q1, Nat.lt_of_lt_of_le q2 hf.1⟩, p1, p2, holdsK_kept p3 (hf.2 b q1 q2)⟩
theorem Srs.lower {w : World} {N N' M : Nat} {L : List Rt} (h : Srs w N M L) (hn : N' ≤ N) : Srs w N' M L := by
  obtain ⟨h0, n, g, h1, h2, h3⟩ := h
  refine ⟨Nat.le_trans hn h0, n, g, h1, h2, fun s c hs => ?_⟩
  obtain ⟨b, cp, l', e, ⟨q1, q2⟩, p⟩ := h3 s c hs
  exact ⟨b, cp, l', e, ⟨Nat.le_trans hn q1, q2⟩, p⟩
/-- the table that block B holds, all of it from N on. -/
def TabT (w : World) (N B : Nat) (base : ByteArray) (L : List Rt) : Prop := N ≤ B ∧ ∃ M, Q3 w B (.string base) (.int .i64 (L.length : Int)) (.map (some M)) ∧ Srs w N M L
theorem Q3.from {w w' : World} {N B : Nat} {a b c : Value} (h : Q3 w B a b c) (hf : From N w w') (hN : N ≤ B) : Q3 w' B a b c := by
  have hb := hf.2 B hN h.lt
  exact ⟨Nat.lt_of_lt_of_le h.lt hf.1, (World.cell?_of_block hb).trans h.c0, (World.frozen?_of_block hb).trans h.f0, (World.cell?_of_block hb).trans h.c1, (World.frozen?_of_block hb).trans h.f1, (World.cell?_of_block hb).trans h.c2, (World.frozen?_of_block hb).trans h.f2⟩
theorem TabT.kept {w w' : World} {N B : Nat} {base : ByteArray} {L : List Rt} (h : TabT w N B base L) (hf : From N w w') : TabT w' N B base L := by
  obtain ⟨h0, M, h1, h2⟩ := h
  exact ⟨h0, M, h1.from hf h0, h2.kept hf⟩
theorem TabT.below {w w' : World} {N B : Nat} {base : ByteArray} {L : List Rt} (h : TabT w N B base L) (hb : Below w.heap.size w w') : TabT w' N B base L := h.kept (From.below hb)
def NewP (base : ByteArray) (L : List Rt) (w : World) (e : Ending) (w' : World) : Prop :=
  ∃ t, e = .returned (.tuple #[.pointer t, .int .i64 (chk base L).1, .int .i64 (chk base L).2]) ∧ ((chk base L).2 ≠ 0 → t = none) ∧ ((chk base L).2 = 0 → ∃ B, t = some ⟨B, 0, none⟩ ∧ TabT w' w.heap.size B base L) ∧ Below w.heap.size w w'
theorem newP_bad {base : ByteArray} {L : List Rt} {w w' : World} {i e : Int} (h : chk base L = (i, e)) (he : e ≠ 0) (hb : Below w.heap.size w w') : NewP base L w (.returned (.tuple #[.pointer none, .int .i64 i, .int .i64 e])) w' := by
  refine ⟨none, by rw [h], fun _ => rfl, fun q => ?_, hb⟩
  rw [h] at q; exact absurd q he
def SeenK (w : World) (M n : Nat) (P : List Rt) : Prop := ∃ g : ByteArray × Int × Int → Option Bool, (∀ s, g s = if dupB P s = true then some true else none) ∧ MapK EB kvR w 51 M n g
theorem SeenK.below {w w' : World} {M n : Nat} {P : List Rt} (h : SeenK w M n P) (hb : Below w.heap.size w w') : SeenK w' M n P := by
  obtain ⟨g, h1, h2⟩ := h; exact ⟨g, h1, h2.below hb h2.lt⟩
theorem seen_upd {w : World} {M n : Nat} {P : List Rt} {r : Rt} {g : ByteArray × Int × Int → Option Bool} (hg : ∀ s, g s = if dupB P s = true then some true else none) (h : MapK EB kvR w 51 M n (updK g (plc r) true)) : SeenK w M n (P ++ [r]) := by
  refine ⟨_, fun s => ?_, h⟩
  unfold updK
  rw [dupB_snoc]
  by_cases e : s = plc r
  · subst e; simp
  · rw [if_neg e, hg s]
    have e2 : ¬ plc r = s := fun q => e q.symm
    simp [e2]
set_option maxRecDepth 100000 in
set_option maxHeartbeats 4000000 in
theorem new_any (base : ByteArray) (A : Option Addr) (c : Nat) (L : List Rt) (w : World) (hs : base.size ≤ maxLen) (hR : RowR w A L) (hBd : BdR L) (hn : L.length ≤ maxLen) :
    Calls Try.prog 12 #[.string base, .slice A L.length c] w (NewP base L w) := by
  have hn' := hn
  unfold maxLen at hn'
  have H1 := Lib.hid (fun W => curCode_any base W hs)
  have HR0 := Lib.hid hR
  have HBd := Lib.hid hBd
  have hmm := @run_makeMap Try.prog
  clear hR hBd
  cases q1 : codeB base
  · have HV := Lib.hid (show chk base L = (0, 13) by unfold chk; rw [if_pos q1])
    rw [q1] at H1
    go_enter Try.func12, Try.ntmps12
    go_wp2_with fail
    refine (H1.out _).mono ?_
    rintro e w1 ⟨rfl, hb⟩
    have HB := Lib.hid hb
    clear hb
    go_wp2
    go_ret3
    exact newP_bad HV.out (by decide) HB.out
  rw [q1] at H1
  by_cases g1 : 2000 < L.length
  · have HV := Lib.hid (show chk base L = (0, 9) by unfold chk; rw [if_neg (by rw [q1]; decide), if_pos g1])
    have g1' : (2000 : Int) < (L.length : Int) := by omega
    go_enter Try.func12, Try.ntmps12
    go_wp2_with fail
    refine (H1.out _).mono ?_
    rintro e w1 ⟨rfl, hb⟩
    have HB := Lib.hid hb
    clear hb
    go_wp2
    go_ret3
    exact newP_bad HV.out (by decide) HB.out
  have HV := Lib.hid (show chk base L = scn base [] L by unfold chk; rw [if_neg (by rw [q1]; decide), if_neg g1])
  have g1' : ¬ (2000 : Int) < (L.length : Int) := by omega
  go_enter Try.func12, Try.ntmps12
  go_wp2_with fail
  refine (H1.out _).mono ?_
  rintro e w1 ⟨rfl, hb⟩
  have HB1 := Lib.hid hb
  have hw1 := hb.size
  have HM0 := Lib.hid (show SeenK (w1.alloc (.map #[] 0)) w1.heap.size 0 [] from ⟨_, fun s => rfl, MapK.made EB kvR w1 51⟩)
  have HB2 := Lib.hid (hb.alloc hb.size (.map #[] 0))
  clear hb H1
  go_wp2
  go_loopw [21] (fun x wr => ∃ k : Nat, k ≤ L.length ∧ x = .int .i64 k ∧ Hid (scn base [] L = scn base (L.take k) (L.drop k)) ∧ Hid (∃ n, n ≤ k ∧ SeenK wr w1.heap.size n (L.take k)) ∧ w1.heap.size + 1 ≤ wr.heap.size ∧ Hid (Below w.heap.size w wr)) (fun x _ => L.length - (intOf x).toNat)
  case atStart => exact ⟨0, Nat.zero_le _, rfl, Lib.hid rfl, Lib.hid ⟨0, Nat.le_refl _, HM0.out⟩, by simp, HB2⟩
  case round =>
    clear hmm HM0 HB1 HB2
    obtain ⟨k, hk, rfl, HK, HM, hsz, HB⟩ := hrel
    by_cases h : k < L.length
    · have h' : (k : Int) < (L.length : Int) := by omega
      obtain ⟨n, hnk, hM⟩ := HM.out
      have HM := Lib.hid hM
      clear hM
      obtain ⟨b, off, rfl, hl, hcl⟩ := (HR0.out.below HB.out) (by omega)
      obtain ⟨c0, c1, c2, c3, c4⟩ := hcl k h
      have hbr := HBd.out L[k] (List.getElem_mem h)
      have HS := Lib.hid (scn_step h HK.out)
      have HT := Lib.hid (List.take_succ_eq_append_getElem h)
      obtain ⟨r, hr⟩ : ∃ r, L[k] = r := ⟨_, rfl⟩
      rw [hr] at c0 c1 c2 c3 c4 hbr HS HT
      obtain ⟨rc, rk, rd, rn, rm⟩ := r
      dsimp only at c0 c1 c2 c3 c4
      have hp1 := Q5.alloc wr (.string rc) (.int .i64 rk) (.int .i64 rd) (.int .i64 rn) (.int .i64 rm) 51
      have ha1 : Below wr.heap.size wr (wr.alloc (Obj.cells #[.string rc, .int .i64 rk, .int .i64 rd, .int .i64 rn, .int .i64 rm] 51)) := (Below.refl _ _).alloc (Nat.le_refl _) _
      have HBa := Lib.hid (HB.out.trans (ha1.mono HB.out.size))
      have HMa := Lib.hid (HM.out.below ha1)
      have HP1 := Lib.hid hp1
      have H2 := Lib.hid (fun W => rateE_any base rc rk rd rn rm W hs hbr)
      have hsa : w1.heap.size + 1 ≤ (wr.alloc (Obj.cells #[.string rc, .int .i64 rk, .int .i64 rd, .int .i64 rn, .int .i64 rm] 51)).heap.size := by simp; omega
      have x0 := hp1.c0
      have x1 := hp1.c1
      have x2 := hp1.c2
      have x3 := hp1.c3
      have x4 := hp1.c4
      have hwB := HBa.out.size
      clear hp1 ha1 hcl hr HM HK HB
      by_cases e0 : raE base (rc, rk, rd, rn, rm) = 0
      · rw [e0] at H2
        rw [e0, if_neg (by simp)] at HS
        go_wp2_with fail
        refine (H2.out _).mono ?_
        rintro e w2 ⟨rfl, hb⟩
        have hp2 := HP1.out.below hb
        have HMb := Lib.hid (HMa.out.below hb)
        have HBb := Lib.hid (HBa.out.trans (hb.mono HBa.out.size))
        have hsb := hb.size
        clear hb x0 x1 x2 x3 x4 HBa HMa HP1 H2
        have hp3 := Q5.alloc w2 (.string rc) (.int .i64 rk) (.int .i64 rd) (.int .i64 0) (.int .i64 0) 51
        have ha3 : Below w2.heap.size w2 (w2.alloc (Obj.cells #[.string rc, .int .i64 rk, .int .i64 rd, .int .i64 0, .int .i64 0] 51)) := (Below.refl _ _).alloc (Nat.le_refl _) _
        have HBc := Lib.hid (HBb.out.trans (ha3.mono HBb.out.size))
        have HMc := Lib.hid (HMb.out.below ha3)
        obtain ⟨g, hg, hM⟩ := HMc.out
        have HM := Lib.hid hM
        have HG := Lib.hid hg
        obtain ⟨l, hkey⟩ := keyR (plc (rc, rk, rd, rn, rm)) hbr.1 hbr.2.1 hbr.2.2.1
        have x0 := hp2.c0
        have x1 := hp2.c1
        have x2 := hp2.c2
        have y0 := hp3.c0
        have y1 := hp3.c1
        have y2 := hp3.c2
        have y3 := hp3.c3
        have y4 := hp3.c4
        clear hp2 hp3 ha3 HBb HMb HMc hM hg
        cases q2 : dupB (L.take k) (plc (rc, rk, rd, rn, rm))
        · rw [q2, if_neg (by decide)] at HS
          have HGv := Lib.hid (show EB.enc ((g (plc (rc, rk, rd, rn, rm))).getD EB.zero) = .bool false by rw [HG.out, q2]; rfl)
          clear q2
          go_wp2_with (first
            | (at_lookup; refine wpList_lookK rfl (.tmp 40) (.tmp 41) _ rfl EB 51 4 (Go.Maps.Keyed.of_law lawR) und_mapR (zero_bool _) w1.heap.size n g rfl HM.out (plc (rc, rk, rd, rn, rm)) l rfl hkey ?_; rw [HGv.out])
            | (at_mapUpdate; refine wpList_updK rfl (.tmp 44) (.tmp 45) _ _ rfl EB 51 4 (Go.Maps.Keyed.of_law lawR) kvR_inj und_mapR w1.heap.size n g rfl HM.out (by unfold maxLen; omega) (plc (rc, rk, rd, rn, rm)) l rfl hkey true rfl ?_; intro w4 hM4 hg4; have HM4 := Lib.hid hM4; have HG4 := Lib.hid hg4; clear hM4 hg4))
          have hs4 := HG4.out.size
          have hs3 : (w2.alloc (Obj.cells #[.string rc, .int .i64 rk, .int .i64 rd, .int .i64 0, .int .i64 0] 51)).heap.size = w2.heap.size + 1 := by simp
          have HB4 := Lib.hid (HBc.out.grown HG4.out (by omega) (fun j e => by cases e; omega))
          refine ⟨⟨k + 1, by omega, by go_num, HS, Lib.hid ⟨n + 1, by omega, by rw [HT.out]; exact seen_upd HG.out HM4.out⟩, by omega, HB4⟩, ?_⟩
          simp [intOf]; omega
        · rw [q2, if_pos rfl] at HS
          have HGv := Lib.hid (show EB.enc ((g (plc (rc, rk, rd, rn, rm))).getD EB.zero) = .bool true by rw [HG.out, q2]; rfl)
          clear q2
          go_wp2_with (at_lookup; refine wpList_lookK rfl (.tmp 40) (.tmp 41) _ rfl EB 51 4 (Go.Maps.Keyed.of_law lawR) und_mapR (zero_bool _) w1.heap.size n g rfl HM.out (plc (rc, rk, rd, rn, rm)) l rfl hkey ?_; rw [HGv.out])
          go_ret3
          exact newP_bad (HV.out.trans HS.out) (by decide) HBc.out
      · have HNe := Lib.hid e0
        have e1 : (raE base (rc, rk, rd, rn, rm) != 0) = true := by simpa using e0
        rw [if_pos (by simpa using e0)] at HS
        clear e0
        generalize raE base (rc, rk, rd, rn, rm) = ra at *
        go_wp2_with fail
        refine (H2.out _).mono ?_
        rintro e w2 ⟨rfl, hb⟩
        have HBb := Lib.hid (HBa.out.trans (hb.mono HBa.out.size))
        clear hb
        go_wp2
        go_ret3
        exact newP_bad (HV.out.trans HS.out) HNe.out HBb.out
    · have h' : ¬ (k : Int) < (L.length : Int) := by omega
      have HE := Lib.hid (HV.out.trans (scn_end h HK.out))
      have H3 := Lib.hid (bySeries_any A c L wr (HR0.out.below HB.out) HBd.out (by omega))
      have hwr := HB.out.size
      clear HM HK
      go_wp2_with fail
      refine H3.out.mono ?_
      rintro e w2 ⟨rfl, hS, hb⟩
      have HBb := Lib.hid (HB.out.trans (hb.mono HB.out.size))
      have HS := Lib.hid (hS.lower hwr)
      have hs2 := hb.size
      clear hb hS
      go_wp2
      have ha : Below w2.heap.size w2 (w2.alloc (Obj.cells #[.string base, .int .i64 (L.length : Int), .map (some wr.heap.size)] 59)) := (Below.refl _ _).alloc (Nat.le_refl _) _
      go_ret3
      exact ⟨some ⟨w2.heap.size, 0, none⟩, by rw [HE.out]; rfl, fun q => absurd (by rw [HE.out]) q, fun _ => ⟨_, rfl, by omega, _, Q3.alloc w2 _ _ _ _, HS.out.kept (From.below ha)⟩, HBb.out.trans (ha.mono HBb.out.size)⟩
end Go.Proofs.Ytdeoplbdgbgimaa
