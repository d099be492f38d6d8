/- What one, Check, Find, divisor, Cross and Convert of package accountingref11 return. Written by wip/mk_fxh.py. -/
import Derived.Test.YtdeoplbdgbgimaaFxG
import Derived.Test.YtdeoplbdgbgimaaMdS
namespace Go.Proofs.Ytdeoplbdgbgimaa
open Go.RowKit Go.Sort
set_option linter.unusedVariables false
set_option linter.unusedSimpArgs false

def oneE (base : ByteArray) (L : List Rt) (i : Nat) (r : Rt) : Int := if raE base r ≠ 0 then raE base r else if dupB (L.take i) (plc r) = true then 8 else 0
theorem ra_base {base : ByteArray} {r : Rt} (h : r.1 = base) : raE base r = 13 := by unfold raE; rw [if_pos h]
theorem ra_pl {base : ByteArray} {r : Rt} {e : Int} (h : r.1 ≠ base) (hp : plE r.1 r.2.1 r.2.2.1 = e) (he : e ≠ 0) : raE base r = e := by unfold raE; rw [if_neg h, if_pos (by rw [hp]; exact he), hp]
theorem ra_fr {base : ByteArray} {r : Rt} (h : r.1 ≠ base) (hp : plE r.1 r.2.1 r.2.2.1 = 0) (hf : rightB r.2.2.2.1 r.2.2.2.2 = false ∨ r.2.2.2.1 ≤ 0) : raE base r = 2 := by unfold raE; rw [if_neg h, if_neg (by rw [hp]; decide), if_pos hf]
theorem ra_ok {base : ByteArray} {r : Rt} (h : r.1 ≠ base) (hp : plE r.1 r.2.1 r.2.2.1 = 0) (hf : rightB r.2.2.2.1 r.2.2.2.2 = true) (hn : 0 < r.2.2.2.1) : raE base r = 0 := by
  unfold raE; rw [if_neg h, if_neg (by rw [hp]; decide), if_neg (fun q => q.elim (fun q => by rw [hf] at q; cases q) (fun q => by omega))]
theorem one_bad {base : ByteArray} {L : List Rt} {i : Nat} {r : Rt} {e : Int} (h : raE base r = e) (he : e ≠ 0) : oneE base L i r = e := by unfold oneE; rw [h, if_pos he]
theorem plc_ne {a b : Rt} (h : a.1 ≠ b.1 ∨ a.2.1 ≠ b.2.1 ∨ a.2.2.1 ≠ b.2.2.1) : plc a ≠ plc b := by
  unfold plc
  intro e
  simp only [Prod.mk.injEq] at e
  rcases h with h | h | h
  · exact h e.1
  · exact h e.2.1
  · exact h e.2.2
theorem plc_eq {a b : Rt} (h1 : a.1 = b.1) (h2 : a.2.1 = b.2.1) (h3 : a.2.2.1 = b.2.2.1) : plc a = plc b := by unfold plc; rw [h1, h2, h3]
set_option maxRecDepth 100000 in
set_option maxHeartbeats 4000000 in
theorem rOne_any (base : ByteArray) (A : Option Addr) (c : Nat) (L : List Rt) (i : Nat) (r : Rt) (w : World) (hb0 : base.size ≤ maxLen) (hR : RowR w A L) (hBd : BdR L) (hn : L.length ≤ 2000) (hi : i < L.length) (hr : L[i] = r) :
    Calls Try.prog 27 #[.string base, .slice A L.length c, .int .i64 i] w fun e w' => e = .returned (.int .i64 (oneE base L i r)) ∧ Below w.heap.size w w' := by
  have HR0 := Lib.hid hR
  have hi' : (i : Int) < (L.length : Int) := by omega
  obtain ⟨b, off, rfl, hl, hcl⟩ := hR (by omega)
  obtain ⟨c0, c1, c2, c3, c4⟩ := hcl i hi
  have hbr := hBd L[i] (List.getElem_mem hi)
  have HE := Lib.hid hr
  rw [hr] at c0 c1 c2 c3 c4 hbr
  obtain ⟨rc, rk, rd, rn, rm⟩ := r
  dsimp only at c0 c1 c2 c3 c4
  obtain ⟨s1, ⟨b1, b1'⟩, ⟨b2, b2'⟩, ⟨b3, b3'⟩, b4, b4'⟩ := hbr
  dsimp only at s1 b1 b1' b2 b2' b3 b3' b4 b4'
  have HP := Lib.hid (Q5.alloc w (.string rc) (.int .i64 rk) (.int .i64 rd) (.int .i64 rn) (.int .i64 rm) 51)
  have HB := Lib.hid ((Below.refl w.heap.size w).alloc (Nat.le_refl _) (Obj.cells #[.string rc, .int .i64 rk, .int .i64 rd, .int .i64 rn, .int .i64 rm] 51))
  have H1 := Lib.hid (fun W => rCurCode_any rc W s1)
  have H2 := Lib.hid (fun W => rIs_any rd W b2 b2')
  have H3 := Lib.hid (fun W => rRight_any rn rm W b3 b3' b4 b4')
  clear hcl hR hBd hr
  cases q1 : codeB rc
  · have HV := Lib.hid (show oneE base L i (rc, rk, rd, rn, rm) = 13 from by
      by_cases hb : rc = base
      · exact one_bad (ra_base hb) (by decide)
      · exact one_bad (ra_pl hb (show plE rc rk rd = 13 by unfold plE; rw [q1]; rfl) (by decide)) (by decide))
    rw [q1] at H1
    go_enter Try.func27, Try.ntmps27
    have x0 := HP.out.c0
    have x1 := HP.out.c1
    have x2 := HP.out.c2
    have x3 := HP.out.c3
    have x4 := HP.out.c4
    go_wp2_with fail
    refine (H1.out _).mono ?_
    rintro e w_ ⟨rfl, rfl⟩
    go_wp2
    go_ret
    exact ⟨ret_int (by rw [HV.out]), HB.out⟩
  rw [q1] at H1
  cases q2 : (rc.toList == base.toList)
  · have hb := str_ne.1 q2
    by_cases g1 : rk < 1
    · have HV := Lib.hid (show oneE base L i (rc, rk, rd, rn, rm) = 10 from one_bad (ra_pl hb (show plE rc rk rd = 10 by unfold plE; rw [q1, if_neg (by decide), if_pos (Or.inl g1)]) (by decide)) (by decide))
      clear hb
      go_enter Try.func27, Try.ntmps27
      have x0 := HP.out.c0
      have x1 := HP.out.c1
      have x2 := HP.out.c2
      have x3 := HP.out.c3
      have x4 := HP.out.c4
      go_wp2_with fail
      refine (H1.out _).mono ?_
      rintro e w_ ⟨rfl, rfl⟩
      go_wp2
      go_ret
      exact ⟨ret_int (by rw [HV.out]), HB.out⟩
    by_cases g2 : 3 < rk
    · have HV := Lib.hid (show oneE base L i (rc, rk, rd, rn, rm) = 10 from one_bad (ra_pl hb (show plE rc rk rd = 10 by unfold plE; rw [q1, if_neg (by decide), if_pos (Or.inr g2)]) (by decide)) (by decide))
      clear hb
      go_enter Try.func27, Try.ntmps27
      have x0 := HP.out.c0
      have x1 := HP.out.c1
      have x2 := HP.out.c2
      have x3 := HP.out.c3
      have x4 := HP.out.c4
      go_wp2_with fail
      refine (H1.out _).mono ?_
      rintro e w_ ⟨rfl, rfl⟩
      go_wp2
      go_ret
      exact ⟨ret_int (by rw [HV.out]), HB.out⟩
    by_cases g3 : 0 ≤ rd ∧ rd ≤ 109572
    · have hpl : plE rc rk rd = 0 := by unfold plE; rw [q1, if_neg (by decide), if_neg (by omega), if_neg (by simpa using g3)]
      rw [decide_eq_true g3] at H2
      cases q3 : rightB rn rm
      · have HV := Lib.hid (show oneE base L i (rc, rk, rd, rn, rm) = 2 from one_bad (ra_fr hb hpl (Or.inl q3)) (by decide))
        rw [q3] at H3
        clear hb hpl
        go_enter Try.func27, Try.ntmps27
        have x0 := HP.out.c0
        have x1 := HP.out.c1
        have x2 := HP.out.c2
        have x3 := HP.out.c3
        have x4 := HP.out.c4
        go_wp2_with fail
        refine (H1.out _).mono ?_
        rintro e w_ ⟨rfl, rfl⟩
        go_wp2_with fail
        refine (H2.out _).mono ?_
        rintro e w_ ⟨rfl, rfl⟩
        go_wp2_with fail
        refine (H3.out _).mono ?_
        rintro e w2 ⟨rfl, hb⟩
        have HB2 := Lib.hid (HB.out.trans (hb.mono HB.out.size))
        have HP2 := Lib.hid (HP.out.below hb)
        clear hb x0 x1 x2 x3 x4
        have x0 := HP2.out.c0
        have x1 := HP2.out.c1
        have x2 := HP2.out.c2
        have x3 := HP2.out.c3
        have x4 := HP2.out.c4
        go_wp2
        go_ret
        exact ⟨ret_int (by rw [HV.out]), HB2.out⟩
      rw [q3] at H3
      by_cases g4 : rn ≤ 0
      · have HV := Lib.hid (show oneE base L i (rc, rk, rd, rn, rm) = 2 from one_bad (ra_fr hb hpl (Or.inr g4)) (by decide))
        clear hb hpl
        go_enter Try.func27, Try.ntmps27
        have x0 := HP.out.c0
        have x1 := HP.out.c1
        have x2 := HP.out.c2
        have x3 := HP.out.c3
        have x4 := HP.out.c4
        go_wp2_with fail
        refine (H1.out _).mono ?_
        rintro e w_ ⟨rfl, rfl⟩
        go_wp2_with fail
        refine (H2.out _).mono ?_
        rintro e w_ ⟨rfl, rfl⟩
        go_wp2_with fail
        refine (H3.out _).mono ?_
        rintro e w2 ⟨rfl, hb⟩
        have HB2 := Lib.hid (HB.out.trans (hb.mono HB.out.size))
        have HP2 := Lib.hid (HP.out.below hb)
        clear hb x0 x1 x2 x3 x4
        have x0 := HP2.out.c0
        have x1 := HP2.out.c1
        have x2 := HP2.out.c2
        have x3 := HP2.out.c3
        have x4 := HP2.out.c4
        go_wp2
        go_ret
        exact ⟨ret_int (by rw [HV.out]), HB2.out⟩
      · have HV := Lib.hid (show oneE base L i (rc, rk, rd, rn, rm) = if dupB (L.take i) (plc (rc, rk, rd, rn, rm)) = true then 8 else 0 from by
          unfold oneE; rw [ra_ok hb hpl q3 (show 0 < rn by omega), if_neg (by simp)])
        clear hb hpl
        go_enter Try.func27, Try.ntmps27
        have x0 := HP.out.c0
        have x1 := HP.out.c1
        have x2 := HP.out.c2
        have x3 := HP.out.c3
        have x4 := HP.out.c4
        go_wp2_with fail
        refine (H1.out _).mono ?_
        rintro e w_ ⟨rfl, rfl⟩
        go_wp2_with fail
        refine (H2.out _).mono ?_
        rintro e w_ ⟨rfl, rfl⟩
        go_wp2_with fail
        refine (H3.out _).mono ?_
        rintro e w2 ⟨rfl, hb⟩
        have HB2 := Lib.hid (HB.out.trans (hb.mono HB.out.size))
        have HP2 := Lib.hid (HP.out.below hb)
        clear hb x0 x1 x2 x3 x4
        have x0 := HP2.out.c0
        have x1 := HP2.out.c1
        have x2 := HP2.out.c2
        have x3 := HP2.out.c3
        have x4 := HP2.out.c4
        go_wp2
        clear x0 x1 x2 x3 x4
        go_loopw [8] (fun x wr => ∃ k : Nat, k ≤ i ∧ x = .int .i64 k ∧ Hid (∀ j, j < k → (hj : j < L.length) → plc L[j] ≠ plc (rc, rk, rd, rn, rm)) ∧ Hid (Q5 wr w.heap.size (.string rc) (.int .i64 rk) (.int .i64 rd) (.int .i64 rn) (.int .i64 rm)) ∧ Hid (Below w.heap.size w wr)) (fun x _ => i - (intOf x).toNat)
        case atStart => exact ⟨0, Nat.zero_le _, rfl, Lib.hid (fun j hj => by omega), HP2, HB2⟩
        case round =>
          obtain ⟨k, hk, rfl, HK, HPr, HBr⟩ := hrel
          clear HP2 HB2 HB HP H1 H2 H3
          by_cases h : k < i
          · have h' : (k : Int) < (i : Int) := by omega
            have hkL : k < L.length := by omega
            have hkL' : (k : Int) < (L.length : Int) := by omega
            obtain ⟨b', off', eb, hl2, hc⟩ := (HR0.out.below HBr.out) (by omega)
            injection eb with eb
            injection eb with eb1 eb2 _
            subst eb1; subst eb2
            obtain ⟨y0, y1, y2, _, _⟩ := hc k hkL
            have x0 := HPr.out.c0
            have x1 := HPr.out.c1
            have x2 := HPr.out.c2
            have x3 := HPr.out.c3
            have x4 := HPr.out.c4
            have HNe := Lib.hid (fun (q : plc L[k] ≠ plc (rc, rk, rd, rn, rm)) => show ∀ j, j < k + 1 → (hj : j < L.length) → plc L[j] ≠ plc (rc, rk, rd, rn, rm) from fun j hj hjl => by
              by_cases e : j = k
              · subst e; exact q
              · exact HK.out j (by omega) hjl)
            have HYe := Lib.hid (fun (q : plc L[k] = plc (rc, rk, rd, rn, rm)) => show oneE base L i (rc, rk, rd, rn, rm) = 8 from by
              rw [HV.out, if_pos]
              unfold dupB
              rw [List.any_eq_true]
              exact ⟨L[k], by rw [List.mem_take_iff_getElem]; exact ⟨k, by omega, rfl⟩, by simpa using q⟩)
            have HPn := Lib.hid (fun (q : L[k].1 ≠ rc ∨ L[k].2.1 ≠ rk ∨ L[k].2.2.1 ≠ rd) => plc_ne (a := L[k]) (b := (rc, rk, rd, rn, rm)) q)
            have HPy := Lib.hid (fun (q1 : L[k].1 = rc) (q2 : L[k].2.1 = rk) (q3 : L[k].2.2.1 = rd) => plc_eq (a := L[k]) (b := (rc, rk, rd, rn, rm)) q1 q2 q3)
            clear hc HK
            generalize plc L[k] = pk at *
            generalize L[k].1 = S at *
            generalize L[k].2.1 = ck at *
            generalize L[k].2.2.1 = cd at *
            cases e1 : (S.toList == rc.toList)
            · have HN2 := Lib.hid (HNe.out (HPn.out (Or.inl (str_ne.1 e1))))
              clear HNe HYe HPn HPy
              go_wp2_with fail
              go_quiet (fail)
              have HB3 := Lib.hid (below_drewN HBr.out nq)
              have HP3 := Lib.hid (HPr.out.below (below_drewN (Below.refl wr.heap.size wr) nq))
              clear x0 x1 x2 x3 x4 y0 y1 y2
              go_wp2
              go_roundw
              case rel => exact ⟨k + 1, by omega, by go_num, HN2, HP3, HB3⟩
              case measure => simp [intOf]; omega
            · have e1' := str_eq.1 e1
              by_cases e2 : ck = rk
              · by_cases e3 : cd = rd
                · have HY2 := Lib.hid (HYe.out (HPy.out e1' e2 e3))
                  have e2' : (ck == rk) = true := by simpa using e2
                  have e3' : (cd == rd) = true := by simpa using e3
                  clear e1' e2 e3 HNe HYe HPn HPy
                  go_wp2_with fail
                  go_quiet (fail)
                  have HB3 := Lib.hid (below_drewN HBr.out nq)
                  clear x0 x1 x2 x3 x4 y0 y1 y2
                  go_wp2
                  go_ret
                  exact ⟨ret_int (by rw [HY2.out]), HB3.out⟩
                · have HN2 := Lib.hid (HNe.out (HPn.out (Or.inr (Or.inr e3))))
                  have e2' : (ck == rk) = true := by simpa using e2
                  have e3' : (cd == rd) = false := by simpa using e3
                  clear e1' e2 e3
                  clear HNe HYe HPn HPy
                  go_wp2_with fail
                  go_quiet (fail)
                  have HB3 := Lib.hid (below_drewN HBr.out nq)
                  have HP3 := Lib.hid (HPr.out.below (below_drewN (Below.refl wr.heap.size wr) nq))
                  clear x0 x1 x2 x3 x4 y0 y1 y2
                  go_wp2
                  go_roundw
                  case rel => exact ⟨k + 1, by omega, by go_num, HN2, HP3, HB3⟩
                  case measure => simp [intOf]; omega
              · have HN2 := Lib.hid (HNe.out (HPn.out (Or.inr (Or.inl e2))))
                have e2' : (ck == rk) = false := by simpa using e2
                clear e1' e2
                clear HNe HYe HPn HPy
                go_wp2_with fail
                go_quiet (fail)
                have HB3 := Lib.hid (below_drewN HBr.out nq)
                have HP3 := Lib.hid (HPr.out.below (below_drewN (Below.refl wr.heap.size wr) nq))
                clear x0 x1 x2 x3 x4 y0 y1 y2
                go_wp2
                go_roundw
                case rel => exact ⟨k + 1, by omega, by go_num, HN2, HP3, HB3⟩
                case measure => simp [intOf]; omega
          · have h' : ¬ (k : Int) < (i : Int) := by omega
            have HY2 := Lib.hid (show oneE base L i (rc, rk, rd, rn, rm) = 0 from by
              rw [HV.out, if_neg]
              intro q
              unfold dupB at q
              rw [List.any_eq_true] at q
              obtain ⟨y, hy, e⟩ := q
              rw [List.mem_take_iff_getElem] at hy
              obtain ⟨j, hj, rfl⟩ := hy
              exact HK.out j (by omega) (by omega) (by simpa using e))
            go_wp2
            go_ret
            exact ⟨ret_int (by rw [HY2.out]), HBr.out⟩
    · have hpl : plE rc rk rd = 11 := by unfold plE; rw [q1, if_neg (by decide), if_neg (by omega), if_pos g3]
      have HV := Lib.hid (show oneE base L i (rc, rk, rd, rn, rm) = 11 from one_bad (ra_pl hb hpl (by decide)) (by decide))
      rw [decide_eq_false g3] at H2
      clear hb hpl
      go_enter Try.func27, Try.ntmps27
      have x0 := HP.out.c0
      have x1 := HP.out.c1
      have x2 := HP.out.c2
      have x3 := HP.out.c3
      have x4 := HP.out.c4
      go_wp2_with fail
      refine (H1.out _).mono ?_
      rintro e w_ ⟨rfl, rfl⟩
      go_wp2_with fail
      refine (H2.out _).mono ?_
      rintro e w_ ⟨rfl, rfl⟩
      go_wp2
      go_ret
      exact ⟨ret_int (by rw [HV.out]), HB.out⟩
  · have hb := str_eq.1 q2
    have HV := Lib.hid (show oneE base L i (rc, rk, rd, rn, rm) = 13 from one_bad (ra_base hb) (by decide))
    clear hb
    go_enter Try.func27, Try.ntmps27
    have x0 := HP.out.c0
    have x1 := HP.out.c1
    have x2 := HP.out.c2
    have x3 := HP.out.c3
    have x4 := HP.out.c4
    go_wp2_with fail
    refine (H1.out _).mono ?_
    rintro e w_ ⟨rfl, rfl⟩
    go_wp2
    go_ret
    exact ⟨ret_int (by rw [HV.out]), HB.out⟩
set_option maxHeartbeats 4000000 in
theorem rCheck_any (base : ByteArray) (A : Option Addr) (c : Nat) (L : List Rt) (w : World) (hs : base.size ≤ maxLen) (hR : RowR w A L) (hBd : BdR L) (hn : L.length ≤ maxLen) :
    Calls Try.prog 13 #[.string base, .slice A L.length c] w fun e w' => e = .returned (.tuple #[.int .i64 (chk base L).1, .int .i64 (chk base L).2]) ∧ Below w.heap.size w w' := by
  have hn' := hn
  unfold maxLen at hn'
  have H1 := Lib.hid (fun W => rCurCode_any base W hs)
  have HR0 := Lib.hid hR
  have HBd := Lib.hid hBd
  clear hR hBd
  cases q1 : codeB base
  · have HV := Lib.hid (show chk base L = (0, 13) by unfold chk; rw [if_pos q1])
    rw [q1] at H1
    go_enter Try.func13, Try.ntmps13
    go_wp2_with fail
    refine (H1.out _).mono ?_
    rintro e w_ ⟨rfl, rfl⟩
    go_wp2
    go_ret2
    exact ⟨by rw [HV.out]; rfl, Below.refl _ _⟩
  rw [q1] at H1
  by_cases g1 : 2000 < L.length
  · have HV := Lib.hid (show chk base L = (0, 9) by unfold chk; rw [if_neg (by rw [q1]; decide), if_pos g1])
    have g1' : (2000 : Int) < (L.length : Int) := by omega
    go_enter Try.func13, Try.ntmps13
    go_wp2_with fail
    refine (H1.out _).mono ?_
    rintro e w_ ⟨rfl, rfl⟩
    go_wp2
    go_ret2
    exact ⟨by rw [HV.out]; rfl, Below.refl _ _⟩
  have HV := Lib.hid (show chk base L = scn base [] L by unfold chk; rw [if_neg (by rw [q1]; decide), if_neg g1])
  have g1' : ¬ (2000 : Int) < (L.length : Int) := by omega
  go_enter Try.func13, Try.ntmps13
  go_wp2_with fail
  refine (H1.out _).mono ?_
  rintro e w_ ⟨rfl, rfl⟩
  go_wp2
  go_loopw [6] (fun x wr => ∃ k : Nat, k ≤ L.length ∧ x = .int .i64 k ∧ Hid (scn base [] L = scn base (L.take k) (L.drop k)) ∧ Hid (Below w.heap.size w wr)) (fun x _ => L.length - (intOf x).toNat)
  case atStart => exact ⟨0, Nat.zero_le _, rfl, Lib.hid rfl, Lib.hid (Below.refl _ _)⟩
  case round =>
    obtain ⟨k, hk, rfl, HK, HB⟩ := hrel
    by_cases h : k < L.length
    · have h' : (k : Int) < (L.length : Int) := by omega
      have HS := Lib.hid (scn_step h HK.out)
      have H2 := Lib.hid (rOne_any base A c L k L[k] wr hs (HR0.out.below HB.out) HBd.out (by omega) h rfl)
      have HO := Lib.hid (show oneE base L k L[k] = if raE base L[k] ≠ 0 then raE base L[k] else if dupB (L.take k) (plc L[k]) = true then 8 else 0 from rfl)
      have HX := Lib.hid (show oneE base L k L[k] ≠ 0 → chk base L = ((k : Int), oneE base L k L[k]) from fun q => by
        rw [HV.out, HS.out]
        by_cases e : raE base L[k] = 0
        · have e' : ¬ (raE base L[k] ≠ 0) := by simpa using e
          cases z : dupB (L.take k) (plc L[k])
          · rw [HO.out, if_neg e', z] at q; simp at q
          · rw [HO.out, z, if_neg e', if_pos rfl, if_neg e', if_pos rfl]
        · rw [HO.out, if_pos e, if_pos e])
      have HN := Lib.hid (show oneE base L k L[k] = 0 → scn base [] L = scn base (L.take (k + 1)) (L.drop (k + 1)) from fun q => by
        rw [HS.out]
        by_cases e : raE base L[k] = 0
        · have e' : ¬ (raE base L[k] ≠ 0) := by simpa using e
          cases z : dupB (L.take k) (plc L[k])
          · rw [if_neg e', if_neg (by decide)]
          · rw [HO.out, if_neg e', z] at q; simp at q
        · rw [HO.out, if_pos e] at q; exact absurd q e)
      clear HK HS HO
      generalize oneE base L k L[k] = v at *
      by_cases e0 : v = 0
      · subst e0
        have HN2 := Lib.hid (HN.out rfl)
        clear HX HN
        go_wp2_with fail
        refine H2.out.mono ?_
        rintro e w2 ⟨rfl, hb⟩
        have HB2 := Lib.hid (HB.out.trans (hb.mono HB.out.size))
        clear hb
        go_wp2
        go_roundw
        case rel => exact ⟨k + 1, by omega, by go_num, HN2, HB2⟩
        case measure => simp [intOf]; omega
      · have HX2 := Lib.hid (HX.out e0)
        have e1 : (v != 0) = true := by simpa using e0
        clear HX HN e0
        go_wp2_with fail
        refine H2.out.mono ?_
        rintro e w2 ⟨rfl, hb⟩
        have HB2 := Lib.hid (HB.out.trans (hb.mono HB.out.size))
        clear hb
        go_wp2
        go_ret2
        exact ⟨by rw [HX2.out]; rfl, HB2.out⟩
    · have h' : ¬ (k : Int) < (L.length : Int) := by omega
      have HE := Lib.hid (HV.out.trans (scn_end h HK.out))
      go_wp2
      go_ret2
      exact ⟨by rw [HE.out]; rfl, HB.out⟩
end Go.Proofs.Ytdeoplbdgbgimaa
