/- The walk of TaxClose. Written by wip/mk_txr.py. -/
import Derived.Test.YtelahgmnkhkgkaaTxR
import Derived.Lib.QuietBelow
import Derived.BigQuiet
namespace Go.Proofs.Ytelahgmnkhkgkaa
open Go.RowKit Go.Sort
set_option linter.unusedVariables false
set_option linter.unusedSimpArgs false

set_option maxRecDepth 100000 in
set_option maxHeartbeats 6000000 in
theorem taxClose_walk (A : Option Addr) (len cap : Nat) (L : List Ln) (B : Option Addr) (len2 cap2 : Nat) (C : List Cd) (m : Int) (w : World) (hl : OkL w A len L) (hc : OkC w B len2 C) (wm : (Lit.int .i64 m).wf = true) :
    Calls Try.prog 9 #[.slice A len cap, .slice B len2 cap2, .int .i64 m] w fun e w' => e = .returned (.bool true) ∧ Below w.heap.size w w' := by
  obtain ⟨rfl, hL, hBl, hml⟩ := hl
  obtain ⟨rfl, hR, hBc, hmc⟩ := hc
  have HG := Lib.hid (fun W => large25_any A B cap cap2 L.length C.length W hml hmc)
  have HV := Lib.hid lives_any
  have HL0 := Lib.hid hL
  have HR0 := Lib.hid hR
  have HBl := Lib.hid hBl
  have HBc := Lib.hid hBc
  clear hL hR hBl hBc
  go_enter Try.func9, Try.ntmps9
  go_wp2_with fail
  refine (HG.out _).mono ?_
  rintro e w_ ⟨⟨b, rfl, hb⟩, rfl⟩
  cases b
  · obtain ⟨h1, h2⟩ := hb rfl
    have HO := Lib.hid (fun W hl hr => of_any A B cap cap2 L C 1 m W hl HBl.out hr HBc.out (by omega) ⟨by decide, by decide⟩)
    have HO2 := Lib.hid (fun W hl hr => of_any A B cap cap2 L C 2 m W hl HBl.out hr HBc.out (by omega) ⟨by decide, by decide⟩)
    rw [errO_12] at HO2
    have HN := Lib.hid (show (ofS C L 1 m).length = (ofS C L 2 m).length ∧ (ofS C L 1 m).length ≤ 250 ∧ (∀ i, (h1 : i < (ofS C L 1 m).length) → (h2 : i < (ofS C L 2 m).length) → Near L (ofS C L 1 m)[i] (ofS C L 2 m)[i]) ∧ (∀ s ∈ ofS C L 1 m, r64 s.2.2 ∧ -400000000000000 ≤ s.2.2 ∧ s.2.2 ≤ 400000000000000) by
      by_cases hE : errO C L 1 m = 0
      · obtain ⟨q1, q2⟩ := close_all hE
        refine ⟨q1, ?_, q2, ?_⟩
        · have e1 : ofS C L 1 m = inO 1 m (gK 1 m C L) C := if_pos hE
          rw [e1]
          exact Nat.le_trans (inO_len _ _ _ _) h2
        · obtain ⟨_, hmo, hco, hl200, hli⟩ := errO_ok hE
          have e1 : ofS C L 1 m = inO 1 m (gK 1 m C L) C := if_pos hE
          have hbd := gK_bd (way := 1) hmo hco (linesE_all hli) L.length (Nat.le_refl _)
          rw [List.take_length] at hbd
          rw [e1]
          intro s hs
          have := inO_bd (way := 1) (m := m) (C := C) (by decide) hbd s hs
          unfold r64
          omega
      · have e1 : ofS C L 1 m = [] := if_neg hE
        have e2 : ofS C L 2 m = [] := if_neg (by rw [errO_12]; exact hE)
        rw [e1, e2]
        exact ⟨rfl, by simp, (fun i h => by cases h), (fun s h => by cases h)⟩)
    clear hb HG
    generalize errO C L 1 m = er at *
    generalize ofS C L 1 m = S at *
    generalize ofS C L 2 m = T at *
    go_wp2_with fail
    refine (HO.out _ HL0.out HR0.out).mono ?_
    rintro e w1 ⟨v1, s1, rfl, hi, hs, hb⟩
    obtain ⟨vs, cs, rfl⟩ := hs.shape
    have HB1 := Lib.hid hb
    have HS1 := Lib.hid hs.row
    have HL1 := Lib.hid (HL0.out.below hb)
    have HR1 := Lib.hid (HR0.out.below hb)
    clear hi hs hb HO
    go_wp2_with fail
    refine (HO2.out _ HL1.out HR1.out).mono ?_
    rintro e w2 ⟨v2, s2, rfl, hi, hs, hb⟩
    obtain ⟨vt, ct, rfl⟩ := hs.shape
    have HB2 := Lib.hid (HB1.out.trans (hb.mono HB1.out.size))
    have HS2 := Lib.hid (HS1.out.below hb)
    have HT2 := Lib.hid hs.row
    have HL2 := Lib.hid (HL1.out.below hb)
    clear hi hs hb HO2
    obtain ⟨hst, hs5, _⟩ := HN.out
    rw [← hst]
    go_wp2_with fail
    go_loopw [13] (fun x wr => ∃ i : Nat, i ≤ S.length ∧ x = .int .i64 i ∧ Hid (Below w2.heap.size w2 wr)) (fun x _ => S.length - (intOf x).toNat)
    case atStart => exact ⟨0, Nat.zero_le _, rfl, Lib.hid (Below.refl _ _)⟩
    case round =>
      obtain ⟨i, hi, rfl, HW⟩ := hrel
      by_cases h : i < S.length
      · have h' : (i : Int) < (S.length : Int) := by omega
        have ht : i < T.length := by omega
        have ht' : (i : Int) < (T.length : Int) := by omega
        obtain ⟨_, _, hnear, htx⟩ := HN.out
        obtain ⟨n1, n2, n3, n4⟩ := hnear i h ht
        obtain ⟨⟨r1, r2⟩, r3, r4⟩ := htx S[i] (List.getElem_mem h)
        obtain ⟨p1, p2⟩ := cI_pos L S[i].1.toList L.length (Nat.le_refl _)
        have HSc := Lib.hid (show ∀ W, Below w2.heap.size w2 W → ∃ b off, vs = some ⟨b, off, none⟩ ∧ W.cell? ⟨b, off + i * 3, none⟩ = some (.string S[i].1) ∧ W.cell? ⟨b, off + i * 3 + 1, none⟩ = some (.int .i64 S[i].2.1) ∧ W.cell? ⟨b, off + i * 3 + 2, none⟩ = some (.int .i64 S[i].2.2) from fun W hb => by
          obtain ⟨b, off, e, _, hc⟩ := (HS2.out.below hb) (by omega)
          exact ⟨b, off, e, hc i h⟩)
        have HTc := Lib.hid (show ∀ W, Below w2.heap.size w2 W → ∃ b off, vt = some ⟨b, off, none⟩ ∧ W.cell? ⟨b, off + i * 3, none⟩ = some (.string S[i].1) ∧ W.cell? ⟨b, off + i * 3 + 1, none⟩ = some (.int .i64 S[i].2.1) ∧ W.cell? ⟨b, off + i * 3 + 2, none⟩ = some (.int .i64 T[i].2.2) from fun W hb => by
          obtain ⟨b, off, e, _, hc⟩ := (HT2.out.below hb) (by omega)
          have := hc i ht
          rw [← n1, ← n2] at this
          exact ⟨b, off, e, this⟩)
        have HCm := Lib.hid (fun k (h : k < L.length) => cI_more (s := S[i].1.toList) h)
        have HC0 := Lib.hid (show cI L S[i].1.toList 0 = 0 from rfl)
        have HCb := Lib.hid (fun k h => cI_pos L S[i].1.toList k h)
        have HCe := Lib.hid (show cI L S[i].1.toList L.length = cI L S[i].1.toList L.length from rfl)
        obtain ⟨vc, hvc⟩ : ∃ vc, cI L S[i].1.toList L.length = vc := ⟨_, rfl⟩
        rw [hvc] at n3 n4 p1 p2
        have HVc := Lib.hid hvc
        clear hnear htx n1 n2 hvc HCe
        generalize S[i].1 = Sn at *
        generalize S[i].2.1 = X at *
        generalize S[i].2.2 = a at *
        generalize T[i].2.2 = b at *
        have hd1 : ¬ vc < a - b := by omega
        have hd2 : ¬ a - b < -vc := by omega
        have hd1' : decide (vc < a - b) = false := decide_eq_false hd1
        have hd2' : decide (a - b < -vc) = false := decide_eq_false hd2
        go_wp2_with fail
        go_loopw [14, 15] (fun y x wr => ∃ k : Nat, k ≤ L.length ∧ x = .int .i64 k ∧ y = .int .i64 (cI L Sn.toList k) ∧ Hid (Below w2.heap.size w2 wr)) (fun _ x _ => L.length - (intOf x).toNat)
        case atStart => exact ⟨0, Nat.zero_le _, rfl, by rw [HC0.out], HW⟩
        case round =>
          obtain ⟨k, hk, rfl, rfl, HX⟩ := hrel
          by_cases g : k < L.length
          · have g' : (k : Int) < (L.length : Int) := by omega
            obtain ⟨b1, off1, rfl, _, hcl⟩ := (HL2.out.below HX.out) (by omega)
            obtain ⟨_, c1⟩ := hcl k g
            obtain ⟨b2, off2, rfl, s0, _, _⟩ := HSc.out _ HX.out
            obtain ⟨z1, z2⟩ := HCb.out k hk
            have HCk := Lib.hid (HCm.out k g)
            generalize cI L Sn.toList k = cv at *
            generalize L[k].2 = Tn at *
            clear hcl hd1 hd2 hd1' hd2' n3 n4
            cases q : (Tn.toList == Sn.toList)
            · rw [q] at HCk
              go_wp2_with fail
              go_quiet (fail)
              have HX2 := Lib.hid (below_drewN HX.out nq)
              go_wp2
              go_roundw
              case rel => exact ⟨k + 1, by omega, by go_num, congrArg (Value.int .i64) (by rw [HCk.out]; simp), HX2⟩
              case measure => simp [intOf]; omega
            · rw [q] at HCk
              go_wp2_with fail
              go_quiet (fail)
              have HX2 := Lib.hid (below_drewN HX.out nq)
              go_wp2
              go_roundw
              case rel => exact ⟨k + 1, by omega, by go_num, congrArg (Value.int .i64) (by rw [HCk.out]; simp), HX2⟩
              case measure => simp [intOf]; omega
          · have g' : ¬ (k : Int) < (L.length : Int) := by omega
            obtain rfl : k = L.length := by omega
            rw [HVc.out]
            obtain ⟨b2, off2, rfl, s0, s1, s2⟩ := HSc.out _ HX.out
            obtain ⟨b3, off3, rfl, t0, t1, t2⟩ := HTc.out _ HX.out
            go_wp2_with fail
            go_quiet (fail)
            have HX2 := Lib.hid (below_drewN HX.out nq)
            obtain ⟨_, _, e1, u0, u1, u2⟩ := HSc.out _ HX2.out
            obtain ⟨_, _, e2, y0, y1, y2⟩ := HTc.out _ HX2.out
            cases e1
            cases e2
            clear s0 s1 s2 t0 t1 t2
            go_wp2_with fail
            have q0 := cell_regrown u0
            have q1 := cell_regrown u1
            have q4 := cell_regrown y0
            have q5 := cell_regrown y1
            refine wp_region_quiet_below (l := _) (by kernel_rfl) (by kernel_rfl) ?_
            repeat (first | go_big_quiet_step (fail))
            refine wpQuiet_nil ?_
            intro w5 hw'
            obtain ⟨⟨dq2, osq2⟩, hw''⟩ := hw'
            have hb := below_regrown (wr.drewN nq) dq2 osq2
            rw [← hw''] at hb
            have HX3 := Lib.hid (HX2.out.trans (hb.mono HX2.out.size))
            clear hw'' hb q0 q1 q4 q5
            go_wp2
            go_roundw
            case rel => exact ⟨i + 1, by omega, by go_num, HX3⟩
            case measure => simp [intOf]; omega
      · have h' : ¬ (i : Int) < (S.length : Int) := by omega
        go_wp2_with fail
        refine (HV.out _).mono ?_
        rintro e w3 ⟨rfl, hb⟩
        have HB3 := Lib.hid ((HB2.out.trans (HW.out.mono HB2.out.size)).trans (hb.mono (Nat.le_trans HB2.out.size HW.out.size)))
        clear hb
        go_wp2
        go_ret
        exact ⟨rfl, HB3.out⟩
  · clear hb
    go_wp2
    go_ret
    exact ⟨rfl, Below.refl _ _⟩
end Go.Proofs.Ytelahgmnkhkgkaa
