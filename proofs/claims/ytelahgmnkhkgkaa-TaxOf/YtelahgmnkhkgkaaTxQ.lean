/- The walk of TaxWithin. Written by wip/mk_txp.py. -/
import Derived.Test.YtelahgmnkhkgkaaTxP
namespace Go.Proofs.Ytelahgmnkhkgkaa
open Go.RowKit Go.Sort
set_option linter.unusedVariables false
set_option linter.unusedSimpArgs false

theorem wfi {a : Int} (h : (Lit.int .i64 a).wf = true) : r64 a := i64_bd h
set_option maxRecDepth 100000 in
set_option maxHeartbeats 6000000 in
theorem taxWithin_walk (A : Option Addr) (len cap : Nat) (L : List Ln) (B : Option Addr) (len2 cap2 : Nat) (C : List Cd) (m : Int) (w : World) (hl : OkL w A len L) (hc : OkC w B len2 C) (wm : (Lit.int .i64 m).wf = true) :
    Calls Try.prog 8 #[.slice A len cap, .slice B len2 cap2, .int .i64 m] w fun e w' => e = .returned (.bool true) ∧ Below w.heap.size w w' := by
  obtain ⟨rfl, hL, hBl, hml⟩ := hl
  obtain ⟨rfl, hR, hBc, hmc⟩ := hc
  have HG := Lib.hid (fun W => large25_any A B cap cap2 L.length C.length W hml hmc)
  have HV := Lib.hid lives_any
  have HL0 := Lib.hid hL
  have HR0 := Lib.hid hR
  have HBl := Lib.hid hBl
  have HBc := Lib.hid hBc
  clear hL hR hBl hBc
  go_enter Try.func8, Try.ntmps8
  go_wp2_with fail
  refine (HG.out _).mono ?_
  rintro e w_ ⟨⟨b, rfl, hb⟩, rfl⟩
  cases b
  · obtain ⟨h1, h2⟩ := hb rfl
    have HO := Lib.hid (fun W hl hr => of_any A B cap cap2 L C 3 m W hl HBl.out hr HBc.out (by omega) ⟨by decide, by decide⟩)
    clear hb HG
    go_wp2_with fail
    refine (HO.out _ HL0.out HR0.out).mono ?_
    rintro e w1 ⟨v1, s1, rfl, hi, hs, hb⟩
    obtain ⟨vi, ci, rfl⟩ := hi.shape
    obtain ⟨vs, cs, rfl⟩ := hs.shape
    have HB1 := Lib.hid hb
    have HI1 := Lib.hid (show RowV w1 vi ((ofN C L 3 m).map inV1) from OwnV.row hi)
    have HS1 := Lib.hid hs.row
    have HL1 := Lib.hid (HL0.out.below hb)
    clear hi hs hb HO
    by_cases hE : errO C L 3 m = 0
    · obtain ⟨_, hmo, hco, hl200, hli⟩ := errO_ok hE
      have e1 : ofN C L 3 m = ntK 3 m C L := if_pos hE
      have e2 : ofS C L 3 m = inO 3 m (gK 3 m C L) C := if_pos hE
      have hall := linesE_all hli
      have hbd := gK_bd (way := 3) hmo hco hall L.length (Nat.le_refl _)
      have hwi := within hmo hco hall L.length (Nat.le_refl _)
      rw [List.take_length] at hbd hwi
      have hsum := inO_sum (·.2.2) rfl (way := 3) (m := m) (by decide) (gK 3 m C L) C
      rw [hwi] at hsum
      have hsb := inO_bd (way := 3) (m := m) (C := C) (by decide) hbd
      have hsl : (inO 3 m (gK 3 m C L) C).length ≤ C.length := inO_len _ _ _ _
      have hnl : (ntK 3 m C L).length = L.length := by unfold ntK; rw [List.length_map]
      have hmb : ∀ x ∈ L, -4000000000000 ≤ x.1 - ntF 3 m C x ∧ x.1 - ntF 3 m C x ≤ 4000000000000 := by
        intro x hx
        obtain ⟨⟨q1, q2⟩, q3⟩ := line_ok (hall x hx)
        unfold ntF
        split
        · omega
        · rename_i hne
          have hat : atC C x.2 = true := by
            rcases q3 with q | q
            · exact absurd q hne
            · exact q
          have := (div_bd (way := 3) hmo (val_rate hco hat) q1 q2).1
          unfold nt1
          omega
      have HPb := Lib.hid (pS_bd (fun x => x.1 - ntF 3 m C x) hmb)
      rw [e1, e2, hE]
      rw [e1] at HI1
      rw [e2] at HS1
      have HNi := Lib.hid (show ∀ k, (h : k < L.length) → (ntK 3 m C L)[k]? = some (ntF 3 m C L[k]) from fun k h => by unfold ntK; simp [h])
      have HNb := Lib.hid (show ∀ x ∈ L, (-1000000000000 ≤ x.1 ∧ x.1 ≤ 1000000000000) ∧ (-4000000000000 ≤ x.1 - ntF 3 m C x ∧ x.1 - ntF 3 m C x ≤ 4000000000000) from fun x hx => ⟨(line_ok (hall x hx)).1, hmb x hx⟩)
      clear e1 e2 hE hall hbd hwi hmb hmo hco hli
      generalize inO 3 m (gK 3 m C L) C = S at *
      have hS5 : S.length ≤ 250 := by omega
      have HSb := Lib.hid (pS_bd (fun s => s.2.2) (S := S) (M := 2000000000000 * (L.length : Int)) (fun s hs => hsb s hs))
      have hsb2 : ∀ s ∈ S, -400000000000000 ≤ s.2.2 ∧ s.2.2 ≤ 400000000000000 := fun s hs => by have := hsb s hs; omega
      have HSc := Lib.hid (pS_bd (fun s => s.2.2) (S := S) hsb2)
      have HSd := Lib.hid hsb2
      have HSum := Lib.hid (show pS (fun s => s.2.2) S S.length = pS (fun x => x.1 - ntF 3 m C x) L L.length by unfold pS; rw [List.take_length]; exact hsum)
      clear hsb hsb2 hsum HSb hsl
      have HF := Lib.hid (show ∀ k, (h : k < L.length) → pS (fun x => x.1 - ntF 3 m C x) L (k + 1) = pS (fun x => x.1 - ntF 3 m C x) L k + (L[k].1 - ntF 3 m C L[k]) from fun k h => pS_more _ h)
      have HT := Lib.hid (show ∀ k, (h : k < S.length) → pS (fun s => s.2.2) S (k + 1) = pS (fun s => s.2.2) S k + S[k].2.2 from fun k h => pS_more _ h)
      have HF0 := Lib.hid (pS_zero (fun x => x.1 - ntF 3 m C x) L)
      have HT0 := Lib.hid (pS_zero (fun s => s.2.2) S)
      generalize pS (fun x => x.1 - ntF 3 m C x) L = pF at *
      generalize pS (fun s => s.2.2) S = pT at *
      rw [hnl]
      go_wp2_with fail
      go_loopw [10, 11] (fun y x wr => ∃ k : Nat, k ≤ L.length ∧ x = .int .i64 k ∧ y = .int .i64 (pF k) ∧ Hid (Below w1.heap.size w1 wr)) (fun _ x _ => L.length - (intOf x).toNat)
      case atStart => exact ⟨0, Nat.zero_le _, rfl, by rw [HF0.out], Lib.hid (Below.refl _ _)⟩
      case round =>
        obtain ⟨k, hk, rfl, rfl, HW⟩ := hrel
        obtain ⟨b1, b2⟩ := HPb.out k hk
        have b1 : -1000000000000000 ≤ pF k := by omega
        have b2 : pF k ≤ 1000000000000000 := by omega
        by_cases h : k < L.length
        · have h' : (k : Int) < (L.length : Int) := by omega
          obtain ⟨b, off, rfl, hl, hcl⟩ := (HL1.out.below HW.out) (by omega)
          obtain ⟨c0, _⟩ := hcl k h
          obtain ⟨b', off', rfl, hl', d0⟩ := (HI1.out.below HW.out) k (inV1 (ntF 3 m C L[k])) (by rw [List.getElem?_map, HNi.out k h]; rfl)
          obtain ⟨⟨x1, x2⟩, x3, x4⟩ := HNb.out L[k] (List.getElem_mem h)
          have HFk := Lib.hid (HF.out k h)
          unfold inV1 at d0
          generalize L[k].1 = am at *
          generalize ntF 3 m C L[k] = nf at *
          clear hcl
          go_wp2_with fail
          go_quiet (fail)
          have HW2 := Lib.hid (below_drewN HW.out nq)
          generalize wr.drewN nq = w2 at *
          go_wp2
          go_roundw
          case rel => exact ⟨k + 1, by omega, by go_num, congrArg (Value.int .i64) (by rw [HFk.out]; omega), HW2⟩
          case measure => simp [intOf]; omega
        · have h' : ¬ (k : Int) < (L.length : Int) := by omega
          obtain rfl : k = L.length := by omega
          go_wp2_with fail
          go_loopw [10, 12] (fun y x wr => ∃ j : Nat, j ≤ S.length ∧ x = .int .i64 j ∧ y = .int .i64 (pF L.length - pT j) ∧ Hid (Below w1.heap.size w1 wr)) (fun _ x _ => S.length - (intOf x).toNat)
          case atStart => exact ⟨0, Nat.zero_le _, rfl, by rw [HT0.out]; simp, HW⟩
          case round =>
            obtain ⟨j, hj, rfl, rfl, HX⟩ := hrel
            obtain ⟨t1, t2⟩ := HSc.out j hj
            have t1 : -100000000000000000 ≤ pT j := by omega
            have t2 : pT j ≤ 100000000000000000 := by omega
            by_cases g : j < S.length
            · have g' : (j : Int) < (S.length : Int) := by omega
              obtain ⟨b, off, rfl, hl, hcl⟩ := (HS1.out.below HX.out) (by omega)
              obtain ⟨_, _, c2⟩ := hcl j g
              obtain ⟨x1, x2⟩ := HSd.out S[j] (List.getElem_mem g)
              have HTj := Lib.hid (HT.out j g)
              generalize S[j].2.2 = tx at *
              clear hcl
              go_wp2
              go_roundw
              case rel => exact ⟨j + 1, by omega, by go_num, congrArg (Value.int .i64) (by rw [HTj.out]; omega), HX⟩
              case measure => simp [intOf]; omega
            · have g' : ¬ (j : Int) < (S.length : Int) := by omega
              obtain rfl : j = S.length := by omega
              have hz : pF L.length - pT S.length = 0 := by have := HSum.out; omega
              rw [hz]
              go_wp2_with fail
              refine (HV.out _).mono ?_
              rintro e w2 ⟨rfl, hb⟩
              have HB2 := Lib.hid ((HB1.out.trans (HX.out.mono HB1.out.size)).trans (hb.mono (Nat.le_trans HB1.out.size HX.out.size)))
              clear hb
              go_wp2
              go_ret
              exact ⟨rfl, HB2.out⟩
    · have e1 : ofN C L 3 m = [] := if_neg hE
      have e2 : ofS C L 3 m = [] := if_neg hE
      rw [e1, e2]
      have hE' : (errO C L 3 m != 0) = true := by simpa using hE
      clear e1 e2 HI1 HS1
      generalize errO C L 3 m = er at *
      go_wp2_with fail
      refine (HV.out _).mono ?_
      rintro e w2 ⟨rfl, hb⟩
      have HB2 := Lib.hid (HB1.out.trans (hb.mono HB1.out.size))
      clear hb
      go_wp2
      go_ret
      exact ⟨rfl, HB2.out⟩
  · clear hb
    go_wp2
    go_ret
    exact ⟨rfl, Below.refl _ _⟩
end Go.Proofs.Ytelahgmnkhkgkaa
