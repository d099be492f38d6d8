/- What With and Make of package dims return. Written by wip/mk_din.py. -/
import Derived.Test.YtjoinifjkpaapaaDoorDiM
namespace Go.Proofs.YtjoinifjkpaapaaDoor
open Go.RowKit Go.Sort
set_option linter.unusedVariables false
set_option linter.unusedSimpArgs false

set_option maxRecDepth 100000 in
set_option maxHeartbeats 3000000 in
theorem with_any (A : Option Addr) (c : Nat) (L : List Tg) (t : Tg) (w : World) (hR : RowT w A L) (hn : L.length ≤ 100) (hcap : L.length ≤ c) (hnil : A = none → c = 0) (h1 : t.1.size ≤ 400) (h2 : t.2.size ≤ 400) :
    Calls Tryd.prog 15 #[.slice A L.length c, .agg #[.string t.1, .string t.2]] w fun e w' => ∃ v, e = .returned (.tuple #[v, .int .i64 (wiE L t)]) ∧ OwnT w' w.heap.size v (wiL L t) ∧ Below w.heap.size w w' := by
  obtain ⟨nm, va⟩ := t
  have HB0 := Lib.hid ((Below.refl w.heap.size w).alloc (Nat.le_refl _) (Obj.cells #[.string nm, .string va] 32))
  have HR := Lib.hid (hR.below HB0.out)
  have HP := Lib.hid (Pr2.alloc w (.string nm) (.string va) 32)
  have HZ := Lib.hid (show (w.alloc (Obj.cells #[.string nm, .string va] 32)).heap.size = w.heap.size + 1 by simp)
  have HRt := Lib.hid (fun W hr => right_any A c L W hr hn)
  have HNm := Lib.hid (fun W => isTag_any nm va W h1 h2)
  have HPu := Lib.hid (fun W hr hs => placed_any A c L (nm, va) W hr hn hcap hnil hs h1 h2)
  have HE := Lib.hid (show wiE L (nm, va) = if rightT L = false then 14 else if tagB nm va = false then 7 else if 6 < (putT L (nm, va)).length then 9 else 0 from rfl)
  clear hR hnil hcap
  cases hr : rightT L
  · rw [hr] at HRt HE
    have HL := Lib.hid (wi_bad (L := L) (t := (nm, va)) (x := 14) HE.out (by decide))
    go_enter Tryd.func15, Tryd.ntmps15
    go_wp2_with fail
    generalize w.alloc (Obj.cells #[.string nm, .string va] 32) = w1 at *
    refine (HRt.out _ HR.out).mono ?_
    rintro e w2 ⟨rfl, hb⟩
    have HB := Lib.hid (HB0.out.trans (hb.mono (by have := HZ.out; omega)))
    clear hb
    go_wp2
    go_ret2
    exact ⟨_, by rw [HE.out]; rfl, by rw [HL.out]; exact OwnT.nil _ _, HB.out⟩
  · have HSr := Lib.hid (right_srt hr)
    rw [hr] at HRt HE
    cases hc : tagB nm va
    · rw [hc] at HNm HE
      have HL := Lib.hid (wi_bad (L := L) (t := (nm, va)) (x := 7) HE.out (by decide))
      go_enter Tryd.func15, Tryd.ntmps15
      go_wp2_with fail
      generalize w.alloc (Obj.cells #[.string nm, .string va] 32) = w1 at *
      refine (HRt.out _ HR.out).mono ?_
      rintro e w2 ⟨rfl, hb⟩
      have hp := HP.out.below hb
      have l0 := hp.c0
      have l1 := hp.c1
      have HB := Lib.hid (HB0.out.trans (hb.mono (by have := HZ.out; omega)))
      clear hb hp
      go_wp2_with fail
      refine (HNm.out _).mono ?_
      rintro e w3 ⟨rfl, hb⟩
      have HB2 := Lib.hid (HB.out.trans (hb.mono HB.out.size))
      clear hb
      go_wp2
      go_ret2
      exact ⟨_, by rw [HE.out]; rfl, by rw [HL.out]; exact OwnT.nil _ _, HB2.out⟩
    · rw [hc] at HNm HE
      have HM := Lib.hid (show (putT L (nm, va)).length ≤ 1000 by unfold putT; simp; omega)
      have HLy := Lib.hid (show wiE L (nm, va) = 0 → wiL L (nm, va) = putT L (nm, va) from fun q => if_pos q)
      have HLn := Lib.hid (wi_bad (L := L) (t := (nm, va)) (x := 9))
      generalize putT L (nm, va) = M at *
      go_enter Tryd.func15, Tryd.ntmps15
      go_wp2_with fail
      generalize w.alloc (Obj.cells #[.string nm, .string va] 32) = w1 at *
      refine (HRt.out _ HR.out).mono ?_
      rintro e w2 ⟨rfl, hb⟩
      have hp := HP.out.below hb
      have l0 := hp.c0
      have l1 := hp.c1
      have HB := Lib.hid hb
      clear hb hp
      go_wp2_with fail
      refine (HNm.out _).mono ?_
      rintro e w3 ⟨rfl, hb⟩
      have HB2 := Lib.hid (HB.out.trans (hb.mono HB.out.size))
      have hp := HP.out.below HB2.out
      have d0 := hp.c0
      have d1 := hp.c1
      clear hb hp l0 l1
      go_wp2_with fail
      refine (HPu.out _ (HR.out.below HB2.out) HSr.out).mono ?_
      rintro e w4 ⟨v, rfl, ho, hb⟩
      have HO := Lib.hid (ho.lower (show w.heap.size ≤ w3.heap.size by have := HZ.out; have := HB2.out.size; omega))
      have HB3 := Lib.hid (HB0.out.trans ((HB2.out.trans (hb.mono HB2.out.size)).mono (by have := HZ.out; omega)))
      clear hb
      obtain ⟨ao, cap, rfl, _, _⟩ := ho.shape
      clear ho d0 d1
      by_cases hm : 6 < M.length
      · have hm' : (6 : Int) < (M.length : Int) := by omega
        have HE2 := Lib.hid (show wiE L (nm, va) = 9 by rw [HE.out, if_neg (by decide), if_neg (by decide), if_pos hm])
        have HL := Lib.hid (HLn.out HE2.out (by decide))
        go_wp2
        go_ret2
        exact ⟨_, by rw [HE2.out]; rfl, by rw [HL.out]; exact OwnT.nil _ _, HB3.out⟩
      · have hm' : ¬ (6 : Int) < (M.length : Int) := by omega
        have HE2 := Lib.hid (show wiE L (nm, va) = 0 by rw [HE.out, if_neg (by decide), if_neg (by decide), if_neg hm])
        have HL := Lib.hid (HLy.out HE2.out)
        go_wp2
        go_ret2
        exact ⟨_, by rw [HE2.out]; rfl, by rw [HL.out]; exact HO.out, HB3.out⟩
theorem srt_nil : SrtT [] := List.Pairwise.nil
set_option maxRecDepth 100000 in
set_option maxHeartbeats 3000000 in
theorem make_any (A : Option Addr) (c : Nat) (L : List Tg) (w : World) (hR : RowT w A L) (hn : L.length ≤ 100) :
    Calls Tryd.prog 10 #[.slice A L.length c] w fun e w' => ∃ v, e = .returned (.tuple #[v, .int .i64 (mkR L).2]) ∧ OwnT w' w.heap.size v (mkR L).1 ∧ Below w.heap.size w w' := by
  have HR := Lib.hid hR
  clear hR
  by_cases h6 : 6 < L.length
  · have h6' : (6 : Int) < (L.length : Int) := by omega
    have HE := Lib.hid (show mkR L = ([], 9) from if_pos h6)
    go_enter Tryd.func10, Tryd.ntmps10
    go_wp2
    go_ret2
    exact ⟨_, by rw [HE.out]; rfl, by rw [HE.out]; exact OwnT.nil _ _, Below.refl _ _⟩
  · have h6' : ¬ (6 : Int) < (L.length : Int) := by omega
    have HE := Lib.hid (show mkR L = mkF [] L from if_neg h6)
    generalize mkR L = R at *
    go_enter Tryd.func10, Tryd.ntmps10
    go_wp2
    go_loopw [2, 13] (fun x y wr => ∃ (k : Nat) (v : Value) (M : List Tg), k ≤ L.length ∧ y = .int .i64 k ∧ x = v ∧ Hid (R = mkF M (L.drop k)) ∧ Hid (M.length ≤ k ∧ SrtT M ∧ ∀ x ∈ M, x.1.size ≤ 400 ∧ x.2.size ≤ 400) ∧ Hid (OwnT wr w.heap.size v M) ∧ Hid (Below w.heap.size w wr)) (fun _ y _ => L.length - (intOf y).toNat)
    case atStart => exact ⟨0, _, [], Nat.zero_le _, rfl, rfl, HE, Lib.hid ⟨Nat.zero_le _, srt_nil, by simp⟩, Lib.hid (OwnT.nil _ _), Lib.hid (Below.refl _ _)⟩
    case round =>
      clear HE
      obtain ⟨k, v, M, hk, rfl, rfl, HF, HM, HO, HB⟩ := hrel
      by_cases h : k < L.length
      · have h' : (k : Int) < (L.length : Int) := by omega
        obtain ⟨b, off, rfl, hl, hc⟩ := (HR.out.below HB.out).1 (by omega)
        obtain ⟨c0, c1⟩ := hc k h
        obtain ⟨s0, s1⟩ := HR.out.bd h
        rw [List.drop_eq_getElem_cons h] at HF
        obtain ⟨S, hS⟩ : ∃ S, L[k].1 = S := ⟨_, rfl⟩
        obtain ⟨T, hT⟩ : ∃ T, L[k].2 = T := ⟨_, rfl⟩
        have HG := Lib.hid (show R = if tagB S T = false then ([], 7) else if (getV M S).2 = true then ([], 8) else mkF (putT M (S, T)) (L.drop (k + 1)) by rw [HF.out, ← hS, ← hT]; rfl)
        rw [hS] at c0 s0
        rw [hT] at c1 s1
        clear hc HF hS hT
        have HNm := Lib.hid (fun W => isTag_any S T W s0 s1)
        obtain ⟨ao, cap, rfl, hv1, hv2⟩ := HO.out.shape
        have HV := Lib.hid (And.intro hv1 hv2)
        clear hv1 hv2
        have HGe := Lib.hid (fun W (ho : OwnT W w.heap.size (.slice ao M.length cap) M) => get_any ao cap M S W (ho.row HM.out.2.2) (by have := HM.out.1; omega))
        have HPu := Lib.hid (fun W (ho : OwnT W w.heap.size (.slice ao M.length cap) M) => placed_any ao cap M (S, T) W (ho.row HM.out.2.2) (by have := HM.out.1; omega) HV.out.2 HV.out.1 HM.out.2.1 s0 s1)
        have hp := Pr2.alloc wr (.string S) (.string T) 32
        have HP := Lib.hid hp
        have l0 := hp.c0
        have l1 := hp.c1
        have HB1 := Lib.hid (HB.out.alloc (by have := HB.out.size; omega) (Obj.cells #[.string S, .string T] 32))
        have HO1 := Lib.hid (HO.out.below ((Below.refl _ _).alloc (Nat.le_refl _) (Obj.cells #[.string S, .string T] 32)))
        clear hp HO HB
        cases ht : tagB S T
        · rw [ht] at HNm HG
          go_wp2_with fail
          generalize wr.alloc (Obj.cells #[.string S, .string T] 32) = w1 at *
          refine (HNm.out _).mono ?_
          rintro e w2 ⟨rfl, hb⟩
          have HB2 := Lib.hid (HB1.out.trans (hb.mono HB1.out.size))
          clear hb
          go_wp2
          go_ret2
          exact ⟨_, by rw [HG.out]; rfl, by rw [HG.out]; exact OwnT.nil _ _, HB2.out⟩
        · rw [ht] at HNm HG
          go_wp2_with fail
          generalize wr.alloc (Obj.cells #[.string S, .string T] 32) = w1 at *
          refine (HNm.out _).mono ?_
          rintro e w2 ⟨rfl, hb⟩
          have HB2 := Lib.hid (HB1.out.trans (hb.mono HB1.out.size))
          have HO2 := Lib.hid (HO1.out.below hb)
          have HP2 := Lib.hid (HP.out.below hb)
          have hp := HP2.out
          have d0 := hp.c0
          have d1 := hp.c1
          clear hb hp l0 l1 c0 c1
          generalize hgv : getV M S = gv at *
          obtain ⟨g1, g2⟩ := gv
          cases g2
          · go_wp2_with fail
            refine (HGe.out _ HO2.out).mono ?_
            rintro e w3 ⟨rfl, hb⟩
            have HB3 := Lib.hid (HB2.out.trans (hb.mono HB2.out.size))
            have HO3 := Lib.hid (HO2.out.below hb)
            have hp := HP2.out.below hb
            have e0 := hp.c0
            have e1 := hp.c1
            clear hb hp d0 d1
            go_wp2_with fail
            refine (HPu.out _ HO3.out).mono ?_
            rintro e w4 ⟨v, rfl, ho, hb⟩
            have HB4 := Lib.hid (HB3.out.trans (hb.mono HB3.out.size))
            have HO4 := Lib.hid (ho.lower HB3.out.size)
            have HM3 := Lib.hid (show (putT M (S, T)).length ≤ k + 1 ∧ SrtT (putT M (S, T)) ∧ ∀ x ∈ putT M (S, T), x.1.size ≤ 400 ∧ x.2.size ≤ 400 from ⟨by have := putT_len M (S, T); have := HM.out.1; omega, put_srt HM.out.2.1, putT_bd HM.out.2.2 ⟨s0, s1⟩⟩)
            have HG3 := Lib.hid (show R = mkF (putT M (S, T)) (L.drop (k + 1)) from HG.out)
            clear ho hb
            go_wp2
            go_roundw
            case rel => exact ⟨k + 1, _, _, by omega, by go_num, rfl, HG3, HM3, HO4, HB4⟩
            case measure => simp [intOf]; omega
          · go_wp2_with fail
            refine (HGe.out _ HO2.out).mono ?_
            rintro e w3 ⟨rfl, hb⟩
            have HB3 := Lib.hid (HB2.out.trans (hb.mono HB2.out.size))
            clear hb
            go_wp2
            go_ret2
            exact ⟨_, by rw [HG.out]; rfl, by rw [HG.out]; exact OwnT.nil _ _, HB3.out⟩
      · have h' : ¬ (k : Int) < (L.length : Int) := by omega
        have HG := Lib.hid (show R = (M, 0) by rw [HF.out, List.drop_eq_nil_of_le (by omega)]; rfl)
        go_wp2
        go_ret2
        exact ⟨_, by rw [HG.out]; rfl, by rw [HG.out]; exact HO.out, HB.out⟩
end Go.Proofs.YtjoinifjkpaapaaDoor
