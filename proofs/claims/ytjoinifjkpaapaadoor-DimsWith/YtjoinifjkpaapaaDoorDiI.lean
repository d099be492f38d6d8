/- What With of package accountingref09 returns. -/
import Derived.Test.YtjoinifjkpaapaaDoorDiH
namespace Go.Proofs.YtjoinifjkpaapaaDoor
open Go.RowKit Go.Sort
set_option linter.unusedVariables false
set_option linter.unusedSimpArgs false

def wiE (L : List Tg) (t : Tg) : Int := if rightT L = false then 14 else if tagB t.1 t.2 = false then 7 else if 6 < (putT L t).length then 9 else 0
def wiL (L : List Tg) (t : Tg) : List Tg := if wiE L t = 0 then putT L t else []
theorem wi_bad {L : List Tg} {t : Tg} {x : Int} (h : wiE L t = x) (h0 : x ≠ 0) : wiL L t = [] := if_neg (by rw [h]; exact h0)
set_option maxRecDepth 100000 in
set_option maxHeartbeats 3000000 in
theorem rWith_any (A : Option Addr) (c : Nat) (L : List Tg) (t : Tg) (w : World) (hR : RowT w A L) (hn : L.length ≤ 100) (hcap : L.length ≤ c) (hnil : A = none → c = 0) (h1 : t.1.size ≤ 400) (h2 : t.2.size ≤ 400) :
    Calls Tryd.prog 16 #[.slice A L.length c, .agg #[.string t.1, .string t.2]] w fun e w' => ∃ v, e = .returned (.tuple #[v, .int .i64 (wiE L t)]) ∧ OwnT w' w.heap.size v (wiL L t) ∧ Below w.heap.size w w' := by
  obtain ⟨nm, va⟩ := t
  have HB0 := Lib.hid ((Below.refl w.heap.size w).alloc (Nat.le_refl _) (Obj.cells #[.string nm, .string va] 32))
  have HR := Lib.hid (hR.below HB0.out)
  have HP := Lib.hid (Pr2.alloc w (.string nm) (.string va) 32)
  have HZ := Lib.hid (show (w.alloc (Obj.cells #[.string nm, .string va] 32)).heap.size = w.heap.size + 1 by simp)
  have HRt := Lib.hid (fun W hr => rRight_any A c L W hr hn)
  have HNm := Lib.hid (fun W => named_any nm va W h1 h2)
  have HPu := Lib.hid (fun W hr => rPut_any A c L (nm, va) W hr hn hcap hnil h1 h2)
  have HE := Lib.hid (show wiE L (nm, va) = if rightT L = false then 14 else if tagB nm va = false then 7 else if 6 < (putT L (nm, va)).length then 9 else 0 from rfl)
  clear hR hnil hcap
  cases hr : rightT L
  · rw [hr] at HRt HE
    have HL := Lib.hid (wi_bad (L := L) (t := (nm, va)) (x := 14) HE.out (by decide))
    go_enter Tryd.func16, Tryd.ntmps16
    go_wp2_with fail
    generalize w.alloc (Obj.cells #[.string nm, .string va] 32) = w1 at *
    refine (HRt.out _ HR.out).mono ?_
    rintro e w2 ⟨rfl, hb⟩
    have HB := Lib.hid (HB0.out.trans (hb.mono (by have := HZ.out; omega)))
    clear hb
    go_wp2
    go_ret2
    exact ⟨_, by rw [HE.out]; rfl, by rw [HL.out]; exact OwnT.nil _ _, HB.out⟩
  · rw [hr] at HRt HE
    cases hc : tagB nm va
    · rw [hc] at HNm HE
      have HL := Lib.hid (wi_bad (L := L) (t := (nm, va)) (x := 7) HE.out (by decide))
      go_enter Tryd.func16, Tryd.ntmps16
      go_wp2_with fail
      generalize w.alloc (Obj.cells #[.string nm, .string va] 32) = w1 at *
      refine (HRt.out _ HR.out).mono ?_
      rintro e w2 ⟨rfl, hb⟩
      have hp := HP.out.below hb
      have l0 := hp.c0
      have l1 := hp.c1
      have HB := Lib.hid (HB0.out.trans (hb.mono (by have := HZ.out; omega)))
      clear hb hp
      go_wp2_with fail
      refine (HNm.out _).mono ?_
      rintro e w3 ⟨rfl, hb⟩
      have HB2 := Lib.hid (HB.out.trans (hb.mono HB.out.size))
      clear hb
      go_wp2
      go_ret2
      exact ⟨_, by rw [HE.out]; rfl, by rw [HL.out]; exact OwnT.nil _ _, HB2.out⟩
    · rw [hc] at HNm HE
      have HM := Lib.hid (show (putT L (nm, va)).length ≤ 1000 by unfold putT; simp; omega)
      have HLy := Lib.hid (show wiE L (nm, va) = 0 → wiL L (nm, va) = putT L (nm, va) from fun q => if_pos q)
      have HLn := Lib.hid (wi_bad (L := L) (t := (nm, va)) (x := 9))
      generalize putT L (nm, va) = M at *
      go_enter Tryd.func16, Tryd.ntmps16
      go_wp2_with fail
      generalize w.alloc (Obj.cells #[.string nm, .string va] 32) = w1 at *
      refine (HRt.out _ HR.out).mono ?_
      rintro e w2 ⟨rfl, hb⟩
      have hp := HP.out.below hb
      have l0 := hp.c0
      have l1 := hp.c1
      have HB := Lib.hid hb
      clear hb hp
      go_wp2_with fail
      refine (HNm.out _).mono ?_
      rintro e w3 ⟨rfl, hb⟩
      have HB2 := Lib.hid (HB.out.trans (hb.mono HB.out.size))
      have hp := HP.out.below HB2.out
      have d0 := hp.c0
      have d1 := hp.c1
      clear hb hp l0 l1
      go_wp2_with fail
      refine (HPu.out _ (HR.out.below HB2.out)).mono ?_
      rintro e w4 ⟨v, rfl, ho, hb⟩
      have HO := Lib.hid (ho.lower (show w.heap.size ≤ w3.heap.size by have := HZ.out; have := HB2.out.size; omega))
      have HB3 := Lib.hid (HB0.out.trans ((HB2.out.trans (hb.mono HB2.out.size)).mono (by have := HZ.out; omega)))
      clear hb
      obtain ⟨ao, cap, rfl, _, _⟩ := ho.shape
      clear ho d0 d1
      by_cases hm : 6 < M.length
      · have hm' : (6 : Int) < (M.length : Int) := by omega
        have HE2 := Lib.hid (show wiE L (nm, va) = 9 by rw [HE.out, if_neg (by decide), if_neg (by decide), if_pos hm])
        have HL := Lib.hid (HLn.out HE2.out (by decide))
        go_wp2
        go_ret2
        exact ⟨_, by rw [HE2.out]; rfl, by rw [HL.out]; exact OwnT.nil _ _, HB3.out⟩
      · have hm' : ¬ (6 : Int) < (M.length : Int) := by omega
        have HE2 := Lib.hid (show wiE L (nm, va) = 0 by rw [HE.out, if_neg (by decide), if_neg (by decide), if_neg hm])
        have HL := Lib.hid (HLy.out HE2.out)
        go_wp2
        go_ret2
        exact ⟨_, by rw [HE2.out]; rfl, by rw [HL.out]; exact HO.out, HB3.out⟩
end Go.Proofs.YtjoinifjkpaapaaDoor
