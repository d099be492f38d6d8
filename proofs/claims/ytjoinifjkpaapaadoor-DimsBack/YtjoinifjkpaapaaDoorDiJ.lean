/- What Make of package accountingref09 returns. -/
import Derived.Test.YtjoinifjkpaapaaDoorDiI
namespace Go.Proofs.YtjoinifjkpaapaaDoor
open Go.RowKit Go.Sort
set_option linter.unusedVariables false
set_option linter.unusedSimpArgs false

def mkF : List Tg → List Tg → List Tg × Int
  | M, [] => (M, 0)
  | M, t :: r => if tagB t.1 t.2 = false then ([], 7) else if (getV M t.1).2 = true then ([], 8) else mkF (putT M t) r
def mkR (L : List Tg) : List Tg × Int := if 6 < L.length then ([], 9) else mkF [] L
theorem putT_len (L : List Tg) (t : Tg) : (putT L t).length ≤ L.length + 1 := by
  unfold putT upI
  have := lowI_le L t.1
  simp only [List.length_append, List.length_take, List.length_drop, List.length_cons, List.length_nil]
  split <;> omega
theorem putT_bd {L : List Tg} {t : Tg} (h : ∀ x ∈ L, x.1.size ≤ 400 ∧ x.2.size ≤ 400) (ht : t.1.size ≤ 400 ∧ t.2.size ≤ 400) : ∀ x ∈ putT L t, x.1.size ≤ 400 ∧ x.2.size ≤ 400 := by
  intro x hx
  unfold putT at hx
  simp only [List.mem_append, List.mem_singleton] at hx
  rcases hx with (q | q) | q
  · exact h x (List.mem_of_mem_take q)
  · subst q; exact ht
  · exact h x (List.mem_of_mem_drop q)
set_option maxRecDepth 100000 in
set_option maxHeartbeats 3000000 in
theorem rMake_any (A : Option Addr) (c : Nat) (L : List Tg) (w : World) (hR : RowT w A L) (hn : L.length ≤ 100) :
    Calls Tryd.prog 11 #[.slice A L.length c] w fun e w' => ∃ v, e = .returned (.tuple #[v, .int .i64 (mkR L).2]) ∧ OwnT w' w.heap.size v (mkR L).1 ∧ Below w.heap.size w w' := by
  have HR := Lib.hid hR
  clear hR
  by_cases h6 : 6 < L.length
  · have h6' : (6 : Int) < (L.length : Int) := by omega
    have HE := Lib.hid (show mkR L = ([], 9) from if_pos h6)
    go_enter Tryd.func11, Tryd.ntmps11
    go_wp2
    go_ret2
    exact ⟨_, by rw [HE.out]; rfl, by rw [HE.out]; exact OwnT.nil _ _, Below.refl _ _⟩
  · have h6' : ¬ (6 : Int) < (L.length : Int) := by omega
    have HE := Lib.hid (show mkR L = mkF [] L from if_neg h6)
    generalize mkR L = R at *
    go_enter Tryd.func11, Tryd.ntmps11
    go_wp2
    go_loopw [4, 5] (fun x y wr => ∃ (k : Nat) (v : Value) (M : List Tg), k ≤ L.length ∧ y = .int .i64 k ∧ x = v ∧ Hid (R = mkF M (L.drop k)) ∧ Hid (M.length ≤ k ∧ ∀ x ∈ M, x.1.size ≤ 400 ∧ x.2.size ≤ 400) ∧ Hid (OwnT wr w.heap.size v M) ∧ Hid (Below w.heap.size w wr)) (fun _ y _ => L.length - (intOf y).toNat)
    case atStart => exact ⟨0, _, [], Nat.zero_le _, rfl, rfl, HE, Lib.hid ⟨Nat.zero_le _, by simp⟩, Lib.hid (OwnT.nil _ _), Lib.hid (Below.refl _ _)⟩
    case round =>
      clear HE
      obtain ⟨k, v, M, hk, rfl, rfl, HF, HM, HO, HB⟩ := hrel
      by_cases h : k < L.length
      · have h' : (k : Int) < (L.length : Int) := by omega
        obtain ⟨b, off, rfl, hl, hc⟩ := (HR.out.below HB.out).1 (by omega)
        obtain ⟨c0, c1⟩ := hc k h
        obtain ⟨s0, s1⟩ := HR.out.bd h
        rw [List.drop_eq_getElem_cons h] at HF
        obtain ⟨S, hS⟩ : ∃ S, L[k].1 = S := ⟨_, rfl⟩
        obtain ⟨T, hT⟩ : ∃ T, L[k].2 = T := ⟨_, rfl⟩
        have HG := Lib.hid (show R = if tagB S T = false then ([], 7) else if (getV M S).2 = true then ([], 8) else mkF (putT M (S, T)) (L.drop (k + 1)) by rw [HF.out, ← hS, ← hT]; rfl)
        rw [hS] at c0 s0
        rw [hT] at c1 s1
        clear hc HF
        have HNm := Lib.hid (fun W => named_any S T W s0 s1)
        obtain ⟨ao, cap, rfl, hv1, hv2⟩ := HO.out.shape
        have HV := Lib.hid (And.intro hv1 hv2)
        clear hv1 hv2
        have HGe := Lib.hid (fun W (ho : OwnT W w.heap.size (.slice ao M.length cap) M) => rGet_any ao cap M S W (ho.row HM.out.2) (by have := HM.out.1; omega))
        have HPu := Lib.hid (fun W (ho : OwnT W w.heap.size (.slice ao M.length cap) M) => rPut_any ao cap M (S, T) W (ho.row HM.out.2) (by have := HM.out.1; omega) HV.out.2 HV.out.1 s0 s1)
        cases ht : tagB S T
        · rw [ht] at HNm HG
          go_wp2_with fail
          refine (HNm.out _).mono ?_
          rintro e w2 ⟨rfl, hb⟩
          have HB2 := Lib.hid (HB.out.trans (hb.mono HB.out.size))
          clear hb
          go_wp2
          go_ret2
          exact ⟨_, by rw [HG.out]; rfl, by rw [HG.out]; exact OwnT.nil _ _, HB2.out⟩
        · rw [ht] at HNm HG
          go_wp2_with fail
          refine (HNm.out _).mono ?_
          rintro e w2 ⟨rfl, hb⟩
          have HB2 := Lib.hid (HB.out.trans (hb.mono HB.out.size))
          have HO2 := Lib.hid (HO.out.below hb)
          have d0 : w2.cell? ⟨b, off + k * 2, none⟩ = some (.string S) := by rw [hb.cell hl]; exact c0
          have d1 : w2.cell? ⟨b, off + k * 2 + 1, none⟩ = some (.string T) := by rw [hb.cell hl]; exact c1
          clear hb c0 c1
          generalize hgv : getV M S = gv at *
          obtain ⟨g1, g2⟩ := gv
          cases g2
          · go_wp2_with fail
            refine (HGe.out _ HO2.out).mono ?_
            rintro e w3 ⟨rfl, rfl⟩
            go_wp2_with fail
            refine (HPu.out _ HO2.out).mono ?_
            rintro e w4 ⟨v, rfl, ho, hb⟩
            have HB3 := Lib.hid (HB2.out.trans (hb.mono HB2.out.size))
            have HO3 := Lib.hid (ho.lower HB2.out.size)
            have HM3 := Lib.hid (show (putT M (S, T)).length ≤ k + 1 ∧ ∀ x ∈ putT M (S, T), x.1.size ≤ 400 ∧ x.2.size ≤ 400 from ⟨by have := putT_len M (S, T); have := HM.out.1; omega, putT_bd HM.out.2 ⟨s0, s1⟩⟩)
            have HG3 := Lib.hid (show R = mkF (putT M (S, T)) (L.drop (k + 1)) from HG.out)
            clear ho hb
            go_wp2
            go_roundw
            case rel => exact ⟨k + 1, _, _, by omega, by go_num, rfl, HG3, HM3, HO3, HB3⟩
            case measure => simp [intOf]; omega
          · go_wp2_with fail
            refine (HGe.out _ HO2.out).mono ?_
            rintro e w3 ⟨rfl, rfl⟩
            go_wp2
            go_ret2
            exact ⟨_, by rw [HG.out]; rfl, by rw [HG.out]; exact OwnT.nil _ _, HB2.out⟩
      · have h' : ¬ (k : Int) < (L.length : Int) := by omega
        have HG := Lib.hid (show R = (M, 0) by rw [HF.out, List.drop_eq_nil_of_le (by omega)]; rfl)
        go_wp2
        go_ret2
        exact ⟨_, by rw [HG.out]; rfl, by rw [HG.out]; exact HO.out, HB.out⟩
end Go.Proofs.YtjoinifjkpaapaaDoor
