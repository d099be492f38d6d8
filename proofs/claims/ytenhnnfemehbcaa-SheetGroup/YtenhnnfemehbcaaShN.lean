/- Fold, Base of package sheet. Written by wip/mk_shn.py. -/
import Derived.Test.YtenhnnfemehbcaaShM
namespace Go.Proofs.Ytenhnnfemehbcaa
open Go.RowKit Go.Sort
set_option linter.unusedVariables false
set_option linter.unusedSimpArgs false

def mskK (mask : Int) (a : Ky) : Ky := (mb mask 0 a.1, mb mask 1 a.2.1, mb mask 2 a.2.2.1, mb mask 3 a.2.2.2.1, mb mask 4 a.2.2.2.2)
def mskC (mask : Int) (c : Cl) : Cl := (mskK mask c.1, c.2)
/-- cells of the call's own that may be written, from the first cell of a block on. -/
def RowW (w : World) (base : Nat) (ao : Option Addr) (M : List Cl) : Prop :=
  0 < M.length → ∃ g, ao = some ⟨g, 0, none⟩ ∧ base ≤ g ∧ g < w.heap.size ∧ ∀ i, (h : i < M.length) → ∀ j v, (clC M[i])[j]? = some v → w.cell? ⟨g, i * 7 + j, none⟩ = some v ∧ w.frozen? ⟨g, i * 7 + j, none⟩ = false
theorem RowW.below {w w' : World} {base : Nat} {ao : Option Addr} {M : List Cl} (h : RowW w base ao M) (hb : Below w.heap.size w w') : RowW w' base ao M := by
  intro h0
  obtain ⟨g, e, h1, h2, hc⟩ := h h0
  exact ⟨g, e, h1, Nat.lt_of_lt_of_le h2 hb.size, fun i hi j v hv => ⟨by rw [hb.cell h2]; exact (hc i hi j v hv).1, by rw [hb.frozen h2]; exact (hc i hi j v hv).2⟩⟩
theorem RowW.rowS {w : World} {base : Nat} {ao : Option Addr} {M : List Cl} (h : RowW w base ao M) : RowS w ao M := by
  intro h0
  obtain ⟨g, e, h1, h2, hc⟩ := h h0
  exact ⟨g, 0, e, h2, fun i hi j v hv => by rw [Nat.zero_add]; exact (hc i hi j v hv).1⟩
theorem OwnS.rowW {w : World} {base : Nat} {ao : Option Addr} {n cap : Nat} {L : List Cl} (h : OwnS w base (.slice ao n cap) L) : RowW w base ao L := by
  intro h0
  obtain ⟨ao', cap', e, _, _, _, q⟩ := h.shape
  injection e with e1 e2 e3
  subst e1
  subst e2
  rcases q with ⟨_, q⟩ | ⟨g, rfl, hb, hl⟩
  · subst q; simp at h0
  · have hH := (own_holds (β := Cl) clC_len (by decide) (show w.ownsRow base 37 7 (.slice (some ⟨g, 0, none⟩) L.length cap) L.length (L.flatMap clC) from h) rfl).1
    refine ⟨g, rfl, hb, hl, fun i hi j v hv => ?_⟩
    have e : L.toArray[i]! = L[i] := by rw [getElem!_pos L.toArray i (by simpa using hi)]; simp
    have hj : j < 7 := by rw [← clC_len L[i]]; exact (List.getElem?_eq_some_iff.1 hv).1
    have q := HoldsK.cell (i := i) (c := j) hH (by simpa using hi) hj
    rw [e] at q
    have hv2 : (clC L[i])[j]! = v := by rw [getElem!_pos _ _ (by rw [clC_len]; exact hj)]; exact (List.getElem?_eq_some_iff.1 hv).2
    rw [hv2] at q
    simpa using q
theorem ne_off {g a b : Nat} (h : a ≠ b) : (⟨g, a, none⟩ : Addr) ≠ ⟨g, b, none⟩ := by intro e; injection e with _ y; exact h y
theorem fill_far (w : World) (g o p : Nat) (v0 v1 v2 v3 v4 : Value) (h : p < o ∨ o + 5 ≤ p) : (((((w.setCell ⟨g, o, none⟩ v0).setCell ⟨g, o + 1, none⟩ v1).setCell ⟨g, o + 2, none⟩ v2).setCell ⟨g, o + 3, none⟩ v3).setCell ⟨g, o + 4, none⟩ v4).cell? ⟨g, p, none⟩ = w.cell? ⟨g, p, none⟩ := by
  rw [World.cell?_setCell_other _ _ _ _ (ne_off (by omega)), World.cell?_setCell_other _ _ _ _ (ne_off (by omega)), World.cell?_setCell_other _ _ _ _ (ne_off (by omega)), World.cell?_setCell_other _ _ _ _ (ne_off (by omega)), World.cell?_setCell_other _ _ _ _ (ne_off (by omega))]
theorem fill_frozen (w : World) (g o : Nat) (x : Addr) (v0 v1 v2 v3 v4 : Value) : (((((w.setCell ⟨g, o, none⟩ v0).setCell ⟨g, o + 1, none⟩ v1).setCell ⟨g, o + 2, none⟩ v2).setCell ⟨g, o + 3, none⟩ v3).setCell ⟨g, o + 4, none⟩ v4).frozen? x = w.frozen? x := by
  rw [World.frozen?_setCell, World.frozen?_setCell, World.frozen?_setCell, World.frozen?_setCell, World.frozen?_setCell]
theorem old_other {w : World} {g a b : Nat} {v u : Value} (h : a ≠ b) (hu : w.cell? ⟨g, b, none⟩ = some u) : (w.setCell ⟨g, a, none⟩ v).cell? ⟨g, b, none⟩ = some u := by
  rw [World.cell?_setCell_other _ _ _ _ (ne_off h)]; exact hu
theorem new_same {w : World} {g a : Nat} {v u : Value} (hu : w.cell? ⟨g, a, none⟩ = some u) : (w.setCell ⟨g, a, none⟩ v).cell? ⟨g, a, none⟩ = some v := World.cell?_setCell_same _ _ _ hu
theorem RowW.set {w : World} {base g : Nat} {M : List Cl} (h : RowW w base (some ⟨g, 0, none⟩) M) {k : Nat} (hk : k < M.length) (d1 d2 d3 d4 d5 : ByteArray) :
    RowW (((((w.setCell ⟨g, k * 7, none⟩ (.string d1)).setCell ⟨g, k * 7 + 1, none⟩ (.string d2)).setCell ⟨g, k * 7 + 2, none⟩ (.string d3)).setCell ⟨g, k * 7 + 3, none⟩ (.string d4)).setCell ⟨g, k * 7 + 4, none⟩ (.string d5)) base (some ⟨g, 0, none⟩) (M.set k ((d1, d2, d3, d4, d5), M[k].2)) := by
  intro h0
  obtain ⟨g', e, h1, h2, hc⟩ := h (by omega)
  cases e
  refine ⟨g, rfl, h1, by simpa using h2, fun i hi j v hv => ⟨?_, ?_⟩⟩
  · have hi' : i < M.length := by simpa using hi
    by_cases e : i = k
    · subst e
      rw [List.getElem_set_self] at hv
      have a0 := (hc i hi' 0 _ rfl).1
      have a1 := (hc i hi' 1 _ rfl).1
      have a2 := (hc i hi' 2 _ rfl).1
      have a3 := (hc i hi' 3 _ rfl).1
      have a4 := (hc i hi' 4 _ rfl).1
      match j, hv with
      | 0, hv => cases hv; exact old_other (by omega) (old_other (by omega) (old_other (by omega) (old_other (by omega) (new_same a0))))
      | 1, hv => cases hv; exact old_other (by omega) (old_other (by omega) (old_other (by omega) (new_same (old_other (by omega) a1))))
      | 2, hv => cases hv; exact old_other (by omega) (old_other (by omega) (new_same (old_other (by omega) (old_other (by omega) a2))))
      | 3, hv => cases hv; exact old_other (by omega) (new_same (old_other (by omega) (old_other (by omega) (old_other (by omega) a3))))
      | 4, hv => cases hv; exact new_same (old_other (by omega) (old_other (by omega) (old_other (by omega) (old_other (by omega) a4))))
      | 5, hv => cases hv; rw [fill_far _ _ _ _ _ _ _ _ _ (by omega)]; exact (hc i hi' 5 _ rfl).1
      | 6, hv => cases hv; rw [fill_far _ _ _ _ _ _ _ _ _ (by omega)]; exact (hc i hi' 6 _ rfl).1
      | n + 7, hv => simp [clC] at hv
    · rw [List.getElem_set_ne (by omega)] at hv
      have hj : j < 7 := by rw [← clC_len M[i]]; exact (List.getElem?_eq_some_iff.1 hv).1
      rw [fill_far _ _ _ _ _ _ _ _ _ (by omega)]
      exact (hc i hi' j v hv).1
  · rw [fill_frozen]
    have hi' : i < M.length := by simpa using hi
    have hj : j < 7 := by rw [← clC_len _]; exact (List.getElem?_eq_some_iff.1 hv).1
    exact (hc i hi' j _ (List.getElem?_eq_getElem (by rw [clC_len]; exact hj))).2
/-- the cells while they are masked: the first k are. -/
def mixC (mask : Int) (L : List Cl) (k : Nat) : List Cl := (L.take k).map (mskC mask) ++ L.drop k
theorem mix_len (mask : Int) (L : List Cl) (k : Nat) : (mixC mask L k).length = L.length := by
  unfold mixC
  rw [List.length_append, List.length_map, List.length_take, List.length_drop]
  omega
theorem mix_at {mask : Int} {L : List Cl} {k : Nat} (hk : k < L.length) : (mixC mask L k)[k]'(by rw [mix_len]; exact hk) = L[k] := by
  unfold mixC
  have e : ((L.take k).map (mskC mask)).length = k := by rw [List.length_map, List.length_take]; omega
  rw [List.getElem_append_right (by omega), List.getElem_drop]
  congr 1
  omega
theorem mix_step {mask : Int} {L : List Cl} {k : Nat} (hk : k < L.length) : (mixC mask L k).set k (mskC mask L[k]) = mixC mask L (k + 1) := by
  unfold mixC
  have e : ((L.take k).map (mskC mask)).length = k := by rw [List.length_map, List.length_take]; omega
  rw [List.set_append_right _ _ (by omega), e, Nat.sub_self, List.drop_eq_getElem_cons hk, List.set_cons_zero, List.take_succ_eq_append_getElem hk, List.map_append, List.append_assoc]
  rfl
theorem mix_all (mask : Int) (L : List Cl) : mixC mask L L.length = L.map (mskC mask) := by
  unfold mixC
  rw [List.take_length, List.drop_length, List.append_nil]
/-- what Fold returns. -/
def foB (L : List Cl) (mask : Int) : Bool := rightB L && (decide (0 ≤ mask) && decide (mask ≤ 31))
def foE (L : List Cl) (mask : Int) : Int := if foB L mask = true then ofE (L.map (mskC mask)) else 2
def foL (L : List Cl) (mask : Int) : List Cl := if foB L mask = true then ofL (L.map (mskC mask)) else []
theorem base_any (A : Option Addr) (c : Nat) (L : List Cl) (w : World) (hR : RowS w A L) (hBd : BdS L) (hl : L.length ≤ 2000) :
    Calls Try.prog 35 #[.slice A L.length c] w fun e w' => e = .returned (.tuple #[.int .i64 (suV (baS L)), .int .i64 (suE (baS L))]) ∧ Below w.heap.size w w' := by
  have H := Lib.hid (sum_baseOf A c L w hR hBd hl)
  clear hR hBd
  obtain ⟨a, ha⟩ : ∃ a, suV (baS L) = a := ⟨_, rfl⟩
  obtain ⟨b, hb⟩ : ∃ b, suE (baS L) = b := ⟨_, rfl⟩
  rw [ha, hb] at H
  rw [ha, hb]
  clear ha hb
  go_enter Try.func35, Try.ntmps35
  go_wp2_with fail
  refine H.out.mono ?_
  rintro e w1 ⟨rfl, hb⟩
  have HB := Lib.hid hb
  clear hb
  go_wp2
  go_ret2
  exact ⟨rfl, HB.out⟩
set_option maxRecDepth 100000 in
set_option maxHeartbeats 1000000 in
theorem fold_any (A : Option Addr) (c : Nat) (L : List Cl) (mask : Int) (w : World) (hR : RowS w A L) (hBd : BdS L) (hl : L.length ≤ 2000) (hm : r64 mask) :
    Calls Try.prog 33 #[.slice A L.length c, .int .i64 mask] w fun e w' => ∃ v, e = .returned (.tuple #[v, .int .i64 (foE L mask)]) ∧ OwnS w' w.heap.size v (foL L mask) ∧ Below w.heap.size w w' := by
  obtain ⟨r1, r2⟩ := hm
  have HR := Lib.hid hR
  have HBd := Lib.hid hBd
  have HRi := Lib.hid (right_any A c L w hR hBd hl)
  have HN := Lib.hid (fun W => OwnS.nil W w.heap.size)
  have HC := Lib.hid (fun W (h : RowS W A L) => clone_any A c L W h hl)
  have HMk := Lib.hid (fun a1 a2 a3 a4 a5 W m0 m1 => masked5_any a1 a2 a3 a4 a5 mask W m0 m1)
  clear hR hBd
  cases hr : rightB L
  · have HV := Lib.hid (show foE L mask = 2 ∧ foL L mask = [] from by unfold foE foL foB; rw [hr]; exact ⟨rfl, rfl⟩)
    rw [hr] at HRi
    rw [HV.out.1, HV.out.2]
    clear hr HV
    go_enter Try.func33, Try.ntmps33
    go_wp2_with fail
    refine HRi.out.mono ?_
    rintro e w1 ⟨rfl, hb⟩
    have HB := Lib.hid hb
    clear hb
    go_wp2
    go_ret2
    exact ⟨_, rfl, HN.out _, HB.out⟩
  rw [hr] at HRi
  by_cases g1 : mask < 0
  · have HV := Lib.hid (show foE L mask = 2 ∧ foL L mask = [] from by unfold foE foL foB; rw [decide_eq_false (show ¬ 0 ≤ mask by omega)]; simp)
    rw [HV.out.1, HV.out.2]
    clear hr HV
    have d1 : decide (mask < 0) = true := decide_eq_true g1
    go_enter Try.func33, Try.ntmps33
    go_wp2_with fail
    refine HRi.out.mono ?_
    rintro e w1 ⟨rfl, hb⟩
    have HB := Lib.hid hb
    clear hb
    go_wp2
    go_ret2
    exact ⟨_, rfl, HN.out _, HB.out⟩
  have d1 : decide (mask < 0) = false := decide_eq_false g1
  by_cases g2 : 31 < mask
  · have HV := Lib.hid (show foE L mask = 2 ∧ foL L mask = [] from by unfold foE foL foB; rw [decide_eq_false (show ¬ mask ≤ 31 by omega)]; simp)
    rw [HV.out.1, HV.out.2]
    clear hr HV
    have d2 : decide (31 < mask) = true := decide_eq_true g2
    go_enter Try.func33, Try.ntmps33
    go_wp2_with fail
    refine HRi.out.mono ?_
    rintro e w1 ⟨rfl, hb⟩
    have HB := Lib.hid hb
    clear hb
    go_wp2
    go_ret2
    exact ⟨_, rfl, HN.out _, HB.out⟩
  have d2 : decide (31 < mask) = false := decide_eq_false g2
  have m0 : 0 ≤ mask := by omega
  have m1 : mask ≤ 31 := by omega
  have HV := Lib.hid (show foE L mask = ofE (L.map (mskC mask)) ∧ foL L mask = ofL (L.map (mskC mask)) from by unfold foE foL foB; rw [hr, decide_eq_true m0, decide_eq_true m1]; exact ⟨rfl, rfl⟩)
  rw [HV.out.1, HV.out.2]
  clear hr HV
  have HBM := Lib.hid (show BdS (L.map (mskC mask)) from fun x hx => by
    obtain ⟨y, hy, rfl⟩ := List.mem_map.1 hx
    exact HBd.out y hy)
  have HOf := Lib.hid (fun ao cap W h => of_any ao cap (L.map (mskC mask)) W h HBM.out (by simpa using hl))
  rw [List.length_map] at HOf
  obtain ⟨oE, hoE⟩ : ∃ x, ofE (L.map (mskC mask)) = x := ⟨_, rfl⟩
  obtain ⟨oL, hoL⟩ : ∃ x, ofL (L.map (mskC mask)) = x := ⟨_, rfl⟩
  rw [hoE, hoL] at HOf
  rw [hoE, hoL]
  clear hoE hoL HN
  go_enter Try.func33, Try.ntmps33
  go_wp2_with fail
  refine HRi.out.mono ?_
  rintro e w1 ⟨rfl, hb⟩
  have HB1 := Lib.hid hb
  have HC1 := Lib.hid (HC.out w1 (HR.out.below hb))
  clear hb HRi HC HR
  go_wp2_with fail
  refine HC1.out.mono ?_
  rintro e w2 ⟨v, rfl, ho, hb⟩
  obtain ⟨ao, cap, rfl, _, _, _, _⟩ := ho.shape
  have HB2 := Lib.hid (HB1.out.trans (hb.mono HB1.out.size))
  have HW2 := Lib.hid (show RowW w2 w1.heap.size ao (mixC mask L 0) from ho.rowW)
  have hs1 := HB1.out.size
  clear ho hb HB1 HC1 d1 d2
  go_wp2
  go_loopw [23] (fun x wr => ∃ k : Nat, k ≤ L.length ∧ x = .int .i64 k ∧ Hid (RowW wr w1.heap.size ao (mixC mask L k)) ∧ Hid (Below w.heap.size w wr)) (fun x _ => L.length - (intOf x).toNat)
  case atStart => exact ⟨0, Nat.zero_le _, rfl, HW2, HB2⟩
  case round =>
    clear HW2 HB2
    obtain ⟨k, hk, rfl, HW, HB⟩ := hrel
    by_cases h : k < L.length
    · have h' : (k : Int) < (L.length : Int) := by omega
      have h'' : (0 : Int) ≤ (k : Int) := by omega
      have hkm : k < (mixC mask L k).length := by rw [mix_len]; exact h
      obtain ⟨g, rfl, hg1, hg2, hc⟩ := HW.out (by omega)
      have hc0 := (hc k hkm 0 _ rfl).1
      have hc1 := (hc k hkm 1 _ rfl).1
      have hc2 := (hc k hkm 2 _ rfl).1
      have hc3 := (hc k hkm 3 _ rfl).1
      have hc4 := (hc k hkm 4 _ rfl).1
      rw [mix_at h] at hc0 hc1 hc2 hc3 hc4
      have HSet := Lib.hid (fun W (hb : Below wr.heap.size wr W) d1 d2 d3 d4 d5 => (HW.out.below hb).set hkm d1 d2 d3 d4 d5)
      rw [mix_at h] at HSet
      have HStp := Lib.hid (mix_step (mask := mask) h)
      have HCe := Lib.hid (fun W (hb : Below wr.heap.size wr W) j v (hv : (clC L[k])[j]? = some v) => show W.cell? ⟨g, k * 7 + j, none⟩ = some v ∧ W.frozen? ⟨g, k * 7 + j, none⟩ = false from by
        have q := hc k hkm j v (by rw [mix_at h]; exact hv)
        exact ⟨by rw [hb.cell hg2]; exact q.1, by rw [hb.frozen hg2]; exact q.2⟩)
      obtain ⟨x, hx⟩ : ∃ x, L[k] = x := ⟨_, rfl⟩
      rw [hx] at hc0 hc1 hc2 hc3 hc4 HSet HStp HCe
      clear hc hx
      obtain ⟨⟨a1, a2, a3, a4, a5⟩, m, n⟩ := x
      dsimp only at hc0 hc1 hc2 hc3 hc4
      rw [Nat.add_zero] at hc0
      have HM1 := Lib.hid (HMk.out a1 a2 a3 a4 a5 wr m0 m1)
      have HStp2 := Lib.hid (show (mixC mask L k).set k ((mb mask 0 a1, mb mask 1 a2, mb mask 2 a3, mb mask 3 a4, mb mask 4 a5), (m, n)) = mixC mask L (k + 1) from HStp.out)
      clear HStp
      generalize mb mask 0 a1 = d1 at *
      generalize mb mask 1 a2 = d2 at *
      generalize mb mask 2 a3 = d3 at *
      generalize mb mask 3 a4 = d4 at *
      generalize mb mask 4 a5 = d5 at *
      go_wp2_with fail
      refine HM1.out.mono ?_
      rintro e w3 ⟨rfl, hb⟩
      clear hc0 hc1 hc2 hc3 hc4
      have e0 := (HCe.out w3 hb 0 _ rfl).1
      rw [Nat.add_zero] at e0
      have e1 := (HCe.out w3 hb 1 _ rfl).1
      have e2 := (HCe.out w3 hb 2 _ rfl).1
      have e3 := (HCe.out w3 hb 3 _ rfl).1
      have e4 := (HCe.out w3 hb 4 _ rfl).1
      have f0 := (HCe.out w3 hb 0 _ rfl).2
      rw [Nat.add_zero] at f0
      have f1 := (HCe.out w3 hb 1 _ rfl).2
      have f2 := (HCe.out w3 hb 2 _ rfl).2
      have f3 := (HCe.out w3 hb 3 _ rfl).2
      have f4 := (HCe.out w3 hb 4 _ rfl).2
      have HW3 := Lib.hid (HSet.out w3 hb d1 d2 d3 d4 d5)
      rw [HStp2.out] at HW3
      have HB3 := Lib.hid (((((( HB.out.trans (hb.mono HB.out.size)).setCell (p := ⟨g, k * 7, none⟩) (by show w.heap.size ≤ g; omega) (.string d1)).setCell (p := ⟨g, k * 7 + 1, none⟩) (by show w.heap.size ≤ g; omega) (.string d2)).setCell (p := ⟨g, k * 7 + 2, none⟩) (by show w.heap.size ≤ g; omega) (.string d3)).setCell (p := ⟨g, k * 7 + 3, none⟩) (by show w.heap.size ≤ g; omega) (.string d4)).setCell (p := ⟨g, k * 7 + 4, none⟩) (by show w.heap.size ≤ g; omega) (.string d5))
      clear hb HSet HCe HStp2 HW HB
      go_wp2
      go_roundw
      case rel => exact ⟨k + 1, by omega, by go_num, HW3, HB3⟩
      case measure => simp [intOf]; omega
    · have h' : ¬ (k : Int) < (L.length : Int) := by omega
      obtain rfl : k = L.length := by omega
      have hw := HW.out.rowS
      rw [mix_all] at hw
      have HO1 := Lib.hid (HOf.out ao cap wr hw)
      clear hw HW HOf
      go_wp2_with fail
      refine HO1.out.mono ?_
      rintro e w4 ⟨v, rfl, ho, hb⟩
      have HO2 := Lib.hid (ho.lower HB.out.size)
      have HB4 := Lib.hid (HB.out.trans (hb.mono HB.out.size))
      clear ho hb
      go_wp2
      go_ret2
      exact ⟨v, rfl, HO2.out, HB4.out⟩
end Go.Proofs.Ytenhnnfemehbcaa
