/- What sort.Search returns at Find's closure; what Find of package fx returns. Written by wip/mk_fxe.py. -/
import Derived.Test.YtdeoplbdgbgimaaFxD
namespace Go.Proofs.Ytdeoplbdgbgimaa
open Go.RowKit Go.Sort
set_option linter.unusedVariables false
set_option linter.unusedSimpArgs false

def RowZ (w : World) (A : Option Addr) (L : List Rt) : Prop :=
  0 < L.length → ∃ b, A = some ⟨b, 0, none⟩ ∧ b < w.heap.size ∧ ∀ i, (h : i < L.length) → w.cell? ⟨b, i * 5 + 2, none⟩ = some (.int .i64 L[i].2.2.1) ∧ w.cell? ⟨b, i * 5 + 3, none⟩ = some (.int .i64 L[i].2.2.2.1) ∧ w.cell? ⟨b, i * 5 + 4, none⟩ = some (.int .i64 L[i].2.2.2.2)
theorem RowZ.below {w w' : World} {A : Option Addr} {L : List Rt} (h : RowZ w A L) (hb : Below w.heap.size w w') : RowZ w' A L := by
  intro h0
  obtain ⟨b, e, hl, hc⟩ := h h0
  exact ⟨b, e, Nat.lt_of_lt_of_le hl hb.size, fun i hi => ⟨by rw [hb.cell hl]; exact (hc i hi).1, by rw [hb.cell hl]; exact (hc i hi).2.1, by rw [hb.cell hl]; exact (hc i hi).2.2⟩⟩
theorem holds_rowZ {w : World} {b : Nat} {L : List Rt} (h : HoldsK rtC 5 w b 0 L.toArray) (hb : b < w.heap.size) : RowZ w (some ⟨b, 0, none⟩) L := by
  refine fun _ => ⟨b, rfl, hb, fun i hi => ?_⟩
  have e : L.toArray[i]! = L[i] := by rw [getElem!_pos L.toArray i (by simpa using hi)]; simp
  have q := fun c hc => (HoldsK.cell (i := i) (c := c) h (by simpa using hi) hc).1
  simp only [e, Nat.zero_add] at q
  exact ⟨q 2 (by decide), q 3 (by decide), q 4 (by decide)⟩
def DaySorted (S : List Rt) : Prop := S.Pairwise (fun x y => x.2.2.1 ≤ y.2.2.1)
/-- the slice at a key of the table. -/
theorem srs_look {w : World} {N M : Nat} {L : List Rt} (h : Srs w N M L) : ∃ n g, MapK EH kvS w 63 M n g ∧ ∀ s, ∃ (A : Option Addr) (S : List Rt) (cp : Nat), EH.enc ((g s).getD EH.zero) = .slice A S.length cp ∧ RowZ w A S ∧ S.Perm (slF L s) ∧ DaySorted S := by
  obtain ⟨_, n, g, h1, h2, h3⟩ := h
  refine ⟨n, g, h1, fun s => ?_⟩
  cases q : g s with
  | none => exact ⟨none, [], 0, rfl, fun h => absurd h (by simp), by rw [h2 s q], List.Pairwise.nil⟩
  | some c =>
    obtain ⟨b, cp, l', rfl, ⟨_, hb⟩, p1, p2, p3⟩ := h3 s c q
    exact ⟨some ⟨b, 0, none⟩, l', cp, rfl, holds_rowZ p3 hb, p1, p2⟩
/-- how many of the sorted rates come before one with a later day. -/
def ltr (S : List Rt) (d : Int) : Nat := S.findIdx (fun r => decide (d < r.2.2.1))
theorem ltr_le (S : List Rt) (d : Int) : ltr S d ≤ S.length := List.findIdx_le_length
theorem ltr_is {S : List Rt} {d : Int} {i : Nat} (hi : i ≤ S.length) (h1 : ∀ k, k < i → (hk : k < S.length) → S[k].2.2.1 ≤ d) (h2 : ∀ h : i < S.length, d < S[i].2.2.1) : ltr S d = i := by
  have hle : i ≤ ltr S d := by
    apply Classical.byContradiction
    intro q
    have hlt : ltr S d < S.length := by omega
    have := List.findIdx_getElem (p := fun r : Rt => decide (d < r.2.2.1)) (xs := S) (w := hlt)
    have q2 := h1 (ltr S d) (by omega) hlt
    have this : decide (d < S[ltr S d].2.2.1) = true := this
    simp at this; omega
  rcases Nat.lt_or_ge i S.length with hlt | hge
  · rcases Nat.lt_or_ge i (ltr S d) with q | q
    · have := List.not_of_lt_findIdx (p := fun r : Rt => decide (d < r.2.2.1)) (xs := S) q
      have h3 := h2 hlt
      simp at this; omega
    · omega
  · have := ltr_le S d; omega
theorem sorted_le {S : List Rt} (h : DaySorted S) {i j : Nat} (hij : i ≤ j) (hj : j < S.length) : (S[i]'(by omega)).2.2.1 ≤ S[j].2.2.1 := by
  rcases Nat.lt_or_ge i j with k | k
  · exact List.pairwise_iff_getElem.1 h i j (by omega) hj k
  · have e : i = j := by omega
    subst e; omega
theorem ltr_zero {L S : List Rt} {c : ByteArray} {k d : Int} (hp : S.Perm (slF L (c, k))) (hs : DaySorted S) (h : ltr S d = 0) : bst L c k d = none := by
  refine bst_no fun q hq => ?_
  cases hm : mt c k d q
  · rfl
  · exfalso
    obtain ⟨a1, a2, a3⟩ := mt_is hm
    have hqs : q ∈ S := hp.mem_iff.2 (by unfold slF; rw [List.mem_filter]; exact ⟨hq, by simp [ser, a1, a2]⟩)
    obtain ⟨j, hj, e⟩ := List.getElem_of_mem hqs
    have h0 : 0 < S.length := by omega
    have g0 : d < S[0].2.2.1 := by
      have := List.findIdx_getElem (p := fun r : Rt => decide (d < r.2.2.1)) (xs := S) (w := by unfold ltr at h; rw [h]; exact h0)
      unfold ltr at h
      simp only [h] at this
      simpa using this
    have := sorted_le hs (Nat.zero_le j) hj
    rw [e] at this
    omega
theorem ltr_some {L S : List Rt} {c : ByteArray} {k d : Int} (hw : L.Pairwise (fun a b => plc a ≠ plc b)) (hp : S.Perm (slF L (c, k))) (hs : DaySorted S) {i : Nat} (hi : i < S.length) (h : ltr S d = i + 1) : bst L c k d = some S[i] := by
  have hle : S[i].2.2.1 ≤ d := by
    have := List.not_of_lt_findIdx (p := fun r : Rt => decide (d < r.2.2.1)) (xs := S) (i := i) (by unfold ltr at h; omega)
    simpa using this
  have hm : S[i] ∈ slF L (c, k) := hp.mem_iff.1 (List.getElem_mem hi)
  unfold slF at hm
  rw [List.mem_filter] at hm
  have hser : (S[i].1, S[i].2.1) = (c, k) := by simpa [ser] using hm.2
  have e1 : S[i].1 = c := congrArg Prod.fst hser
  have e2 : S[i].2.1 = k := congrArg Prod.snd hser
  refine bst_is hw ⟨hm.1, mt_of e1 e2 hle, fun q hq hmq => ?_⟩
  obtain ⟨a1, a2, a3⟩ := mt_is hmq
  have hqs : q ∈ S := hp.mem_iff.2 (by unfold slF; rw [List.mem_filter]; exact ⟨hq, by simp [ser, a1, a2]⟩)
  obtain ⟨j, hj, e⟩ := List.getElem_of_mem hqs
  have hji : j ≤ i := by
    apply Classical.byContradiction
    intro hgt
    have hlt : ltr S d < S.length := by omega
    have g0 := List.findIdx_getElem (p := fun r : Rt => decide (d < r.2.2.1)) (xs := S) (w := hlt)
    have g0 : d < S[ltr S d].2.2.1 := of_decide_eq_true g0
    have := sorted_le hs (show ltr S d ≤ j by omega) hj
    rw [e] at this
    omega
  rw [← e]
  exact sorted_le hs hji hi
/-- the boxes that Find's closure reads. -/
def Bxs (w : World) (Bl Bd : Nat) (A : Option Addr) (S : List Rt) (cp : Nat) (d : Int) : Prop := Q1 w Bl (.slice A S.length cp) ∧ Q1 w Bd (.int .i64 d) ∧ RowZ w A S
theorem Bxs.below {w w' : World} {Bl Bd : Nat} {A : Option Addr} {S : List Rt} {cp : Nat} {d : Int} (h : Bxs w Bl Bd A S cp d) (hb : Below w.heap.size w w') : Bxs w' Bl Bd A S cp d := ⟨h.1.below hb, h.2.1.below hb, h.2.2.below hb⟩
set_option maxHeartbeats 2000000 in
theorem fclos_any (i : Nat) (Bl Bd : Nat) (A : Option Addr) (S : List Rt) (cp : Nat) (d : Int) (w : World) (h : Bxs w Bl Bd A S cp d) (hi : i < S.length) (hn : S.length ≤ 2000) :
    Calls Try.prog 30 #[.int .i64 i, .pointer (some ⟨Bl, 0, none⟩), .pointer (some ⟨Bd, 0, none⟩)] w fun e w' => e = .returned (.bool (decide (d < S[i].2.2.1))) ∧ Below w.heap.size w w' := by
  obtain ⟨h1, h2, h3⟩ := h
  obtain ⟨b, rfl, hb, hc⟩ := h3 (by omega)
  obtain ⟨c2, _⟩ := hc i hi
  have x0 := h1.c0
  have y0 := h2.c0
  have hi' : (i : Int) < (S.length : Int) := by omega
  have HB := Lib.hid (Below.refl w.heap.size w)
  generalize S[i].2.2.1 = v at *
  clear h1 h2 h3 hc
  by_cases g : d < v
  · have HE := Lib.hid (decide_eq_true g)
    go_enter Try.func30, Try.ntmps30
    go_wp2_with fail
    go_quiet (fail)
    have HB2 := Lib.hid (below_drewN HB.out nq)
    go_wp2
    go_ret
    exact ⟨ret_bool (by first | rfl | rw [HE.out]), HB2.out⟩
  · have HE := Lib.hid (decide_eq_false g)
    go_enter Try.func30, Try.ntmps30
    go_wp2_with fail
    go_quiet (fail)
    have HB2 := Lib.hid (below_drewN HB.out nq)
    go_wp2
    go_ret
    exact ⟨ret_bool (by first | rfl | rw [HE.out]), HB2.out⟩
set_option maxHeartbeats 3000000 in
theorem search_any (Bl Bd : Nat) (A : Option Addr) (S : List Rt) (cp : Nat) (d : Int) (w : World) (hX : Bxs w Bl Bd A S cp d) (hn : S.length ≤ 2000) (hs : DaySorted S) :
    Calls Try.prog 29 #[.int .i64 (S.length : Int), .func (.func 30) #[] #[.pointer (some ⟨Bl, 0, none⟩), .pointer (some ⟨Bd, 0, none⟩)]] w fun e w' => e = .returned (.int .i64 (ltr S d : Int)) ∧ Below w.heap.size w w' := by
  have HX := Lib.hid hX
  have HC := Lib.hid (fun i (hi : i < S.length) W (hx : Bxs W Bl Bd A S cp d) => fclos_any i Bl Bd A S cp d W hx hi hn)
  have HMo := Lib.hid (fun i j (hij : i ≤ j) (hj : j < S.length) => sorted_le hs hij hj)
  clear hX hs
  go_enter Try.func29, Try.ntmps29
  go_wp2
  go_loopw [5, 6] (fun x y wr => ∃ i j : Nat, i ≤ j ∧ j ≤ S.length ∧ x = .int .i64 i ∧ y = .int .i64 j ∧ Hid (∀ k, k < i → (hk : k < S.length) → S[k].2.2.1 ≤ d) ∧ Hid (∀ k, j ≤ k → (hk : k < S.length) → d < S[k].2.2.1) ∧ Hid (Below w.heap.size w wr)) (fun x y _ => (intOf y).toNat - (intOf x).toNat)
  case atStart => exact ⟨0, S.length, by omega, by omega, rfl, rfl, Lib.hid (fun k hk => by omega), Lib.hid (fun k hk hl => by omega), Lib.hid (Below.refl _ _)⟩
  case round =>
    obtain ⟨i, j, hij, hj, rfl, rfl, HI, HJ, HB⟩ := hrel
    by_cases h : i < j
    · have h' : (i : Int) < (j : Int) := by omega
      obtain ⟨z, hz, z1, z2⟩ : ∃ z : Nat, ((i : Int) + (j : Int)) / 2 = (z : Int) ∧ i ≤ z ∧ z < j := ⟨(i + j) / 2, by omega, by omega, by omega⟩
      have hzL : z < S.length := by omega
      have H1 := Lib.hid (HC.out z hzL wr (HX.out.below HB.out))
      have HY := Lib.hid (fun (q : ¬ d < S[z].2.2.1) => fun k (hk : k < z + 1) (hkl : k < S.length) => show S[k].2.2.1 ≤ d from by
        have := HMo.out k z (by omega) hzL; omega)
      have HN := Lib.hid (fun (q : d < S[z].2.2.1) => fun k (hk : z ≤ k) (hkl : k < S.length) => show d < S[k].2.2.1 from by
        have := HMo.out z k hk hkl; omega)
      clear HMo
      generalize S[z].2.2.1 = v at *
      by_cases q : d < v
      · have HN2 := Lib.hid (HN.out q)
        rw [decide_eq_true q] at H1
        clear HY HN q
        go_wp2_with fail
        refine H1.out.mono ?_
        rintro e w2 ⟨rfl, hb⟩
        have HB2 := Lib.hid (HB.out.trans (hb.mono HB.out.size))
        clear hb
        go_wp2
        go_roundw
        case rel => exact ⟨i, z, z1, by omega, rfl, rfl, HI, HN2, HB2⟩
        case measure => simp [intOf]; omega
      · have HY2 := Lib.hid (HY.out q)
        rw [decide_eq_false q] at H1
        clear HY HN q
        go_wp2_with fail
        refine H1.out.mono ?_
        rintro e w2 ⟨rfl, hb⟩
        have HB2 := Lib.hid (HB.out.trans (hb.mono HB.out.size))
        clear hb
        go_wp2
        go_roundw
        case rel => exact ⟨z + 1, j, by omega, hj, by go_num, rfl, HY2, HJ, HB2⟩
        case measure => simp [intOf]; omega
    · have h' : ¬ (i : Int) < (j : Int) := by omega
      have HL := Lib.hid (ltr_is (by omega) HI.out (fun q => HJ.out i (by omega) q))
      clear HMo HI HJ
      go_wp2
      go_ret
      exact ⟨ret_int (by rw [HL.out]), HB.out⟩
end Go.Proofs.Ytdeoplbdgbgimaa
