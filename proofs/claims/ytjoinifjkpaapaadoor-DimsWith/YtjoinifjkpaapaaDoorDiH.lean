/- What put of package accountingref09 returns. -/
import Derived.Test.YtjoinifjkpaapaaDoorDiG
namespace Go.Proofs.YtjoinifjkpaapaaDoor
open Go.RowKit Go.Sort
set_option linter.unusedVariables false
set_option linter.unusedSimpArgs false

theorem row_one (w : World) (S T : ByteArray) (ty : TypeId) (hS : S.size ≤ 400) (hT : T.size ≤ 400) : RowT (w.alloc (Obj.cells #[.string S, .string T] ty)) (some ⟨w.heap.size, 0, none⟩) [(S, T)] := by
  have hp := Pr2.alloc w (.string S) (.string T) ty
  refine ⟨fun _ => ⟨_, 0, rfl, hp.lt, fun i hi => ?_⟩, fun t ht => ?_⟩
  · have : i = 0 := by simpa using hi
    subst this
    exact ⟨hp.c0, hp.c1⟩
  · simp at ht; subst ht; exact ⟨hS, hT⟩
/-- how many tags at the head of L have a smaller name. -/
def lowI (L : List Tg) (n : ByteArray) : Nat := L.findIdx (fun x => !(ltS x.1 n))
theorem lowI_more {L : List Tg} {n : ByteArray} {j : Nat} (h : j < L.length) (hj : j ≤ lowI L n) (hc : ltS L[j].1 n = true) : j + 1 ≤ lowI L n := by
  rcases Nat.lt_or_ge j (lowI L n) with q | q
  · exact q
  · have e : lowI L n = j := by omega
    have hlt : L.findIdx (fun x => !(ltS x.1 n)) < L.length := by show lowI L n < L.length; omega
    have := List.findIdx_getElem (w := hlt)
    have e' : L.findIdx (fun x => !(ltS x.1 n)) = j := e
    simp only [e'] at this
    rw [hc] at this; cases this
theorem lowI_at {L : List Tg} {n : ByteArray} {j : Nat} (h : j < L.length) (hj : j ≤ lowI L n) (hc : ltS L[j].1 n = false) : lowI L n = j := by
  rcases Nat.lt_or_ge j (lowI L n) with q | q
  · have := List.not_of_lt_findIdx (p := fun x => !(ltS x.1 n)) (xs := L) q
    simp [hc] at this
  · omega
theorem lowI_le (L : List Tg) (n : ByteArray) : lowI L n ≤ L.length := List.findIdx_le_length
/-- where what stays of L begins. -/
def upI (L : List Tg) (n : ByteArray) : Nat := if lowI L n < L.length ∧ (L.getD (lowI L n) nT).1.toList = n.toList then lowI L n + 1 else lowI L n
def putT (L : List Tg) (t : Tg) : List Tg := L.take (lowI L t.1) ++ [t] ++ L.drop (upI L t.1)
theorem RowT.drop {w : World} {b off : Nat} {L : List Tg} (h : RowT w (some ⟨b, off, none⟩) L) (k : Nat) : RowT w (some ⟨b, off + k * 2, none⟩) (L.drop k) := by
  refine ⟨fun h0 => ?_, fun t ht => h.2 t (List.mem_of_mem_drop ht)⟩
  rw [List.length_drop] at h0
  obtain ⟨b', off', e, hl, hc⟩ := h.1 (by omega)
  injection e with e; injection e with e1 e2 _
  subst e1; subst e2
  refine ⟨b, _, rfl, hl, fun i hi => ?_⟩
  rw [List.length_drop] at hi
  have := hc (k + i) (by omega)
  rw [List.getElem_drop, show off + k * 2 + i * 2 = off + (k + i) * 2 by omega]
  exact this
theorem row_none (w : World) (A : Option Addr) {L : List Tg} (h : L = []) : RowT w A L := by
  subst h
  exact ⟨fun h => absurd h (by simp), fun t ht => by simp at ht⟩
theorem put_is {L : List Tg} {nm va : ByteArray} {k i : Nat} (h1 : lowI L nm = k) (h2 : upI L nm = i) : putT L (nm, va) = L.take k ++ [(nm, va)] ++ L.drop i := by
  unfold putT; rw [h1, h2]
set_option maxRecDepth 100000 in
set_option maxHeartbeats 3000000 in
theorem rPut_any (A : Option Addr) (c : Nat) (L : List Tg) (t : Tg) (w : World) (hR : RowT w A L) (hn : L.length ≤ 100) (hcap : L.length ≤ c) (hnil : A = none → c = 0) (h1 : t.1.size ≤ 400) (h2 : t.2.size ≤ 400) :
    Calls Tryd.prog 28 #[.slice A L.length c, .agg #[.string t.1, .string t.2]] w fun e w' => ∃ v, e = .returned v ∧ OwnT w' w.heap.size v (putT L t) ∧ Below w.heap.size w w' := by
  obtain ⟨nm, va⟩ := t
  have HB0 := Lib.hid ((Below.refl w.heap.size w).alloc (Nat.le_refl _) (Obj.cells #[.string nm, .string va] 32))
  have HR := Lib.hid (hR.below HB0.out)
  have HP := Lib.hid (Pr2.alloc w (.string nm) (.string va) 32)
  have HZ := Lib.hid (show (w.alloc (Obj.cells #[.string nm, .string va] 32)).heap.size = w.heap.size + 1 by simp)
  have HN0 := Lib.hid hnil
  clear hR hnil
  go_enter Tryd.func28, Tryd.ntmps28
  go_wp2_with fail
  generalize w.alloc (Obj.cells #[.string nm, .string va] 32) = w1 at *
  go_loopw [5, 6] (fun x y wr => ∃ (k : Nat) (v : Value), k ≤ L.length ∧ y = .int .i64 k ∧ x = v ∧ Hid (k ≤ lowI L nm) ∧ Hid (OwnT wr w1.heap.size v (L.take k)) ∧ Hid (Below w1.heap.size w1 wr)) (fun _ y _ => L.length - (intOf y).toNat)
  case atStart => exact ⟨0, _, Nat.zero_le _, rfl, rfl, Lib.hid (Nat.zero_le _), Lib.hid (OwnT.nil _ _), Lib.hid (Below.refl _ _)⟩
  case round =>
    obtain ⟨k, v, hk, rfl, rfl, HK, HO, HB⟩ := hrel
    by_cases h : k < L.length
    · have h' : (k : Int) < (L.length : Int) := by omega
      obtain ⟨b, off, rfl, hl, hc⟩ := (HR.out.below HB.out).1 (by omega)
      obtain ⟨c0, c1⟩ := hc k h
      obtain ⟨s0, s1⟩ := HR.out.bd h
      have hp := HP.out.below HB.out
      have l0 := hp.c0
      have l1 := hp.c1
      clear hp hc
      have HT := Lib.hid (show L.take (k + 1) = L.take k ++ [(L[k].1, L[k].2)] by rw [List.take_succ_eq_append_getElem h])
      have HMo := Lib.hid (fun q => lowI_more h HK.out q)
      have HAt := Lib.hid (fun q => lowI_at h HK.out q)
      obtain ⟨S, hS⟩ : ∃ S, L[k].1 = S := ⟨_, rfl⟩
      obtain ⟨T, hT⟩ : ∃ T, L[k].2 = T := ⟨_, rfl⟩
      rw [hS] at c0 HT s0 HMo HAt
      rw [hT] at c1 HT s1
      cases q : Op.bytesLess S.toList nm.toList
      · have HI := Lib.hid (HAt.out q)
        clear HMo HAt
        go_wp2_with fail
        go_quiet (fail)
        have HD := Lib.hid (below_drewN (Below.refl wr.heap.size wr) nq)
        have HB2 := Lib.hid (below_drewN HB.out nq)
        have HO2 := Lib.hid (HO.out.below HD.out)
        have hp := HP.out.below HB2.out
        have e0 := hp.c0
        have e1 := hp.c1
        clear c0 c1 l0 l1 HD hp
        generalize wr.drewN nq = w3 at *
        have HW := Lib.hid (row_one w3 nm va 32 h1 h2)
        go_wp2_with (at_builtin; refine wpList_tags rfl (.tmp 30) (.tmp 32) rfl w1.heap.size _ (L.take k) [(nm, va)] rfl (HO2.out.below ((Below.refl _ _).alloc (Nat.le_refl _) _)) (some ⟨w3.heap.size, 0, none⟩) 1 rfl (fun e => by cases e) HW.out (by simp; omega) (by have := HB2.out.size; simp; omega) ?_; intro v' w4 hown hbel; have HO3 := Lib.hid hown; have HB3 := Lib.hid (HB2.out.trans (((Below.refl _ _).alloc HB2.out.size _).trans hbel)); clear hown hbel e0 e1 HW HO2 HB2)
        obtain ⟨b', off', eb, hl4, hc⟩ := (HR.out.below HB3.out).1 (by omega)
        injection eb with eb; injection eb with eb1 eb2 _
        subst eb1; subst eb2
        obtain ⟨c0, c1⟩ := hc k h
        have hp := HP.out.below HB3.out
        have l0 := hp.c0
        rw [hS] at c0
        clear hp hc c1
        cases qe : (S.toList == nm.toList)
        · have HU := Lib.hid (show upI L nm = k by unfold upI; rw [HI.out, getD_at h, hS, if_neg (fun x => by rw [beq_eq_false_iff_ne] at qe; exact qe x.2)])
          have hne : ¬ c = k := by omega
          go_quiet (fail)
          have HD := Lib.hid (below_drewN (Below.refl w4.heap.size w4) nq)
          have HB5 := Lib.hid (below_drewN HB3.out nq)
          have HO5 := Lib.hid (HO3.out.below HD.out)
          clear c0 l0 HD HO3
          generalize w4.drewN nq = w5 at *
          have HM := Lib.hid ((HR.out.below HB5.out).drop k)
          have HF := Lib.hid (put_is (L := L) (nm := nm) (va := va) HI.out HU.out)
          go_wp2_with (at_builtin; refine wpList_tags rfl (.tmp 50) (.tmp 53) rfl w1.heap.size _ (L.take k ++ [(nm, va)]) (L.drop (k)) rfl HO5.out (some ⟨b, off + k * 2, none⟩) _ (by rw [List.length_drop]; rfl) (fun e => by cases e) HM.out (by simp; omega) HB5.out.size ?_; intro v' w6 hown hbel; rw [← HF.out] at hown; have HO6 := Lib.hid hown; have HB6 := Lib.hid (HB5.out.trans hbel); clear hown hbel)
          go_ret
          exact ⟨_, rfl, HO6.out.lower (by have := HZ.out; omega), HB0.out.trans (HB6.out.mono (by have := HZ.out; omega))⟩
        · have HU := Lib.hid (show upI L nm = k + 1 by unfold upI; rw [HI.out, getD_at h, hS, if_pos ⟨h, by simpa using qe⟩])
          go_quiet (fail)
          have HD := Lib.hid (below_drewN (Below.refl w4.heap.size w4) nq)
          have HB5 := Lib.hid (below_drewN HB3.out nq)
          have HO5 := Lib.hid (HO3.out.below HD.out)
          clear c0 l0 HD HO3
          generalize w4.drewN nq = w5 at *
          by_cases hce : c = k + 1
          · have HM := Lib.hid (row_none w5 (some ⟨b, off, none⟩) (L := L.drop (k + 1)) (List.drop_eq_nil_of_le (by omega)))
            have HF := Lib.hid (put_is (L := L) (nm := nm) (va := va) HI.out HU.out)
            go_wp2_with (at_builtin; refine wpList_tags rfl (.tmp 50) (.tmp 53) rfl w1.heap.size _ (L.take k ++ [(nm, va)]) (L.drop (k + 1)) rfl HO5.out (some ⟨b, off, none⟩) _ (by rw [List.length_drop]; rfl) (fun e => by cases e) HM.out (by simp; omega) HB5.out.size ?_; intro v' w6 hown hbel; rw [← HF.out] at hown; have HO6 := Lib.hid hown; have HB6 := Lib.hid (HB5.out.trans hbel); clear hown hbel)
            go_ret
            exact ⟨_, rfl, HO6.out.lower (by have := HZ.out; omega), HB0.out.trans (HB6.out.mono (by have := HZ.out; omega))⟩
          · have HM := Lib.hid ((HR.out.below HB5.out).drop (k + 1))
            have HF := Lib.hid (put_is (L := L) (nm := nm) (va := va) HI.out HU.out)
            go_wp2_with (at_builtin; refine wpList_tags rfl (.tmp 50) (.tmp 53) rfl w1.heap.size _ (L.take k ++ [(nm, va)]) (L.drop (k + 1)) rfl HO5.out (some ⟨b, off + (k + 1) * 2, none⟩) _ (by rw [List.length_drop]; rfl) (fun e => by cases e) HM.out (by simp; omega) HB5.out.size ?_; intro v' w6 hown hbel; rw [← HF.out] at hown; have HO6 := Lib.hid hown; have HB6 := Lib.hid (HB5.out.trans hbel); clear hown hbel)
            go_ret
            exact ⟨_, rfl, HO6.out.lower (by have := HZ.out; omega), HB0.out.trans (HB6.out.mono (by have := HZ.out; omega))⟩
      · have HK2 := Lib.hid (HMo.out q)
        clear HMo HAt
        go_wp2_with fail
        go_quiet (fail)
        have HD := Lib.hid (below_drewN (Below.refl wr.heap.size wr) nq)
        have HB2 := Lib.hid (below_drewN HB.out nq)
        have HO2 := Lib.hid (HO.out.below HD.out)
        have d0 : (wr.drewN nq).cell? ⟨b, off + k * 2, none⟩ = some (.string S) := by rw [HD.out.cell hl]; exact c0
        have d1 : (wr.drewN nq).cell? ⟨b, off + k * 2 + 1, none⟩ = some (.string T) := by rw [HD.out.cell hl]; exact c1
        clear c0 c1 l0 l1 HD
        generalize wr.drewN nq = w3 at *
        have HW := Lib.hid (row_one w3 S T 32 s0 s1)
        go_wp2_with (at_builtin; refine wpList_tags rfl (.tmp 21) (.tmp 26) rfl w1.heap.size _ (L.take k) [(S, T)] rfl (HO2.out.below ((Below.refl _ _).alloc (Nat.le_refl _) _)) (some ⟨w3.heap.size, 0, none⟩) 1 rfl (fun e => by cases e) HW.out (by simp; omega) (by have := HB2.out.size; simp; omega) ?_; intro v' w4 hown hbel; rw [← HT.out] at hown; have HO3 := Lib.hid hown; have HB3 := Lib.hid (HB2.out.trans (((Below.refl _ _).alloc HB2.out.size _).trans hbel)); clear hown hbel)
        go_roundw
        case rel => exact ⟨k + 1, _, by omega, by go_num, rfl, HK2, HO3, HB3⟩
        case measure => simp [intOf]; omega
    · have h' : ¬ (k : Int) < (L.length : Int) := by omega
      have hkl : k = L.length := by omega
      have HI := Lib.hid (show lowI L nm = k by have := lowI_le L nm; have := HK.out; omega)
      have HU := Lib.hid (show upI L nm = k by unfold upI; rw [HI.out, if_neg (fun x => h x.1)])
      clear hkl
      go_wp2_with fail
      go_quiet (fail)
      have HD := Lib.hid (below_drewN (Below.refl wr.heap.size wr) nq)
      have HB2 := Lib.hid (below_drewN HB.out nq)
      have HO2 := Lib.hid (HO.out.below HD.out)
      have hp := HP.out.below HB2.out
      have e0 := hp.c0
      have e1 := hp.c1
      clear HD hp
      generalize wr.drewN nq = w3 at *
      have HW := Lib.hid (row_one w3 nm va 32 h1 h2)
      go_wp2_with (at_builtin; refine wpList_tags rfl (.tmp 30) (.tmp 32) rfl w1.heap.size _ (L.take k) [(nm, va)] rfl (HO2.out.below ((Below.refl _ _).alloc (Nat.le_refl _) _)) (some ⟨w3.heap.size, 0, none⟩) 1 rfl (fun e => by cases e) HW.out (by simp; omega) (by have := HB2.out.size; simp; omega) ?_; intro v' w4 hown hbel; have HO3 := Lib.hid hown; have HB3 := Lib.hid (HB2.out.trans (((Below.refl _ _).alloc HB2.out.size _).trans hbel)); clear hown hbel e0 e1 HW HO2 HB2)
      go_quiet (fail)
      have HD := Lib.hid (below_drewN (Below.refl w4.heap.size w4) nq)
      have HB5 := Lib.hid (below_drewN HB3.out nq)
      have HO5 := Lib.hid (HO3.out.below HD.out)
      clear h HD HO3
      generalize w4.drewN nq = w5 at *
      cases A with
      | none =>
        have hc0 : c = 0 := HN0.out rfl
        subst hc0
        have hL : L = [] := List.length_eq_zero_iff.1 (by omega)
        subst hL
        have hk0 : k = 0 := by simpa using hk
        subst hk0
        clear hk h' hcap hn
        have HM := Lib.hid (row_none w5 (none) (L := ([] : List Tg).drop 0) (List.drop_eq_nil_of_le (by simp)))
        have HF := Lib.hid (put_is (L := []) (nm := nm) (va := va) HI.out HU.out)
        go_wp2_with (at_builtin; refine wpList_tags rfl (.tmp 50) (.tmp 53) rfl w1.heap.size _ (List.take 0 [] ++ [(nm, va)]) (List.drop 0 []) rfl HO5.out (none) 0 rfl (fun _ => rfl) HM.out (by simp) HB5.out.size ?_; intro v' w6 hown hbel; rw [← HF.out] at hown; have HO6 := Lib.hid hown; have HB6 := Lib.hid (HB5.out.trans hbel); clear hown hbel)
        go_ret
        exact ⟨_, rfl, HO6.out.lower (by have := HZ.out; omega), HB0.out.trans (HB6.out.mono (by have := HZ.out; omega))⟩
      | some ad =>
        by_cases hce : c = k
        · have HM := Lib.hid (row_none w5 (some ad) (L := L.drop k) (List.drop_eq_nil_of_le (by omega)))
          have HF := Lib.hid (put_is (L := L) (nm := nm) (va := va) HI.out HU.out)
          go_wp2_with (at_builtin; refine wpList_tags rfl (.tmp 50) (.tmp 53) rfl w1.heap.size _ (L.take k ++ [(nm, va)]) (L.drop (k)) rfl HO5.out (some ad) _ (by rw [List.length_drop]; rfl) (fun e => by cases e) HM.out (by simp; omega) HB5.out.size ?_; intro v' w6 hown hbel; rw [← HF.out] at hown; have HO6 := Lib.hid hown; have HB6 := Lib.hid (HB5.out.trans hbel); clear hown hbel)
          go_ret
          exact ⟨_, rfl, HO6.out.lower (by have := HZ.out; omega), HB0.out.trans (HB6.out.mono (by have := HZ.out; omega))⟩
        · have HM := Lib.hid (fun A => row_none w5 A (L := L.drop k) (List.drop_eq_nil_of_le (by omega)))
          have HF := Lib.hid (put_is (L := L) (nm := nm) (va := va) HI.out HU.out)
          go_wp2_with (at_builtin; refine wpList_tags rfl (.tmp 50) (.tmp 53) rfl w1.heap.size _ (L.take k ++ [(nm, va)]) (L.drop (k)) rfl HO5.out (some _) _ (by rw [List.length_drop]; rfl) (fun e => by cases e) (HM.out _) (by simp; omega) HB5.out.size ?_; intro v' w6 hown hbel; rw [← HF.out] at hown; have HO6 := Lib.hid hown; have HB6 := Lib.hid (HB5.out.trans hbel); clear hown hbel)
          go_ret
          exact ⟨_, rfl, HO6.out.lower (by have := HZ.out; omega), HB0.out.trans (HB6.out.mono (by have := HZ.out; omega))⟩
end Go.Proofs.YtjoinifjkpaapaaDoor
