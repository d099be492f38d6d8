/- Get and Pick of both packages. Written by wip/mk_shx.py. -/
import Derived.Test.YtenhnnfemehbcaaShV
import Derived.Test.YtenhnnfemehbcaaShK
namespace Go.Proofs.Ytenhnnfemehbcaa
open Go.RowKit Go.Sort
set_option linter.unusedVariables false
set_option linter.unusedSimpArgs false

instance : DecidableEq Ky := inferInstanceAs (DecidableEq (ByteArray × ByteArray × ByteArray × ByteArray × ByteArray))
def getV : List Cl → Ky → Int × Int
  | [], _ => (0, 0)
  | c :: r, k => if c.1 = k then c.2 else getV r k
theorem get_at {L : List Cl} {i : Nat} (h : i < L.length) (k : Ky) : getV (L.drop i) k = if L[i].1 = k then L[i].2 else getV (L.drop (i + 1)) k := by
  rw [List.drop_eq_getElem_cons h]; rfl
theorem get_bd {L : List Cl} (h : BdS L) (k : Ky) : r64 (getV L k).1 ∧ r64 (getV L k).2 := by
  induction L with
  | nil => exact ⟨⟨(by decide : (-9223372036854775808 : Int) ≤ 0), (by decide : (0 : Int) ≤ 9223372036854775807)⟩, ⟨(by decide : (-9223372036854775808 : Int) ≤ 0), (by decide : (0 : Int) ≤ 9223372036854775807)⟩⟩
  | cons c r ih =>
    unfold getV
    split
    · exact h c List.mem_cons_self
    · exact ih fun d hd => h d (List.mem_cons_of_mem _ hd)
def pckL (p : Ky) (L : List Cl) : List Cl := L.filter (fun c => mtK p c.1)
theorem pck_yes {L : List Cl} {p : Ky} {k : Nat} (hk : k < L.length) (h : mtK p L[k].1 = true) : pckL p (L.take (k + 1)) = pckL p (L.take k) ++ [L[k]] := by
  unfold pckL
  rw [List.take_succ_eq_append_getElem hk, List.filter_append, List.filter_cons_of_pos (p := fun c : Cl => mtK p c.1) h]; rfl
theorem pck_no {L : List Cl} {p : Ky} {k : Nat} (hk : k < L.length) (h : mtK p L[k].1 = false) : pckL p (L.take (k + 1)) = pckL p (L.take k) := by
  unfold pckL
  rw [List.take_succ_eq_append_getElem hk, List.filter_append, List.filter_cons_of_neg (p := fun c : Cl => mtK p c.1) (by rw [h]; decide), List.filter_nil, List.append_nil]
theorem pck_len (p : Ky) (L : List Cl) (k : Nat) : (pckL p (L.take k)).length ≤ k := by
  unfold pckL
  refine Nat.le_trans (List.length_filter_le _ _) ?_
  rw [List.length_take]; omega
theorem pck_all (L : List Cl) : pckL (⟨#[]⟩, ⟨#[]⟩, ⟨#[]⟩, ⟨#[]⟩, ⟨#[]⟩) L = L := List.filter_eq_self.2 fun c _ => by simp [mtK, mtL, kyL]
theorem sz_up {w x : World} {o : Obj} (h : Below (w.heap.size + 1) (w.alloc o) x) : w.heap.size + 1 ≤ x.heap.size := by
  have q := h.size
  rw [World.size_alloc] at q
  exact q
theorem eq_keys (a1 a2 a3 a4 a5 b1 b2 b3 b4 b5 : ByteArray) (w : World) :
    (binOp .eql 23 (.agg #[.string a1, .string a2, .string a3, .string a4, .string a5]) (.agg #[.string b1, .string b2, .string b3, .string b4, .string b5])).run Try.prog w = .ok (.bool (decide (((a1, a2, a3, a4, a5) : Ky) = (b1, b2, b3, b4, b5)))) w := by
  go_simp
  have e : ∀ a b : ByteArray, (a.toList = b.toList) = (a = b) := fun a b => propext ⟨fun h => ba_ext h, fun h => by rw [h]⟩
  simp only [e]
  repeat' split
  all_goals simp_all
set_option maxRecDepth 100000 in
set_option maxHeartbeats 1000000 in
theorem get_any (A : Option Addr) (c : Nat) (L : List Cl) (b1 b2 b3 b4 b5 : ByteArray) (w : World) (hR : RowS w A L) (hl : L.length ≤ 10000) :
    Calls Try.prog 29 #[.slice A L.length c, .agg #[.string b1, .string b2, .string b3, .string b4, .string b5]] w fun e w' => e = .returned (.tuple #[.int .i64 (getV L (b1, b2, b3, b4, b5)).1, .int .i64 (getV L (b1, b2, b3, b4, b5)).2]) ∧ Below w.heap.size w w' := by
  obtain ⟨V, hV⟩ : ∃ V, getV L (b1, b2, b3, b4, b5) = V := ⟨_, rfl⟩
  rw [hV]
  obtain ⟨v1, v2⟩ := V
  have HV := Lib.hid hV
  have g1 : Below w.heap.size w (w.alloc (Obj.cells #[.string b1, .string b2, .string b3, .string b4, .string b5] 23)) := (Below.refl _ _).alloc (Nat.le_refl _) _
  have HB0 := Lib.hid g1
  have HQ0 := Lib.hid (Q5.alloc w (.string b1) (.string b2) (.string b3) (.string b4) (.string b5) 23)
  have HR := Lib.hid (hR.below g1)
  clear hR hV g1
  go_enter Try.func29, Try.ntmps29
  go_wp2
  go_loopw [10] (fun x wr => ∃ k : Nat, k ≤ L.length ∧ x = .int .i64 k ∧ Hid (getV (L.drop k) (b1, b2, b3, b4, b5) = (v1, v2)) ∧ Hid (Below w.heap.size w wr) ∧ Hid (Below (w.alloc (Obj.cells #[.string b1, .string b2, .string b3, .string b4, .string b5] 23)).heap.size (w.alloc (Obj.cells #[.string b1, .string b2, .string b3, .string b4, .string b5] 23)) wr)) (fun x _ => L.length - (intOf x).toNat)
  case atStart => exact ⟨0, Nat.zero_le _, rfl, HV, HB0, Lib.hid (Below.refl _ _)⟩
  case round =>
    obtain ⟨k, hk, rfl, HK, HB, HC⟩ := hrel
    have HQ := Lib.hid (HQ0.out.below HC.out)
    have hNl : w.heap.size < wr.heap.size := HQ.out.lt
    have q0 := HQ.out.c0
    have q1 := HQ.out.c1
    have q2 := HQ.out.c2
    have q3 := HQ.out.c3
    have q4 := HQ.out.c4
    by_cases h : k < L.length
    · have h' : (k : Int) < (L.length : Int) := by omega
      have h'' : (0 : Int) ≤ (k : Int) := by omega
      obtain ⟨b, off, rfl, hbl, c0, c1, c2, c3, c4, c5, c6⟩ := (HR.out.below HC.out).at h
      have HG := Lib.hid ((get_at h (b1, b2, b3, b4, b5)).symm.trans HK.out)
      obtain ⟨x, hx⟩ : ∃ x, L[k] = x := ⟨_, rfl⟩
      rw [hx] at c0 c1 c2 c3 c4 c5 c6 HG
      clear hx
      obtain ⟨⟨a1, a2, a3, a4, a5⟩, m, n⟩ := x
      dsimp only at c0 c1 c2 c3 c4 c5 c6 HG
      have ha : Below wr.heap.size wr (wr.alloc (Obj.cells #[.string a1, .string a2, .string a3, .string a4, .string a5, .int .i64 m, .int .i64 n] 37)) := (Below.refl _ _).alloc (Nat.le_refl _) _
      have HBa := Lib.hid (HB.out.trans (ha.mono HB.out.size))
      have HCa := Lib.hid (HC.out.trans (ha.mono HC.out.size))
      clear ha
      by_cases heq : ((a1, a2, a3, a4, a5) : Ky) = (b1, b2, b3, b4, b5)
      · have HE := Lib.hid (show (m, n) = (v1, v2) from by have q := HG.out; rw [if_pos heq] at q; exact q)
        have qeq : ∀ w, (binOp .eql 23 (.agg #[.string a1, .string a2, .string a3, .string a4, .string a5]) (.agg #[.string b1, .string b2, .string b3, .string b4, .string b5])).run Try.prog w = .ok (.bool true) w := fun w => by rw [eq_keys, decide_eq_true heq]
        clear heq HG HK HQ
        go_wp2_with fail
        go_quiet (fail)
        have HB2 := Lib.hid (below_drewN HBa.out nq)
        go_wp2
        go_ret2
        obtain ⟨rfl, rfl⟩ := Prod.mk.inj HE.out
        exact ⟨rfl, HB2.out⟩
      · have HE := Lib.hid (show getV (L.drop (k + 1)) (b1, b2, b3, b4, b5) = (v1, v2) from by have q := HG.out; rw [if_neg heq] at q; exact q)
        have qeq : ∀ w, (binOp .eql 23 (.agg #[.string a1, .string a2, .string a3, .string a4, .string a5]) (.agg #[.string b1, .string b2, .string b3, .string b4, .string b5])).run Try.prog w = .ok (.bool false) w := fun w => by rw [eq_keys, decide_eq_false heq]
        clear heq HG HK HQ
        go_wp2
        go_roundw
        case rel => exact ⟨k + 1, by omega, by go_num, HE, HBa, HCa⟩
        case measure => simp [intOf]; omega
    · have h' : ¬ (k : Int) < (L.length : Int) := by omega
      have HE := Lib.hid (show ((0 : Int), (0 : Int)) = (v1, v2) from by have q := HK.out; rw [List.drop_of_length_le (by omega)] at q; exact q)
      clear HK HQ
      go_wp2
      go_ret2
      obtain ⟨rfl, rfl⟩ := Prod.mk.inj HE.out
      exact ⟨rfl, HB.out⟩
set_option maxRecDepth 100000 in
set_option maxHeartbeats 1000000 in
theorem rGet_any (A : Option Addr) (c : Nat) (L : List Cl) (b1 b2 b3 b4 b5 : ByteArray) (w : World) (hR : RowS w A L) (hl : L.length ≤ 10000) :
    Calls Try.prog 30 #[.slice A L.length c, .agg #[.string b1, .string b2, .string b3, .string b4, .string b5]] w fun e w' => e = .returned (.tuple #[.int .i64 (getV L (b1, b2, b3, b4, b5)).1, .int .i64 (getV L (b1, b2, b3, b4, b5)).2]) ∧ Below w.heap.size w w' := by
  obtain ⟨V, hV⟩ : ∃ V, getV L (b1, b2, b3, b4, b5) = V := ⟨_, rfl⟩
  rw [hV]
  obtain ⟨v1, v2⟩ := V
  have HV := Lib.hid hV
  have g1 : Below w.heap.size w (w.alloc (Obj.cells #[.string b1, .string b2, .string b3, .string b4, .string b5] 23)) := (Below.refl _ _).alloc (Nat.le_refl _) _
  have HB0 := Lib.hid g1
  have HQ0 := Lib.hid (Q5.alloc w (.string b1) (.string b2) (.string b3) (.string b4) (.string b5) 23)
  have HR := Lib.hid (hR.below g1)
  clear hR hV g1
  go_enter Try.func30, Try.ntmps30
  go_wp2
  go_loopw [6] (fun x wr => ∃ k : Nat, k ≤ L.length ∧ x = .int .i64 k ∧ Hid (getV (L.drop k) (b1, b2, b3, b4, b5) = (v1, v2)) ∧ Hid (Below w.heap.size w wr) ∧ Hid (Below (w.alloc (Obj.cells #[.string b1, .string b2, .string b3, .string b4, .string b5] 23)).heap.size (w.alloc (Obj.cells #[.string b1, .string b2, .string b3, .string b4, .string b5] 23)) wr)) (fun x _ => L.length - (intOf x).toNat)
  case atStart => exact ⟨0, Nat.zero_le _, rfl, HV, HB0, Lib.hid (Below.refl _ _)⟩
  case round =>
    obtain ⟨k, hk, rfl, HK, HB, HC⟩ := hrel
    have HQ := Lib.hid (HQ0.out.below HC.out)
    have hNl : w.heap.size < wr.heap.size := HQ.out.lt
    have q0 := HQ.out.c0
    have q1 := HQ.out.c1
    have q2 := HQ.out.c2
    have q3 := HQ.out.c3
    have q4 := HQ.out.c4
    by_cases h : k < L.length
    · have h' : (k : Int) < (L.length : Int) := by omega
      have h'' : (0 : Int) ≤ (k : Int) := by omega
      obtain ⟨b, off, rfl, hbl, c0, c1, c2, c3, c4, c5, c6⟩ := (HR.out.below HC.out).at h
      have HG := Lib.hid ((get_at h (b1, b2, b3, b4, b5)).symm.trans HK.out)
      obtain ⟨x, hx⟩ : ∃ x, L[k] = x := ⟨_, rfl⟩
      rw [hx] at c0 c1 c2 c3 c4 c5 c6 HG
      clear hx
      obtain ⟨⟨a1, a2, a3, a4, a5⟩, m, n⟩ := x
      dsimp only at c0 c1 c2 c3 c4 c5 c6 HG
      by_cases heq : ((a1, a2, a3, a4, a5) : Ky) = (b1, b2, b3, b4, b5)
      · have HE := Lib.hid (show (m, n) = (v1, v2) from by have q := HG.out; rw [if_pos heq] at q; exact q)
        have qeq : ∀ w, (binOp .eql 23 (.agg #[.string a1, .string a2, .string a3, .string a4, .string a5]) (.agg #[.string b1, .string b2, .string b3, .string b4, .string b5])).run Try.prog w = .ok (.bool true) w := fun w => by rw [eq_keys, decide_eq_true heq]
        clear heq HG HK HQ
        go_wp2_with fail
        go_quiet (fail)
        have HB2 := Lib.hid (below_drewN HB.out nq)
        go_wp2_with fail
        go_quiet (fail)
        have HB3 := Lib.hid (below_drewN HB2.out nq)
        go_wp2
        go_ret2
        obtain ⟨rfl, rfl⟩ := Prod.mk.inj HE.out
        exact ⟨rfl, HB3.out⟩
      · have HE := Lib.hid (show getV (L.drop (k + 1)) (b1, b2, b3, b4, b5) = (v1, v2) from by have q := HG.out; rw [if_neg heq] at q; exact q)
        have qeq : ∀ w, (binOp .eql 23 (.agg #[.string a1, .string a2, .string a3, .string a4, .string a5]) (.agg #[.string b1, .string b2, .string b3, .string b4, .string b5])).run Try.prog w = .ok (.bool false) w := fun w => by rw [eq_keys, decide_eq_false heq]
        clear heq HG HK HQ
        go_wp2_with fail
        go_quiet (fail)
        have HB2 := Lib.hid (below_drewN HB.out nq)
        have HC2 := Lib.hid (below_drewN HC.out nq)
        go_wp2
        go_roundw
        case rel => exact ⟨k + 1, by omega, by go_num, HE, HB2, HC2⟩
        case measure => simp [intOf]; omega
    · have h' : ¬ (k : Int) < (L.length : Int) := by omega
      have HE := Lib.hid (show ((0 : Int), (0 : Int)) = (v1, v2) from by have q := HK.out; rw [List.drop_of_length_le (by omega)] at q; exact q)
      clear HK HQ
      go_wp2
      go_ret2
      obtain ⟨rfl, rfl⟩ := Prod.mk.inj HE.out
      exact ⟨rfl, HB.out⟩
set_option maxRecDepth 100000 in
set_option maxHeartbeats 2000000 in
theorem pick_any (A : Option Addr) (c : Nat) (L : List Cl) (b1 b2 b3 b4 b5 : ByteArray) (w : World) (hR : RowS w A L) (hl : L.length ≤ 2000) :
    Calls Try.prog 31 #[.slice A L.length c, .agg #[.string b1, .string b2, .string b3, .string b4, .string b5]] w fun e w' => ∃ v, e = .returned v ∧ OwnS w' w.heap.size v (pckL (b1, b2, b3, b4, b5) L) ∧ Below w.heap.size w w' := by
  have g1 : Below w.heap.size w (w.alloc (Obj.cells #[.string b1, .string b2, .string b3, .string b4, .string b5] 23)) := (Below.refl _ _).alloc (Nat.le_refl _) _
  have HB0 := Lib.hid g1
  have HQ0 := Lib.hid (Q5.alloc w (.string b1) (.string b2) (.string b3) (.string b4) (.string b5) 23)
  have HR := Lib.hid (hR.below g1)
  clear hR g1
  go_enter Try.func31, Try.ntmps31
  go_wp2
  go_loopw [4, 9] (fun v x wr => ∃ (vo : Value) (k : Nat), vo = v ∧ k ≤ L.length ∧ x = .int .i64 k ∧ Hid (OwnS wr (w.heap.size + 1) vo (pckL (b1, b2, b3, b4, b5) (L.take k))) ∧ Hid (Below w.heap.size w wr) ∧ Hid (Below (w.heap.size + 1) (w.alloc (Obj.cells #[.string b1, .string b2, .string b3, .string b4, .string b5] 23)) wr)) (fun _ x _ => L.length - (intOf x).toNat)
  case atStart => exact ⟨_, 0, rfl, Nat.zero_le _, rfl, Lib.hid (OwnS.nil _ _), HB0, Lib.hid (Below.refl _ _)⟩
  case round =>
    obtain ⟨vo, k, rfl, hk, rfl, HO, HB, HC⟩ := hrel
    have hsz : w.heap.size + 1 ≤ wr.heap.size := by
      have q := HC.out.size
      rw [World.size_alloc] at q
      exact q
    have HCC := Lib.hid (show Below (w.alloc (Obj.cells #[.string b1, .string b2, .string b3, .string b4, .string b5] 23)).heap.size (w.alloc (Obj.cells #[.string b1, .string b2, .string b3, .string b4, .string b5] 23)) wr from by rw [World.size_alloc]; exact HC.out)
    by_cases h : k < L.length
    · have h' : (k : Int) < (L.length : Int) := by omega
      have h'' : (0 : Int) ≤ (k : Int) := by omega
      have HQ := Lib.hid (HQ0.out.below HCC.out)
      obtain ⟨b, off, rfl, hbl, c0, c1, c2, c3, c4, c5, c6⟩ := (HR.out.below HCC.out).at h
      have HY := Lib.hid (fun z => pck_yes (p := (b1, b2, b3, b4, b5)) h z)
      have HN := Lib.hid (fun z => pck_no (p := (b1, b2, b3, b4, b5)) h z)
      have hpl := pck_len (b1, b2, b3, b4, b5) L k
      obtain ⟨x, hx⟩ : ∃ x, L[k] = x := ⟨_, rfl⟩
      rw [hx] at c0 c1 c2 c3 c4 c5 c6 HY HN
      clear hx
      obtain ⟨⟨a1, a2, a3, a4, a5⟩, m, n⟩ := x
      dsimp only at c0 c1 c2 c3 c4 c5 c6 HY HN
      have hNl : w.heap.size < wr.heap.size := hsz
      have HM := Lib.hid (match5_any b1 b2 b3 b4 b5 a1 a2 a3 a4 a5)
      obtain ⟨M, hM⟩ : ∃ M, mtK (b1, b2, b3, b4, b5) (a1, a2, a3, a4, a5) = M := ⟨_, rfl⟩
      rw [hM] at HM HY HN
      clear hM
      have q0 := HQ.out.c0
      have q1 := HQ.out.c1
      have q2 := HQ.out.c2
      have q3 := HQ.out.c3
      have q4 := HQ.out.c4
      have ha : Below wr.heap.size wr (wr.alloc (Obj.cells #[.string a1, .string a2, .string a3, .string a4, .string a5, .int .i64 m, .int .i64 n] 37)) := (Below.refl _ _).alloc (Nat.le_refl _) _
      have HBa := Lib.hid (HB.out.trans (ha.mono HB.out.size))
      have HCa := Lib.hid (HC.out.trans (ha.mono hsz))
      have HOa := Lib.hid (HO.out.below ha)
      have HXa := Lib.hid (Q7.alloc wr (.string a1) (.string a2) (.string a3) (.string a4) (.string a5) (.int .i64 m) (.int .i64 n) 37)
      clear ha HO HB HC
      go_wp2_with fail
      refine (HM.out _).mono ?_
      rintro e w5 ⟨rfl, hg⟩
      have HB5 := Lib.hid (HBa.out.trans (hg.b.mono HBa.out.size))
      have HC5 := Lib.hid (HCa.out.trans (hg.b.mono (sz_up HCa.out)))
      have HO5 := Lib.hid (HOa.out.below hg.b)
      have HX5 := Lib.hid (HXa.out.below hg.b)
      clear hg HBa HCa HOa HXa c0 c1 c2 c3 c4 c5 c6 q0 q1 q2 q3 q4
      cases M
      · have HO6 := Lib.hid (show OwnS w5 (w.heap.size + 1) vo (pckL (b1, b2, b3, b4, b5) (L.take (k + 1))) from by rw [HN.out rfl]; exact HO5.out)
        clear HO5 HY HN
        go_wp2
        go_roundw
        case rel => exact ⟨_, k + 1, rfl, by omega, by go_num, HO6, HB5, HC5⟩
        case measure => simp [intOf]; omega
      · have HP := Lib.hid (HY.out rfl)
        have hA : Below w5.heap.size w5 (w5.alloc (Obj.cells #[.string a1, .string a2, .string a3, .string a4, .string a5, .int .i64 m, .int .i64 n] 37)) := (Below.refl _ _).alloc (Nat.le_refl _) _
        have HO6 := Lib.hid (HO5.out.below hA)
        have HB6 := Lib.hid (HB5.out.trans (hA.mono HB5.out.size))
        have HC6 := Lib.hid (HC5.out.trans (hA.mono (sz_up HC5.out)))
        have hs6 : w.heap.size + 1 ≤ (w5.alloc (Obj.cells #[.string a1, .string a2, .string a3, .string a4, .string a5, .int .i64 m, .int .i64 n] 37)).heap.size := sz_up HC6.out
        have HRc := Lib.hid (row_cell w5 ((a1, a2, a3, a4, a5), m, n) 37)
        clear hA HO5 HB5 HC5 HY HN
        have x0 := HX5.out.c0
        have x1 := HX5.out.c1
        have x2 := HX5.out.c2
        have x3 := HX5.out.c3
        have x4 := HX5.out.c4
        have x5 := HX5.out.c5
        have x6 := HX5.out.c6
        go_wp2_with (at_builtin; (refine wpList_cell rfl (.tmp 17) (.tmp 19) rfl (w.heap.size + 1) vo (pckL (b1, b2, b3, b4, b5) (L.take k)) ((a1, a2, a3, a4, a5), m, n) rfl HO6.out ⟨w5.heap.size, 0, none⟩ 1 rfl HRc.out (by omega) hs6 ?_; intro v7 w7 o7 hb7))
        have HO7 := Lib.hid (show OwnS w7 (w.heap.size + 1) v7 (pckL (b1, b2, b3, b4, b5) (L.take (k + 1))) from by rw [HP.out]; exact o7)
        have HC7 := Lib.hid (HC6.out.trans hb7)
        have HB7 := Lib.hid (HB6.out.trans (hb7.mono (Nat.le_succ _)))
        clear o7 hb7 HO6 HB6 HC6 HP HRc
        go_wp2
        go_roundw
        case rel => exact ⟨_, k + 1, rfl, by omega, by go_num, HO7, HB7, HC7⟩
        case measure => simp [intOf]; omega
    · have h' : ¬ (k : Int) < (L.length : Int) := by omega
      have HOf := Lib.hid (show OwnS wr w.heap.size vo (pckL (b1, b2, b3, b4, b5) L) from by
        have q := HO.out
        rw [List.take_of_length_le (by omega)] at q
        exact q.lower (Nat.le_succ _))
      clear HO HC
      go_wp2
      go_ret
      exact ⟨_, rfl, HOf.out, HB.out⟩
end Go.Proofs.Ytenhnnfemehbcaa
