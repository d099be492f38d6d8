/- Cells put behind one another; Add of both packages. Written by wip/mk_sii.py. -/
import Derived.Test.YtenhnnfemehbcaaSiH
namespace Go.Proofs.Ytenhnnfemehbcaa
open Go.RowKit Go.Sort
set_option linter.unusedVariables false
set_option linter.unusedSimpArgs false

/-- what has been put together. -/
def cnL (L M : List Cl) : Nat → List Cl
  | 0 => []
  | 1 => L
  | _ => L ++ M
set_option maxRecDepth 100000 in
set_option maxHeartbeats 1000000 in
theorem concat_any (P cp : Nat) (A : Option Addr) (ca : Nat) (L : List Cl) (B : Option Addr) (cb : Nat) (M : List Cl) (w : World) (hA : RowS w A L) (hB : RowS w B M) (nA : A = none → ca = 0) (nB : B = none → cb = 0) (hP : Q2 w P (.slice A L.length ca) (.slice B M.length cb)) (hl : L.length ≤ 1000) (hm : M.length ≤ 1000) :
    Calls Try.prog 49 #[.slice (some ⟨P, 0, none⟩) 2 cp] w fun e w' => ∃ v, e = .returned v ∧ OwnS w' w.heap.size v (L ++ M) ∧ Below w.heap.size w w' := by
  have HP := Lib.hid hP
  have HA := Lib.hid hA
  have HB := Lib.hid hB
  have hPl := hP.lt
  have HGr := Lib.hid (grow_any (L.length + M.length) w (by omega))
  clear hP hA hB
  go_enter Try.func49, Try.ntmps49
  go_wp2
  go_loop [3, 11] (fun v x => ∃ (k : Nat) (z : Int), x = .int .i64 k ∧ v = .int .i64 z ∧ ((k = 0 ∧ z = 0) ∨ (k = 1 ∧ z = (L.length : Int)) ∨ (k = 2 ∧ z = (L.length : Int) + (M.length : Int)))) (fun _ x => 2 - (intOf x).toNat)
  case atStart => exact ⟨0, 0, rfl, rfl, .inl ⟨rfl, rfl⟩⟩
  case round =>
    obtain ⟨k, z, rfl, rfl, hz⟩ := hrel
    have p0 := HP.out.c0
    have p1 := HP.out.c1
    have q1 : ¬ ((L.length : Int) < 0) := by omega
    have q2 : ¬ ((L.length : Int) + (M.length : Int) < 0) := by omega
    rcases hz with ⟨rfl, rfl⟩ | ⟨rfl, rfl⟩ | ⟨rfl, rfl⟩
    · go_wp2
      go_round
      case rel => exact ⟨1, _, by go_num, rfl, .inr (.inl ⟨rfl, by simp⟩)⟩
      case measure => decide
    · go_wp2
      go_round
      case rel => exact ⟨2, _, by go_num, rfl, .inr (.inr ⟨rfl, by simp⟩)⟩
      case measure => decide
    · clear p0 p1
      go_wp2_with fail
      refine HGr.out.mono ?_
      rintro e w1 ⟨v, rfl, ho, hb⟩
      have HO1 := Lib.hid ho
      have HB1 := Lib.hid hb
      clear ho hb HGr
      go_wp2
      go_loopw [6, 27] (fun v x wr => ∃ (vo : Value) (k : Nat), vo = v ∧ k ≤ 2 ∧ x = .int .i64 k ∧ Hid (OwnS wr w.heap.size vo (cnL L M k)) ∧ Hid (Below w.heap.size w wr)) (fun _ x _ => 2 - (intOf x).toNat)
      case atStart => exact ⟨_, 0, rfl, by omega, rfl, HO1, HB1⟩
      case round =>
        clear HO1 HB1
        obtain ⟨vo, k, rfl, hk, rfl, HO, HW⟩ := hrel
        have p0 := (HW.out.cell hPl).trans HP.out.c0
        have p1 := (HW.out.cell hPl).trans HP.out.c1
        have hsz := HW.out.size
        rcases (show k = 0 ∨ k = 1 ∨ k = 2 by omega) with rfl | rfl | rfl
        · have HRa := Lib.hid (HA.out.below HW.out)
          go_wp2_with (at_builtin; (refine wpList_cells rfl (.tmp 31) (.tmp 32) rfl w.heap.size vo [] L rfl HO.out A ca rfl nA HRa.out (by simp; omega) hsz ?_; intro v7 w7 o7 hb7))
          have HO7 := Lib.hid (show OwnS w7 w.heap.size v7 (cnL L M 1) from o7)
          have HW7 := Lib.hid (HW.out.trans hb7)
          clear o7 hb7 p0 p1
          go_wp2
          go_roundw
          case rel => exact ⟨_, 1, rfl, by omega, rfl, HO7, HW7⟩
          case measure => simp [intOf]
        · have HRb := Lib.hid (HB.out.below HW.out)
          go_wp2_with (at_builtin; (refine wpList_cells rfl (.tmp 31) (.tmp 32) rfl w.heap.size vo L M rfl HO.out B cb rfl nB HRb.out (by omega) hsz ?_; intro v7 w7 o7 hb7))
          have HO7 := Lib.hid (show OwnS w7 w.heap.size v7 (cnL L M 2) from o7)
          have HW7 := Lib.hid (HW.out.trans hb7)
          clear o7 hb7 p0 p1
          go_wp2
          go_roundw
          case rel => exact ⟨_, 2, rfl, by omega, rfl, HO7, HW7⟩
          case measure => simp [intOf]
        · clear p0 p1
          go_wp2
          go_ret
          exact ⟨_, rfl, HO.out, HW.out⟩
end Go.Proofs.Ytenhnnfemehbcaa
