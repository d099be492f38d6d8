/- What two and Text of package accountingref04 return. -/
import Derived.Test.YtbmggfeneieglacDoorDyY
import Derived.Deep.RegionWith
namespace Go.Proofs.YtbmggfeneieglacDoor
open Go.RowKit Go.Sort
set_option linter.unusedVariables false

/-- the list of two digits. -/
def twoL (n : Nat) : List UInt8 := [UInt8.ofNat (48 + n / 10), UInt8.ofNat (48 + n % 10)]
theorem text_nat {n : Int} (h : 0 ≤ n) : text n = dg n.toNat := by
  unfold text; rw [if_neg (by omega)]; congr 1; omega
theorem two_list {n : Int} (h1 : 0 ≤ n) (h2 : n ≤ 99) : (twoS n).toList = twoL n.toNat := by
  unfold twoS twoL
  split
  · rw [app_list, toList_mk, textS_list, text_nat h1, dg_small (by omega)]
    have e1 : n.toNat / 10 = 0 := by omega
    have e2 : n.toNat % 10 = n.toNat := by omega
    rw [e1, e2]; rfl
  · rw [textS_list, text_nat h1, dg_big (by omega), dg_small (by omega)]; rfl
theorem bytes_ext {a b : ByteArray} (h : a.toList = b.toList) : a = b := by
  rw [ByteArray.toList_eq, ByteArray.toList_eq] at h
  apply ByteArray.ext
  exact Array.toList_inj.1 h
theorem two_split {n : Int} (h1 : 0 ≤ n) (h2 : n ≤ 99) : textS (n / 10) ++ textS (n % 10) = twoS n := by
  apply bytes_ext
  rw [two_list h1 h2, app_list, textS_list, textS_list, text_nat (by omega), text_nat (by omega), dg_small (by omega), dg_small (by omega)]
  unfold twoL
  have e1 : (n / 10).toNat = n.toNat / 10 := by omega
  have e2 : (n % 10).toNat = n.toNat % 10 := by omega
  rw [e1, e2]; rfl

set_option maxHeartbeats 400000 in
theorem rTwo_any (n : Int) (w : World) (n1 : 0 ≤ n) (n2 : n ≤ 99) :
    Calls Tryd.prog 40 #[.int .i64 n] w fun e w' => e = .returned (.string (twoS n)) ∧ Below w.heap.size w w' := by
  rw [← two_split n1 n2]
  have H1 := Lib.hid (fun w => rText_any (n / 10) w (by omega) (by omega))
  have H2 := Lib.hid (fun w => rText_any (n % 10) w (by omega) (by omega))
  have z1 := textS_size2 (n := n / 10) (by omega) (by omega)
  have z2 := textS_size2 (n := n % 10) (by omega) (by omega)
  generalize textS (n / 10) = A at *
  generalize textS (n % 10) = B at *
  go_enter Tryd.func40, Tryd.ntmps40
  go_wp2_with fail
  refine (H1.out _).mono ?_
  rintro e w1 ⟨rfl, rfl⟩
  go_wp2_with fail
  refine (H2.out _).mono ?_
  rintro e w1 ⟨rfl, rfl⟩
  go_wp2
  go_ret
  exact ⟨rfl, Below.refl _ _⟩

set_option maxHeartbeats 400000 in
theorem rDayText_no (n : Int) (w : World) (n1 : -9223372036854775808 ≤ n) (n2 : n ≤ 9223372036854775807) (h : n < 0 ∨ 109572 < n) :
    Calls Tryd.prog 27 #[.int .i64 n] w fun e w' => e = .returned (.tuple #[.string ⟨#[]⟩, .int .i64 11]) ∧ Below w.heap.size w w' := by
  have HD := Lib.hid (fun w => rDate_no n w n1 n2 h)
  clear h
  go_enter Tryd.func27, Tryd.ntmps27
  go_wp2_with fail
  refine (HD.out _).mono ?_
  rintro e w' ⟨rfl, hb⟩
  have HB := Lib.hid hb
  clear hb
  go_wp2
  go_ret2
  exact ⟨rfl, (HB.out.alloc HB.out.size _)⟩

set_option maxHeartbeats 4000000 in
theorem rDayText_any (n y m d : Int) (w : World) (h : IsDate n y m d) :
    Calls Tryd.prog 27 #[.int .i64 n] w fun e w' => e = .returned (.tuple #[.string (dayS y m d), .int .i64 0]) ∧ Below w.heap.size w w' := by
  have HD := Lib.hid (fun w => rDate_any n y m d w h)
  have hm := h.1.m
  have hd := h.1.d
  obtain ⟨v1, v2, v3, v4⟩ := h.1
  clear h
  have HY := Lib.hid (fun w => rText_any y w (by omega) (by omega))
  have HM := Lib.hid (fun w => rTwo_any m w (by omega) (by omega))
  have HDD := Lib.hid (fun w => rTwo_any d w (by omega) (by omega))
  have z1 := textS_size21 (n := y) (by omega) (by omega)
  have z2 := twoS_size (n := m) (by omega) (by omega)
  have z3 := twoS_size (n := d) (by omega) (by omega)
  unfold dayS
  generalize textS y = A at *
  generalize twoS m = B at *
  generalize twoS d = C at *
  go_enter Tryd.func27, Tryd.ntmps27
  go_wp2_with fail
  refine (HD.out _).mono ?_
  rintro e w1 ⟨rfl, hb⟩
  have HB := Lib.hid hb
  clear hb
  go_wp2_with fail
  have HB1 := Lib.hid (HB.out.alloc HB.out.size (Obj.cells #[.int .i64 y, .int .i64 m, .int .i64 d] 23))
  have HC := Lib.hid (Cell3.alloc w1 (.int .i64 y) (.int .i64 m) (.int .i64 d) 23)
  generalize w1.alloc (Obj.cells #[.int .i64 y, .int .i64 m, .int .i64 d] 23) = W at *
  have l0 := cell_regrown HC.out.c0
  have l1 := cell_regrown HC.out.c1
  have l2 := cell_regrown HC.out.c2
  have n1 : ¬ 9223372036854775807 < A.size + 1 := by omega
  have n2 : ¬ 9223372036854775807 < A.size + 1 + B.size := by omega
  have n3 : ¬ 9223372036854775807 < A.size + 1 + B.size + 1 := by omega
  have n4 : ¬ 9223372036854775807 < A.size + 1 + B.size + 1 + C.size := by omega
  have cY : ∀ dd os, Calls Tryd.prog 39 #[.int .i64 y] (grow (redrawn W dd) os) fun e w'' => e = .returned (.string A) ∧ ∃ p : Regrown, w'' = grow (redrawn W p.d) p.os := fun dd os => Calls.regrown_of ((HY.out _).mono fun _ _ h => ⟨h.1, h.2 ▸ Below.refl _ _⟩)
  have cM : ∀ dd os, Calls Tryd.prog 40 #[.int .i64 m] (grow (redrawn W dd) os) fun e w'' => e = .returned (.string B) ∧ ∃ p : Regrown, w'' = grow (redrawn W p.d) p.os := fun dd os => Calls.regrown_of (HM.out _)
  have cD : ∀ dd os, Calls Tryd.prog 40 #[.int .i64 d] (grow (redrawn W dd) os) fun e w'' => e = .returned (.string C) ∧ ∃ p : Regrown, w'' = grow (redrawn W p.d) p.os := fun dd os => Calls.regrown_of (HDD.out _)
  refine wp_region_quiet_below (l := _) (by kernel_rfl) (by kernel_rfl) ?_
  repeat (first | go_big_quiet_step (first | (go_at_call 39; exact cY _ _) | (go_at_call_of 40 m; exact cM _ _) | (go_at_call_of 40 d; exact cD _ _)))
  refine wpQuiet_nil ?_
  intro w2 hw'
  obtain ⟨⟨dq2, osq2⟩, hw''⟩ := hw'
  have hb2 := below_regrown W dq2 osq2
  rw [← hw''] at hb2
  clear hw''
  go_wp2
  go_ret2
  exact ⟨rfl, HB1.out.trans (hb2.mono HB1.out.size)⟩
end Go.Proofs.YtbmggfeneieglacDoor
