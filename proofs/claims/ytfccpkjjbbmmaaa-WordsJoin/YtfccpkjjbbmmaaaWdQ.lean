/- The chapter's examples hold. -/
import Derived.Test.YtfccpkjjbbmmaaaWdP
namespace Go.Proofs.Ytfccpkjjbbmmaaa
open Go.RowKit
set_option linter.unusedVariables false
set_option linter.unusedSimpArgs false

def lvL1 : List (Int × List UInt8 × Nat) := [(1, [112, 111, 115, 116], 0), (2, [45, 49, 46, 53, 48], 5), (3, [97, 32, 98], 11)]
def lvL2 : List (Int × List UInt8 × Nat) := [(1, [97], 0), (4, [60, 61], 1), (2, [50], 3), (4, [46, 46], 4), (2, [51], 6)]
theorem lvA : cuR ⟨#[112, 111, 115, 116, 32, 45, 49, 46, 53, 48, 32, 34, 97, 32, 98, 34, 32, 35, 32, 120]⟩ = (0, lvL1, 20) := by
  have e : (⟨#[112, 111, 115, 116, 32, 45, 49, 46, 53, 48, 32, 34, 97, 32, 98, 34, 32, 35, 32, 120]⟩ : ByteArray) = bs [112, 111, 115, 116, 32, 45, 49, 46, 53, 48, 32, 34, 97, 32, 98, 34, 32, 35, 32, 120] := rfl
  rw [e]; unfold cuR; rw [bs_size, bs_list]; decide +kernel
theorem lvB : cuR ⟨#[97, 60, 61, 50, 46, 46, 51]⟩ = (0, lvL2, 7) := by
  have e : (⟨#[97, 60, 61, 50, 46, 46, 51]⟩ : ByteArray) = bs [97, 60, 61, 50, 46, 46, 51] := rfl
  rw [e]; unfold cuR; rw [bs_size, bs_list]; decide +kernel
theorem lvC : cuR ⟨#[97, 32, 63, 32, 34]⟩ = (5, [], 2) := by
  have e : (⟨#[97, 32, 63, 32, 34]⟩ : ByteArray) = bs [97, 32, 63, 32, 34] := rfl
  rw [e]; unfold cuR; rw [bs_size, bs_list]; decide +kernel
theorem lvD : quV ⟨#[97, 34, 98]⟩ = [34, 97, 92, 34, 98, 34] := by
  have e : (⟨#[97, 34, 98]⟩ : ByteArray) = bs [97, 34, 98] := rfl
  rw [e]; unfold quV plaB; rw [bs_list]; decide +kernel
theorem lvE : quE ⟨#[97, 34, 98]⟩ = 0 := by
  have e : (⟨#[97, 34, 98]⟩ : ByteArray) = bs [97, 34, 98] := rfl
  rw [e]; unfold quE plaB; rw [bs_list]; decide +kernel
theorem lvF : jnV (toI lvL1) = [112, 111, 115, 116, 32, 45, 49, 46, 53, 48, 32, 34, 97, 32, 98, 34] := by decide +kernel
theorem lvG : jnE (toI lvL1) = 0 := by decide +kernel
theorem lvH : codB ⟨#[120, 95, 49]⟩ = true := by
  have e : (⟨#[120, 95, 49]⟩ : ByteArray) = bs [120, 95, 49] := rfl
  rw [e]; unfold codB; rw [bs_size, bs_list]; decide +kernel
theorem lvI : codB ⟨#[]⟩ = false := by
  have e : (⟨#[]⟩ : ByteArray) = bs [] := rfl
  rw [e]; unfold codB; rw [bs_size, bs_list]; decide +kernel
theorem lvJ : plaB ⟨#[]⟩ = true := by
  have e : (⟨#[]⟩ : ByteArray) = bs [] := rfl
  rw [e]; unfold plaB; rw [bs_list]; decide +kernel
/-- the wanted words in memory. -/
def wWant (w : World) : World := w.alloc (Obj.cells #[.int .i64 1, .string ⟨#[112, 111, 115, 116]⟩, .int .i64 0, .int .i64 2, .string ⟨#[45, 49, 46, 53, 48]⟩, .int .i64 5, .int .i64 3, .string ⟨#[97, 32, 98]⟩, .int .i64 11] 39)
theorem wWant_row (w : World) : RowW (wWant w) (some ⟨w.heap.size, 0, none⟩) (toI lvL1) := by
  have hsz : w.heap.size < (wWant w).heap.size := by unfold wWant; simp
  have hc : ∀ j, (wWant w).cell? ⟨w.heap.size, j, none⟩ = (#[Value.int .i64 1, .string ⟨#[112, 111, 115, 116]⟩, .int .i64 0, .int .i64 2, .string ⟨#[45, 49, 46, 53, 48]⟩, .int .i64 5, .int .i64 3, .string ⟨#[97, 32, 98]⟩, .int .i64 11])[j]? := fun j => World.cell?_alloc_mark w _ _ _ j
  intro i x hx
  match i, hx with
  | 0, hx => obtain rfl := Option.some.inj hx; exact ⟨_, _, rfl, hsz, hc 0, hc 1, hc 2⟩
  | 1, hx => obtain rfl := Option.some.inj hx; exact ⟨_, _, rfl, hsz, hc 3, hc 4, hc 5⟩
  | 2, hx => obtain rfl := Option.some.inj hx; exact ⟨_, _, rfl, hsz, hc 6, hc 7, hc 8⟩
  | n + 3, hx => exact absurd hx (by simp [toI, lvL1])
theorem wWant_below (w : World) : Below w.heap.size w (wWant w) := (Below.refl _ _).alloc (Nat.le_refl _) _
/-- Cut, where its answer is known. -/
theorem cut_is {s : ByteArray} {r : Int} {L : List (Int × List UInt8 × Nat)} {p : Nat} (hs : s.size ≤ 1000) (h : cuR s = (r, L, p)) (w : World) :
    Calls Try.prog 15 #[.string s] w fun e w' => ∃ ao cap, e = .returned (.tuple #[.slice ao L.length cap, .int .i64 (p : Int), .int .i64 r]) ∧ OwnW w' w.heap.size (.slice ao L.length cap) L ∧ Below w.heap.size w w' :=
  (cut_any s w hs).mono fun e w' ⟨v, he, ho, hb⟩ => by
    rw [h] at he ho
    obtain ⟨ao, cap, hv⟩ := ho.shape
    simp only at hv
    subst hv
    exact ⟨ao, cap, he, ho, hb⟩
set_option maxHeartbeats 4000000 in
theorem lives_any (w : World) :
    Calls Try.prog 10 #[] w fun e w' => e = .returned (.bool true) ∧ Below w.heap.size w w' := by
  have H1 := Lib.hid (fun w => cut_is (by decide) lvA w)
  have H2 := Lib.hid (fun w => cut_is (by decide) lvB w)
  have H3 := Lib.hid (fun w => cut_is (by decide) lvC w)
  have H4 := Lib.hid (fun w => quote_any ⟨#[97, 34, 98]⟩ w (by decide))
  rw [lvD, lvE] at H4
  have H5 := Lib.hid (fun (a : Nat) w h => join_any (some ⟨a, 0, none⟩) 3 (toI lvL1) w h (by decide) (by decide))
  rw [lvF, lvG] at H5
  have H6 := Lib.hid (fun (ao : Option Addr) (cap a : Nat) w h1 h2 => rSame_any ao (some ⟨a, 0, none⟩) cap 3 (toI lvL1) (toI lvL1) w h1 h2 (by decide) (by decide))
  rw [decide_eq_true (show toI lvL1 = toI lvL1 from rfl)] at H6
  have H7 := Lib.hid (fun w => code_any ⟨#[120, 95, 49]⟩ w (by decide))
  rw [lvH] at H7
  have H8 := Lib.hid (fun w => code_any ⟨#[]⟩ w (by decide))
  rw [lvI] at H8
  have H9 := Lib.hid (fun w => plain_any ⟨#[]⟩ w (by decide))
  rw [lvJ] at H9
  have t1 : ((bs [60, 61]).toList == [60, 61]) = true := by rw [bs_list]; decide
  have t2 : ((bs [46, 46]).toList == [46, 46]) = true := by rw [bs_list]; decide
  have t3 : ((bs [34, 97, 92, 34, 98, 34]).toList == [34, 97, 92, 34, 98, 34]) = true := by rw [bs_list]; decide
  have t4 : ((bs [112, 111, 115, 116, 32, 45, 49, 46, 53, 48, 32, 34, 97, 32, 98, 34]).toList == [112, 111, 115, 116, 32, 45, 49, 46, 53, 48, 32, 34, 97, 32, 98, 34]) = true := by rw [bs_list]; decide
  generalize bs [34, 97, 92, 34, 98, 34] = T3 at *
  generalize bs [112, 111, 115, 116, 32, 45, 49, 46, 53, 48, 32, 34, 97, 32, 98, 34] = T4 at *
  go_enter Try.func10, Try.ntmps10
  go_wp2_with fail
  refine (H1.out _).mono ?_
  rintro e W1 ⟨ao, cap, rfl, ho1, hb1⟩
  have HR1 := Lib.hid ho1.row
  have HB1 := Lib.hid hb1
  clear ho1 hb1
  go_wp2_with fail
  have HRw := Lib.hid (wWant_row W1)
  have HBw := Lib.hid (HB1.out.trans ((wWant_below W1).mono HB1.out.size))
  have HR1w := Lib.hid (HR1.out.below (wWant_below W1))
  refine (H2.out (wWant W1)).mono ?_
  generalize wWant W1 = W2 at *
  rintro e W3 ⟨ao2, cap2, rfl, ho2, hb2⟩
  have HRm := Lib.hid ho2.row
  have HRw3 := Lib.hid (HRw.out.below hb2)
  have HR13 := Lib.hid (HR1w.out.below hb2)
  have HB3 := Lib.hid (HBw.out.trans (hb2.mono HBw.out.size))
  clear ho2 hb2 HBw HR1w HRw
  go_wp2_with fail
  refine (H3.out _).mono ?_
  rintro e W4 ⟨ao3, cap3, rfl, ho3, hb3⟩
  have HRm4 := Lib.hid (HRm.out.below hb3)
  have HRw4 := Lib.hid (HRw3.out.below hb3)
  have HR14 := Lib.hid (HR13.out.below hb3)
  have HB4 := Lib.hid (HB3.out.trans (hb3.mono HB3.out.size))
  clear ho3 hb3 HB3 HR13 HRw3 HRm
  go_wp2_with fail
  refine (H4.out _).mono ?_
  rintro e W5 ⟨rfl, hb4⟩
  have HRm5 := Lib.hid (HRm4.out.below hb4)
  have HRw5 := Lib.hid (HRw4.out.below hb4)
  have HR15 := Lib.hid (HR14.out.below hb4)
  have HB5 := Lib.hid (HB4.out.trans (hb4.mono HB4.out.size))
  clear hb4 HB4 HR14 HRw4 HRm4
  go_wp2_with fail
  refine (H5.out _ _ HRw5.out).mono ?_
  rintro e W6 ⟨rfl, hb5⟩
  have HRm6 := Lib.hid (HRm5.out.below hb5)
  have HRw6 := Lib.hid (HRw5.out.below hb5)
  have HR16 := Lib.hid (HR15.out.below hb5)
  have HB6 := Lib.hid (HB5.out.trans (hb5.mono HB5.out.size))
  clear hb5 HB5 HR15 HRw5 HRm5
  go_wp2_with fail
  refine (H6.out _ _ _ _ HR16.out HRw6.out).mono ?_
  rintro e W7 ⟨rfl, hb6⟩
  have HRm7 := Lib.hid (HRm6.out.below hb6)
  have HB7 := Lib.hid (HB6.out.trans (hb6.mono HB6.out.size))
  clear hb6 HB6 HR16 HRw6 HRm6
  obtain ⟨b, off, he, hlb, _, m1, _⟩ := HRm7.out 1 (4, [60, 61], 1) rfl
  obtain ⟨b', off', he', _, _, m3, _⟩ := HRm7.out 3 (4, [46, 46], 4) rfl
  subst he
  injection he' with he'
  injection he' with hb8 hb9
  subst hb8
  subst hb9
  have m1' : W7.cell? ⟨b, off + 3 + 1, none⟩ = some (.string (bs [60, 61])) := m1
  have m3' : W7.cell? ⟨b, off + 9 + 1, none⟩ = some (.string (bs [46, 46])) := m3
  have m1'' : W7.cell? ⟨b, off + 4, none⟩ = some (.string (bs [60, 61])) := m1
  have m3'' : W7.cell? ⟨b, off + 10, none⟩ = some (.string (bs [46, 46])) := m3
  clear m1 m3
  go_wp2_with fail
  refine (H7.out _).mono ?_
  rintro e w_ ⟨rfl, rfl⟩
  go_wp2_with fail
  refine (H8.out _).mono ?_
  rintro e w_ ⟨rfl, rfl⟩
  go_wp2_with fail
  refine (H9.out _).mono ?_
  rintro e w_ ⟨rfl, rfl⟩
  go_wp2
  go_ret
  exact ⟨rfl, HB7.out⟩
end Go.Proofs.Ytfccpkjjbbmmaaa
