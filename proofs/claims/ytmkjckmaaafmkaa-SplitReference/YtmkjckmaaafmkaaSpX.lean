/- The law SplitReference returns true. Written by wip/mk_spw.py. -/
import Derived.Test.YtmkjckmaaafmkaaSpW
import Derived.Lib.QuietBelow
namespace Go.Proofs.Ytmkjckmaaafmkaa
open Go.RowKit Go.Sort
set_option linter.unusedVariables false
set_option linter.unusedSimpArgs false

set_option maxRecDepth 100000 in
set_option maxHeartbeats 4000000 in
theorem splitReference_walk (a0 : Int) (a1 : Option Addr) (len1 cap1 : Nat) (z1 : List Int) (w : World) (w0 : (Lit.int .i64 a0).wf = true) (w1 : IsRow .i64 w a1 len1 cap1 z1) :
    Calls Try.prog 3 #[.int .i64 a0, .slice a1 len1 cap1] w fun e w' => e = .returned (.bool true) ∧ Below w.heap.size w w' := by
  obtain ⟨x1, x2⟩ := i64_bd' w0
  obtain ⟨zs, rfl, hR, hnil, hlen⟩ := row_of w1
  clear w0 w1
  have hlen' : (zs.length : Int) ≤ 9223372036854775807 := by omega
  have HL := Lib.hid (fun W => lives_any W)
  have HM := Lib.hid (fun W => many_any a1 cap1 zs.length W)
  by_cases hm : 260 < zs.length
  · rw [show decide (260 < zs.length) = true from decide_eq_true hm] at HM
    have CE := Lib.hid (sh_err a0 a1 cap1 zs w hR hlen' x1 x2 (by rw [shE_many hm]; omega))
    rw [shE_many hm] at CE
    clear hR hm
    go_enter Try.func3, Try.ntmps3
    go_wp2_with fail
    refine (HM.out _).mono ?_
    rintro e w3 ⟨rfl, rfl⟩
    go_wp2_with fail
    refine CE.out.mono ?_
    rintro e w2 ⟨B, rfl, hb⟩
    have HB := Lib.hid hb
    clear hb
    go_wp2_with fail
    refine (HL.out _).mono ?_
    rintro e w4 ⟨rfl, hb4⟩
    go_wp2
    go_ret
    exact ⟨rfl, HB.out.trans (hb4.mono HB.out.size)⟩
  · rw [show decide (260 < zs.length) = false from decide_eq_false hm] at HM
    have HR0 := Lib.hid hR
    have HNil := Lib.hid hnil
    clear hR hnil
    have hle : (shO a0 zs).length ≤ 260 := by unfold shO; split <;> simp; omega
    have HSm := Lib.hid (fun A B W (hA : Row W A (shO a0 zs)) (hB : Row W B (shO a0 zs)) => same_any A B (shO a0 zs).length (shO a0 zs).length (shO a0 zs) (shO a0 zs) W hA hB (by omega) (by omega))
    have hd : decide (shO a0 zs = shO a0 zs) = true := by simp
    rw [hd] at HSm
    clear hd
    have HSw := Lib.hid (fun A B c d W (hA : Row W A zs) (hB : Row W B zs) => same_any A B c d zs zs W hA hB (by omega) (by omega))
    have hd : decide (zs = zs) = true := by simp
    rw [hd] at HSw
    clear hd
    go_enter Try.func3, Try.ntmps3
    go_wp2_with fail
    refine (HM.out _).mono ?_
    rintro e w3 ⟨rfl, rfl⟩
    have HOw := Lib.hid (own_none w 3)
    have HRv := Lib.hid (rowV_of (w' := w.alloc (.cells #[] 3)) (row_b HR0.out ((Below.refl _ _).alloc (Nat.le_refl _) _)))
    go_wp2_with (at_builtin; refine wpList_vals und_ints inf_int rfl (by omega) rfl (.tmp 25) (.tmp 26) rfl w.heap.size _ [] (zs.map (Value.int .i64)) rfl HOw.out a1 cap1 (by rw [List.length_map]; rfl) HNil.out HRv.out (by intro y hy; obtain ⟨z, _, rfl⟩ := List.mem_map.1 hy; rfl) (by simp; omega) (by simp) ?_; intro v' w2 hown hbel; obtain ⟨A, c, rfl, hrow⟩ := row_own (by simpa using hown) HR0.out.2; have HRo := Lib.hid hrow; have HB := Lib.hid (((Below.refl w.heap.size w).alloc (Nat.le_refl _) _).trans hbel); clear hown hbel hrow)
    have HRz := Lib.hid (row_b HR0.out HB.out)
    have CE := Lib.hid (shares_any a0 A c zs w2 HRo.out hlen' x1 x2)
    clear HR0 HOw HRv
    go_wp2_with fail
    refine CE.out.mono ?_
    intro e w4 hsp
    obtain ⟨ho, B, rfl, hr, hb⟩ := shP_shQ hsp
    have CR := Lib.hid (rShares_any a0 a1 cap1 zs w4 (row_b HRz.out hb) hlen' ho)
    have HRz := Lib.hid (row_b HRz.out hb)
    have HRo := Lib.hid (row_b HRo.out hb)
    have HRa := Lib.hid hr
    have HB := Lib.hid (HB.out.trans (hb.mono HB.out.size))
    clear hsp ho hr hb CE
    go_wp2_with fail
    refine CR.out.mono ?_
    rintro e w5 ⟨C, rfl, hr, hb⟩
    have HRz := Lib.hid (row_b HRz.out hb)
    have HRo := Lib.hid (row_b HRo.out hb)
    have CS := Lib.hid (HSm.out B C w5 (row_b HRa.out hb) hr)
    have HB := Lib.hid (HB.out.trans (hb.mono HB.out.size))
    clear hr hb CR HSm HRa hle
    generalize (shO a0 zs).length = m at *
    generalize shE a0 zs = er at *
    go_wp2_with fail
    refine CS.out.mono ?_
    rintro e w6 ⟨rfl, hb⟩
    have CW := Lib.hid (HSw.out A a1 c cap1 w6 (row_b HRo.out hb) (row_b HRz.out hb))
    have HB := Lib.hid (HB.out.trans (hb.mono HB.out.size))
    clear hb CS HRo HRz HSw
    go_wp2_with fail
    refine CW.out.mono ?_
    rintro e w7 ⟨rfl, hb⟩
    have HB := Lib.hid (HB.out.trans (hb.mono HB.out.size))
    clear hb
    go_wp2_with fail
    refine (HL.out _).mono ?_
    rintro e w8 ⟨rfl, hb⟩
    go_wp2
    go_ret
    exact ⟨rfl, HB.out.trans (hb.mono HB.out.size)⟩
end Go.Proofs.Ytmkjckmaaafmkaa
