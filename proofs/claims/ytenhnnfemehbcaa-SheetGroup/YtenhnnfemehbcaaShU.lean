/- The reference's compare, Cmp. Written by wip/mk_shu.py. -/
import Derived.Test.YtenhnnfemehbcaaShE
namespace Go.Proofs.Ytenhnnfemehbcaa
open Go.RowKit Go.Sort
set_option linter.unusedVariables false
set_option linter.unusedSimpArgs false

set_option maxHeartbeats 1000000 in
theorem rCompare_any (a b : ByteArray) (w : World) : Calls Try.prog 39 #[.string a, .string b] w fun e w' => e = .returned (.int .i64 (cmpS a b)) ∧ w' = w := by
  by_cases h1 : ltS a b = true
  · have hv := Lib.hid (show cmpS a b = -1 from by unfold cmpS; rw [if_pos h1])
    have h1' : Op.bytesLess a.toList b.toList = true := h1
    clear h1
    go_enter Try.func39, Try.ntmps39
    go_wp2
    go_ret
    exact ⟨ret_int hv.out.symm, rfl⟩
  · have h1' : Op.bytesLess a.toList b.toList = false := by simpa [ltS] using h1
    by_cases h2 : ltS b a = true
    · have hv := Lib.hid (show cmpS a b = 1 from by unfold cmpS; rw [if_neg h1, if_pos h2])
      have h2' : (a.toList == b.toList) = false := by
        have q := bytes_le a.toList b.toList
        rw [h1', show Op.bytesLess b.toList a.toList = true from h2] at q
        simpa using q
      clear h1 h2
      go_enter Try.func39, Try.ntmps39
      go_wp2
      go_ret
      exact ⟨ret_int hv.out.symm, rfl⟩
    · have hv := Lib.hid (show cmpS a b = 0 from by unfold cmpS; rw [if_neg h1, if_neg h2])
      have h2' : (a.toList == b.toList) = true := by
        have q := bytes_le a.toList b.toList
        rw [h1', show Op.bytesLess b.toList a.toList = false from by simpa [ltS] using h2] at q
        simpa using q
      clear h1 h2
      go_enter Try.func39, Try.ntmps39
      go_wp2
      go_ret
      exact ⟨ret_int hv.out.symm, rfl⟩
set_option maxRecDepth 100000 in
set_option maxHeartbeats 1000000 in
theorem rCmp5_any (a1 a2 a3 a4 a5 b1 b2 b3 b4 b5 : ByteArray) (w : World) :
    Calls Try.prog 13 #[.agg #[.string a1, .string a2, .string a3, .string a4, .string a5], .agg #[.string b1, .string b2, .string b3, .string b4, .string b5]] w fun e w' => e = .returned (.int .i64 (cmpK (a1, a2, a3, a4, a5) (b1, b2, b3, b4, b5))) ∧ Gb w w' := by
  have HV : Hid (cmpL ((kyL (a1, a2, a3, a4, a5)).drop 0) ((kyL (b1, b2, b3, b4, b5)).drop 0) = cmpK (a1, a2, a3, a4, a5) (b1, b2, b3, b4, b5)) := Lib.hid rfl
  generalize cmpK (a1, a2, a3, a4, a5) (b1, b2, b3, b4, b5) = V at *
  have h1 := Q5.alloc w (.string a1) (.string a2) (.string a3) (.string a4) (.string a5) 23
  have h2 := Q5.alloc (w.alloc (Obj.cells #[.string a1, .string a2, .string a3, .string a4, .string a5] 23)) (.string b1) (.string b2) (.string b3) (.string b4) (.string b5) 23
  have h3 := Q5.alloc ((w.alloc (Obj.cells #[.string a1, .string a2, .string a3, .string a4, .string a5] 23)).alloc (Obj.cells #[.string b1, .string b2, .string b3, .string b4, .string b5] 23)) (.string a1) (.string a2) (.string a3) (.string a4) (.string a5) 9
  have h4 := Q5.alloc (((w.alloc (Obj.cells #[.string a1, .string a2, .string a3, .string a4, .string a5] 23)).alloc (Obj.cells #[.string b1, .string b2, .string b3, .string b4, .string b5] 23)).alloc (Obj.cells #[.string a1, .string a2, .string a3, .string a4, .string a5] 9)) (.string b1) (.string b2) (.string b3) (.string b4) (.string b5) 9
  have g1 := Gb.alloc w (Obj.cells #[.string a1, .string a2, .string a3, .string a4, .string a5] 23)
  have g2 := Gb.alloc (w.alloc (Obj.cells #[.string a1, .string a2, .string a3, .string a4, .string a5] 23)) (Obj.cells #[.string b1, .string b2, .string b3, .string b4, .string b5] 23)
  have g3 := Gb.alloc ((w.alloc (Obj.cells #[.string a1, .string a2, .string a3, .string a4, .string a5] 23)).alloc (Obj.cells #[.string b1, .string b2, .string b3, .string b4, .string b5] 23)) (Obj.cells #[.string a1, .string a2, .string a3, .string a4, .string a5] 9)
  have g4 := Gb.alloc (((w.alloc (Obj.cells #[.string a1, .string a2, .string a3, .string a4, .string a5] 23)).alloc (Obj.cells #[.string b1, .string b2, .string b3, .string b4, .string b5] 23)).alloc (Obj.cells #[.string a1, .string a2, .string a3, .string a4, .string a5] 9)) (Obj.cells #[.string b1, .string b2, .string b3, .string b4, .string b5] 9)
  have k1 := h1.below g2.b
  have x0 := k1.c0
  have x1 := k1.c1
  have x2 := k1.c2
  have x3 := k1.c3
  have x4 := k1.c4
  have k2 := h2.below g3.b
  rw [World.size_alloc] at k2
  have y0 := k2.c0
  have y1 := k2.c1
  have y2 := k2.c2
  have y3 := k2.c3
  have y4 := k2.c4
  have HFl := Lib.hid (show Flds w a1 a2 a3 a4 a5 b1 b2 b3 b4 b5 ((w.alloc (Obj.cells #[.string a1, .string a2, .string a3, .string a4, .string a5] 23)).alloc (Obj.cells #[.string b1, .string b2, .string b3, .string b4, .string b5] 23)).heap.size (((w.alloc (Obj.cells #[.string a1, .string a2, .string a3, .string a4, .string a5] 23)).alloc (Obj.cells #[.string b1, .string b2, .string b3, .string b4, .string b5] 23)).alloc (Obj.cells #[.string a1, .string a2, .string a3, .string a4, .string a5] 9)).heap.size ((((w.alloc (Obj.cells #[.string a1, .string a2, .string a3, .string a4, .string a5] 23)).alloc (Obj.cells #[.string b1, .string b2, .string b3, .string b4, .string b5] 23)).alloc (Obj.cells #[.string a1, .string a2, .string a3, .string a4, .string a5] 9)).alloc (Obj.cells #[.string b1, .string b2, .string b3, .string b4, .string b5] 9)) from ⟨h3.below g4.b, h4, ((g1.trans g2).trans g3).trans g4⟩)
  have e2 : ((w.alloc (Obj.cells #[.string a1, .string a2, .string a3, .string a4, .string a5] 23)).alloc (Obj.cells #[.string b1, .string b2, .string b3, .string b4, .string b5] 23)).heap.size = w.heap.size + 2 := by simp
  have e3 : (((w.alloc (Obj.cells #[.string a1, .string a2, .string a3, .string a4, .string a5] 23)).alloc (Obj.cells #[.string b1, .string b2, .string b3, .string b4, .string b5] 23)).alloc (Obj.cells #[.string a1, .string a2, .string a3, .string a4, .string a5] 9)).heap.size = w.heap.size + 3 := by simp
  rw [e2, e3] at HFl
  have HC := Lib.hid rCompare_any
  clear h1 h2 h3 h4 g1 g2 g3 g4 k1 k2 e2 e3
  go_enter Try.func13, Try.ntmps13
  go_wp2
  clear x0 x1 x2 x3 x4 y0 y1 y2 y3 y4
  go_loopw [7] (fun x wr => ∃ k : Nat, k ≤ 5 ∧ x = .int .i64 k ∧ Hid (cmpL ((kyL (a1, a2, a3, a4, a5)).drop k) ((kyL (b1, b2, b3, b4, b5)).drop k) = V) ∧ Hid (Flds w a1 a2 a3 a4 a5 b1 b2 b3 b4 b5 (w.heap.size + 2) (w.heap.size + 3) wr)) (fun x _ => 5 - (intOf x).toNat)
  case atStart => exact ⟨0, by omega, rfl, HV, HFl⟩
  case round =>
    clear HV HFl
    obtain ⟨k, hk, rfl, HV, HFl⟩ := hrel
    by_cases h : k < 5
    · have h' : (k : Int) < 5 := by omega
      have hat := HFl.out.at h
      obtain ⟨z1, z2⟩ := hat
      have HN := Lib.hid (cmpL_at (x := (kyL (a1, a2, a3, a4, a5))) (y := (kyL (b1, b2, b3, b4, b5))) (i := k) (by exact h) (by exact h))
      generalize (kyL (a1, a2, a3, a4, a5))[k]! = s1 at *
      generalize (kyL (b1, b2, b3, b4, b5))[k]! = s2 at *
      have HC1 := Lib.hid (fun W => HC.out s1 s2 W)
      obtain ⟨c, hc⟩ : ∃ c, cmpS s1 s2 = c := ⟨_, rfl⟩
      rw [hc] at HC1
      have HE := Lib.hid (show cmpL ((kyL (a1, a2, a3, a4, a5)).drop k) ((kyL (b1, b2, b3, b4, b5)).drop k) = if c = 0 then cmpL ((kyL (a1, a2, a3, a4, a5)).drop (k + 1)) ((kyL (b1, b2, b3, b4, b5)).drop (k + 1)) else c from by rw [HN.out, hc])
      clear hc HN
      by_cases e : c = 0
      · subst e
        have HV1 := Lib.hid (show cmpL ((kyL (a1, a2, a3, a4, a5)).drop (k + 1)) ((kyL (b1, b2, b3, b4, b5)).drop (k + 1)) = V from by rw [← HV.out, HE.out, if_pos rfl])
        go_wp2_with fail
        go_quiet ((go_at_call 39; exact Calls.quiet_of_same (HC1.out _)))
        have HD := Lib.hid (HFl.out.step (Gb.drewN wr nq))
        clear HFl
        go_wp2
        go_roundw
        case rel => exact ⟨k + 1, by omega, by go_num, HV1, HD⟩
        case measure => simp [intOf]; omega
      · have HV1 := Lib.hid (show c = V from by rw [← HV.out, HE.out, if_neg e])
        have e' : (c != 0) = true := by simpa using e
        go_wp2_with fail
        go_quiet ((go_at_call 39; exact Calls.quiet_of_same (HC1.out _)))
        have HD := Lib.hid (HFl.out.step (Gb.drewN wr nq))
        clear HFl
        go_wp2
        go_ret
        exact ⟨ret_int HV1.out, HD.out.2.2⟩
    · obtain rfl : k = 5 := by omega
      have HV1 := Lib.hid (show (0 : Int) = V from by rw [← HV.out]; rfl)
      go_wp2
      go_ret
      exact ⟨ret_int HV1.out, HFl.out.2.2⟩
theorem rCmp_any (a b : Ky) (w : World) : Calls Try.prog 13 #[.agg (kyC a).toArray, .agg (kyC b).toArray] w fun e w' => e = .returned (.int .i64 (cmpK a b)) ∧ Gb w w' := by
  obtain ⟨a1, a2, a3, a4, a5⟩ := a
  obtain ⟨b1, b2, b3, b4, b5⟩ := b
  exact rCmp5_any a1 a2 a3 a4 a5 b1 b2 b3 b4 b5 w
end Go.Proofs.Ytenhnnfemehbcaa
