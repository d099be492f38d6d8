/- The reference's Match. Written by wip/mk_shv.py. -/
import Derived.Test.YtenhnnfemehbcaaShU
namespace Go.Proofs.Ytenhnnfemehbcaa
open Go.RowKit Go.Sort
set_option linter.unusedVariables false
set_option linter.unusedSimpArgs false

theorem str_ne0 {a : ByteArray} (h : a ≠ ⟨#[]⟩) : (a.toList == ([] : List UInt8)) = false := by
  have q := str_ne.2 h
  rw [ByteArray.toList_eq ⟨#[]⟩] at q
  exact q
set_option maxHeartbeats 1000000 in
theorem rm_x (a1 a2 a3 a4 a5 b1 b2 b3 b4 b5 : ByteArray) (n1 : a1 ≠ ⟨#[]⟩) (d1 : a1 ≠ b1) (w : World) :
    Calls Try.prog 15 #[.agg #[.string a1, .string a2, .string a3, .string a4, .string a5], .agg #[.string b1, .string b2, .string b3, .string b4, .string b5]] w fun e w' => e = .returned (.bool (mtK (a1, a2, a3, a4, a5) (b1, b2, b3, b4, b5))) ∧ Gb w w' := by
  have HV := Lib.hid (show mtK (a1, a2, a3, a4, a5) (b1, b2, b3, b4, b5) = false from by simp [mtK, mtL, kyL, n1, d1])
  rw [HV.out]
  have h1 := Q5.alloc w (.string a1) (.string a2) (.string a3) (.string a4) (.string a5) 23
  have h2 := Q5.alloc (w.alloc (Obj.cells #[.string a1, .string a2, .string a3, .string a4, .string a5] 23)) (.string b1) (.string b2) (.string b3) (.string b4) (.string b5) 23
  rw [World.size_alloc] at h2
  have g1 := Gb.alloc w (Obj.cells #[.string a1, .string a2, .string a3, .string a4, .string a5] 23)
  have g2 := Gb.alloc (w.alloc (Obj.cells #[.string a1, .string a2, .string a3, .string a4, .string a5] 23)) (Obj.cells #[.string b1, .string b2, .string b3, .string b4, .string b5] 23)
  have k1 := h1.below g2.b
  have x0 := k1.c0
  have x1 := k1.c1
  have x2 := k1.c2
  have x3 := k1.c3
  have x4 := k1.c4
  have y0 := h2.c0
  have y1 := h2.c1
  have y2 := h2.c2
  have y3 := h2.c3
  have y4 := h2.c4
  have HG := Lib.hid (g1.trans g2)
  clear HV h1 h2 g1 g2 k1
  have m1 := str_ne.2 n1
  have l1 := str_ne0 n1
  have g1 := str_ne.2 d1
  clear n1 d1
  go_enter Try.func15, Try.ntmps15
  go_wp2
  go_ret
  exact ⟨rfl, HG.out⟩
set_option maxHeartbeats 1000000 in
theorem rm_ex (a2 a3 a4 a5 b1 b2 b3 b4 b5 : ByteArray) (n2 : a2 ≠ ⟨#[]⟩) (d2 : a2 ≠ b2) (w : World) :
    Calls Try.prog 15 #[.agg #[.string ⟨#[]⟩, .string a2, .string a3, .string a4, .string a5], .agg #[.string b1, .string b2, .string b3, .string b4, .string b5]] w fun e w' => e = .returned (.bool (mtK (⟨#[]⟩, a2, a3, a4, a5) (b1, b2, b3, b4, b5))) ∧ Gb w w' := by
  have HV := Lib.hid (show mtK (⟨#[]⟩, a2, a3, a4, a5) (b1, b2, b3, b4, b5) = false from by simp [mtK, mtL, kyL, n2, d2])
  rw [HV.out]
  have h1 := Q5.alloc w (.string ⟨#[]⟩) (.string a2) (.string a3) (.string a4) (.string a5) 23
  have h2 := Q5.alloc (w.alloc (Obj.cells #[.string ⟨#[]⟩, .string a2, .string a3, .string a4, .string a5] 23)) (.string b1) (.string b2) (.string b3) (.string b4) (.string b5) 23
  rw [World.size_alloc] at h2
  have g1 := Gb.alloc w (Obj.cells #[.string ⟨#[]⟩, .string a2, .string a3, .string a4, .string a5] 23)
  have g2 := Gb.alloc (w.alloc (Obj.cells #[.string ⟨#[]⟩, .string a2, .string a3, .string a4, .string a5] 23)) (Obj.cells #[.string b1, .string b2, .string b3, .string b4, .string b5] 23)
  have k1 := h1.below g2.b
  have x0 := k1.c0
  have x1 := k1.c1
  have x2 := k1.c2
  have x3 := k1.c3
  have x4 := k1.c4
  have y0 := h2.c0
  have y1 := h2.c1
  have y2 := h2.c2
  have y3 := h2.c3
  have y4 := h2.c4
  have HG := Lib.hid (g1.trans g2)
  clear HV h1 h2 g1 g2 k1
  have m2 := str_ne.2 n2
  have l2 := str_ne0 n2
  have g2 := str_ne.2 d2
  clear n2 d2
  go_enter Try.func15, Try.ntmps15
  go_wp2
  go_ret
  exact ⟨rfl, HG.out⟩
set_option maxHeartbeats 1000000 in
theorem rm_eex (a3 a4 a5 b1 b2 b3 b4 b5 : ByteArray) (n3 : a3 ≠ ⟨#[]⟩) (d3 : a3 ≠ b3) (w : World) :
    Calls Try.prog 15 #[.agg #[.string ⟨#[]⟩, .string ⟨#[]⟩, .string a3, .string a4, .string a5], .agg #[.string b1, .string b2, .string b3, .string b4, .string b5]] w fun e w' => e = .returned (.bool (mtK (⟨#[]⟩, ⟨#[]⟩, a3, a4, a5) (b1, b2, b3, b4, b5))) ∧ Gb w w' := by
  have HV := Lib.hid (show mtK (⟨#[]⟩, ⟨#[]⟩, a3, a4, a5) (b1, b2, b3, b4, b5) = false from by simp [mtK, mtL, kyL, n3, d3])
  rw [HV.out]
  have h1 := Q5.alloc w (.string ⟨#[]⟩) (.string ⟨#[]⟩) (.string a3) (.string a4) (.string a5) 23
  have h2 := Q5.alloc (w.alloc (Obj.cells #[.string ⟨#[]⟩, .string ⟨#[]⟩, .string a3, .string a4, .string a5] 23)) (.string b1) (.string b2) (.string b3) (.string b4) (.string b5) 23
  rw [World.size_alloc] at h2
  have g1 := Gb.alloc w (Obj.cells #[.string ⟨#[]⟩, .string ⟨#[]⟩, .string a3, .string a4, .string a5] 23)
  have g2 := Gb.alloc (w.alloc (Obj.cells #[.string ⟨#[]⟩, .string ⟨#[]⟩, .string a3, .string a4, .string a5] 23)) (Obj.cells #[.string b1, .string b2, .string b3, .string b4, .string b5] 23)
  have k1 := h1.below g2.b
  have x0 := k1.c0
  have x1 := k1.c1
  have x2 := k1.c2
  have x3 := k1.c3
  have x4 := k1.c4
  have y0 := h2.c0
  have y1 := h2.c1
  have y2 := h2.c2
  have y3 := h2.c3
  have y4 := h2.c4
  have HG := Lib.hid (g1.trans g2)
  clear HV h1 h2 g1 g2 k1
  have m3 := str_ne.2 n3
  have l3 := str_ne0 n3
  have g3 := str_ne.2 d3
  clear n3 d3
  go_enter Try.func15, Try.ntmps15
  go_wp2
  go_ret
  exact ⟨rfl, HG.out⟩
set_option maxHeartbeats 1000000 in
theorem rm_eeex (a4 a5 b1 b2 b3 b4 b5 : ByteArray) (n4 : a4 ≠ ⟨#[]⟩) (d4 : a4 ≠ b4) (w : World) :
    Calls Try.prog 15 #[.agg #[.string ⟨#[]⟩, .string ⟨#[]⟩, .string ⟨#[]⟩, .string a4, .string a5], .agg #[.string b1, .string b2, .string b3, .string b4, .string b5]] w fun e w' => e = .returned (.bool (mtK (⟨#[]⟩, ⟨#[]⟩, ⟨#[]⟩, a4, a5) (b1, b2, b3, b4, b5))) ∧ Gb w w' := by
  have HV := Lib.hid (show mtK (⟨#[]⟩, ⟨#[]⟩, ⟨#[]⟩, a4, a5) (b1, b2, b3, b4, b5) = false from by simp [mtK, mtL, kyL, n4, d4])
  rw [HV.out]
  have h1 := Q5.alloc w (.string ⟨#[]⟩) (.string ⟨#[]⟩) (.string ⟨#[]⟩) (.string a4) (.string a5) 23
  have h2 := Q5.alloc (w.alloc (Obj.cells #[.string ⟨#[]⟩, .string ⟨#[]⟩, .string ⟨#[]⟩, .string a4, .string a5] 23)) (.string b1) (.string b2) (.string b3) (.string b4) (.string b5) 23
  rw [World.size_alloc] at h2
  have g1 := Gb.alloc w (Obj.cells #[.string ⟨#[]⟩, .string ⟨#[]⟩, .string ⟨#[]⟩, .string a4, .string a5] 23)
  have g2 := Gb.alloc (w.alloc (Obj.cells #[.string ⟨#[]⟩, .string ⟨#[]⟩, .string ⟨#[]⟩, .string a4, .string a5] 23)) (Obj.cells #[.string b1, .string b2, .string b3, .string b4, .string b5] 23)
  have k1 := h1.below g2.b
  have x0 := k1.c0
  have x1 := k1.c1
  have x2 := k1.c2
  have x3 := k1.c3
  have x4 := k1.c4
  have y0 := h2.c0
  have y1 := h2.c1
  have y2 := h2.c2
  have y3 := h2.c3
  have y4 := h2.c4
  have HG := Lib.hid (g1.trans g2)
  clear HV h1 h2 g1 g2 k1
  have m4 := str_ne.2 n4
  have l4 := str_ne0 n4
  have g4 := str_ne.2 d4
  clear n4 d4
  go_enter Try.func15, Try.ntmps15
  go_wp2
  go_ret
  exact ⟨rfl, HG.out⟩
set_option maxHeartbeats 1000000 in
theorem rm_eeeex (a5 b1 b2 b3 b4 b5 : ByteArray) (n5 : a5 ≠ ⟨#[]⟩) (d5 : a5 ≠ b5) (w : World) :
    Calls Try.prog 15 #[.agg #[.string ⟨#[]⟩, .string ⟨#[]⟩, .string ⟨#[]⟩, .string ⟨#[]⟩, .string a5], .agg #[.string b1, .string b2, .string b3, .string b4, .string b5]] w fun e w' => e = .returned (.bool (mtK (⟨#[]⟩, ⟨#[]⟩, ⟨#[]⟩, ⟨#[]⟩, a5) (b1, b2, b3, b4, b5))) ∧ Gb w w' := by
  have HV := Lib.hid (show mtK (⟨#[]⟩, ⟨#[]⟩, ⟨#[]⟩, ⟨#[]⟩, a5) (b1, b2, b3, b4, b5) = false from by simp [mtK, mtL, kyL, n5, d5])
  rw [HV.out]
  have h1 := Q5.alloc w (.string ⟨#[]⟩) (.string ⟨#[]⟩) (.string ⟨#[]⟩) (.string ⟨#[]⟩) (.string a5) 23
  have h2 := Q5.alloc (w.alloc (Obj.cells #[.string ⟨#[]⟩, .string ⟨#[]⟩, .string ⟨#[]⟩, .string ⟨#[]⟩, .string a5] 23)) (.string b1) (.string b2) (.string b3) (.string b4) (.string b5) 23
  rw [World.size_alloc] at h2
  have g1 := Gb.alloc w (Obj.cells #[.string ⟨#[]⟩, .string ⟨#[]⟩, .string ⟨#[]⟩, .string ⟨#[]⟩, .string a5] 23)
  have g2 := Gb.alloc (w.alloc (Obj.cells #[.string ⟨#[]⟩, .string ⟨#[]⟩, .string ⟨#[]⟩, .string ⟨#[]⟩, .string a5] 23)) (Obj.cells #[.string b1, .string b2, .string b3, .string b4, .string b5] 23)
  have k1 := h1.below g2.b
  have x0 := k1.c0
  have x1 := k1.c1
  have x2 := k1.c2
  have x3 := k1.c3
  have x4 := k1.c4
  have y0 := h2.c0
  have y1 := h2.c1
  have y2 := h2.c2
  have y3 := h2.c3
  have y4 := h2.c4
  have HG := Lib.hid (g1.trans g2)
  clear HV h1 h2 g1 g2 k1
  have m5 := str_ne.2 n5
  have l5 := str_ne0 n5
  have g5 := str_ne.2 d5
  clear n5 d5
  go_enter Try.func15, Try.ntmps15
  go_wp2
  go_ret
  exact ⟨rfl, HG.out⟩
set_option maxHeartbeats 1000000 in
theorem rm_eeeee (b1 b2 b3 b4 b5 : ByteArray)  (w : World) :
    Calls Try.prog 15 #[.agg #[.string ⟨#[]⟩, .string ⟨#[]⟩, .string ⟨#[]⟩, .string ⟨#[]⟩, .string ⟨#[]⟩], .agg #[.string b1, .string b2, .string b3, .string b4, .string b5]] w fun e w' => e = .returned (.bool (mtK (⟨#[]⟩, ⟨#[]⟩, ⟨#[]⟩, ⟨#[]⟩, ⟨#[]⟩) (b1, b2, b3, b4, b5))) ∧ Gb w w' := by
  have HV := Lib.hid (show mtK (⟨#[]⟩, ⟨#[]⟩, ⟨#[]⟩, ⟨#[]⟩, ⟨#[]⟩) (b1, b2, b3, b4, b5) = true from by simp [mtK, mtL, kyL])
  rw [HV.out]
  have h1 := Q5.alloc w (.string ⟨#[]⟩) (.string ⟨#[]⟩) (.string ⟨#[]⟩) (.string ⟨#[]⟩) (.string ⟨#[]⟩) 23
  have h2 := Q5.alloc (w.alloc (Obj.cells #[.string ⟨#[]⟩, .string ⟨#[]⟩, .string ⟨#[]⟩, .string ⟨#[]⟩, .string ⟨#[]⟩] 23)) (.string b1) (.string b2) (.string b3) (.string b4) (.string b5) 23
  rw [World.size_alloc] at h2
  have g1 := Gb.alloc w (Obj.cells #[.string ⟨#[]⟩, .string ⟨#[]⟩, .string ⟨#[]⟩, .string ⟨#[]⟩, .string ⟨#[]⟩] 23)
  have g2 := Gb.alloc (w.alloc (Obj.cells #[.string ⟨#[]⟩, .string ⟨#[]⟩, .string ⟨#[]⟩, .string ⟨#[]⟩, .string ⟨#[]⟩] 23)) (Obj.cells #[.string b1, .string b2, .string b3, .string b4, .string b5] 23)
  have k1 := h1.below g2.b
  have x0 := k1.c0
  have x1 := k1.c1
  have x2 := k1.c2
  have x3 := k1.c3
  have x4 := k1.c4
  have y0 := h2.c0
  have y1 := h2.c1
  have y2 := h2.c2
  have y3 := h2.c3
  have y4 := h2.c4
  have HG := Lib.hid (g1.trans g2)
  clear HV h1 h2 g1 g2 k1
  go_enter Try.func15, Try.ntmps15
  go_wp2
  go_ret
  exact ⟨rfl, HG.out⟩
set_option maxHeartbeats 1000000 in
theorem rm_eeeeq (a5 b1 b2 b3 b4 : ByteArray) (n5 : a5 ≠ ⟨#[]⟩) (w : World) :
    Calls Try.prog 15 #[.agg #[.string ⟨#[]⟩, .string ⟨#[]⟩, .string ⟨#[]⟩, .string ⟨#[]⟩, .string a5], .agg #[.string b1, .string b2, .string b3, .string b4, .string a5]] w fun e w' => e = .returned (.bool (mtK (⟨#[]⟩, ⟨#[]⟩, ⟨#[]⟩, ⟨#[]⟩, a5) (b1, b2, b3, b4, a5))) ∧ Gb w w' := by
  have HV := Lib.hid (show mtK (⟨#[]⟩, ⟨#[]⟩, ⟨#[]⟩, ⟨#[]⟩, a5) (b1, b2, b3, b4, a5) = true from by simp [mtK, mtL, kyL, n5])
  rw [HV.out]
  have h1 := Q5.alloc w (.string ⟨#[]⟩) (.string ⟨#[]⟩) (.string ⟨#[]⟩) (.string ⟨#[]⟩) (.string a5) 23
  have h2 := Q5.alloc (w.alloc (Obj.cells #[.string ⟨#[]⟩, .string ⟨#[]⟩, .string ⟨#[]⟩, .string ⟨#[]⟩, .string a5] 23)) (.string b1) (.string b2) (.string b3) (.string b4) (.string a5) 23
  rw [World.size_alloc] at h2
  have g1 := Gb.alloc w (Obj.cells #[.string ⟨#[]⟩, .string ⟨#[]⟩, .string ⟨#[]⟩, .string ⟨#[]⟩, .string a5] 23)
  have g2 := Gb.alloc (w.alloc (Obj.cells #[.string ⟨#[]⟩, .string ⟨#[]⟩, .string ⟨#[]⟩, .string ⟨#[]⟩, .string a5] 23)) (Obj.cells #[.string b1, .string b2, .string b3, .string b4, .string a5] 23)
  have k1 := h1.below g2.b
  have x0 := k1.c0
  have x1 := k1.c1
  have x2 := k1.c2
  have x3 := k1.c3
  have x4 := k1.c4
  have y0 := h2.c0
  have y1 := h2.c1
  have y2 := h2.c2
  have y3 := h2.c3
  have y4 := h2.c4
  have HG := Lib.hid (g1.trans g2)
  clear HV h1 h2 g1 g2 k1
  have m5 := str_ne.2 n5
  have l5 := str_ne0 n5
  clear n5
  go_enter Try.func15, Try.ntmps15
  go_wp2
  go_ret
  exact ⟨rfl, HG.out⟩
set_option maxHeartbeats 1000000 in
theorem rm_eeeqx (a4 a5 b1 b2 b3 b5 : ByteArray) (n4 : a4 ≠ ⟨#[]⟩) (n5 : a5 ≠ ⟨#[]⟩) (d5 : a5 ≠ b5) (w : World) :
    Calls Try.prog 15 #[.agg #[.string ⟨#[]⟩, .string ⟨#[]⟩, .string ⟨#[]⟩, .string a4, .string a5], .agg #[.string b1, .string b2, .string b3, .string a4, .string b5]] w fun e w' => e = .returned (.bool (mtK (⟨#[]⟩, ⟨#[]⟩, ⟨#[]⟩, a4, a5) (b1, b2, b3, a4, b5))) ∧ Gb w w' := by
  have HV := Lib.hid (show mtK (⟨#[]⟩, ⟨#[]⟩, ⟨#[]⟩, a4, a5) (b1, b2, b3, a4, b5) = false from by simp [mtK, mtL, kyL, n4, n5, d5])
  rw [HV.out]
  have h1 := Q5.alloc w (.string ⟨#[]⟩) (.string ⟨#[]⟩) (.string ⟨#[]⟩) (.string a4) (.string a5) 23
  have h2 := Q5.alloc (w.alloc (Obj.cells #[.string ⟨#[]⟩, .string ⟨#[]⟩, .string ⟨#[]⟩, .string a4, .string a5] 23)) (.string b1) (.string b2) (.string b3) (.string a4) (.string b5) 23
  rw [World.size_alloc] at h2
  have g1 := Gb.alloc w (Obj.cells #[.string ⟨#[]⟩, .string ⟨#[]⟩, .string ⟨#[]⟩, .string a4, .string a5] 23)
  have g2 := Gb.alloc (w.alloc (Obj.cells #[.string ⟨#[]⟩, .string ⟨#[]⟩, .string ⟨#[]⟩, .string a4, .string a5] 23)) (Obj.cells #[.string b1, .string b2, .string b3, .string a4, .string b5] 23)
  have k1 := h1.below g2.b
  have x0 := k1.c0
  have x1 := k1.c1
  have x2 := k1.c2
  have x3 := k1.c3
  have x4 := k1.c4
  have y0 := h2.c0
  have y1 := h2.c1
  have y2 := h2.c2
  have y3 := h2.c3
  have y4 := h2.c4
  have HG := Lib.hid (g1.trans g2)
  clear HV h1 h2 g1 g2 k1
  have m4 := str_ne.2 n4
  have l4 := str_ne0 n4
  have m5 := str_ne.2 n5
  have l5 := str_ne0 n5
  have g5 := str_ne.2 d5
  clear n4 n5 d5
  go_enter Try.func15, Try.ntmps15
  go_wp2
  go_ret
  exact ⟨rfl, HG.out⟩
set_option maxHeartbeats 1000000 in
theorem rm_eeeqe (a4 b1 b2 b3 b5 : ByteArray) (n4 : a4 ≠ ⟨#[]⟩) (w : World) :
    Calls Try.prog 15 #[.agg #[.string ⟨#[]⟩, .string ⟨#[]⟩, .string ⟨#[]⟩, .string a4, .string ⟨#[]⟩], .agg #[.string b1, .string b2, .string b3, .string a4, .string b5]] w fun e w' => e = .returned (.bool (mtK (⟨#[]⟩, ⟨#[]⟩, ⟨#[]⟩, a4, ⟨#[]⟩) (b1, b2, b3, a4, b5))) ∧ Gb w w' := by
  have HV := Lib.hid (show mtK (⟨#[]⟩, ⟨#[]⟩, ⟨#[]⟩, a4, ⟨#[]⟩) (b1, b2, b3, a4, b5) = true from by simp [mtK, mtL, kyL, n4])
  rw [HV.out]
  have h1 := Q5.alloc w (.string ⟨#[]⟩) (.string ⟨#[]⟩) (.string ⟨#[]⟩) (.string a4) (.string ⟨#[]⟩) 23
  have h2 := Q5.alloc (w.alloc (Obj.cells #[.string ⟨#[]⟩, .string ⟨#[]⟩, .string ⟨#[]⟩, .string a4, .string ⟨#[]⟩] 23)) (.string b1) (.string b2) (.string b3) (.string a4) (.string b5) 23
  rw [World.size_alloc] at h2
  have g1 := Gb.alloc w (Obj.cells #[.string ⟨#[]⟩, .string ⟨#[]⟩, .string ⟨#[]⟩, .string a4, .string ⟨#[]⟩] 23)
  have g2 := Gb.alloc (w.alloc (Obj.cells #[.string ⟨#[]⟩, .string ⟨#[]⟩, .string ⟨#[]⟩, .string a4, .string ⟨#[]⟩] 23)) (Obj.cells #[.string b1, .string b2, .string b3, .string a4, .string b5] 23)
  have k1 := h1.below g2.b
  have x0 := k1.c0
  have x1 := k1.c1
  have x2 := k1.c2
  have x3 := k1.c3
  have x4 := k1.c4
  have y0 := h2.c0
  have y1 := h2.c1
  have y2 := h2.c2
  have y3 := h2.c3
  have y4 := h2.c4
  have HG := Lib.hid (g1.trans g2)
  clear HV h1 h2 g1 g2 k1
  have m4 := str_ne.2 n4
  have l4 := str_ne0 n4
  clear n4
  go_enter Try.func15, Try.ntmps15
  go_wp2
  go_ret
  exact ⟨rfl, HG.out⟩
set_option maxHeartbeats 1000000 in
theorem rm_eeeqq (a4 a5 b1 b2 b3 : ByteArray) (n4 : a4 ≠ ⟨#[]⟩) (n5 : a5 ≠ ⟨#[]⟩) (w : World) :
    Calls Try.prog 15 #[.agg #[.string ⟨#[]⟩, .string ⟨#[]⟩, .string ⟨#[]⟩, .string a4, .string a5], .agg #[.string b1, .string b2, .string b3, .string a4, .string a5]] w fun e w' => e = .returned (.bool (mtK (⟨#[]⟩, ⟨#[]⟩, ⟨#[]⟩, a4, a5) (b1, b2, b3, a4, a5))) ∧ Gb w w' := by
  have HV := Lib.hid (show mtK (⟨#[]⟩, ⟨#[]⟩, ⟨#[]⟩, a4, a5) (b1, b2, b3, a4, a5) = true from by simp [mtK, mtL, kyL, n4, n5])
  rw [HV.out]
  have h1 := Q5.alloc w (.string ⟨#[]⟩) (.string ⟨#[]⟩) (.string ⟨#[]⟩) (.string a4) (.string a5) 23
  have h2 := Q5.alloc (w.alloc (Obj.cells #[.string ⟨#[]⟩, .string ⟨#[]⟩, .string ⟨#[]⟩, .string a4, .string a5] 23)) (.string b1) (.string b2) (.string b3) (.string a4) (.string a5) 23
  rw [World.size_alloc] at h2
  have g1 := Gb.alloc w (Obj.cells #[.string ⟨#[]⟩, .string ⟨#[]⟩, .string ⟨#[]⟩, .string a4, .string a5] 23)
  have g2 := Gb.alloc (w.alloc (Obj.cells #[.string ⟨#[]⟩, .string ⟨#[]⟩, .string ⟨#[]⟩, .string a4, .string a5] 23)) (Obj.cells #[.string b1, .string b2, .string b3, .string a4, .string a5] 23)
  have k1 := h1.below g2.b
  have x0 := k1.c0
  have x1 := k1.c1
  have x2 := k1.c2
  have x3 := k1.c3
  have x4 := k1.c4
  have y0 := h2.c0
  have y1 := h2.c1
  have y2 := h2.c2
  have y3 := h2.c3
  have y4 := h2.c4
  have HG := Lib.hid (g1.trans g2)
  clear HV h1 h2 g1 g2 k1
  have m4 := str_ne.2 n4
  have l4 := str_ne0 n4
  have m5 := str_ne.2 n5
  have l5 := str_ne0 n5
  clear n4 n5
  go_enter Try.func15, Try.ntmps15
  go_wp2
  go_ret
  exact ⟨rfl, HG.out⟩
set_option maxHeartbeats 1000000 in
theorem rm_eeqx (a3 a4 a5 b1 b2 b4 b5 : ByteArray) (n3 : a3 ≠ ⟨#[]⟩) (n4 : a4 ≠ ⟨#[]⟩) (d4 : a4 ≠ b4) (w : World) :
    Calls Try.prog 15 #[.agg #[.string ⟨#[]⟩, .string ⟨#[]⟩, .string a3, .string a4, .string a5], .agg #[.string b1, .string b2, .string a3, .string b4, .string b5]] w fun e w' => e = .returned (.bool (mtK (⟨#[]⟩, ⟨#[]⟩, a3, a4, a5) (b1, b2, a3, b4, b5))) ∧ Gb w w' := by
  have HV := Lib.hid (show mtK (⟨#[]⟩, ⟨#[]⟩, a3, a4, a5) (b1, b2, a3, b4, b5) = false from by simp [mtK, mtL, kyL, n3, n4, d4])
  rw [HV.out]
  have h1 := Q5.alloc w (.string ⟨#[]⟩) (.string ⟨#[]⟩) (.string a3) (.string a4) (.string a5) 23
  have h2 := Q5.alloc (w.alloc (Obj.cells #[.string ⟨#[]⟩, .string ⟨#[]⟩, .string a3, .string a4, .string a5] 23)) (.string b1) (.string b2) (.string a3) (.string b4) (.string b5) 23
  rw [World.size_alloc] at h2
  have g1 := Gb.alloc w (Obj.cells #[.string ⟨#[]⟩, .string ⟨#[]⟩, .string a3, .string a4, .string a5] 23)
  have g2 := Gb.alloc (w.alloc (Obj.cells #[.string ⟨#[]⟩, .string ⟨#[]⟩, .string a3, .string a4, .string a5] 23)) (Obj.cells #[.string b1, .string b2, .string a3, .string b4, .string b5] 23)
  have k1 := h1.below g2.b
  have x0 := k1.c0
  have x1 := k1.c1
  have x2 := k1.c2
  have x3 := k1.c3
  have x4 := k1.c4
  have y0 := h2.c0
  have y1 := h2.c1
  have y2 := h2.c2
  have y3 := h2.c3
  have y4 := h2.c4
  have HG := Lib.hid (g1.trans g2)
  clear HV h1 h2 g1 g2 k1
  have m3 := str_ne.2 n3
  have l3 := str_ne0 n3
  have m4 := str_ne.2 n4
  have l4 := str_ne0 n4
  have g4 := str_ne.2 d4
  clear n3 n4 d4
  go_enter Try.func15, Try.ntmps15
  go_wp2
  go_ret
  exact ⟨rfl, HG.out⟩
set_option maxHeartbeats 1000000 in
theorem rm_eeqex (a3 a5 b1 b2 b4 b5 : ByteArray) (n3 : a3 ≠ ⟨#[]⟩) (n5 : a5 ≠ ⟨#[]⟩) (d5 : a5 ≠ b5) (w : World) :
    Calls Try.prog 15 #[.agg #[.string ⟨#[]⟩, .string ⟨#[]⟩, .string a3, .string ⟨#[]⟩, .string a5], .agg #[.string b1, .string b2, .string a3, .string b4, .string b5]] w fun e w' => e = .returned (.bool (mtK (⟨#[]⟩, ⟨#[]⟩, a3, ⟨#[]⟩, a5) (b1, b2, a3, b4, b5))) ∧ Gb w w' := by
  have HV := Lib.hid (show mtK (⟨#[]⟩, ⟨#[]⟩, a3, ⟨#[]⟩, a5) (b1, b2, a3, b4, b5) = false from by simp [mtK, mtL, kyL, n3, n5, d5])
  rw [HV.out]
  have h1 := Q5.alloc w (.string ⟨#[]⟩) (.string ⟨#[]⟩) (.string a3) (.string ⟨#[]⟩) (.string a5) 23
  have h2 := Q5.alloc (w.alloc (Obj.cells #[.string ⟨#[]⟩, .string ⟨#[]⟩, .string a3, .string ⟨#[]⟩, .string a5] 23)) (.string b1) (.string b2) (.string a3) (.string b4) (.string b5) 23
  rw [World.size_alloc] at h2
  have g1 := Gb.alloc w (Obj.cells #[.string ⟨#[]⟩, .string ⟨#[]⟩, .string a3, .string ⟨#[]⟩, .string a5] 23)
  have g2 := Gb.alloc (w.alloc (Obj.cells #[.string ⟨#[]⟩, .string ⟨#[]⟩, .string a3, .string ⟨#[]⟩, .string a5] 23)) (Obj.cells #[.string b1, .string b2, .string a3, .string b4, .string b5] 23)
  have k1 := h1.below g2.b
  have x0 := k1.c0
  have x1 := k1.c1
  have x2 := k1.c2
  have x3 := k1.c3
  have x4 := k1.c4
  have y0 := h2.c0
  have y1 := h2.c1
  have y2 := h2.c2
  have y3 := h2.c3
  have y4 := h2.c4
  have HG := Lib.hid (g1.trans g2)
  clear HV h1 h2 g1 g2 k1
  have m3 := str_ne.2 n3
  have l3 := str_ne0 n3
  have m5 := str_ne.2 n5
  have l5 := str_ne0 n5
  have g5 := str_ne.2 d5
  clear n3 n5 d5
  go_enter Try.func15, Try.ntmps15
  go_wp2
  go_ret
  exact ⟨rfl, HG.out⟩
set_option maxHeartbeats 1000000 in
theorem rm_eeqee (a3 b1 b2 b4 b5 : ByteArray) (n3 : a3 ≠ ⟨#[]⟩) (w : World) :
    Calls Try.prog 15 #[.agg #[.string ⟨#[]⟩, .string ⟨#[]⟩, .string a3, .string ⟨#[]⟩, .string ⟨#[]⟩], .agg #[.string b1, .string b2, .string a3, .string b4, .string b5]] w fun e w' => e = .returned (.bool (mtK (⟨#[]⟩, ⟨#[]⟩, a3, ⟨#[]⟩, ⟨#[]⟩) (b1, b2, a3, b4, b5))) ∧ Gb w w' := by
  have HV := Lib.hid (show mtK (⟨#[]⟩, ⟨#[]⟩, a3, ⟨#[]⟩, ⟨#[]⟩) (b1, b2, a3, b4, b5) = true from by simp [mtK, mtL, kyL, n3])
  rw [HV.out]
  have h1 := Q5.alloc w (.string ⟨#[]⟩) (.string ⟨#[]⟩) (.string a3) (.string ⟨#[]⟩) (.string ⟨#[]⟩) 23
  have h2 := Q5.alloc (w.alloc (Obj.cells #[.string ⟨#[]⟩, .string ⟨#[]⟩, .string a3, .string ⟨#[]⟩, .string ⟨#[]⟩] 23)) (.string b1) (.string b2) (.string a3) (.string b4) (.string b5) 23
  rw [World.size_alloc] at h2
  have g1 := Gb.alloc w (Obj.cells #[.string ⟨#[]⟩, .string ⟨#[]⟩, .string a3, .string ⟨#[]⟩, .string ⟨#[]⟩] 23)
  have g2 := Gb.alloc (w.alloc (Obj.cells #[.string ⟨#[]⟩, .string ⟨#[]⟩, .string a3, .string ⟨#[]⟩, .string ⟨#[]⟩] 23)) (Obj.cells #[.string b1, .string b2, .string a3, .string b4, .string b5] 23)
  have k1 := h1.below g2.b
  have x0 := k1.c0
  have x1 := k1.c1
  have x2 := k1.c2
  have x3 := k1.c3
  have x4 := k1.c4
  have y0 := h2.c0
  have y1 := h2.c1
  have y2 := h2.c2
  have y3 := h2.c3
  have y4 := h2.c4
  have HG := Lib.hid (g1.trans g2)
  clear HV h1 h2 g1 g2 k1
  have m3 := str_ne.2 n3
  have l3 := str_ne0 n3
  clear n3
  go_enter Try.func15, Try.ntmps15
  go_wp2
  go_ret
  exact ⟨rfl, HG.out⟩
set_option maxHeartbeats 1000000 in
theorem rm_eeqeq (a3 a5 b1 b2 b4 : ByteArray) (n3 : a3 ≠ ⟨#[]⟩) (n5 : a5 ≠ ⟨#[]⟩) (w : World) :
    Calls Try.prog 15 #[.agg #[.string ⟨#[]⟩, .string ⟨#[]⟩, .string a3, .string ⟨#[]⟩, .string a5], .agg #[.string b1, .string b2, .string a3, .string b4, .string a5]] w fun e w' => e = .returned (.bool (mtK (⟨#[]⟩, ⟨#[]⟩, a3, ⟨#[]⟩, a5) (b1, b2, a3, b4, a5))) ∧ Gb w w' := by
  have HV := Lib.hid (show mtK (⟨#[]⟩, ⟨#[]⟩, a3, ⟨#[]⟩, a5) (b1, b2, a3, b4, a5) = true from by simp [mtK, mtL, kyL, n3, n5])
  rw [HV.out]
  have h1 := Q5.alloc w (.string ⟨#[]⟩) (.string ⟨#[]⟩) (.string a3) (.string ⟨#[]⟩) (.string a5) 23
  have h2 := Q5.alloc (w.alloc (Obj.cells #[.string ⟨#[]⟩, .string ⟨#[]⟩, .string a3, .string ⟨#[]⟩, .string a5] 23)) (.string b1) (.string b2) (.string a3) (.string b4) (.string a5) 23
  rw [World.size_alloc] at h2
  have g1 := Gb.alloc w (Obj.cells #[.string ⟨#[]⟩, .string ⟨#[]⟩, .string a3, .string ⟨#[]⟩, .string a5] 23)
  have g2 := Gb.alloc (w.alloc (Obj.cells #[.string ⟨#[]⟩, .string ⟨#[]⟩, .string a3, .string ⟨#[]⟩, .string a5] 23)) (Obj.cells #[.string b1, .string b2, .string a3, .string b4, .string a5] 23)
  have k1 := h1.below g2.b
  have x0 := k1.c0
  have x1 := k1.c1
  have x2 := k1.c2
  have x3 := k1.c3
  have x4 := k1.c4
  have y0 := h2.c0
  have y1 := h2.c1
  have y2 := h2.c2
  have y3 := h2.c3
  have y4 := h2.c4
  have HG := Lib.hid (g1.trans g2)
  clear HV h1 h2 g1 g2 k1
  have m3 := str_ne.2 n3
  have l3 := str_ne0 n3
  have m5 := str_ne.2 n5
  have l5 := str_ne0 n5
  clear n3 n5
  go_enter Try.func15, Try.ntmps15
  go_wp2
  go_ret
  exact ⟨rfl, HG.out⟩
set_option maxHeartbeats 1000000 in
theorem rm_eeqqx (a3 a4 a5 b1 b2 b5 : ByteArray) (n3 : a3 ≠ ⟨#[]⟩) (n4 : a4 ≠ ⟨#[]⟩) (n5 : a5 ≠ ⟨#[]⟩) (d5 : a5 ≠ b5) (w : World) :
    Calls Try.prog 15 #[.agg #[.string ⟨#[]⟩, .string ⟨#[]⟩, .string a3, .string a4, .string a5], .agg #[.string b1, .string b2, .string a3, .string a4, .string b5]] w fun e w' => e = .returned (.bool (mtK (⟨#[]⟩, ⟨#[]⟩, a3, a4, a5) (b1, b2, a3, a4, b5))) ∧ Gb w w' := by
  have HV := Lib.hid (show mtK (⟨#[]⟩, ⟨#[]⟩, a3, a4, a5) (b1, b2, a3, a4, b5) = false from by simp [mtK, mtL, kyL, n3, n4, n5, d5])
  rw [HV.out]
  have h1 := Q5.alloc w (.string ⟨#[]⟩) (.string ⟨#[]⟩) (.string a3) (.string a4) (.string a5) 23
  have h2 := Q5.alloc (w.alloc (Obj.cells #[.string ⟨#[]⟩, .string ⟨#[]⟩, .string a3, .string a4, .string a5] 23)) (.string b1) (.string b2) (.string a3) (.string a4) (.string b5) 23
  rw [World.size_alloc] at h2
  have g1 := Gb.alloc w (Obj.cells #[.string ⟨#[]⟩, .string ⟨#[]⟩, .string a3, .string a4, .string a5] 23)
  have g2 := Gb.alloc (w.alloc (Obj.cells #[.string ⟨#[]⟩, .string ⟨#[]⟩, .string a3, .string a4, .string a5] 23)) (Obj.cells #[.string b1, .string b2, .string a3, .string a4, .string b5] 23)
  have k1 := h1.below g2.b
  have x0 := k1.c0
  have x1 := k1.c1
  have x2 := k1.c2
  have x3 := k1.c3
  have x4 := k1.c4
  have y0 := h2.c0
  have y1 := h2.c1
  have y2 := h2.c2
  have y3 := h2.c3
  have y4 := h2.c4
  have HG := Lib.hid (g1.trans g2)
  clear HV h1 h2 g1 g2 k1
  have m3 := str_ne.2 n3
  have l3 := str_ne0 n3
  have m4 := str_ne.2 n4
  have l4 := str_ne0 n4
  have m5 := str_ne.2 n5
  have l5 := str_ne0 n5
  have g5 := str_ne.2 d5
  clear n3 n4 n5 d5
  go_enter Try.func15, Try.ntmps15
  go_wp2
  go_ret
  exact ⟨rfl, HG.out⟩
set_option maxHeartbeats 1000000 in
theorem rm_eeqqe (a3 a4 b1 b2 b5 : ByteArray) (n3 : a3 ≠ ⟨#[]⟩) (n4 : a4 ≠ ⟨#[]⟩) (w : World) :
    Calls Try.prog 15 #[.agg #[.string ⟨#[]⟩, .string ⟨#[]⟩, .string a3, .string a4, .string ⟨#[]⟩], .agg #[.string b1, .string b2, .string a3, .string a4, .string b5]] w fun e w' => e = .returned (.bool (mtK (⟨#[]⟩, ⟨#[]⟩, a3, a4, ⟨#[]⟩) (b1, b2, a3, a4, b5))) ∧ Gb w w' := by
  have HV := Lib.hid (show mtK (⟨#[]⟩, ⟨#[]⟩, a3, a4, ⟨#[]⟩) (b1, b2, a3, a4, b5) = true from by simp [mtK, mtL, kyL, n3, n4])
  rw [HV.out]
  have h1 := Q5.alloc w (.string ⟨#[]⟩) (.string ⟨#[]⟩) (.string a3) (.string a4) (.string ⟨#[]⟩) 23
  have h2 := Q5.alloc (w.alloc (Obj.cells #[.string ⟨#[]⟩, .string ⟨#[]⟩, .string a3, .string a4, .string ⟨#[]⟩] 23)) (.string b1) (.string b2) (.string a3) (.string a4) (.string b5) 23
  rw [World.size_alloc] at h2
  have g1 := Gb.alloc w (Obj.cells #[.string ⟨#[]⟩, .string ⟨#[]⟩, .string a3, .string a4, .string ⟨#[]⟩] 23)
  have g2 := Gb.alloc (w.alloc (Obj.cells #[.string ⟨#[]⟩, .string ⟨#[]⟩, .string a3, .string a4, .string ⟨#[]⟩] 23)) (Obj.cells #[.string b1, .string b2, .string a3, .string a4, .string b5] 23)
  have k1 := h1.below g2.b
  have x0 := k1.c0
  have x1 := k1.c1
  have x2 := k1.c2
  have x3 := k1.c3
  have x4 := k1.c4
  have y0 := h2.c0
  have y1 := h2.c1
  have y2 := h2.c2
  have y3 := h2.c3
  have y4 := h2.c4
  have HG := Lib.hid (g1.trans g2)
  clear HV h1 h2 g1 g2 k1
  have m3 := str_ne.2 n3
  have l3 := str_ne0 n3
  have m4 := str_ne.2 n4
  have l4 := str_ne0 n4
  clear n3 n4
  go_enter Try.func15, Try.ntmps15
  go_wp2
  go_ret
  exact ⟨rfl, HG.out⟩
set_option maxHeartbeats 1000000 in
theorem rm_eeqqq (a3 a4 a5 b1 b2 : ByteArray) (n3 : a3 ≠ ⟨#[]⟩) (n4 : a4 ≠ ⟨#[]⟩) (n5 : a5 ≠ ⟨#[]⟩) (w : World) :
    Calls Try.prog 15 #[.agg #[.string ⟨#[]⟩, .string ⟨#[]⟩, .string a3, .string a4, .string a5], .agg #[.string b1, .string b2, .string a3, .string a4, .string a5]] w fun e w' => e = .returned (.bool (mtK (⟨#[]⟩, ⟨#[]⟩, a3, a4, a5) (b1, b2, a3, a4, a5))) ∧ Gb w w' := by
  have HV := Lib.hid (show mtK (⟨#[]⟩, ⟨#[]⟩, a3, a4, a5) (b1, b2, a3, a4, a5) = true from by simp [mtK, mtL, kyL, n3, n4, n5])
  rw [HV.out]
  have h1 := Q5.alloc w (.string ⟨#[]⟩) (.string ⟨#[]⟩) (.string a3) (.string a4) (.string a5) 23
  have h2 := Q5.alloc (w.alloc (Obj.cells #[.string ⟨#[]⟩, .string ⟨#[]⟩, .string a3, .string a4, .string a5] 23)) (.string b1) (.string b2) (.string a3) (.string a4) (.string a5) 23
  rw [World.size_alloc] at h2
  have g1 := Gb.alloc w (Obj.cells #[.string ⟨#[]⟩, .string ⟨#[]⟩, .string a3, .string a4, .string a5] 23)
  have g2 := Gb.alloc (w.alloc (Obj.cells #[.string ⟨#[]⟩, .string ⟨#[]⟩, .string a3, .string a4, .string a5] 23)) (Obj.cells #[.string b1, .string b2, .string a3, .string a4, .string a5] 23)
  have k1 := h1.below g2.b
  have x0 := k1.c0
  have x1 := k1.c1
  have x2 := k1.c2
  have x3 := k1.c3
  have x4 := k1.c4
  have y0 := h2.c0
  have y1 := h2.c1
  have y2 := h2.c2
  have y3 := h2.c3
  have y4 := h2.c4
  have HG := Lib.hid (g1.trans g2)
  clear HV h1 h2 g1 g2 k1
  have m3 := str_ne.2 n3
  have l3 := str_ne0 n3
  have m4 := str_ne.2 n4
  have l4 := str_ne0 n4
  have m5 := str_ne.2 n5
  have l5 := str_ne0 n5
  clear n3 n4 n5
  go_enter Try.func15, Try.ntmps15
  go_wp2
  go_ret
  exact ⟨rfl, HG.out⟩
set_option maxHeartbeats 1000000 in
theorem rm_eqx (a2 a3 a4 a5 b1 b3 b4 b5 : ByteArray) (n2 : a2 ≠ ⟨#[]⟩) (n3 : a3 ≠ ⟨#[]⟩) (d3 : a3 ≠ b3) (w : World) :
    Calls Try.prog 15 #[.agg #[.string ⟨#[]⟩, .string a2, .string a3, .string a4, .string a5], .agg #[.string b1, .string a2, .string b3, .string b4, .string b5]] w fun e w' => e = .returned (.bool (mtK (⟨#[]⟩, a2, a3, a4, a5) (b1, a2, b3, b4, b5))) ∧ Gb w w' := by
  have HV := Lib.hid (show mtK (⟨#[]⟩, a2, a3, a4, a5) (b1, a2, b3, b4, b5) = false from by simp [mtK, mtL, kyL, n2, n3, d3])
  rw [HV.out]
  have h1 := Q5.alloc w (.string ⟨#[]⟩) (.string a2) (.string a3) (.string a4) (.string a5) 23
  have h2 := Q5.alloc (w.alloc (Obj.cells #[.string ⟨#[]⟩, .string a2, .string a3, .string a4, .string a5] 23)) (.string b1) (.string a2) (.string b3) (.string b4) (.string b5) 23
  rw [World.size_alloc] at h2
  have g1 := Gb.alloc w (Obj.cells #[.string ⟨#[]⟩, .string a2, .string a3, .string a4, .string a5] 23)
  have g2 := Gb.alloc (w.alloc (Obj.cells #[.string ⟨#[]⟩, .string a2, .string a3, .string a4, .string a5] 23)) (Obj.cells #[.string b1, .string a2, .string b3, .string b4, .string b5] 23)
  have k1 := h1.below g2.b
  have x0 := k1.c0
  have x1 := k1.c1
  have x2 := k1.c2
  have x3 := k1.c3
  have x4 := k1.c4
  have y0 := h2.c0
  have y1 := h2.c1
  have y2 := h2.c2
  have y3 := h2.c3
  have y4 := h2.c4
  have HG := Lib.hid (g1.trans g2)
  clear HV h1 h2 g1 g2 k1
  have m2 := str_ne.2 n2
  have l2 := str_ne0 n2
  have m3 := str_ne.2 n3
  have l3 := str_ne0 n3
  have g3 := str_ne.2 d3
  clear n2 n3 d3
  go_enter Try.func15, Try.ntmps15
  go_wp2
  go_ret
  exact ⟨rfl, HG.out⟩
set_option maxHeartbeats 1000000 in
theorem rm_eqex (a2 a4 a5 b1 b3 b4 b5 : ByteArray) (n2 : a2 ≠ ⟨#[]⟩) (n4 : a4 ≠ ⟨#[]⟩) (d4 : a4 ≠ b4) (w : World) :
    Calls Try.prog 15 #[.agg #[.string ⟨#[]⟩, .string a2, .string ⟨#[]⟩, .string a4, .string a5], .agg #[.string b1, .string a2, .string b3, .string b4, .string b5]] w fun e w' => e = .returned (.bool (mtK (⟨#[]⟩, a2, ⟨#[]⟩, a4, a5) (b1, a2, b3, b4, b5))) ∧ Gb w w' := by
  have HV := Lib.hid (show mtK (⟨#[]⟩, a2, ⟨#[]⟩, a4, a5) (b1, a2, b3, b4, b5) = false from by simp [mtK, mtL, kyL, n2, n4, d4])
  rw [HV.out]
  have h1 := Q5.alloc w (.string ⟨#[]⟩) (.string a2) (.string ⟨#[]⟩) (.string a4) (.string a5) 23
  have h2 := Q5.alloc (w.alloc (Obj.cells #[.string ⟨#[]⟩, .string a2, .string ⟨#[]⟩, .string a4, .string a5] 23)) (.string b1) (.string a2) (.string b3) (.string b4) (.string b5) 23
  rw [World.size_alloc] at h2
  have g1 := Gb.alloc w (Obj.cells #[.string ⟨#[]⟩, .string a2, .string ⟨#[]⟩, .string a4, .string a5] 23)
  have g2 := Gb.alloc (w.alloc (Obj.cells #[.string ⟨#[]⟩, .string a2, .string ⟨#[]⟩, .string a4, .string a5] 23)) (Obj.cells #[.string b1, .string a2, .string b3, .string b4, .string b5] 23)
  have k1 := h1.below g2.b
  have x0 := k1.c0
  have x1 := k1.c1
  have x2 := k1.c2
  have x3 := k1.c3
  have x4 := k1.c4
  have y0 := h2.c0
  have y1 := h2.c1
  have y2 := h2.c2
  have y3 := h2.c3
  have y4 := h2.c4
  have HG := Lib.hid (g1.trans g2)
  clear HV h1 h2 g1 g2 k1
  have m2 := str_ne.2 n2
  have l2 := str_ne0 n2
  have m4 := str_ne.2 n4
  have l4 := str_ne0 n4
  have g4 := str_ne.2 d4
  clear n2 n4 d4
  go_enter Try.func15, Try.ntmps15
  go_wp2
  go_ret
  exact ⟨rfl, HG.out⟩
set_option maxHeartbeats 1000000 in
theorem rm_eqeex (a2 a5 b1 b3 b4 b5 : ByteArray) (n2 : a2 ≠ ⟨#[]⟩) (n5 : a5 ≠ ⟨#[]⟩) (d5 : a5 ≠ b5) (w : World) :
    Calls Try.prog 15 #[.agg #[.string ⟨#[]⟩, .string a2, .string ⟨#[]⟩, .string ⟨#[]⟩, .string a5], .agg #[.string b1, .string a2, .string b3, .string b4, .string b5]] w fun e w' => e = .returned (.bool (mtK (⟨#[]⟩, a2, ⟨#[]⟩, ⟨#[]⟩, a5) (b1, a2, b3, b4, b5))) ∧ Gb w w' := by
  have HV := Lib.hid (show mtK (⟨#[]⟩, a2, ⟨#[]⟩, ⟨#[]⟩, a5) (b1, a2, b3, b4, b5) = false from by simp [mtK, mtL, kyL, n2, n5, d5])
  rw [HV.out]
  have h1 := Q5.alloc w (.string ⟨#[]⟩) (.string a2) (.string ⟨#[]⟩) (.string ⟨#[]⟩) (.string a5) 23
  have h2 := Q5.alloc (w.alloc (Obj.cells #[.string ⟨#[]⟩, .string a2, .string ⟨#[]⟩, .string ⟨#[]⟩, .string a5] 23)) (.string b1) (.string a2) (.string b3) (.string b4) (.string b5) 23
  rw [World.size_alloc] at h2
  have g1 := Gb.alloc w (Obj.cells #[.string ⟨#[]⟩, .string a2, .string ⟨#[]⟩, .string ⟨#[]⟩, .string a5] 23)
  have g2 := Gb.alloc (w.alloc (Obj.cells #[.string ⟨#[]⟩, .string a2, .string ⟨#[]⟩, .string ⟨#[]⟩, .string a5] 23)) (Obj.cells #[.string b1, .string a2, .string b3, .string b4, .string b5] 23)
  have k1 := h1.below g2.b
  have x0 := k1.c0
  have x1 := k1.c1
  have x2 := k1.c2
  have x3 := k1.c3
  have x4 := k1.c4
  have y0 := h2.c0
  have y1 := h2.c1
  have y2 := h2.c2
  have y3 := h2.c3
  have y4 := h2.c4
  have HG := Lib.hid (g1.trans g2)
  clear HV h1 h2 g1 g2 k1
  have m2 := str_ne.2 n2
  have l2 := str_ne0 n2
  have m5 := str_ne.2 n5
  have l5 := str_ne0 n5
  have g5 := str_ne.2 d5
  clear n2 n5 d5
  go_enter Try.func15, Try.ntmps15
  go_wp2
  go_ret
  exact ⟨rfl, HG.out⟩
set_option maxHeartbeats 1000000 in
theorem rm_eqeee (a2 b1 b3 b4 b5 : ByteArray) (n2 : a2 ≠ ⟨#[]⟩) (w : World) :
    Calls Try.prog 15 #[.agg #[.string ⟨#[]⟩, .string a2, .string ⟨#[]⟩, .string ⟨#[]⟩, .string ⟨#[]⟩], .agg #[.string b1, .string a2, .string b3, .string b4, .string b5]] w fun e w' => e = .returned (.bool (mtK (⟨#[]⟩, a2, ⟨#[]⟩, ⟨#[]⟩, ⟨#[]⟩) (b1, a2, b3, b4, b5))) ∧ Gb w w' := by
  have HV := Lib.hid (show mtK (⟨#[]⟩, a2, ⟨#[]⟩, ⟨#[]⟩, ⟨#[]⟩) (b1, a2, b3, b4, b5) = true from by simp [mtK, mtL, kyL, n2])
  rw [HV.out]
  have h1 := Q5.alloc w (.string ⟨#[]⟩) (.string a2) (.string ⟨#[]⟩) (.string ⟨#[]⟩) (.string ⟨#[]⟩) 23
  have h2 := Q5.alloc (w.alloc (Obj.cells #[.string ⟨#[]⟩, .string a2, .string ⟨#[]⟩, .string ⟨#[]⟩, .string ⟨#[]⟩] 23)) (.string b1) (.string a2) (.string b3) (.string b4) (.string b5) 23
  rw [World.size_alloc] at h2
  have g1 := Gb.alloc w (Obj.cells #[.string ⟨#[]⟩, .string a2, .string ⟨#[]⟩, .string ⟨#[]⟩, .string ⟨#[]⟩] 23)
  have g2 := Gb.alloc (w.alloc (Obj.cells #[.string ⟨#[]⟩, .string a2, .string ⟨#[]⟩, .string ⟨#[]⟩, .string ⟨#[]⟩] 23)) (Obj.cells #[.string b1, .string a2, .string b3, .string b4, .string b5] 23)
  have k1 := h1.below g2.b
  have x0 := k1.c0
  have x1 := k1.c1
  have x2 := k1.c2
  have x3 := k1.c3
  have x4 := k1.c4
  have y0 := h2.c0
  have y1 := h2.c1
  have y2 := h2.c2
  have y3 := h2.c3
  have y4 := h2.c4
  have HG := Lib.hid (g1.trans g2)
  clear HV h1 h2 g1 g2 k1
  have m2 := str_ne.2 n2
  have l2 := str_ne0 n2
  clear n2
  go_enter Try.func15, Try.ntmps15
  go_wp2
  go_ret
  exact ⟨rfl, HG.out⟩
set_option maxHeartbeats 1000000 in
theorem rm_eqeeq (a2 a5 b1 b3 b4 : ByteArray) (n2 : a2 ≠ ⟨#[]⟩) (n5 : a5 ≠ ⟨#[]⟩) (w : World) :
    Calls Try.prog 15 #[.agg #[.string ⟨#[]⟩, .string a2, .string ⟨#[]⟩, .string ⟨#[]⟩, .string a5], .agg #[.string b1, .string a2, .string b3, .string b4, .string a5]] w fun e w' => e = .returned (.bool (mtK (⟨#[]⟩, a2, ⟨#[]⟩, ⟨#[]⟩, a5) (b1, a2, b3, b4, a5))) ∧ Gb w w' := by
  have HV := Lib.hid (show mtK (⟨#[]⟩, a2, ⟨#[]⟩, ⟨#[]⟩, a5) (b1, a2, b3, b4, a5) = true from by simp [mtK, mtL, kyL, n2, n5])
  rw [HV.out]
  have h1 := Q5.alloc w (.string ⟨#[]⟩) (.string a2) (.string ⟨#[]⟩) (.string ⟨#[]⟩) (.string a5) 23
  have h2 := Q5.alloc (w.alloc (Obj.cells #[.string ⟨#[]⟩, .string a2, .string ⟨#[]⟩, .string ⟨#[]⟩, .string a5] 23)) (.string b1) (.string a2) (.string b3) (.string b4) (.string a5) 23
  rw [World.size_alloc] at h2
  have g1 := Gb.alloc w (Obj.cells #[.string ⟨#[]⟩, .string a2, .string ⟨#[]⟩, .string ⟨#[]⟩, .string a5] 23)
  have g2 := Gb.alloc (w.alloc (Obj.cells #[.string ⟨#[]⟩, .string a2, .string ⟨#[]⟩, .string ⟨#[]⟩, .string a5] 23)) (Obj.cells #[.string b1, .string a2, .string b3, .string b4, .string a5] 23)
  have k1 := h1.below g2.b
  have x0 := k1.c0
  have x1 := k1.c1
  have x2 := k1.c2
  have x3 := k1.c3
  have x4 := k1.c4
  have y0 := h2.c0
  have y1 := h2.c1
  have y2 := h2.c2
  have y3 := h2.c3
  have y4 := h2.c4
  have HG := Lib.hid (g1.trans g2)
  clear HV h1 h2 g1 g2 k1
  have m2 := str_ne.2 n2
  have l2 := str_ne0 n2
  have m5 := str_ne.2 n5
  have l5 := str_ne0 n5
  clear n2 n5
  go_enter Try.func15, Try.ntmps15
  go_wp2
  go_ret
  exact ⟨rfl, HG.out⟩
set_option maxHeartbeats 1000000 in
theorem rm_eqeqx (a2 a4 a5 b1 b3 b5 : ByteArray) (n2 : a2 ≠ ⟨#[]⟩) (n4 : a4 ≠ ⟨#[]⟩) (n5 : a5 ≠ ⟨#[]⟩) (d5 : a5 ≠ b5) (w : World) :
    Calls Try.prog 15 #[.agg #[.string ⟨#[]⟩, .string a2, .string ⟨#[]⟩, .string a4, .string a5], .agg #[.string b1, .string a2, .string b3, .string a4, .string b5]] w fun e w' => e = .returned (.bool (mtK (⟨#[]⟩, a2, ⟨#[]⟩, a4, a5) (b1, a2, b3, a4, b5))) ∧ Gb w w' := by
  have HV := Lib.hid (show mtK (⟨#[]⟩, a2, ⟨#[]⟩, a4, a5) (b1, a2, b3, a4, b5) = false from by simp [mtK, mtL, kyL, n2, n4, n5, d5])
  rw [HV.out]
  have h1 := Q5.alloc w (.string ⟨#[]⟩) (.string a2) (.string ⟨#[]⟩) (.string a4) (.string a5) 23
  have h2 := Q5.alloc (w.alloc (Obj.cells #[.string ⟨#[]⟩, .string a2, .string ⟨#[]⟩, .string a4, .string a5] 23)) (.string b1) (.string a2) (.string b3) (.string a4) (.string b5) 23
  rw [World.size_alloc] at h2
  have g1 := Gb.alloc w (Obj.cells #[.string ⟨#[]⟩, .string a2, .string ⟨#[]⟩, .string a4, .string a5] 23)
  have g2 := Gb.alloc (w.alloc (Obj.cells #[.string ⟨#[]⟩, .string a2, .string ⟨#[]⟩, .string a4, .string a5] 23)) (Obj.cells #[.string b1, .string a2, .string b3, .string a4, .string b5] 23)
  have k1 := h1.below g2.b
  have x0 := k1.c0
  have x1 := k1.c1
  have x2 := k1.c2
  have x3 := k1.c3
  have x4 := k1.c4
  have y0 := h2.c0
  have y1 := h2.c1
  have y2 := h2.c2
  have y3 := h2.c3
  have y4 := h2.c4
  have HG := Lib.hid (g1.trans g2)
  clear HV h1 h2 g1 g2 k1
  have m2 := str_ne.2 n2
  have l2 := str_ne0 n2
  have m4 := str_ne.2 n4
  have l4 := str_ne0 n4
  have m5 := str_ne.2 n5
  have l5 := str_ne0 n5
  have g5 := str_ne.2 d5
  clear n2 n4 n5 d5
  go_enter Try.func15, Try.ntmps15
  go_wp2
  go_ret
  exact ⟨rfl, HG.out⟩
set_option maxHeartbeats 1000000 in
theorem rm_eqeqe (a2 a4 b1 b3 b5 : ByteArray) (n2 : a2 ≠ ⟨#[]⟩) (n4 : a4 ≠ ⟨#[]⟩) (w : World) :
    Calls Try.prog 15 #[.agg #[.string ⟨#[]⟩, .string a2, .string ⟨#[]⟩, .string a4, .string ⟨#[]⟩], .agg #[.string b1, .string a2, .string b3, .string a4, .string b5]] w fun e w' => e = .returned (.bool (mtK (⟨#[]⟩, a2, ⟨#[]⟩, a4, ⟨#[]⟩) (b1, a2, b3, a4, b5))) ∧ Gb w w' := by
  have HV := Lib.hid (show mtK (⟨#[]⟩, a2, ⟨#[]⟩, a4, ⟨#[]⟩) (b1, a2, b3, a4, b5) = true from by simp [mtK, mtL, kyL, n2, n4])
  rw [HV.out]
  have h1 := Q5.alloc w (.string ⟨#[]⟩) (.string a2) (.string ⟨#[]⟩) (.string a4) (.string ⟨#[]⟩) 23
  have h2 := Q5.alloc (w.alloc (Obj.cells #[.string ⟨#[]⟩, .string a2, .string ⟨#[]⟩, .string a4, .string ⟨#[]⟩] 23)) (.string b1) (.string a2) (.string b3) (.string a4) (.string b5) 23
  rw [World.size_alloc] at h2
  have g1 := Gb.alloc w (Obj.cells #[.string ⟨#[]⟩, .string a2, .string ⟨#[]⟩, .string a4, .string ⟨#[]⟩] 23)
  have g2 := Gb.alloc (w.alloc (Obj.cells #[.string ⟨#[]⟩, .string a2, .string ⟨#[]⟩, .string a4, .string ⟨#[]⟩] 23)) (Obj.cells #[.string b1, .string a2, .string b3, .string a4, .string b5] 23)
  have k1 := h1.below g2.b
  have x0 := k1.c0
  have x1 := k1.c1
  have x2 := k1.c2
  have x3 := k1.c3
  have x4 := k1.c4
  have y0 := h2.c0
  have y1 := h2.c1
  have y2 := h2.c2
  have y3 := h2.c3
  have y4 := h2.c4
  have HG := Lib.hid (g1.trans g2)
  clear HV h1 h2 g1 g2 k1
  have m2 := str_ne.2 n2
  have l2 := str_ne0 n2
  have m4 := str_ne.2 n4
  have l4 := str_ne0 n4
  clear n2 n4
  go_enter Try.func15, Try.ntmps15
  go_wp2
  go_ret
  exact ⟨rfl, HG.out⟩
set_option maxHeartbeats 1000000 in
theorem rm_eqeqq (a2 a4 a5 b1 b3 : ByteArray) (n2 : a2 ≠ ⟨#[]⟩) (n4 : a4 ≠ ⟨#[]⟩) (n5 : a5 ≠ ⟨#[]⟩) (w : World) :
    Calls Try.prog 15 #[.agg #[.string ⟨#[]⟩, .string a2, .string ⟨#[]⟩, .string a4, .string a5], .agg #[.string b1, .string a2, .string b3, .string a4, .string a5]] w fun e w' => e = .returned (.bool (mtK (⟨#[]⟩, a2, ⟨#[]⟩, a4, a5) (b1, a2, b3, a4, a5))) ∧ Gb w w' := by
  have HV := Lib.hid (show mtK (⟨#[]⟩, a2, ⟨#[]⟩, a4, a5) (b1, a2, b3, a4, a5) = true from by simp [mtK, mtL, kyL, n2, n4, n5])
  rw [HV.out]
  have h1 := Q5.alloc w (.string ⟨#[]⟩) (.string a2) (.string ⟨#[]⟩) (.string a4) (.string a5) 23
  have h2 := Q5.alloc (w.alloc (Obj.cells #[.string ⟨#[]⟩, .string a2, .string ⟨#[]⟩, .string a4, .string a5] 23)) (.string b1) (.string a2) (.string b3) (.string a4) (.string a5) 23
  rw [World.size_alloc] at h2
  have g1 := Gb.alloc w (Obj.cells #[.string ⟨#[]⟩, .string a2, .string ⟨#[]⟩, .string a4, .string a5] 23)
  have g2 := Gb.alloc (w.alloc (Obj.cells #[.string ⟨#[]⟩, .string a2, .string ⟨#[]⟩, .string a4, .string a5] 23)) (Obj.cells #[.string b1, .string a2, .string b3, .string a4, .string a5] 23)
  have k1 := h1.below g2.b
  have x0 := k1.c0
  have x1 := k1.c1
  have x2 := k1.c2
  have x3 := k1.c3
  have x4 := k1.c4
  have y0 := h2.c0
  have y1 := h2.c1
  have y2 := h2.c2
  have y3 := h2.c3
  have y4 := h2.c4
  have HG := Lib.hid (g1.trans g2)
  clear HV h1 h2 g1 g2 k1
  have m2 := str_ne.2 n2
  have l2 := str_ne0 n2
  have m4 := str_ne.2 n4
  have l4 := str_ne0 n4
  have m5 := str_ne.2 n5
  have l5 := str_ne0 n5
  clear n2 n4 n5
  go_enter Try.func15, Try.ntmps15
  go_wp2
  go_ret
  exact ⟨rfl, HG.out⟩
set_option maxHeartbeats 1000000 in
theorem rm_eqqx (a2 a3 a4 a5 b1 b4 b5 : ByteArray) (n2 : a2 ≠ ⟨#[]⟩) (n3 : a3 ≠ ⟨#[]⟩) (n4 : a4 ≠ ⟨#[]⟩) (d4 : a4 ≠ b4) (w : World) :
    Calls Try.prog 15 #[.agg #[.string ⟨#[]⟩, .string a2, .string a3, .string a4, .string a5], .agg #[.string b1, .string a2, .string a3, .string b4, .string b5]] w fun e w' => e = .returned (.bool (mtK (⟨#[]⟩, a2, a3, a4, a5) (b1, a2, a3, b4, b5))) ∧ Gb w w' := by
  have HV := Lib.hid (show mtK (⟨#[]⟩, a2, a3, a4, a5) (b1, a2, a3, b4, b5) = false from by simp [mtK, mtL, kyL, n2, n3, n4, d4])
  rw [HV.out]
  have h1 := Q5.alloc w (.string ⟨#[]⟩) (.string a2) (.string a3) (.string a4) (.string a5) 23
  have h2 := Q5.alloc (w.alloc (Obj.cells #[.string ⟨#[]⟩, .string a2, .string a3, .string a4, .string a5] 23)) (.string b1) (.string a2) (.string a3) (.string b4) (.string b5) 23
  rw [World.size_alloc] at h2
  have g1 := Gb.alloc w (Obj.cells #[.string ⟨#[]⟩, .string a2, .string a3, .string a4, .string a5] 23)
  have g2 := Gb.alloc (w.alloc (Obj.cells #[.string ⟨#[]⟩, .string a2, .string a3, .string a4, .string a5] 23)) (Obj.cells #[.string b1, .string a2, .string a3, .string b4, .string b5] 23)
  have k1 := h1.below g2.b
  have x0 := k1.c0
  have x1 := k1.c1
  have x2 := k1.c2
  have x3 := k1.c3
  have x4 := k1.c4
  have y0 := h2.c0
  have y1 := h2.c1
  have y2 := h2.c2
  have y3 := h2.c3
  have y4 := h2.c4
  have HG := Lib.hid (g1.trans g2)
  clear HV h1 h2 g1 g2 k1
  have m2 := str_ne.2 n2
  have l2 := str_ne0 n2
  have m3 := str_ne.2 n3
  have l3 := str_ne0 n3
  have m4 := str_ne.2 n4
  have l4 := str_ne0 n4
  have g4 := str_ne.2 d4
  clear n2 n3 n4 d4
  go_enter Try.func15, Try.ntmps15
  go_wp2
  go_ret
  exact ⟨rfl, HG.out⟩
set_option maxHeartbeats 1000000 in
theorem rm_eqqex (a2 a3 a5 b1 b4 b5 : ByteArray) (n2 : a2 ≠ ⟨#[]⟩) (n3 : a3 ≠ ⟨#[]⟩) (n5 : a5 ≠ ⟨#[]⟩) (d5 : a5 ≠ b5) (w : World) :
    Calls Try.prog 15 #[.agg #[.string ⟨#[]⟩, .string a2, .string a3, .string ⟨#[]⟩, .string a5], .agg #[.string b1, .string a2, .string a3, .string b4, .string b5]] w fun e w' => e = .returned (.bool (mtK (⟨#[]⟩, a2, a3, ⟨#[]⟩, a5) (b1, a2, a3, b4, b5))) ∧ Gb w w' := by
  have HV := Lib.hid (show mtK (⟨#[]⟩, a2, a3, ⟨#[]⟩, a5) (b1, a2, a3, b4, b5) = false from by simp [mtK, mtL, kyL, n2, n3, n5, d5])
  rw [HV.out]
  have h1 := Q5.alloc w (.string ⟨#[]⟩) (.string a2) (.string a3) (.string ⟨#[]⟩) (.string a5) 23
  have h2 := Q5.alloc (w.alloc (Obj.cells #[.string ⟨#[]⟩, .string a2, .string a3, .string ⟨#[]⟩, .string a5] 23)) (.string b1) (.string a2) (.string a3) (.string b4) (.string b5) 23
  rw [World.size_alloc] at h2
  have g1 := Gb.alloc w (Obj.cells #[.string ⟨#[]⟩, .string a2, .string a3, .string ⟨#[]⟩, .string a5] 23)
  have g2 := Gb.alloc (w.alloc (Obj.cells #[.string ⟨#[]⟩, .string a2, .string a3, .string ⟨#[]⟩, .string a5] 23)) (Obj.cells #[.string b1, .string a2, .string a3, .string b4, .string b5] 23)
  have k1 := h1.below g2.b
  have x0 := k1.c0
  have x1 := k1.c1
  have x2 := k1.c2
  have x3 := k1.c3
  have x4 := k1.c4
  have y0 := h2.c0
  have y1 := h2.c1
  have y2 := h2.c2
  have y3 := h2.c3
  have y4 := h2.c4
  have HG := Lib.hid (g1.trans g2)
  clear HV h1 h2 g1 g2 k1
  have m2 := str_ne.2 n2
  have l2 := str_ne0 n2
  have m3 := str_ne.2 n3
  have l3 := str_ne0 n3
  have m5 := str_ne.2 n5
  have l5 := str_ne0 n5
  have g5 := str_ne.2 d5
  clear n2 n3 n5 d5
  go_enter Try.func15, Try.ntmps15
  go_wp2
  go_ret
  exact ⟨rfl, HG.out⟩
set_option maxHeartbeats 1000000 in
theorem rm_eqqee (a2 a3 b1 b4 b5 : ByteArray) (n2 : a2 ≠ ⟨#[]⟩) (n3 : a3 ≠ ⟨#[]⟩) (w : World) :
    Calls Try.prog 15 #[.agg #[.string ⟨#[]⟩, .string a2, .string a3, .string ⟨#[]⟩, .string ⟨#[]⟩], .agg #[.string b1, .string a2, .string a3, .string b4, .string b5]] w fun e w' => e = .returned (.bool (mtK (⟨#[]⟩, a2, a3, ⟨#[]⟩, ⟨#[]⟩) (b1, a2, a3, b4, b5))) ∧ Gb w w' := by
  have HV := Lib.hid (show mtK (⟨#[]⟩, a2, a3, ⟨#[]⟩, ⟨#[]⟩) (b1, a2, a3, b4, b5) = true from by simp [mtK, mtL, kyL, n2, n3])
  rw [HV.out]
  have h1 := Q5.alloc w (.string ⟨#[]⟩) (.string a2) (.string a3) (.string ⟨#[]⟩) (.string ⟨#[]⟩) 23
  have h2 := Q5.alloc (w.alloc (Obj.cells #[.string ⟨#[]⟩, .string a2, .string a3, .string ⟨#[]⟩, .string ⟨#[]⟩] 23)) (.string b1) (.string a2) (.string a3) (.string b4) (.string b5) 23
  rw [World.size_alloc] at h2
  have g1 := Gb.alloc w (Obj.cells #[.string ⟨#[]⟩, .string a2, .string a3, .string ⟨#[]⟩, .string ⟨#[]⟩] 23)
  have g2 := Gb.alloc (w.alloc (Obj.cells #[.string ⟨#[]⟩, .string a2, .string a3, .string ⟨#[]⟩, .string ⟨#[]⟩] 23)) (Obj.cells #[.string b1, .string a2, .string a3, .string b4, .string b5] 23)
  have k1 := h1.below g2.b
  have x0 := k1.c0
  have x1 := k1.c1
  have x2 := k1.c2
  have x3 := k1.c3
  have x4 := k1.c4
  have y0 := h2.c0
  have y1 := h2.c1
  have y2 := h2.c2
  have y3 := h2.c3
  have y4 := h2.c4
  have HG := Lib.hid (g1.trans g2)
  clear HV h1 h2 g1 g2 k1
  have m2 := str_ne.2 n2
  have l2 := str_ne0 n2
  have m3 := str_ne.2 n3
  have l3 := str_ne0 n3
  clear n2 n3
  go_enter Try.func15, Try.ntmps15
  go_wp2
  go_ret
  exact ⟨rfl, HG.out⟩
set_option maxHeartbeats 1000000 in
theorem rm_eqqeq (a2 a3 a5 b1 b4 : ByteArray) (n2 : a2 ≠ ⟨#[]⟩) (n3 : a3 ≠ ⟨#[]⟩) (n5 : a5 ≠ ⟨#[]⟩) (w : World) :
    Calls Try.prog 15 #[.agg #[.string ⟨#[]⟩, .string a2, .string a3, .string ⟨#[]⟩, .string a5], .agg #[.string b1, .string a2, .string a3, .string b4, .string a5]] w fun e w' => e = .returned (.bool (mtK (⟨#[]⟩, a2, a3, ⟨#[]⟩, a5) (b1, a2, a3, b4, a5))) ∧ Gb w w' := by
  have HV := Lib.hid (show mtK (⟨#[]⟩, a2, a3, ⟨#[]⟩, a5) (b1, a2, a3, b4, a5) = true from by simp [mtK, mtL, kyL, n2, n3, n5])
  rw [HV.out]
  have h1 := Q5.alloc w (.string ⟨#[]⟩) (.string a2) (.string a3) (.string ⟨#[]⟩) (.string a5) 23
  have h2 := Q5.alloc (w.alloc (Obj.cells #[.string ⟨#[]⟩, .string a2, .string a3, .string ⟨#[]⟩, .string a5] 23)) (.string b1) (.string a2) (.string a3) (.string b4) (.string a5) 23
  rw [World.size_alloc] at h2
  have g1 := Gb.alloc w (Obj.cells #[.string ⟨#[]⟩, .string a2, .string a3, .string ⟨#[]⟩, .string a5] 23)
  have g2 := Gb.alloc (w.alloc (Obj.cells #[.string ⟨#[]⟩, .string a2, .string a3, .string ⟨#[]⟩, .string a5] 23)) (Obj.cells #[.string b1, .string a2, .string a3, .string b4, .string a5] 23)
  have k1 := h1.below g2.b
  have x0 := k1.c0
  have x1 := k1.c1
  have x2 := k1.c2
  have x3 := k1.c3
  have x4 := k1.c4
  have y0 := h2.c0
  have y1 := h2.c1
  have y2 := h2.c2
  have y3 := h2.c3
  have y4 := h2.c4
  have HG := Lib.hid (g1.trans g2)
  clear HV h1 h2 g1 g2 k1
  have m2 := str_ne.2 n2
  have l2 := str_ne0 n2
  have m3 := str_ne.2 n3
  have l3 := str_ne0 n3
  have m5 := str_ne.2 n5
  have l5 := str_ne0 n5
  clear n2 n3 n5
  go_enter Try.func15, Try.ntmps15
  go_wp2
  go_ret
  exact ⟨rfl, HG.out⟩
set_option maxHeartbeats 1000000 in
theorem rm_eqqqx (a2 a3 a4 a5 b1 b5 : ByteArray) (n2 : a2 ≠ ⟨#[]⟩) (n3 : a3 ≠ ⟨#[]⟩) (n4 : a4 ≠ ⟨#[]⟩) (n5 : a5 ≠ ⟨#[]⟩) (d5 : a5 ≠ b5) (w : World) :
    Calls Try.prog 15 #[.agg #[.string ⟨#[]⟩, .string a2, .string a3, .string a4, .string a5], .agg #[.string b1, .string a2, .string a3, .string a4, .string b5]] w fun e w' => e = .returned (.bool (mtK (⟨#[]⟩, a2, a3, a4, a5) (b1, a2, a3, a4, b5))) ∧ Gb w w' := by
  have HV := Lib.hid (show mtK (⟨#[]⟩, a2, a3, a4, a5) (b1, a2, a3, a4, b5) = false from by simp [mtK, mtL, kyL, n2, n3, n4, n5, d5])
  rw [HV.out]
  have h1 := Q5.alloc w (.string ⟨#[]⟩) (.string a2) (.string a3) (.string a4) (.string a5) 23
  have h2 := Q5.alloc (w.alloc (Obj.cells #[.string ⟨#[]⟩, .string a2, .string a3, .string a4, .string a5] 23)) (.string b1) (.string a2) (.string a3) (.string a4) (.string b5) 23
  rw [World.size_alloc] at h2
  have g1 := Gb.alloc w (Obj.cells #[.string ⟨#[]⟩, .string a2, .string a3, .string a4, .string a5] 23)
  have g2 := Gb.alloc (w.alloc (Obj.cells #[.string ⟨#[]⟩, .string a2, .string a3, .string a4, .string a5] 23)) (Obj.cells #[.string b1, .string a2, .string a3, .string a4, .string b5] 23)
  have k1 := h1.below g2.b
  have x0 := k1.c0
  have x1 := k1.c1
  have x2 := k1.c2
  have x3 := k1.c3
  have x4 := k1.c4
  have y0 := h2.c0
  have y1 := h2.c1
  have y2 := h2.c2
  have y3 := h2.c3
  have y4 := h2.c4
  have HG := Lib.hid (g1.trans g2)
  clear HV h1 h2 g1 g2 k1
  have m2 := str_ne.2 n2
  have l2 := str_ne0 n2
  have m3 := str_ne.2 n3
  have l3 := str_ne0 n3
  have m4 := str_ne.2 n4
  have l4 := str_ne0 n4
  have m5 := str_ne.2 n5
  have l5 := str_ne0 n5
  have g5 := str_ne.2 d5
  clear n2 n3 n4 n5 d5
  go_enter Try.func15, Try.ntmps15
  go_wp2
  go_ret
  exact ⟨rfl, HG.out⟩
set_option maxHeartbeats 1000000 in
theorem rm_eqqqe (a2 a3 a4 b1 b5 : ByteArray) (n2 : a2 ≠ ⟨#[]⟩) (n3 : a3 ≠ ⟨#[]⟩) (n4 : a4 ≠ ⟨#[]⟩) (w : World) :
    Calls Try.prog 15 #[.agg #[.string ⟨#[]⟩, .string a2, .string a3, .string a4, .string ⟨#[]⟩], .agg #[.string b1, .string a2, .string a3, .string a4, .string b5]] w fun e w' => e = .returned (.bool (mtK (⟨#[]⟩, a2, a3, a4, ⟨#[]⟩) (b1, a2, a3, a4, b5))) ∧ Gb w w' := by
  have HV := Lib.hid (show mtK (⟨#[]⟩, a2, a3, a4, ⟨#[]⟩) (b1, a2, a3, a4, b5) = true from by simp [mtK, mtL, kyL, n2, n3, n4])
  rw [HV.out]
  have h1 := Q5.alloc w (.string ⟨#[]⟩) (.string a2) (.string a3) (.string a4) (.string ⟨#[]⟩) 23
  have h2 := Q5.alloc (w.alloc (Obj.cells #[.string ⟨#[]⟩, .string a2, .string a3, .string a4, .string ⟨#[]⟩] 23)) (.string b1) (.string a2) (.string a3) (.string a4) (.string b5) 23
  rw [World.size_alloc] at h2
  have g1 := Gb.alloc w (Obj.cells #[.string ⟨#[]⟩, .string a2, .string a3, .string a4, .string ⟨#[]⟩] 23)
  have g2 := Gb.alloc (w.alloc (Obj.cells #[.string ⟨#[]⟩, .string a2, .string a3, .string a4, .string ⟨#[]⟩] 23)) (Obj.cells #[.string b1, .string a2, .string a3, .string a4, .string b5] 23)
  have k1 := h1.below g2.b
  have x0 := k1.c0
  have x1 := k1.c1
  have x2 := k1.c2
  have x3 := k1.c3
  have x4 := k1.c4
  have y0 := h2.c0
  have y1 := h2.c1
  have y2 := h2.c2
  have y3 := h2.c3
  have y4 := h2.c4
  have HG := Lib.hid (g1.trans g2)
  clear HV h1 h2 g1 g2 k1
  have m2 := str_ne.2 n2
  have l2 := str_ne0 n2
  have m3 := str_ne.2 n3
  have l3 := str_ne0 n3
  have m4 := str_ne.2 n4
  have l4 := str_ne0 n4
  clear n2 n3 n4
  go_enter Try.func15, Try.ntmps15
  go_wp2
  go_ret
  exact ⟨rfl, HG.out⟩
set_option maxHeartbeats 1000000 in
theorem rm_eqqqq (a2 a3 a4 a5 b1 : ByteArray) (n2 : a2 ≠ ⟨#[]⟩) (n3 : a3 ≠ ⟨#[]⟩) (n4 : a4 ≠ ⟨#[]⟩) (n5 : a5 ≠ ⟨#[]⟩) (w : World) :
    Calls Try.prog 15 #[.agg #[.string ⟨#[]⟩, .string a2, .string a3, .string a4, .string a5], .agg #[.string b1, .string a2, .string a3, .string a4, .string a5]] w fun e w' => e = .returned (.bool (mtK (⟨#[]⟩, a2, a3, a4, a5) (b1, a2, a3, a4, a5))) ∧ Gb w w' := by
  have HV := Lib.hid (show mtK (⟨#[]⟩, a2, a3, a4, a5) (b1, a2, a3, a4, a5) = true from by simp [mtK, mtL, kyL, n2, n3, n4, n5])
  rw [HV.out]
  have h1 := Q5.alloc w (.string ⟨#[]⟩) (.string a2) (.string a3) (.string a4) (.string a5) 23
  have h2 := Q5.alloc (w.alloc (Obj.cells #[.string ⟨#[]⟩, .string a2, .string a3, .string a4, .string a5] 23)) (.string b1) (.string a2) (.string a3) (.string a4) (.string a5) 23
  rw [World.size_alloc] at h2
  have g1 := Gb.alloc w (Obj.cells #[.string ⟨#[]⟩, .string a2, .string a3, .string a4, .string a5] 23)
  have g2 := Gb.alloc (w.alloc (Obj.cells #[.string ⟨#[]⟩, .string a2, .string a3, .string a4, .string a5] 23)) (Obj.cells #[.string b1, .string a2, .string a3, .string a4, .string a5] 23)
  have k1 := h1.below g2.b
  have x0 := k1.c0
  have x1 := k1.c1
  have x2 := k1.c2
  have x3 := k1.c3
  have x4 := k1.c4
  have y0 := h2.c0
  have y1 := h2.c1
  have y2 := h2.c2
  have y3 := h2.c3
  have y4 := h2.c4
  have HG := Lib.hid (g1.trans g2)
  clear HV h1 h2 g1 g2 k1
  have m2 := str_ne.2 n2
  have l2 := str_ne0 n2
  have m3 := str_ne.2 n3
  have l3 := str_ne0 n3
  have m4 := str_ne.2 n4
  have l4 := str_ne0 n4
  have m5 := str_ne.2 n5
  have l5 := str_ne0 n5
  clear n2 n3 n4 n5
  go_enter Try.func15, Try.ntmps15
  go_wp2
  go_ret
  exact ⟨rfl, HG.out⟩
set_option maxHeartbeats 1000000 in
theorem rm_qx (a1 a2 a3 a4 a5 b2 b3 b4 b5 : ByteArray) (n1 : a1 ≠ ⟨#[]⟩) (n2 : a2 ≠ ⟨#[]⟩) (d2 : a2 ≠ b2) (w : World) :
    Calls Try.prog 15 #[.agg #[.string a1, .string a2, .string a3, .string a4, .string a5], .agg #[.string a1, .string b2, .string b3, .string b4, .string b5]] w fun e w' => e = .returned (.bool (mtK (a1, a2, a3, a4, a5) (a1, b2, b3, b4, b5))) ∧ Gb w w' := by
  have HV := Lib.hid (show mtK (a1, a2, a3, a4, a5) (a1, b2, b3, b4, b5) = false from by simp [mtK, mtL, kyL, n1, n2, d2])
  rw [HV.out]
  have h1 := Q5.alloc w (.string a1) (.string a2) (.string a3) (.string a4) (.string a5) 23
  have h2 := Q5.alloc (w.alloc (Obj.cells #[.string a1, .string a2, .string a3, .string a4, .string a5] 23)) (.string a1) (.string b2) (.string b3) (.string b4) (.string b5) 23
  rw [World.size_alloc] at h2
  have g1 := Gb.alloc w (Obj.cells #[.string a1, .string a2, .string a3, .string a4, .string a5] 23)
  have g2 := Gb.alloc (w.alloc (Obj.cells #[.string a1, .string a2, .string a3, .string a4, .string a5] 23)) (Obj.cells #[.string a1, .string b2, .string b3, .string b4, .string b5] 23)
  have k1 := h1.below g2.b
  have x0 := k1.c0
  have x1 := k1.c1
  have x2 := k1.c2
  have x3 := k1.c3
  have x4 := k1.c4
  have y0 := h2.c0
  have y1 := h2.c1
  have y2 := h2.c2
  have y3 := h2.c3
  have y4 := h2.c4
  have HG := Lib.hid (g1.trans g2)
  clear HV h1 h2 g1 g2 k1
  have m1 := str_ne.2 n1
  have l1 := str_ne0 n1
  have m2 := str_ne.2 n2
  have l2 := str_ne0 n2
  have g2 := str_ne.2 d2
  clear n1 n2 d2
  go_enter Try.func15, Try.ntmps15
  go_wp2
  go_ret
  exact ⟨rfl, HG.out⟩
set_option maxHeartbeats 1000000 in
theorem rm_qex (a1 a3 a4 a5 b2 b3 b4 b5 : ByteArray) (n1 : a1 ≠ ⟨#[]⟩) (n3 : a3 ≠ ⟨#[]⟩) (d3 : a3 ≠ b3) (w : World) :
    Calls Try.prog 15 #[.agg #[.string a1, .string ⟨#[]⟩, .string a3, .string a4, .string a5], .agg #[.string a1, .string b2, .string b3, .string b4, .string b5]] w fun e w' => e = .returned (.bool (mtK (a1, ⟨#[]⟩, a3, a4, a5) (a1, b2, b3, b4, b5))) ∧ Gb w w' := by
  have HV := Lib.hid (show mtK (a1, ⟨#[]⟩, a3, a4, a5) (a1, b2, b3, b4, b5) = false from by simp [mtK, mtL, kyL, n1, n3, d3])
  rw [HV.out]
  have h1 := Q5.alloc w (.string a1) (.string ⟨#[]⟩) (.string a3) (.string a4) (.string a5) 23
  have h2 := Q5.alloc (w.alloc (Obj.cells #[.string a1, .string ⟨#[]⟩, .string a3, .string a4, .string a5] 23)) (.string a1) (.string b2) (.string b3) (.string b4) (.string b5) 23
  rw [World.size_alloc] at h2
  have g1 := Gb.alloc w (Obj.cells #[.string a1, .string ⟨#[]⟩, .string a3, .string a4, .string a5] 23)
  have g2 := Gb.alloc (w.alloc (Obj.cells #[.string a1, .string ⟨#[]⟩, .string a3, .string a4, .string a5] 23)) (Obj.cells #[.string a1, .string b2, .string b3, .string b4, .string b5] 23)
  have k1 := h1.below g2.b
  have x0 := k1.c0
  have x1 := k1.c1
  have x2 := k1.c2
  have x3 := k1.c3
  have x4 := k1.c4
  have y0 := h2.c0
  have y1 := h2.c1
  have y2 := h2.c2
  have y3 := h2.c3
  have y4 := h2.c4
  have HG := Lib.hid (g1.trans g2)
  clear HV h1 h2 g1 g2 k1
  have m1 := str_ne.2 n1
  have l1 := str_ne0 n1
  have m3 := str_ne.2 n3
  have l3 := str_ne0 n3
  have g3 := str_ne.2 d3
  clear n1 n3 d3
  go_enter Try.func15, Try.ntmps15
  go_wp2
  go_ret
  exact ⟨rfl, HG.out⟩
set_option maxHeartbeats 1000000 in
theorem rm_qeex (a1 a4 a5 b2 b3 b4 b5 : ByteArray) (n1 : a1 ≠ ⟨#[]⟩) (n4 : a4 ≠ ⟨#[]⟩) (d4 : a4 ≠ b4) (w : World) :
    Calls Try.prog 15 #[.agg #[.string a1, .string ⟨#[]⟩, .string ⟨#[]⟩, .string a4, .string a5], .agg #[.string a1, .string b2, .string b3, .string b4, .string b5]] w fun e w' => e = .returned (.bool (mtK (a1, ⟨#[]⟩, ⟨#[]⟩, a4, a5) (a1, b2, b3, b4, b5))) ∧ Gb w w' := by
  have HV := Lib.hid (show mtK (a1, ⟨#[]⟩, ⟨#[]⟩, a4, a5) (a1, b2, b3, b4, b5) = false from by simp [mtK, mtL, kyL, n1, n4, d4])
  rw [HV.out]
  have h1 := Q5.alloc w (.string a1) (.string ⟨#[]⟩) (.string ⟨#[]⟩) (.string a4) (.string a5) 23
  have h2 := Q5.alloc (w.alloc (Obj.cells #[.string a1, .string ⟨#[]⟩, .string ⟨#[]⟩, .string a4, .string a5] 23)) (.string a1) (.string b2) (.string b3) (.string b4) (.string b5) 23
  rw [World.size_alloc] at h2
  have g1 := Gb.alloc w (Obj.cells #[.string a1, .string ⟨#[]⟩, .string ⟨#[]⟩, .string a4, .string a5] 23)
  have g2 := Gb.alloc (w.alloc (Obj.cells #[.string a1, .string ⟨#[]⟩, .string ⟨#[]⟩, .string a4, .string a5] 23)) (Obj.cells #[.string a1, .string b2, .string b3, .string b4, .string b5] 23)
  have k1 := h1.below g2.b
  have x0 := k1.c0
  have x1 := k1.c1
  have x2 := k1.c2
  have x3 := k1.c3
  have x4 := k1.c4
  have y0 := h2.c0
  have y1 := h2.c1
  have y2 := h2.c2
  have y3 := h2.c3
  have y4 := h2.c4
  have HG := Lib.hid (g1.trans g2)
  clear HV h1 h2 g1 g2 k1
  have m1 := str_ne.2 n1
  have l1 := str_ne0 n1
  have m4 := str_ne.2 n4
  have l4 := str_ne0 n4
  have g4 := str_ne.2 d4
  clear n1 n4 d4
  go_enter Try.func15, Try.ntmps15
  go_wp2
  go_ret
  exact ⟨rfl, HG.out⟩
set_option maxHeartbeats 1000000 in
theorem rm_qeeex (a1 a5 b2 b3 b4 b5 : ByteArray) (n1 : a1 ≠ ⟨#[]⟩) (n5 : a5 ≠ ⟨#[]⟩) (d5 : a5 ≠ b5) (w : World) :
    Calls Try.prog 15 #[.agg #[.string a1, .string ⟨#[]⟩, .string ⟨#[]⟩, .string ⟨#[]⟩, .string a5], .agg #[.string a1, .string b2, .string b3, .string b4, .string b5]] w fun e w' => e = .returned (.bool (mtK (a1, ⟨#[]⟩, ⟨#[]⟩, ⟨#[]⟩, a5) (a1, b2, b3, b4, b5))) ∧ Gb w w' := by
  have HV := Lib.hid (show mtK (a1, ⟨#[]⟩, ⟨#[]⟩, ⟨#[]⟩, a5) (a1, b2, b3, b4, b5) = false from by simp [mtK, mtL, kyL, n1, n5, d5])
  rw [HV.out]
  have h1 := Q5.alloc w (.string a1) (.string ⟨#[]⟩) (.string ⟨#[]⟩) (.string ⟨#[]⟩) (.string a5) 23
  have h2 := Q5.alloc (w.alloc (Obj.cells #[.string a1, .string ⟨#[]⟩, .string ⟨#[]⟩, .string ⟨#[]⟩, .string a5] 23)) (.string a1) (.string b2) (.string b3) (.string b4) (.string b5) 23
  rw [World.size_alloc] at h2
  have g1 := Gb.alloc w (Obj.cells #[.string a1, .string ⟨#[]⟩, .string ⟨#[]⟩, .string ⟨#[]⟩, .string a5] 23)
  have g2 := Gb.alloc (w.alloc (Obj.cells #[.string a1, .string ⟨#[]⟩, .string ⟨#[]⟩, .string ⟨#[]⟩, .string a5] 23)) (Obj.cells #[.string a1, .string b2, .string b3, .string b4, .string b5] 23)
  have k1 := h1.below g2.b
  have x0 := k1.c0
  have x1 := k1.c1
  have x2 := k1.c2
  have x3 := k1.c3
  have x4 := k1.c4
  have y0 := h2.c0
  have y1 := h2.c1
  have y2 := h2.c2
  have y3 := h2.c3
  have y4 := h2.c4
  have HG := Lib.hid (g1.trans g2)
  clear HV h1 h2 g1 g2 k1
  have m1 := str_ne.2 n1
  have l1 := str_ne0 n1
  have m5 := str_ne.2 n5
  have l5 := str_ne0 n5
  have g5 := str_ne.2 d5
  clear n1 n5 d5
  go_enter Try.func15, Try.ntmps15
  go_wp2
  go_ret
  exact ⟨rfl, HG.out⟩
set_option maxHeartbeats 1000000 in
theorem rm_qeeee (a1 b2 b3 b4 b5 : ByteArray) (n1 : a1 ≠ ⟨#[]⟩) (w : World) :
    Calls Try.prog 15 #[.agg #[.string a1, .string ⟨#[]⟩, .string ⟨#[]⟩, .string ⟨#[]⟩, .string ⟨#[]⟩], .agg #[.string a1, .string b2, .string b3, .string b4, .string b5]] w fun e w' => e = .returned (.bool (mtK (a1, ⟨#[]⟩, ⟨#[]⟩, ⟨#[]⟩, ⟨#[]⟩) (a1, b2, b3, b4, b5))) ∧ Gb w w' := by
  have HV := Lib.hid (show mtK (a1, ⟨#[]⟩, ⟨#[]⟩, ⟨#[]⟩, ⟨#[]⟩) (a1, b2, b3, b4, b5) = true from by simp [mtK, mtL, kyL, n1])
  rw [HV.out]
  have h1 := Q5.alloc w (.string a1) (.string ⟨#[]⟩) (.string ⟨#[]⟩) (.string ⟨#[]⟩) (.string ⟨#[]⟩) 23
  have h2 := Q5.alloc (w.alloc (Obj.cells #[.string a1, .string ⟨#[]⟩, .string ⟨#[]⟩, .string ⟨#[]⟩, .string ⟨#[]⟩] 23)) (.string a1) (.string b2) (.string b3) (.string b4) (.string b5) 23
  rw [World.size_alloc] at h2
  have g1 := Gb.alloc w (Obj.cells #[.string a1, .string ⟨#[]⟩, .string ⟨#[]⟩, .string ⟨#[]⟩, .string ⟨#[]⟩] 23)
  have g2 := Gb.alloc (w.alloc (Obj.cells #[.string a1, .string ⟨#[]⟩, .string ⟨#[]⟩, .string ⟨#[]⟩, .string ⟨#[]⟩] 23)) (Obj.cells #[.string a1, .string b2, .string b3, .string b4, .string b5] 23)
  have k1 := h1.below g2.b
  have x0 := k1.c0
  have x1 := k1.c1
  have x2 := k1.c2
  have x3 := k1.c3
  have x4 := k1.c4
  have y0 := h2.c0
  have y1 := h2.c1
  have y2 := h2.c2
  have y3 := h2.c3
  have y4 := h2.c4
  have HG := Lib.hid (g1.trans g2)
  clear HV h1 h2 g1 g2 k1
  have m1 := str_ne.2 n1
  have l1 := str_ne0 n1
  clear n1
  go_enter Try.func15, Try.ntmps15
  go_wp2
  go_ret
  exact ⟨rfl, HG.out⟩
set_option maxHeartbeats 1000000 in
theorem rm_qeeeq (a1 a5 b2 b3 b4 : ByteArray) (n1 : a1 ≠ ⟨#[]⟩) (n5 : a5 ≠ ⟨#[]⟩) (w : World) :
    Calls Try.prog 15 #[.agg #[.string a1, .string ⟨#[]⟩, .string ⟨#[]⟩, .string ⟨#[]⟩, .string a5], .agg #[.string a1, .string b2, .string b3, .string b4, .string a5]] w fun e w' => e = .returned (.bool (mtK (a1, ⟨#[]⟩, ⟨#[]⟩, ⟨#[]⟩, a5) (a1, b2, b3, b4, a5))) ∧ Gb w w' := by
  have HV := Lib.hid (show mtK (a1, ⟨#[]⟩, ⟨#[]⟩, ⟨#[]⟩, a5) (a1, b2, b3, b4, a5) = true from by simp [mtK, mtL, kyL, n1, n5])
  rw [HV.out]
  have h1 := Q5.alloc w (.string a1) (.string ⟨#[]⟩) (.string ⟨#[]⟩) (.string ⟨#[]⟩) (.string a5) 23
  have h2 := Q5.alloc (w.alloc (Obj.cells #[.string a1, .string ⟨#[]⟩, .string ⟨#[]⟩, .string ⟨#[]⟩, .string a5] 23)) (.string a1) (.string b2) (.string b3) (.string b4) (.string a5) 23
  rw [World.size_alloc] at h2
  have g1 := Gb.alloc w (Obj.cells #[.string a1, .string ⟨#[]⟩, .string ⟨#[]⟩, .string ⟨#[]⟩, .string a5] 23)
  have g2 := Gb.alloc (w.alloc (Obj.cells #[.string a1, .string ⟨#[]⟩, .string ⟨#[]⟩, .string ⟨#[]⟩, .string a5] 23)) (Obj.cells #[.string a1, .string b2, .string b3, .string b4, .string a5] 23)
  have k1 := h1.below g2.b
  have x0 := k1.c0
  have x1 := k1.c1
  have x2 := k1.c2
  have x3 := k1.c3
  have x4 := k1.c4
  have y0 := h2.c0
  have y1 := h2.c1
  have y2 := h2.c2
  have y3 := h2.c3
  have y4 := h2.c4
  have HG := Lib.hid (g1.trans g2)
  clear HV h1 h2 g1 g2 k1
  have m1 := str_ne.2 n1
  have l1 := str_ne0 n1
  have m5 := str_ne.2 n5
  have l5 := str_ne0 n5
  clear n1 n5
  go_enter Try.func15, Try.ntmps15
  go_wp2
  go_ret
  exact ⟨rfl, HG.out⟩
set_option maxHeartbeats 1000000 in
theorem rm_qeeqx (a1 a4 a5 b2 b3 b5 : ByteArray) (n1 : a1 ≠ ⟨#[]⟩) (n4 : a4 ≠ ⟨#[]⟩) (n5 : a5 ≠ ⟨#[]⟩) (d5 : a5 ≠ b5) (w : World) :
    Calls Try.prog 15 #[.agg #[.string a1, .string ⟨#[]⟩, .string ⟨#[]⟩, .string a4, .string a5], .agg #[.string a1, .string b2, .string b3, .string a4, .string b5]] w fun e w' => e = .returned (.bool (mtK (a1, ⟨#[]⟩, ⟨#[]⟩, a4, a5) (a1, b2, b3, a4, b5))) ∧ Gb w w' := by
  have HV := Lib.hid (show mtK (a1, ⟨#[]⟩, ⟨#[]⟩, a4, a5) (a1, b2, b3, a4, b5) = false from by simp [mtK, mtL, kyL, n1, n4, n5, d5])
  rw [HV.out]
  have h1 := Q5.alloc w (.string a1) (.string ⟨#[]⟩) (.string ⟨#[]⟩) (.string a4) (.string a5) 23
  have h2 := Q5.alloc (w.alloc (Obj.cells #[.string a1, .string ⟨#[]⟩, .string ⟨#[]⟩, .string a4, .string a5] 23)) (.string a1) (.string b2) (.string b3) (.string a4) (.string b5) 23
  rw [World.size_alloc] at h2
  have g1 := Gb.alloc w (Obj.cells #[.string a1, .string ⟨#[]⟩, .string ⟨#[]⟩, .string a4, .string a5] 23)
  have g2 := Gb.alloc (w.alloc (Obj.cells #[.string a1, .string ⟨#[]⟩, .string ⟨#[]⟩, .string a4, .string a5] 23)) (Obj.cells #[.string a1, .string b2, .string b3, .string a4, .string b5] 23)
  have k1 := h1.below g2.b
  have x0 := k1.c0
  have x1 := k1.c1
  have x2 := k1.c2
  have x3 := k1.c3
  have x4 := k1.c4
  have y0 := h2.c0
  have y1 := h2.c1
  have y2 := h2.c2
  have y3 := h2.c3
  have y4 := h2.c4
  have HG := Lib.hid (g1.trans g2)
  clear HV h1 h2 g1 g2 k1
  have m1 := str_ne.2 n1
  have l1 := str_ne0 n1
  have m4 := str_ne.2 n4
  have l4 := str_ne0 n4
  have m5 := str_ne.2 n5
  have l5 := str_ne0 n5
  have g5 := str_ne.2 d5
  clear n1 n4 n5 d5
  go_enter Try.func15, Try.ntmps15
  go_wp2
  go_ret
  exact ⟨rfl, HG.out⟩
set_option maxHeartbeats 1000000 in
theorem rm_qeeqe (a1 a4 b2 b3 b5 : ByteArray) (n1 : a1 ≠ ⟨#[]⟩) (n4 : a4 ≠ ⟨#[]⟩) (w : World) :
    Calls Try.prog 15 #[.agg #[.string a1, .string ⟨#[]⟩, .string ⟨#[]⟩, .string a4, .string ⟨#[]⟩], .agg #[.string a1, .string b2, .string b3, .string a4, .string b5]] w fun e w' => e = .returned (.bool (mtK (a1, ⟨#[]⟩, ⟨#[]⟩, a4, ⟨#[]⟩) (a1, b2, b3, a4, b5))) ∧ Gb w w' := by
  have HV := Lib.hid (show mtK (a1, ⟨#[]⟩, ⟨#[]⟩, a4, ⟨#[]⟩) (a1, b2, b3, a4, b5) = true from by simp [mtK, mtL, kyL, n1, n4])
  rw [HV.out]
  have h1 := Q5.alloc w (.string a1) (.string ⟨#[]⟩) (.string ⟨#[]⟩) (.string a4) (.string ⟨#[]⟩) 23
  have h2 := Q5.alloc (w.alloc (Obj.cells #[.string a1, .string ⟨#[]⟩, .string ⟨#[]⟩, .string a4, .string ⟨#[]⟩] 23)) (.string a1) (.string b2) (.string b3) (.string a4) (.string b5) 23
  rw [World.size_alloc] at h2
  have g1 := Gb.alloc w (Obj.cells #[.string a1, .string ⟨#[]⟩, .string ⟨#[]⟩, .string a4, .string ⟨#[]⟩] 23)
  have g2 := Gb.alloc (w.alloc (Obj.cells #[.string a1, .string ⟨#[]⟩, .string ⟨#[]⟩, .string a4, .string ⟨#[]⟩] 23)) (Obj.cells #[.string a1, .string b2, .string b3, .string a4, .string b5] 23)
  have k1 := h1.below g2.b
  have x0 := k1.c0
  have x1 := k1.c1
  have x2 := k1.c2
  have x3 := k1.c3
  have x4 := k1.c4
  have y0 := h2.c0
  have y1 := h2.c1
  have y2 := h2.c2
  have y3 := h2.c3
  have y4 := h2.c4
  have HG := Lib.hid (g1.trans g2)
  clear HV h1 h2 g1 g2 k1
  have m1 := str_ne.2 n1
  have l1 := str_ne0 n1
  have m4 := str_ne.2 n4
  have l4 := str_ne0 n4
  clear n1 n4
  go_enter Try.func15, Try.ntmps15
  go_wp2
  go_ret
  exact ⟨rfl, HG.out⟩
set_option maxHeartbeats 1000000 in
theorem rm_qeeqq (a1 a4 a5 b2 b3 : ByteArray) (n1 : a1 ≠ ⟨#[]⟩) (n4 : a4 ≠ ⟨#[]⟩) (n5 : a5 ≠ ⟨#[]⟩) (w : World) :
    Calls Try.prog 15 #[.agg #[.string a1, .string ⟨#[]⟩, .string ⟨#[]⟩, .string a4, .string a5], .agg #[.string a1, .string b2, .string b3, .string a4, .string a5]] w fun e w' => e = .returned (.bool (mtK (a1, ⟨#[]⟩, ⟨#[]⟩, a4, a5) (a1, b2, b3, a4, a5))) ∧ Gb w w' := by
  have HV := Lib.hid (show mtK (a1, ⟨#[]⟩, ⟨#[]⟩, a4, a5) (a1, b2, b3, a4, a5) = true from by simp [mtK, mtL, kyL, n1, n4, n5])
  rw [HV.out]
  have h1 := Q5.alloc w (.string a1) (.string ⟨#[]⟩) (.string ⟨#[]⟩) (.string a4) (.string a5) 23
  have h2 := Q5.alloc (w.alloc (Obj.cells #[.string a1, .string ⟨#[]⟩, .string ⟨#[]⟩, .string a4, .string a5] 23)) (.string a1) (.string b2) (.string b3) (.string a4) (.string a5) 23
  rw [World.size_alloc] at h2
  have g1 := Gb.alloc w (Obj.cells #[.string a1, .string ⟨#[]⟩, .string ⟨#[]⟩, .string a4, .string a5] 23)
  have g2 := Gb.alloc (w.alloc (Obj.cells #[.string a1, .string ⟨#[]⟩, .string ⟨#[]⟩, .string a4, .string a5] 23)) (Obj.cells #[.string a1, .string b2, .string b3, .string a4, .string a5] 23)
  have k1 := h1.below g2.b
  have x0 := k1.c0
  have x1 := k1.c1
  have x2 := k1.c2
  have x3 := k1.c3
  have x4 := k1.c4
  have y0 := h2.c0
  have y1 := h2.c1
  have y2 := h2.c2
  have y3 := h2.c3
  have y4 := h2.c4
  have HG := Lib.hid (g1.trans g2)
  clear HV h1 h2 g1 g2 k1
  have m1 := str_ne.2 n1
  have l1 := str_ne0 n1
  have m4 := str_ne.2 n4
  have l4 := str_ne0 n4
  have m5 := str_ne.2 n5
  have l5 := str_ne0 n5
  clear n1 n4 n5
  go_enter Try.func15, Try.ntmps15
  go_wp2
  go_ret
  exact ⟨rfl, HG.out⟩
set_option maxHeartbeats 1000000 in
theorem rm_qeqx (a1 a3 a4 a5 b2 b4 b5 : ByteArray) (n1 : a1 ≠ ⟨#[]⟩) (n3 : a3 ≠ ⟨#[]⟩) (n4 : a4 ≠ ⟨#[]⟩) (d4 : a4 ≠ b4) (w : World) :
    Calls Try.prog 15 #[.agg #[.string a1, .string ⟨#[]⟩, .string a3, .string a4, .string a5], .agg #[.string a1, .string b2, .string a3, .string b4, .string b5]] w fun e w' => e = .returned (.bool (mtK (a1, ⟨#[]⟩, a3, a4, a5) (a1, b2, a3, b4, b5))) ∧ Gb w w' := by
  have HV := Lib.hid (show mtK (a1, ⟨#[]⟩, a3, a4, a5) (a1, b2, a3, b4, b5) = false from by simp [mtK, mtL, kyL, n1, n3, n4, d4])
  rw [HV.out]
  have h1 := Q5.alloc w (.string a1) (.string ⟨#[]⟩) (.string a3) (.string a4) (.string a5) 23
  have h2 := Q5.alloc (w.alloc (Obj.cells #[.string a1, .string ⟨#[]⟩, .string a3, .string a4, .string a5] 23)) (.string a1) (.string b2) (.string a3) (.string b4) (.string b5) 23
  rw [World.size_alloc] at h2
  have g1 := Gb.alloc w (Obj.cells #[.string a1, .string ⟨#[]⟩, .string a3, .string a4, .string a5] 23)
  have g2 := Gb.alloc (w.alloc (Obj.cells #[.string a1, .string ⟨#[]⟩, .string a3, .string a4, .string a5] 23)) (Obj.cells #[.string a1, .string b2, .string a3, .string b4, .string b5] 23)
  have k1 := h1.below g2.b
  have x0 := k1.c0
  have x1 := k1.c1
  have x2 := k1.c2
  have x3 := k1.c3
  have x4 := k1.c4
  have y0 := h2.c0
  have y1 := h2.c1
  have y2 := h2.c2
  have y3 := h2.c3
  have y4 := h2.c4
  have HG := Lib.hid (g1.trans g2)
  clear HV h1 h2 g1 g2 k1
  have m1 := str_ne.2 n1
  have l1 := str_ne0 n1
  have m3 := str_ne.2 n3
  have l3 := str_ne0 n3
  have m4 := str_ne.2 n4
  have l4 := str_ne0 n4
  have g4 := str_ne.2 d4
  clear n1 n3 n4 d4
  go_enter Try.func15, Try.ntmps15
  go_wp2
  go_ret
  exact ⟨rfl, HG.out⟩
set_option maxHeartbeats 1000000 in
theorem rm_qeqex (a1 a3 a5 b2 b4 b5 : ByteArray) (n1 : a1 ≠ ⟨#[]⟩) (n3 : a3 ≠ ⟨#[]⟩) (n5 : a5 ≠ ⟨#[]⟩) (d5 : a5 ≠ b5) (w : World) :
    Calls Try.prog 15 #[.agg #[.string a1, .string ⟨#[]⟩, .string a3, .string ⟨#[]⟩, .string a5], .agg #[.string a1, .string b2, .string a3, .string b4, .string b5]] w fun e w' => e = .returned (.bool (mtK (a1, ⟨#[]⟩, a3, ⟨#[]⟩, a5) (a1, b2, a3, b4, b5))) ∧ Gb w w' := by
  have HV := Lib.hid (show mtK (a1, ⟨#[]⟩, a3, ⟨#[]⟩, a5) (a1, b2, a3, b4, b5) = false from by simp [mtK, mtL, kyL, n1, n3, n5, d5])
  rw [HV.out]
  have h1 := Q5.alloc w (.string a1) (.string ⟨#[]⟩) (.string a3) (.string ⟨#[]⟩) (.string a5) 23
  have h2 := Q5.alloc (w.alloc (Obj.cells #[.string a1, .string ⟨#[]⟩, .string a3, .string ⟨#[]⟩, .string a5] 23)) (.string a1) (.string b2) (.string a3) (.string b4) (.string b5) 23
  rw [World.size_alloc] at h2
  have g1 := Gb.alloc w (Obj.cells #[.string a1, .string ⟨#[]⟩, .string a3, .string ⟨#[]⟩, .string a5] 23)
  have g2 := Gb.alloc (w.alloc (Obj.cells #[.string a1, .string ⟨#[]⟩, .string a3, .string ⟨#[]⟩, .string a5] 23)) (Obj.cells #[.string a1, .string b2, .string a3, .string b4, .string b5] 23)
  have k1 := h1.below g2.b
  have x0 := k1.c0
  have x1 := k1.c1
  have x2 := k1.c2
  have x3 := k1.c3
  have x4 := k1.c4
  have y0 := h2.c0
  have y1 := h2.c1
  have y2 := h2.c2
  have y3 := h2.c3
  have y4 := h2.c4
  have HG := Lib.hid (g1.trans g2)
  clear HV h1 h2 g1 g2 k1
  have m1 := str_ne.2 n1
  have l1 := str_ne0 n1
  have m3 := str_ne.2 n3
  have l3 := str_ne0 n3
  have m5 := str_ne.2 n5
  have l5 := str_ne0 n5
  have g5 := str_ne.2 d5
  clear n1 n3 n5 d5
  go_enter Try.func15, Try.ntmps15
  go_wp2
  go_ret
  exact ⟨rfl, HG.out⟩
set_option maxHeartbeats 1000000 in
theorem rm_qeqee (a1 a3 b2 b4 b5 : ByteArray) (n1 : a1 ≠ ⟨#[]⟩) (n3 : a3 ≠ ⟨#[]⟩) (w : World) :
    Calls Try.prog 15 #[.agg #[.string a1, .string ⟨#[]⟩, .string a3, .string ⟨#[]⟩, .string ⟨#[]⟩], .agg #[.string a1, .string b2, .string a3, .string b4, .string b5]] w fun e w' => e = .returned (.bool (mtK (a1, ⟨#[]⟩, a3, ⟨#[]⟩, ⟨#[]⟩) (a1, b2, a3, b4, b5))) ∧ Gb w w' := by
  have HV := Lib.hid (show mtK (a1, ⟨#[]⟩, a3, ⟨#[]⟩, ⟨#[]⟩) (a1, b2, a3, b4, b5) = true from by simp [mtK, mtL, kyL, n1, n3])
  rw [HV.out]
  have h1 := Q5.alloc w (.string a1) (.string ⟨#[]⟩) (.string a3) (.string ⟨#[]⟩) (.string ⟨#[]⟩) 23
  have h2 := Q5.alloc (w.alloc (Obj.cells #[.string a1, .string ⟨#[]⟩, .string a3, .string ⟨#[]⟩, .string ⟨#[]⟩] 23)) (.string a1) (.string b2) (.string a3) (.string b4) (.string b5) 23
  rw [World.size_alloc] at h2
  have g1 := Gb.alloc w (Obj.cells #[.string a1, .string ⟨#[]⟩, .string a3, .string ⟨#[]⟩, .string ⟨#[]⟩] 23)
  have g2 := Gb.alloc (w.alloc (Obj.cells #[.string a1, .string ⟨#[]⟩, .string a3, .string ⟨#[]⟩, .string ⟨#[]⟩] 23)) (Obj.cells #[.string a1, .string b2, .string a3, .string b4, .string b5] 23)
  have k1 := h1.below g2.b
  have x0 := k1.c0
  have x1 := k1.c1
  have x2 := k1.c2
  have x3 := k1.c3
  have x4 := k1.c4
  have y0 := h2.c0
  have y1 := h2.c1
  have y2 := h2.c2
  have y3 := h2.c3
  have y4 := h2.c4
  have HG := Lib.hid (g1.trans g2)
  clear HV h1 h2 g1 g2 k1
  have m1 := str_ne.2 n1
  have l1 := str_ne0 n1
  have m3 := str_ne.2 n3
  have l3 := str_ne0 n3
  clear n1 n3
  go_enter Try.func15, Try.ntmps15
  go_wp2
  go_ret
  exact ⟨rfl, HG.out⟩
set_option maxHeartbeats 1000000 in
theorem rm_qeqeq (a1 a3 a5 b2 b4 : ByteArray) (n1 : a1 ≠ ⟨#[]⟩) (n3 : a3 ≠ ⟨#[]⟩) (n5 : a5 ≠ ⟨#[]⟩) (w : World) :
    Calls Try.prog 15 #[.agg #[.string a1, .string ⟨#[]⟩, .string a3, .string ⟨#[]⟩, .string a5], .agg #[.string a1, .string b2, .string a3, .string b4, .string a5]] w fun e w' => e = .returned (.bool (mtK (a1, ⟨#[]⟩, a3, ⟨#[]⟩, a5) (a1, b2, a3, b4, a5))) ∧ Gb w w' := by
  have HV := Lib.hid (show mtK (a1, ⟨#[]⟩, a3, ⟨#[]⟩, a5) (a1, b2, a3, b4, a5) = true from by simp [mtK, mtL, kyL, n1, n3, n5])
  rw [HV.out]
  have h1 := Q5.alloc w (.string a1) (.string ⟨#[]⟩) (.string a3) (.string ⟨#[]⟩) (.string a5) 23
  have h2 := Q5.alloc (w.alloc (Obj.cells #[.string a1, .string ⟨#[]⟩, .string a3, .string ⟨#[]⟩, .string a5] 23)) (.string a1) (.string b2) (.string a3) (.string b4) (.string a5) 23
  rw [World.size_alloc] at h2
  have g1 := Gb.alloc w (Obj.cells #[.string a1, .string ⟨#[]⟩, .string a3, .string ⟨#[]⟩, .string a5] 23)
  have g2 := Gb.alloc (w.alloc (Obj.cells #[.string a1, .string ⟨#[]⟩, .string a3, .string ⟨#[]⟩, .string a5] 23)) (Obj.cells #[.string a1, .string b2, .string a3, .string b4, .string a5] 23)
  have k1 := h1.below g2.b
  have x0 := k1.c0
  have x1 := k1.c1
  have x2 := k1.c2
  have x3 := k1.c3
  have x4 := k1.c4
  have y0 := h2.c0
  have y1 := h2.c1
  have y2 := h2.c2
  have y3 := h2.c3
  have y4 := h2.c4
  have HG := Lib.hid (g1.trans g2)
  clear HV h1 h2 g1 g2 k1
  have m1 := str_ne.2 n1
  have l1 := str_ne0 n1
  have m3 := str_ne.2 n3
  have l3 := str_ne0 n3
  have m5 := str_ne.2 n5
  have l5 := str_ne0 n5
  clear n1 n3 n5
  go_enter Try.func15, Try.ntmps15
  go_wp2
  go_ret
  exact ⟨rfl, HG.out⟩
set_option maxHeartbeats 1000000 in
theorem rm_qeqqx (a1 a3 a4 a5 b2 b5 : ByteArray) (n1 : a1 ≠ ⟨#[]⟩) (n3 : a3 ≠ ⟨#[]⟩) (n4 : a4 ≠ ⟨#[]⟩) (n5 : a5 ≠ ⟨#[]⟩) (d5 : a5 ≠ b5) (w : World) :
    Calls Try.prog 15 #[.agg #[.string a1, .string ⟨#[]⟩, .string a3, .string a4, .string a5], .agg #[.string a1, .string b2, .string a3, .string a4, .string b5]] w fun e w' => e = .returned (.bool (mtK (a1, ⟨#[]⟩, a3, a4, a5) (a1, b2, a3, a4, b5))) ∧ Gb w w' := by
  have HV := Lib.hid (show mtK (a1, ⟨#[]⟩, a3, a4, a5) (a1, b2, a3, a4, b5) = false from by simp [mtK, mtL, kyL, n1, n3, n4, n5, d5])
  rw [HV.out]
  have h1 := Q5.alloc w (.string a1) (.string ⟨#[]⟩) (.string a3) (.string a4) (.string a5) 23
  have h2 := Q5.alloc (w.alloc (Obj.cells #[.string a1, .string ⟨#[]⟩, .string a3, .string a4, .string a5] 23)) (.string a1) (.string b2) (.string a3) (.string a4) (.string b5) 23
  rw [World.size_alloc] at h2
  have g1 := Gb.alloc w (Obj.cells #[.string a1, .string ⟨#[]⟩, .string a3, .string a4, .string a5] 23)
  have g2 := Gb.alloc (w.alloc (Obj.cells #[.string a1, .string ⟨#[]⟩, .string a3, .string a4, .string a5] 23)) (Obj.cells #[.string a1, .string b2, .string a3, .string a4, .string b5] 23)
  have k1 := h1.below g2.b
  have x0 := k1.c0
  have x1 := k1.c1
  have x2 := k1.c2
  have x3 := k1.c3
  have x4 := k1.c4
  have y0 := h2.c0
  have y1 := h2.c1
  have y2 := h2.c2
  have y3 := h2.c3
  have y4 := h2.c4
  have HG := Lib.hid (g1.trans g2)
  clear HV h1 h2 g1 g2 k1
  have m1 := str_ne.2 n1
  have l1 := str_ne0 n1
  have m3 := str_ne.2 n3
  have l3 := str_ne0 n3
  have m4 := str_ne.2 n4
  have l4 := str_ne0 n4
  have m5 := str_ne.2 n5
  have l5 := str_ne0 n5
  have g5 := str_ne.2 d5
  clear n1 n3 n4 n5 d5
  go_enter Try.func15, Try.ntmps15
  go_wp2
  go_ret
  exact ⟨rfl, HG.out⟩
set_option maxHeartbeats 1000000 in
theorem rm_qeqqe (a1 a3 a4 b2 b5 : ByteArray) (n1 : a1 ≠ ⟨#[]⟩) (n3 : a3 ≠ ⟨#[]⟩) (n4 : a4 ≠ ⟨#[]⟩) (w : World) :
    Calls Try.prog 15 #[.agg #[.string a1, .string ⟨#[]⟩, .string a3, .string a4, .string ⟨#[]⟩], .agg #[.string a1, .string b2, .string a3, .string a4, .string b5]] w fun e w' => e = .returned (.bool (mtK (a1, ⟨#[]⟩, a3, a4, ⟨#[]⟩) (a1, b2, a3, a4, b5))) ∧ Gb w w' := by
  have HV := Lib.hid (show mtK (a1, ⟨#[]⟩, a3, a4, ⟨#[]⟩) (a1, b2, a3, a4, b5) = true from by simp [mtK, mtL, kyL, n1, n3, n4])
  rw [HV.out]
  have h1 := Q5.alloc w (.string a1) (.string ⟨#[]⟩) (.string a3) (.string a4) (.string ⟨#[]⟩) 23
  have h2 := Q5.alloc (w.alloc (Obj.cells #[.string a1, .string ⟨#[]⟩, .string a3, .string a4, .string ⟨#[]⟩] 23)) (.string a1) (.string b2) (.string a3) (.string a4) (.string b5) 23
  rw [World.size_alloc] at h2
  have g1 := Gb.alloc w (Obj.cells #[.string a1, .string ⟨#[]⟩, .string a3, .string a4, .string ⟨#[]⟩] 23)
  have g2 := Gb.alloc (w.alloc (Obj.cells #[.string a1, .string ⟨#[]⟩, .string a3, .string a4, .string ⟨#[]⟩] 23)) (Obj.cells #[.string a1, .string b2, .string a3, .string a4, .string b5] 23)
  have k1 := h1.below g2.b
  have x0 := k1.c0
  have x1 := k1.c1
  have x2 := k1.c2
  have x3 := k1.c3
  have x4 := k1.c4
  have y0 := h2.c0
  have y1 := h2.c1
  have y2 := h2.c2
  have y3 := h2.c3
  have y4 := h2.c4
  have HG := Lib.hid (g1.trans g2)
  clear HV h1 h2 g1 g2 k1
  have m1 := str_ne.2 n1
  have l1 := str_ne0 n1
  have m3 := str_ne.2 n3
  have l3 := str_ne0 n3
  have m4 := str_ne.2 n4
  have l4 := str_ne0 n4
  clear n1 n3 n4
  go_enter Try.func15, Try.ntmps15
  go_wp2
  go_ret
  exact ⟨rfl, HG.out⟩
set_option maxHeartbeats 1000000 in
theorem rm_qeqqq (a1 a3 a4 a5 b2 : ByteArray) (n1 : a1 ≠ ⟨#[]⟩) (n3 : a3 ≠ ⟨#[]⟩) (n4 : a4 ≠ ⟨#[]⟩) (n5 : a5 ≠ ⟨#[]⟩) (w : World) :
    Calls Try.prog 15 #[.agg #[.string a1, .string ⟨#[]⟩, .string a3, .string a4, .string a5], .agg #[.string a1, .string b2, .string a3, .string a4, .string a5]] w fun e w' => e = .returned (.bool (mtK (a1, ⟨#[]⟩, a3, a4, a5) (a1, b2, a3, a4, a5))) ∧ Gb w w' := by
  have HV := Lib.hid (show mtK (a1, ⟨#[]⟩, a3, a4, a5) (a1, b2, a3, a4, a5) = true from by simp [mtK, mtL, kyL, n1, n3, n4, n5])
  rw [HV.out]
  have h1 := Q5.alloc w (.string a1) (.string ⟨#[]⟩) (.string a3) (.string a4) (.string a5) 23
  have h2 := Q5.alloc (w.alloc (Obj.cells #[.string a1, .string ⟨#[]⟩, .string a3, .string a4, .string a5] 23)) (.string a1) (.string b2) (.string a3) (.string a4) (.string a5) 23
  rw [World.size_alloc] at h2
  have g1 := Gb.alloc w (Obj.cells #[.string a1, .string ⟨#[]⟩, .string a3, .string a4, .string a5] 23)
  have g2 := Gb.alloc (w.alloc (Obj.cells #[.string a1, .string ⟨#[]⟩, .string a3, .string a4, .string a5] 23)) (Obj.cells #[.string a1, .string b2, .string a3, .string a4, .string a5] 23)
  have k1 := h1.below g2.b
  have x0 := k1.c0
  have x1 := k1.c1
  have x2 := k1.c2
  have x3 := k1.c3
  have x4 := k1.c4
  have y0 := h2.c0
  have y1 := h2.c1
  have y2 := h2.c2
  have y3 := h2.c3
  have y4 := h2.c4
  have HG := Lib.hid (g1.trans g2)
  clear HV h1 h2 g1 g2 k1
  have m1 := str_ne.2 n1
  have l1 := str_ne0 n1
  have m3 := str_ne.2 n3
  have l3 := str_ne0 n3
  have m4 := str_ne.2 n4
  have l4 := str_ne0 n4
  have m5 := str_ne.2 n5
  have l5 := str_ne0 n5
  clear n1 n3 n4 n5
  go_enter Try.func15, Try.ntmps15
  go_wp2
  go_ret
  exact ⟨rfl, HG.out⟩
set_option maxHeartbeats 1000000 in
theorem rm_qqx (a1 a2 a3 a4 a5 b3 b4 b5 : ByteArray) (n1 : a1 ≠ ⟨#[]⟩) (n2 : a2 ≠ ⟨#[]⟩) (n3 : a3 ≠ ⟨#[]⟩) (d3 : a3 ≠ b3) (w : World) :
    Calls Try.prog 15 #[.agg #[.string a1, .string a2, .string a3, .string a4, .string a5], .agg #[.string a1, .string a2, .string b3, .string b4, .string b5]] w fun e w' => e = .returned (.bool (mtK (a1, a2, a3, a4, a5) (a1, a2, b3, b4, b5))) ∧ Gb w w' := by
  have HV := Lib.hid (show mtK (a1, a2, a3, a4, a5) (a1, a2, b3, b4, b5) = false from by simp [mtK, mtL, kyL, n1, n2, n3, d3])
  rw [HV.out]
  have h1 := Q5.alloc w (.string a1) (.string a2) (.string a3) (.string a4) (.string a5) 23
  have h2 := Q5.alloc (w.alloc (Obj.cells #[.string a1, .string a2, .string a3, .string a4, .string a5] 23)) (.string a1) (.string a2) (.string b3) (.string b4) (.string b5) 23
  rw [World.size_alloc] at h2
  have g1 := Gb.alloc w (Obj.cells #[.string a1, .string a2, .string a3, .string a4, .string a5] 23)
  have g2 := Gb.alloc (w.alloc (Obj.cells #[.string a1, .string a2, .string a3, .string a4, .string a5] 23)) (Obj.cells #[.string a1, .string a2, .string b3, .string b4, .string b5] 23)
  have k1 := h1.below g2.b
  have x0 := k1.c0
  have x1 := k1.c1
  have x2 := k1.c2
  have x3 := k1.c3
  have x4 := k1.c4
  have y0 := h2.c0
  have y1 := h2.c1
  have y2 := h2.c2
  have y3 := h2.c3
  have y4 := h2.c4
  have HG := Lib.hid (g1.trans g2)
  clear HV h1 h2 g1 g2 k1
  have m1 := str_ne.2 n1
  have l1 := str_ne0 n1
  have m2 := str_ne.2 n2
  have l2 := str_ne0 n2
  have m3 := str_ne.2 n3
  have l3 := str_ne0 n3
  have g3 := str_ne.2 d3
  clear n1 n2 n3 d3
  go_enter Try.func15, Try.ntmps15
  go_wp2
  go_ret
  exact ⟨rfl, HG.out⟩
set_option maxHeartbeats 1000000 in
theorem rm_qqex (a1 a2 a4 a5 b3 b4 b5 : ByteArray) (n1 : a1 ≠ ⟨#[]⟩) (n2 : a2 ≠ ⟨#[]⟩) (n4 : a4 ≠ ⟨#[]⟩) (d4 : a4 ≠ b4) (w : World) :
    Calls Try.prog 15 #[.agg #[.string a1, .string a2, .string ⟨#[]⟩, .string a4, .string a5], .agg #[.string a1, .string a2, .string b3, .string b4, .string b5]] w fun e w' => e = .returned (.bool (mtK (a1, a2, ⟨#[]⟩, a4, a5) (a1, a2, b3, b4, b5))) ∧ Gb w w' := by
  have HV := Lib.hid (show mtK (a1, a2, ⟨#[]⟩, a4, a5) (a1, a2, b3, b4, b5) = false from by simp [mtK, mtL, kyL, n1, n2, n4, d4])
  rw [HV.out]
  have h1 := Q5.alloc w (.string a1) (.string a2) (.string ⟨#[]⟩) (.string a4) (.string a5) 23
  have h2 := Q5.alloc (w.alloc (Obj.cells #[.string a1, .string a2, .string ⟨#[]⟩, .string a4, .string a5] 23)) (.string a1) (.string a2) (.string b3) (.string b4) (.string b5) 23
  rw [World.size_alloc] at h2
  have g1 := Gb.alloc w (Obj.cells #[.string a1, .string a2, .string ⟨#[]⟩, .string a4, .string a5] 23)
  have g2 := Gb.alloc (w.alloc (Obj.cells #[.string a1, .string a2, .string ⟨#[]⟩, .string a4, .string a5] 23)) (Obj.cells #[.string a1, .string a2, .string b3, .string b4, .string b5] 23)
  have k1 := h1.below g2.b
  have x0 := k1.c0
  have x1 := k1.c1
  have x2 := k1.c2
  have x3 := k1.c3
  have x4 := k1.c4
  have y0 := h2.c0
  have y1 := h2.c1
  have y2 := h2.c2
  have y3 := h2.c3
  have y4 := h2.c4
  have HG := Lib.hid (g1.trans g2)
  clear HV h1 h2 g1 g2 k1
  have m1 := str_ne.2 n1
  have l1 := str_ne0 n1
  have m2 := str_ne.2 n2
  have l2 := str_ne0 n2
  have m4 := str_ne.2 n4
  have l4 := str_ne0 n4
  have g4 := str_ne.2 d4
  clear n1 n2 n4 d4
  go_enter Try.func15, Try.ntmps15
  go_wp2
  go_ret
  exact ⟨rfl, HG.out⟩
set_option maxHeartbeats 1000000 in
theorem rm_qqeex (a1 a2 a5 b3 b4 b5 : ByteArray) (n1 : a1 ≠ ⟨#[]⟩) (n2 : a2 ≠ ⟨#[]⟩) (n5 : a5 ≠ ⟨#[]⟩) (d5 : a5 ≠ b5) (w : World) :
    Calls Try.prog 15 #[.agg #[.string a1, .string a2, .string ⟨#[]⟩, .string ⟨#[]⟩, .string a5], .agg #[.string a1, .string a2, .string b3, .string b4, .string b5]] w fun e w' => e = .returned (.bool (mtK (a1, a2, ⟨#[]⟩, ⟨#[]⟩, a5) (a1, a2, b3, b4, b5))) ∧ Gb w w' := by
  have HV := Lib.hid (show mtK (a1, a2, ⟨#[]⟩, ⟨#[]⟩, a5) (a1, a2, b3, b4, b5) = false from by simp [mtK, mtL, kyL, n1, n2, n5, d5])
  rw [HV.out]
  have h1 := Q5.alloc w (.string a1) (.string a2) (.string ⟨#[]⟩) (.string ⟨#[]⟩) (.string a5) 23
  have h2 := Q5.alloc (w.alloc (Obj.cells #[.string a1, .string a2, .string ⟨#[]⟩, .string ⟨#[]⟩, .string a5] 23)) (.string a1) (.string a2) (.string b3) (.string b4) (.string b5) 23
  rw [World.size_alloc] at h2
  have g1 := Gb.alloc w (Obj.cells #[.string a1, .string a2, .string ⟨#[]⟩, .string ⟨#[]⟩, .string a5] 23)
  have g2 := Gb.alloc (w.alloc (Obj.cells #[.string a1, .string a2, .string ⟨#[]⟩, .string ⟨#[]⟩, .string a5] 23)) (Obj.cells #[.string a1, .string a2, .string b3, .string b4, .string b5] 23)
  have k1 := h1.below g2.b
  have x0 := k1.c0
  have x1 := k1.c1
  have x2 := k1.c2
  have x3 := k1.c3
  have x4 := k1.c4
  have y0 := h2.c0
  have y1 := h2.c1
  have y2 := h2.c2
  have y3 := h2.c3
  have y4 := h2.c4
  have HG := Lib.hid (g1.trans g2)
  clear HV h1 h2 g1 g2 k1
  have m1 := str_ne.2 n1
  have l1 := str_ne0 n1
  have m2 := str_ne.2 n2
  have l2 := str_ne0 n2
  have m5 := str_ne.2 n5
  have l5 := str_ne0 n5
  have g5 := str_ne.2 d5
  clear n1 n2 n5 d5
  go_enter Try.func15, Try.ntmps15
  go_wp2
  go_ret
  exact ⟨rfl, HG.out⟩
set_option maxHeartbeats 1000000 in
theorem rm_qqeee (a1 a2 b3 b4 b5 : ByteArray) (n1 : a1 ≠ ⟨#[]⟩) (n2 : a2 ≠ ⟨#[]⟩) (w : World) :
    Calls Try.prog 15 #[.agg #[.string a1, .string a2, .string ⟨#[]⟩, .string ⟨#[]⟩, .string ⟨#[]⟩], .agg #[.string a1, .string a2, .string b3, .string b4, .string b5]] w fun e w' => e = .returned (.bool (mtK (a1, a2, ⟨#[]⟩, ⟨#[]⟩, ⟨#[]⟩) (a1, a2, b3, b4, b5))) ∧ Gb w w' := by
  have HV := Lib.hid (show mtK (a1, a2, ⟨#[]⟩, ⟨#[]⟩, ⟨#[]⟩) (a1, a2, b3, b4, b5) = true from by simp [mtK, mtL, kyL, n1, n2])
  rw [HV.out]
  have h1 := Q5.alloc w (.string a1) (.string a2) (.string ⟨#[]⟩) (.string ⟨#[]⟩) (.string ⟨#[]⟩) 23
  have h2 := Q5.alloc (w.alloc (Obj.cells #[.string a1, .string a2, .string ⟨#[]⟩, .string ⟨#[]⟩, .string ⟨#[]⟩] 23)) (.string a1) (.string a2) (.string b3) (.string b4) (.string b5) 23
  rw [World.size_alloc] at h2
  have g1 := Gb.alloc w (Obj.cells #[.string a1, .string a2, .string ⟨#[]⟩, .string ⟨#[]⟩, .string ⟨#[]⟩] 23)
  have g2 := Gb.alloc (w.alloc (Obj.cells #[.string a1, .string a2, .string ⟨#[]⟩, .string ⟨#[]⟩, .string ⟨#[]⟩] 23)) (Obj.cells #[.string a1, .string a2, .string b3, .string b4, .string b5] 23)
  have k1 := h1.below g2.b
  have x0 := k1.c0
  have x1 := k1.c1
  have x2 := k1.c2
  have x3 := k1.c3
  have x4 := k1.c4
  have y0 := h2.c0
  have y1 := h2.c1
  have y2 := h2.c2
  have y3 := h2.c3
  have y4 := h2.c4
  have HG := Lib.hid (g1.trans g2)
  clear HV h1 h2 g1 g2 k1
  have m1 := str_ne.2 n1
  have l1 := str_ne0 n1
  have m2 := str_ne.2 n2
  have l2 := str_ne0 n2
  clear n1 n2
  go_enter Try.func15, Try.ntmps15
  go_wp2
  go_ret
  exact ⟨rfl, HG.out⟩
set_option maxHeartbeats 1000000 in
theorem rm_qqeeq (a1 a2 a5 b3 b4 : ByteArray) (n1 : a1 ≠ ⟨#[]⟩) (n2 : a2 ≠ ⟨#[]⟩) (n5 : a5 ≠ ⟨#[]⟩) (w : World) :
    Calls Try.prog 15 #[.agg #[.string a1, .string a2, .string ⟨#[]⟩, .string ⟨#[]⟩, .string a5], .agg #[.string a1, .string a2, .string b3, .string b4, .string a5]] w fun e w' => e = .returned (.bool (mtK (a1, a2, ⟨#[]⟩, ⟨#[]⟩, a5) (a1, a2, b3, b4, a5))) ∧ Gb w w' := by
  have HV := Lib.hid (show mtK (a1, a2, ⟨#[]⟩, ⟨#[]⟩, a5) (a1, a2, b3, b4, a5) = true from by simp [mtK, mtL, kyL, n1, n2, n5])
  rw [HV.out]
  have h1 := Q5.alloc w (.string a1) (.string a2) (.string ⟨#[]⟩) (.string ⟨#[]⟩) (.string a5) 23
  have h2 := Q5.alloc (w.alloc (Obj.cells #[.string a1, .string a2, .string ⟨#[]⟩, .string ⟨#[]⟩, .string a5] 23)) (.string a1) (.string a2) (.string b3) (.string b4) (.string a5) 23
  rw [World.size_alloc] at h2
  have g1 := Gb.alloc w (Obj.cells #[.string a1, .string a2, .string ⟨#[]⟩, .string ⟨#[]⟩, .string a5] 23)
  have g2 := Gb.alloc (w.alloc (Obj.cells #[.string a1, .string a2, .string ⟨#[]⟩, .string ⟨#[]⟩, .string a5] 23)) (Obj.cells #[.string a1, .string a2, .string b3, .string b4, .string a5] 23)
  have k1 := h1.below g2.b
  have x0 := k1.c0
  have x1 := k1.c1
  have x2 := k1.c2
  have x3 := k1.c3
  have x4 := k1.c4
  have y0 := h2.c0
  have y1 := h2.c1
  have y2 := h2.c2
  have y3 := h2.c3
  have y4 := h2.c4
  have HG := Lib.hid (g1.trans g2)
  clear HV h1 h2 g1 g2 k1
  have m1 := str_ne.2 n1
  have l1 := str_ne0 n1
  have m2 := str_ne.2 n2
  have l2 := str_ne0 n2
  have m5 := str_ne.2 n5
  have l5 := str_ne0 n5
  clear n1 n2 n5
  go_enter Try.func15, Try.ntmps15
  go_wp2
  go_ret
  exact ⟨rfl, HG.out⟩
set_option maxHeartbeats 1000000 in
theorem rm_qqeqx (a1 a2 a4 a5 b3 b5 : ByteArray) (n1 : a1 ≠ ⟨#[]⟩) (n2 : a2 ≠ ⟨#[]⟩) (n4 : a4 ≠ ⟨#[]⟩) (n5 : a5 ≠ ⟨#[]⟩) (d5 : a5 ≠ b5) (w : World) :
    Calls Try.prog 15 #[.agg #[.string a1, .string a2, .string ⟨#[]⟩, .string a4, .string a5], .agg #[.string a1, .string a2, .string b3, .string a4, .string b5]] w fun e w' => e = .returned (.bool (mtK (a1, a2, ⟨#[]⟩, a4, a5) (a1, a2, b3, a4, b5))) ∧ Gb w w' := by
  have HV := Lib.hid (show mtK (a1, a2, ⟨#[]⟩, a4, a5) (a1, a2, b3, a4, b5) = false from by simp [mtK, mtL, kyL, n1, n2, n4, n5, d5])
  rw [HV.out]
  have h1 := Q5.alloc w (.string a1) (.string a2) (.string ⟨#[]⟩) (.string a4) (.string a5) 23
  have h2 := Q5.alloc (w.alloc (Obj.cells #[.string a1, .string a2, .string ⟨#[]⟩, .string a4, .string a5] 23)) (.string a1) (.string a2) (.string b3) (.string a4) (.string b5) 23
  rw [World.size_alloc] at h2
  have g1 := Gb.alloc w (Obj.cells #[.string a1, .string a2, .string ⟨#[]⟩, .string a4, .string a5] 23)
  have g2 := Gb.alloc (w.alloc (Obj.cells #[.string a1, .string a2, .string ⟨#[]⟩, .string a4, .string a5] 23)) (Obj.cells #[.string a1, .string a2, .string b3, .string a4, .string b5] 23)
  have k1 := h1.below g2.b
  have x0 := k1.c0
  have x1 := k1.c1
  have x2 := k1.c2
  have x3 := k1.c3
  have x4 := k1.c4
  have y0 := h2.c0
  have y1 := h2.c1
  have y2 := h2.c2
  have y3 := h2.c3
  have y4 := h2.c4
  have HG := Lib.hid (g1.trans g2)
  clear HV h1 h2 g1 g2 k1
  have m1 := str_ne.2 n1
  have l1 := str_ne0 n1
  have m2 := str_ne.2 n2
  have l2 := str_ne0 n2
  have m4 := str_ne.2 n4
  have l4 := str_ne0 n4
  have m5 := str_ne.2 n5
  have l5 := str_ne0 n5
  have g5 := str_ne.2 d5
  clear n1 n2 n4 n5 d5
  go_enter Try.func15, Try.ntmps15
  go_wp2
  go_ret
  exact ⟨rfl, HG.out⟩
set_option maxHeartbeats 1000000 in
theorem rm_qqeqe (a1 a2 a4 b3 b5 : ByteArray) (n1 : a1 ≠ ⟨#[]⟩) (n2 : a2 ≠ ⟨#[]⟩) (n4 : a4 ≠ ⟨#[]⟩) (w : World) :
    Calls Try.prog 15 #[.agg #[.string a1, .string a2, .string ⟨#[]⟩, .string a4, .string ⟨#[]⟩], .agg #[.string a1, .string a2, .string b3, .string a4, .string b5]] w fun e w' => e = .returned (.bool (mtK (a1, a2, ⟨#[]⟩, a4, ⟨#[]⟩) (a1, a2, b3, a4, b5))) ∧ Gb w w' := by
  have HV := Lib.hid (show mtK (a1, a2, ⟨#[]⟩, a4, ⟨#[]⟩) (a1, a2, b3, a4, b5) = true from by simp [mtK, mtL, kyL, n1, n2, n4])
  rw [HV.out]
  have h1 := Q5.alloc w (.string a1) (.string a2) (.string ⟨#[]⟩) (.string a4) (.string ⟨#[]⟩) 23
  have h2 := Q5.alloc (w.alloc (Obj.cells #[.string a1, .string a2, .string ⟨#[]⟩, .string a4, .string ⟨#[]⟩] 23)) (.string a1) (.string a2) (.string b3) (.string a4) (.string b5) 23
  rw [World.size_alloc] at h2
  have g1 := Gb.alloc w (Obj.cells #[.string a1, .string a2, .string ⟨#[]⟩, .string a4, .string ⟨#[]⟩] 23)
  have g2 := Gb.alloc (w.alloc (Obj.cells #[.string a1, .string a2, .string ⟨#[]⟩, .string a4, .string ⟨#[]⟩] 23)) (Obj.cells #[.string a1, .string a2, .string b3, .string a4, .string b5] 23)
  have k1 := h1.below g2.b
  have x0 := k1.c0
  have x1 := k1.c1
  have x2 := k1.c2
  have x3 := k1.c3
  have x4 := k1.c4
  have y0 := h2.c0
  have y1 := h2.c1
  have y2 := h2.c2
  have y3 := h2.c3
  have y4 := h2.c4
  have HG := Lib.hid (g1.trans g2)
  clear HV h1 h2 g1 g2 k1
  have m1 := str_ne.2 n1
  have l1 := str_ne0 n1
  have m2 := str_ne.2 n2
  have l2 := str_ne0 n2
  have m4 := str_ne.2 n4
  have l4 := str_ne0 n4
  clear n1 n2 n4
  go_enter Try.func15, Try.ntmps15
  go_wp2
  go_ret
  exact ⟨rfl, HG.out⟩
set_option maxHeartbeats 1000000 in
theorem rm_qqeqq (a1 a2 a4 a5 b3 : ByteArray) (n1 : a1 ≠ ⟨#[]⟩) (n2 : a2 ≠ ⟨#[]⟩) (n4 : a4 ≠ ⟨#[]⟩) (n5 : a5 ≠ ⟨#[]⟩) (w : World) :
    Calls Try.prog 15 #[.agg #[.string a1, .string a2, .string ⟨#[]⟩, .string a4, .string a5], .agg #[.string a1, .string a2, .string b3, .string a4, .string a5]] w fun e w' => e = .returned (.bool (mtK (a1, a2, ⟨#[]⟩, a4, a5) (a1, a2, b3, a4, a5))) ∧ Gb w w' := by
  have HV := Lib.hid (show mtK (a1, a2, ⟨#[]⟩, a4, a5) (a1, a2, b3, a4, a5) = true from by simp [mtK, mtL, kyL, n1, n2, n4, n5])
  rw [HV.out]
  have h1 := Q5.alloc w (.string a1) (.string a2) (.string ⟨#[]⟩) (.string a4) (.string a5) 23
  have h2 := Q5.alloc (w.alloc (Obj.cells #[.string a1, .string a2, .string ⟨#[]⟩, .string a4, .string a5] 23)) (.string a1) (.string a2) (.string b3) (.string a4) (.string a5) 23
  rw [World.size_alloc] at h2
  have g1 := Gb.alloc w (Obj.cells #[.string a1, .string a2, .string ⟨#[]⟩, .string a4, .string a5] 23)
  have g2 := Gb.alloc (w.alloc (Obj.cells #[.string a1, .string a2, .string ⟨#[]⟩, .string a4, .string a5] 23)) (Obj.cells #[.string a1, .string a2, .string b3, .string a4, .string a5] 23)
  have k1 := h1.below g2.b
  have x0 := k1.c0
  have x1 := k1.c1
  have x2 := k1.c2
  have x3 := k1.c3
  have x4 := k1.c4
  have y0 := h2.c0
  have y1 := h2.c1
  have y2 := h2.c2
  have y3 := h2.c3
  have y4 := h2.c4
  have HG := Lib.hid (g1.trans g2)
  clear HV h1 h2 g1 g2 k1
  have m1 := str_ne.2 n1
  have l1 := str_ne0 n1
  have m2 := str_ne.2 n2
  have l2 := str_ne0 n2
  have m4 := str_ne.2 n4
  have l4 := str_ne0 n4
  have m5 := str_ne.2 n5
  have l5 := str_ne0 n5
  clear n1 n2 n4 n5
  go_enter Try.func15, Try.ntmps15
  go_wp2
  go_ret
  exact ⟨rfl, HG.out⟩
set_option maxHeartbeats 1000000 in
theorem rm_qqqx (a1 a2 a3 a4 a5 b4 b5 : ByteArray) (n1 : a1 ≠ ⟨#[]⟩) (n2 : a2 ≠ ⟨#[]⟩) (n3 : a3 ≠ ⟨#[]⟩) (n4 : a4 ≠ ⟨#[]⟩) (d4 : a4 ≠ b4) (w : World) :
    Calls Try.prog 15 #[.agg #[.string a1, .string a2, .string a3, .string a4, .string a5], .agg #[.string a1, .string a2, .string a3, .string b4, .string b5]] w fun e w' => e = .returned (.bool (mtK (a1, a2, a3, a4, a5) (a1, a2, a3, b4, b5))) ∧ Gb w w' := by
  have HV := Lib.hid (show mtK (a1, a2, a3, a4, a5) (a1, a2, a3, b4, b5) = false from by simp [mtK, mtL, kyL, n1, n2, n3, n4, d4])
  rw [HV.out]
  have h1 := Q5.alloc w (.string a1) (.string a2) (.string a3) (.string a4) (.string a5) 23
  have h2 := Q5.alloc (w.alloc (Obj.cells #[.string a1, .string a2, .string a3, .string a4, .string a5] 23)) (.string a1) (.string a2) (.string a3) (.string b4) (.string b5) 23
  rw [World.size_alloc] at h2
  have g1 := Gb.alloc w (Obj.cells #[.string a1, .string a2, .string a3, .string a4, .string a5] 23)
  have g2 := Gb.alloc (w.alloc (Obj.cells #[.string a1, .string a2, .string a3, .string a4, .string a5] 23)) (Obj.cells #[.string a1, .string a2, .string a3, .string b4, .string b5] 23)
  have k1 := h1.below g2.b
  have x0 := k1.c0
  have x1 := k1.c1
  have x2 := k1.c2
  have x3 := k1.c3
  have x4 := k1.c4
  have y0 := h2.c0
  have y1 := h2.c1
  have y2 := h2.c2
  have y3 := h2.c3
  have y4 := h2.c4
  have HG := Lib.hid (g1.trans g2)
  clear HV h1 h2 g1 g2 k1
  have m1 := str_ne.2 n1
  have l1 := str_ne0 n1
  have m2 := str_ne.2 n2
  have l2 := str_ne0 n2
  have m3 := str_ne.2 n3
  have l3 := str_ne0 n3
  have m4 := str_ne.2 n4
  have l4 := str_ne0 n4
  have g4 := str_ne.2 d4
  clear n1 n2 n3 n4 d4
  go_enter Try.func15, Try.ntmps15
  go_wp2
  go_ret
  exact ⟨rfl, HG.out⟩
set_option maxHeartbeats 1000000 in
theorem rm_qqqex (a1 a2 a3 a5 b4 b5 : ByteArray) (n1 : a1 ≠ ⟨#[]⟩) (n2 : a2 ≠ ⟨#[]⟩) (n3 : a3 ≠ ⟨#[]⟩) (n5 : a5 ≠ ⟨#[]⟩) (d5 : a5 ≠ b5) (w : World) :
    Calls Try.prog 15 #[.agg #[.string a1, .string a2, .string a3, .string ⟨#[]⟩, .string a5], .agg #[.string a1, .string a2, .string a3, .string b4, .string b5]] w fun e w' => e = .returned (.bool (mtK (a1, a2, a3, ⟨#[]⟩, a5) (a1, a2, a3, b4, b5))) ∧ Gb w w' := by
  have HV := Lib.hid (show mtK (a1, a2, a3, ⟨#[]⟩, a5) (a1, a2, a3, b4, b5) = false from by simp [mtK, mtL, kyL, n1, n2, n3, n5, d5])
  rw [HV.out]
  have h1 := Q5.alloc w (.string a1) (.string a2) (.string a3) (.string ⟨#[]⟩) (.string a5) 23
  have h2 := Q5.alloc (w.alloc (Obj.cells #[.string a1, .string a2, .string a3, .string ⟨#[]⟩, .string a5] 23)) (.string a1) (.string a2) (.string a3) (.string b4) (.string b5) 23
  rw [World.size_alloc] at h2
  have g1 := Gb.alloc w (Obj.cells #[.string a1, .string a2, .string a3, .string ⟨#[]⟩, .string a5] 23)
  have g2 := Gb.alloc (w.alloc (Obj.cells #[.string a1, .string a2, .string a3, .string ⟨#[]⟩, .string a5] 23)) (Obj.cells #[.string a1, .string a2, .string a3, .string b4, .string b5] 23)
  have k1 := h1.below g2.b
  have x0 := k1.c0
  have x1 := k1.c1
  have x2 := k1.c2
  have x3 := k1.c3
  have x4 := k1.c4
  have y0 := h2.c0
  have y1 := h2.c1
  have y2 := h2.c2
  have y3 := h2.c3
  have y4 := h2.c4
  have HG := Lib.hid (g1.trans g2)
  clear HV h1 h2 g1 g2 k1
  have m1 := str_ne.2 n1
  have l1 := str_ne0 n1
  have m2 := str_ne.2 n2
  have l2 := str_ne0 n2
  have m3 := str_ne.2 n3
  have l3 := str_ne0 n3
  have m5 := str_ne.2 n5
  have l5 := str_ne0 n5
  have g5 := str_ne.2 d5
  clear n1 n2 n3 n5 d5
  go_enter Try.func15, Try.ntmps15
  go_wp2
  go_ret
  exact ⟨rfl, HG.out⟩
set_option maxHeartbeats 1000000 in
theorem rm_qqqee (a1 a2 a3 b4 b5 : ByteArray) (n1 : a1 ≠ ⟨#[]⟩) (n2 : a2 ≠ ⟨#[]⟩) (n3 : a3 ≠ ⟨#[]⟩) (w : World) :
    Calls Try.prog 15 #[.agg #[.string a1, .string a2, .string a3, .string ⟨#[]⟩, .string ⟨#[]⟩], .agg #[.string a1, .string a2, .string a3, .string b4, .string b5]] w fun e w' => e = .returned (.bool (mtK (a1, a2, a3, ⟨#[]⟩, ⟨#[]⟩) (a1, a2, a3, b4, b5))) ∧ Gb w w' := by
  have HV := Lib.hid (show mtK (a1, a2, a3, ⟨#[]⟩, ⟨#[]⟩) (a1, a2, a3, b4, b5) = true from by simp [mtK, mtL, kyL, n1, n2, n3])
  rw [HV.out]
  have h1 := Q5.alloc w (.string a1) (.string a2) (.string a3) (.string ⟨#[]⟩) (.string ⟨#[]⟩) 23
  have h2 := Q5.alloc (w.alloc (Obj.cells #[.string a1, .string a2, .string a3, .string ⟨#[]⟩, .string ⟨#[]⟩] 23)) (.string a1) (.string a2) (.string a3) (.string b4) (.string b5) 23
  rw [World.size_alloc] at h2
  have g1 := Gb.alloc w (Obj.cells #[.string a1, .string a2, .string a3, .string ⟨#[]⟩, .string ⟨#[]⟩] 23)
  have g2 := Gb.alloc (w.alloc (Obj.cells #[.string a1, .string a2, .string a3, .string ⟨#[]⟩, .string ⟨#[]⟩] 23)) (Obj.cells #[.string a1, .string a2, .string a3, .string b4, .string b5] 23)
  have k1 := h1.below g2.b
  have x0 := k1.c0
  have x1 := k1.c1
  have x2 := k1.c2
  have x3 := k1.c3
  have x4 := k1.c4
  have y0 := h2.c0
  have y1 := h2.c1
  have y2 := h2.c2
  have y3 := h2.c3
  have y4 := h2.c4
  have HG := Lib.hid (g1.trans g2)
  clear HV h1 h2 g1 g2 k1
  have m1 := str_ne.2 n1
  have l1 := str_ne0 n1
  have m2 := str_ne.2 n2
  have l2 := str_ne0 n2
  have m3 := str_ne.2 n3
  have l3 := str_ne0 n3
  clear n1 n2 n3
  go_enter Try.func15, Try.ntmps15
  go_wp2
  go_ret
  exact ⟨rfl, HG.out⟩
set_option maxHeartbeats 1000000 in
theorem rm_qqqeq (a1 a2 a3 a5 b4 : ByteArray) (n1 : a1 ≠ ⟨#[]⟩) (n2 : a2 ≠ ⟨#[]⟩) (n3 : a3 ≠ ⟨#[]⟩) (n5 : a5 ≠ ⟨#[]⟩) (w : World) :
    Calls Try.prog 15 #[.agg #[.string a1, .string a2, .string a3, .string ⟨#[]⟩, .string a5], .agg #[.string a1, .string a2, .string a3, .string b4, .string a5]] w fun e w' => e = .returned (.bool (mtK (a1, a2, a3, ⟨#[]⟩, a5) (a1, a2, a3, b4, a5))) ∧ Gb w w' := by
  have HV := Lib.hid (show mtK (a1, a2, a3, ⟨#[]⟩, a5) (a1, a2, a3, b4, a5) = true from by simp [mtK, mtL, kyL, n1, n2, n3, n5])
  rw [HV.out]
  have h1 := Q5.alloc w (.string a1) (.string a2) (.string a3) (.string ⟨#[]⟩) (.string a5) 23
  have h2 := Q5.alloc (w.alloc (Obj.cells #[.string a1, .string a2, .string a3, .string ⟨#[]⟩, .string a5] 23)) (.string a1) (.string a2) (.string a3) (.string b4) (.string a5) 23
  rw [World.size_alloc] at h2
  have g1 := Gb.alloc w (Obj.cells #[.string a1, .string a2, .string a3, .string ⟨#[]⟩, .string a5] 23)
  have g2 := Gb.alloc (w.alloc (Obj.cells #[.string a1, .string a2, .string a3, .string ⟨#[]⟩, .string a5] 23)) (Obj.cells #[.string a1, .string a2, .string a3, .string b4, .string a5] 23)
  have k1 := h1.below g2.b
  have x0 := k1.c0
  have x1 := k1.c1
  have x2 := k1.c2
  have x3 := k1.c3
  have x4 := k1.c4
  have y0 := h2.c0
  have y1 := h2.c1
  have y2 := h2.c2
  have y3 := h2.c3
  have y4 := h2.c4
  have HG := Lib.hid (g1.trans g2)
  clear HV h1 h2 g1 g2 k1
  have m1 := str_ne.2 n1
  have l1 := str_ne0 n1
  have m2 := str_ne.2 n2
  have l2 := str_ne0 n2
  have m3 := str_ne.2 n3
  have l3 := str_ne0 n3
  have m5 := str_ne.2 n5
  have l5 := str_ne0 n5
  clear n1 n2 n3 n5
  go_enter Try.func15, Try.ntmps15
  go_wp2
  go_ret
  exact ⟨rfl, HG.out⟩
set_option maxHeartbeats 1000000 in
theorem rm_qqqqx (a1 a2 a3 a4 a5 b5 : ByteArray) (n1 : a1 ≠ ⟨#[]⟩) (n2 : a2 ≠ ⟨#[]⟩) (n3 : a3 ≠ ⟨#[]⟩) (n4 : a4 ≠ ⟨#[]⟩) (n5 : a5 ≠ ⟨#[]⟩) (d5 : a5 ≠ b5) (w : World) :
    Calls Try.prog 15 #[.agg #[.string a1, .string a2, .string a3, .string a4, .string a5], .agg #[.string a1, .string a2, .string a3, .string a4, .string b5]] w fun e w' => e = .returned (.bool (mtK (a1, a2, a3, a4, a5) (a1, a2, a3, a4, b5))) ∧ Gb w w' := by
  have HV := Lib.hid (show mtK (a1, a2, a3, a4, a5) (a1, a2, a3, a4, b5) = false from by simp [mtK, mtL, kyL, n1, n2, n3, n4, n5, d5])
  rw [HV.out]
  have h1 := Q5.alloc w (.string a1) (.string a2) (.string a3) (.string a4) (.string a5) 23
  have h2 := Q5.alloc (w.alloc (Obj.cells #[.string a1, .string a2, .string a3, .string a4, .string a5] 23)) (.string a1) (.string a2) (.string a3) (.string a4) (.string b5) 23
  rw [World.size_alloc] at h2
  have g1 := Gb.alloc w (Obj.cells #[.string a1, .string a2, .string a3, .string a4, .string a5] 23)
  have g2 := Gb.alloc (w.alloc (Obj.cells #[.string a1, .string a2, .string a3, .string a4, .string a5] 23)) (Obj.cells #[.string a1, .string a2, .string a3, .string a4, .string b5] 23)
  have k1 := h1.below g2.b
  have x0 := k1.c0
  have x1 := k1.c1
  have x2 := k1.c2
  have x3 := k1.c3
  have x4 := k1.c4
  have y0 := h2.c0
  have y1 := h2.c1
  have y2 := h2.c2
  have y3 := h2.c3
  have y4 := h2.c4
  have HG := Lib.hid (g1.trans g2)
  clear HV h1 h2 g1 g2 k1
  have m1 := str_ne.2 n1
  have l1 := str_ne0 n1
  have m2 := str_ne.2 n2
  have l2 := str_ne0 n2
  have m3 := str_ne.2 n3
  have l3 := str_ne0 n3
  have m4 := str_ne.2 n4
  have l4 := str_ne0 n4
  have m5 := str_ne.2 n5
  have l5 := str_ne0 n5
  have g5 := str_ne.2 d5
  clear n1 n2 n3 n4 n5 d5
  go_enter Try.func15, Try.ntmps15
  go_wp2
  go_ret
  exact ⟨rfl, HG.out⟩
set_option maxHeartbeats 1000000 in
theorem rm_qqqqe (a1 a2 a3 a4 b5 : ByteArray) (n1 : a1 ≠ ⟨#[]⟩) (n2 : a2 ≠ ⟨#[]⟩) (n3 : a3 ≠ ⟨#[]⟩) (n4 : a4 ≠ ⟨#[]⟩) (w : World) :
    Calls Try.prog 15 #[.agg #[.string a1, .string a2, .string a3, .string a4, .string ⟨#[]⟩], .agg #[.string a1, .string a2, .string a3, .string a4, .string b5]] w fun e w' => e = .returned (.bool (mtK (a1, a2, a3, a4, ⟨#[]⟩) (a1, a2, a3, a4, b5))) ∧ Gb w w' := by
  have HV := Lib.hid (show mtK (a1, a2, a3, a4, ⟨#[]⟩) (a1, a2, a3, a4, b5) = true from by simp [mtK, mtL, kyL, n1, n2, n3, n4])
  rw [HV.out]
  have h1 := Q5.alloc w (.string a1) (.string a2) (.string a3) (.string a4) (.string ⟨#[]⟩) 23
  have h2 := Q5.alloc (w.alloc (Obj.cells #[.string a1, .string a2, .string a3, .string a4, .string ⟨#[]⟩] 23)) (.string a1) (.string a2) (.string a3) (.string a4) (.string b5) 23
  rw [World.size_alloc] at h2
  have g1 := Gb.alloc w (Obj.cells #[.string a1, .string a2, .string a3, .string a4, .string ⟨#[]⟩] 23)
  have g2 := Gb.alloc (w.alloc (Obj.cells #[.string a1, .string a2, .string a3, .string a4, .string ⟨#[]⟩] 23)) (Obj.cells #[.string a1, .string a2, .string a3, .string a4, .string b5] 23)
  have k1 := h1.below g2.b
  have x0 := k1.c0
  have x1 := k1.c1
  have x2 := k1.c2
  have x3 := k1.c3
  have x4 := k1.c4
  have y0 := h2.c0
  have y1 := h2.c1
  have y2 := h2.c2
  have y3 := h2.c3
  have y4 := h2.c4
  have HG := Lib.hid (g1.trans g2)
  clear HV h1 h2 g1 g2 k1
  have m1 := str_ne.2 n1
  have l1 := str_ne0 n1
  have m2 := str_ne.2 n2
  have l2 := str_ne0 n2
  have m3 := str_ne.2 n3
  have l3 := str_ne0 n3
  have m4 := str_ne.2 n4
  have l4 := str_ne0 n4
  clear n1 n2 n3 n4
  go_enter Try.func15, Try.ntmps15
  go_wp2
  go_ret
  exact ⟨rfl, HG.out⟩
set_option maxHeartbeats 1000000 in
theorem rm_qqqqq (a1 a2 a3 a4 a5 : ByteArray) (n1 : a1 ≠ ⟨#[]⟩) (n2 : a2 ≠ ⟨#[]⟩) (n3 : a3 ≠ ⟨#[]⟩) (n4 : a4 ≠ ⟨#[]⟩) (n5 : a5 ≠ ⟨#[]⟩) (w : World) :
    Calls Try.prog 15 #[.agg #[.string a1, .string a2, .string a3, .string a4, .string a5], .agg #[.string a1, .string a2, .string a3, .string a4, .string a5]] w fun e w' => e = .returned (.bool (mtK (a1, a2, a3, a4, a5) (a1, a2, a3, a4, a5))) ∧ Gb w w' := by
  have HV := Lib.hid (show mtK (a1, a2, a3, a4, a5) (a1, a2, a3, a4, a5) = true from by simp [mtK, mtL, kyL, n1, n2, n3, n4, n5])
  rw [HV.out]
  have h1 := Q5.alloc w (.string a1) (.string a2) (.string a3) (.string a4) (.string a5) 23
  have h2 := Q5.alloc (w.alloc (Obj.cells #[.string a1, .string a2, .string a3, .string a4, .string a5] 23)) (.string a1) (.string a2) (.string a3) (.string a4) (.string a5) 23
  rw [World.size_alloc] at h2
  have g1 := Gb.alloc w (Obj.cells #[.string a1, .string a2, .string a3, .string a4, .string a5] 23)
  have g2 := Gb.alloc (w.alloc (Obj.cells #[.string a1, .string a2, .string a3, .string a4, .string a5] 23)) (Obj.cells #[.string a1, .string a2, .string a3, .string a4, .string a5] 23)
  have k1 := h1.below g2.b
  have x0 := k1.c0
  have x1 := k1.c1
  have x2 := k1.c2
  have x3 := k1.c3
  have x4 := k1.c4
  have y0 := h2.c0
  have y1 := h2.c1
  have y2 := h2.c2
  have y3 := h2.c3
  have y4 := h2.c4
  have HG := Lib.hid (g1.trans g2)
  clear HV h1 h2 g1 g2 k1
  have m1 := str_ne.2 n1
  have l1 := str_ne0 n1
  have m2 := str_ne.2 n2
  have l2 := str_ne0 n2
  have m3 := str_ne.2 n3
  have l3 := str_ne0 n3
  have m4 := str_ne.2 n4
  have l4 := str_ne0 n4
  have m5 := str_ne.2 n5
  have l5 := str_ne0 n5
  clear n1 n2 n3 n4 n5
  go_enter Try.func15, Try.ntmps15
  go_wp2
  go_ret
  exact ⟨rfl, HG.out⟩
theorem rMatch5_any (a1 a2 a3 a4 a5 b1 b2 b3 b4 b5 : ByteArray) (w : World) :
    Calls Try.prog 15 #[.agg #[.string a1, .string a2, .string a3, .string a4, .string a5], .agg #[.string b1, .string b2, .string b3, .string b4, .string b5]] w fun e w' => e = .returned (.bool (mtK (a1, a2, a3, a4, a5) (b1, b2, b3, b4, b5))) ∧ Gb w w' := by
  by_cases n1 : a1 = ⟨#[]⟩
  · subst n1
    by_cases n2 : a2 = ⟨#[]⟩
    · subst n2
      by_cases n3 : a3 = ⟨#[]⟩
      · subst n3
        by_cases n4 : a4 = ⟨#[]⟩
        · subst n4
          by_cases n5 : a5 = ⟨#[]⟩
          · subst n5
            exact rm_eeeee b1 b2 b3 b4 b5  w
          · by_cases d5 : a5 = b5
            · subst d5
              exact rm_eeeeq a5 b1 b2 b3 b4 n5 w
            · exact rm_eeeex a5 b1 b2 b3 b4 b5 n5 d5 w
        · by_cases d4 : a4 = b4
          · subst d4
            by_cases n5 : a5 = ⟨#[]⟩
            · subst n5
              exact rm_eeeqe a4 b1 b2 b3 b5 n4 w
            · by_cases d5 : a5 = b5
              · subst d5
                exact rm_eeeqq a4 a5 b1 b2 b3 n4 n5 w
              · exact rm_eeeqx a4 a5 b1 b2 b3 b5 n4 n5 d5 w
          · exact rm_eeex a4 a5 b1 b2 b3 b4 b5 n4 d4 w
      · by_cases d3 : a3 = b3
        · subst d3
          by_cases n4 : a4 = ⟨#[]⟩
          · subst n4
            by_cases n5 : a5 = ⟨#[]⟩
            · subst n5
              exact rm_eeqee a3 b1 b2 b4 b5 n3 w
            · by_cases d5 : a5 = b5
              · subst d5
                exact rm_eeqeq a3 a5 b1 b2 b4 n3 n5 w
              · exact rm_eeqex a3 a5 b1 b2 b4 b5 n3 n5 d5 w
          · by_cases d4 : a4 = b4
            · subst d4
              by_cases n5 : a5 = ⟨#[]⟩
              · subst n5
                exact rm_eeqqe a3 a4 b1 b2 b5 n3 n4 w
              · by_cases d5 : a5 = b5
                · subst d5
                  exact rm_eeqqq a3 a4 a5 b1 b2 n3 n4 n5 w
                · exact rm_eeqqx a3 a4 a5 b1 b2 b5 n3 n4 n5 d5 w
            · exact rm_eeqx a3 a4 a5 b1 b2 b4 b5 n3 n4 d4 w
        · exact rm_eex a3 a4 a5 b1 b2 b3 b4 b5 n3 d3 w
    · by_cases d2 : a2 = b2
      · subst d2
        by_cases n3 : a3 = ⟨#[]⟩
        · subst n3
          by_cases n4 : a4 = ⟨#[]⟩
          · subst n4
            by_cases n5 : a5 = ⟨#[]⟩
            · subst n5
              exact rm_eqeee a2 b1 b3 b4 b5 n2 w
            · by_cases d5 : a5 = b5
              · subst d5
                exact rm_eqeeq a2 a5 b1 b3 b4 n2 n5 w
              · exact rm_eqeex a2 a5 b1 b3 b4 b5 n2 n5 d5 w
          · by_cases d4 : a4 = b4
            · subst d4
              by_cases n5 : a5 = ⟨#[]⟩
              · subst n5
                exact rm_eqeqe a2 a4 b1 b3 b5 n2 n4 w
              · by_cases d5 : a5 = b5
                · subst d5
                  exact rm_eqeqq a2 a4 a5 b1 b3 n2 n4 n5 w
                · exact rm_eqeqx a2 a4 a5 b1 b3 b5 n2 n4 n5 d5 w
            · exact rm_eqex a2 a4 a5 b1 b3 b4 b5 n2 n4 d4 w
        · by_cases d3 : a3 = b3
          · subst d3
            by_cases n4 : a4 = ⟨#[]⟩
            · subst n4
              by_cases n5 : a5 = ⟨#[]⟩
              · subst n5
                exact rm_eqqee a2 a3 b1 b4 b5 n2 n3 w
              · by_cases d5 : a5 = b5
                · subst d5
                  exact rm_eqqeq a2 a3 a5 b1 b4 n2 n3 n5 w
                · exact rm_eqqex a2 a3 a5 b1 b4 b5 n2 n3 n5 d5 w
            · by_cases d4 : a4 = b4
              · subst d4
                by_cases n5 : a5 = ⟨#[]⟩
                · subst n5
                  exact rm_eqqqe a2 a3 a4 b1 b5 n2 n3 n4 w
                · by_cases d5 : a5 = b5
                  · subst d5
                    exact rm_eqqqq a2 a3 a4 a5 b1 n2 n3 n4 n5 w
                  · exact rm_eqqqx a2 a3 a4 a5 b1 b5 n2 n3 n4 n5 d5 w
              · exact rm_eqqx a2 a3 a4 a5 b1 b4 b5 n2 n3 n4 d4 w
          · exact rm_eqx a2 a3 a4 a5 b1 b3 b4 b5 n2 n3 d3 w
      · exact rm_ex a2 a3 a4 a5 b1 b2 b3 b4 b5 n2 d2 w
  · by_cases d1 : a1 = b1
    · subst d1
      by_cases n2 : a2 = ⟨#[]⟩
      · subst n2
        by_cases n3 : a3 = ⟨#[]⟩
        · subst n3
          by_cases n4 : a4 = ⟨#[]⟩
          · subst n4
            by_cases n5 : a5 = ⟨#[]⟩
            · subst n5
              exact rm_qeeee a1 b2 b3 b4 b5 n1 w
            · by_cases d5 : a5 = b5
              · subst d5
                exact rm_qeeeq a1 a5 b2 b3 b4 n1 n5 w
              · exact rm_qeeex a1 a5 b2 b3 b4 b5 n1 n5 d5 w
          · by_cases d4 : a4 = b4
            · subst d4
              by_cases n5 : a5 = ⟨#[]⟩
              · subst n5
                exact rm_qeeqe a1 a4 b2 b3 b5 n1 n4 w
              · by_cases d5 : a5 = b5
                · subst d5
                  exact rm_qeeqq a1 a4 a5 b2 b3 n1 n4 n5 w
                · exact rm_qeeqx a1 a4 a5 b2 b3 b5 n1 n4 n5 d5 w
            · exact rm_qeex a1 a4 a5 b2 b3 b4 b5 n1 n4 d4 w
        · by_cases d3 : a3 = b3
          · subst d3
            by_cases n4 : a4 = ⟨#[]⟩
            · subst n4
              by_cases n5 : a5 = ⟨#[]⟩
              · subst n5
                exact rm_qeqee a1 a3 b2 b4 b5 n1 n3 w
              · by_cases d5 : a5 = b5
                · subst d5
                  exact rm_qeqeq a1 a3 a5 b2 b4 n1 n3 n5 w
                · exact rm_qeqex a1 a3 a5 b2 b4 b5 n1 n3 n5 d5 w
            · by_cases d4 : a4 = b4
              · subst d4
                by_cases n5 : a5 = ⟨#[]⟩
                · subst n5
                  exact rm_qeqqe a1 a3 a4 b2 b5 n1 n3 n4 w
                · by_cases d5 : a5 = b5
                  · subst d5
                    exact rm_qeqqq a1 a3 a4 a5 b2 n1 n3 n4 n5 w
                  · exact rm_qeqqx a1 a3 a4 a5 b2 b5 n1 n3 n4 n5 d5 w
              · exact rm_qeqx a1 a3 a4 a5 b2 b4 b5 n1 n3 n4 d4 w
          · exact rm_qex a1 a3 a4 a5 b2 b3 b4 b5 n1 n3 d3 w
      · by_cases d2 : a2 = b2
        · subst d2
          by_cases n3 : a3 = ⟨#[]⟩
          · subst n3
            by_cases n4 : a4 = ⟨#[]⟩
            · subst n4
              by_cases n5 : a5 = ⟨#[]⟩
              · subst n5
                exact rm_qqeee a1 a2 b3 b4 b5 n1 n2 w
              · by_cases d5 : a5 = b5
                · subst d5
                  exact rm_qqeeq a1 a2 a5 b3 b4 n1 n2 n5 w
                · exact rm_qqeex a1 a2 a5 b3 b4 b5 n1 n2 n5 d5 w
            · by_cases d4 : a4 = b4
              · subst d4
                by_cases n5 : a5 = ⟨#[]⟩
                · subst n5
                  exact rm_qqeqe a1 a2 a4 b3 b5 n1 n2 n4 w
                · by_cases d5 : a5 = b5
                  · subst d5
                    exact rm_qqeqq a1 a2 a4 a5 b3 n1 n2 n4 n5 w
                  · exact rm_qqeqx a1 a2 a4 a5 b3 b5 n1 n2 n4 n5 d5 w
              · exact rm_qqex a1 a2 a4 a5 b3 b4 b5 n1 n2 n4 d4 w
          · by_cases d3 : a3 = b3
            · subst d3
              by_cases n4 : a4 = ⟨#[]⟩
              · subst n4
                by_cases n5 : a5 = ⟨#[]⟩
                · subst n5
                  exact rm_qqqee a1 a2 a3 b4 b5 n1 n2 n3 w
                · by_cases d5 : a5 = b5
                  · subst d5
                    exact rm_qqqeq a1 a2 a3 a5 b4 n1 n2 n3 n5 w
                  · exact rm_qqqex a1 a2 a3 a5 b4 b5 n1 n2 n3 n5 d5 w
              · by_cases d4 : a4 = b4
                · subst d4
                  by_cases n5 : a5 = ⟨#[]⟩
                  · subst n5
                    exact rm_qqqqe a1 a2 a3 a4 b5 n1 n2 n3 n4 w
                  · by_cases d5 : a5 = b5
                    · subst d5
                      exact rm_qqqqq a1 a2 a3 a4 a5 n1 n2 n3 n4 n5 w
                    · exact rm_qqqqx a1 a2 a3 a4 a5 b5 n1 n2 n3 n4 n5 d5 w
                · exact rm_qqqx a1 a2 a3 a4 a5 b4 b5 n1 n2 n3 n4 d4 w
            · exact rm_qqx a1 a2 a3 a4 a5 b3 b4 b5 n1 n2 n3 d3 w
        · exact rm_qx a1 a2 a3 a4 a5 b2 b3 b4 b5 n1 n2 d2 w
    · exact rm_x a1 a2 a3 a4 a5 b1 b2 b3 b4 b5 n1 d1 w
theorem rMatch_any (a b : Ky) (w : World) : Calls Try.prog 15 #[.agg (kyC a).toArray, .agg (kyC b).toArray] w fun e w' => e = .returned (.bool (mtK a b)) ∧ Gb w w' := by
  obtain ⟨a1, a2, a3, a4, a5⟩ := a
  obtain ⟨b1, b2, b3, b4, b5⟩ := b
  exact rMatch5_any a1 a2 a3 a4 a5 b1 b2 b3 b4 b5 w
end Go.Proofs.Ytenhnnfemehbcaa
