/- What one of package accountingref25 returns. Written by wip/mk_txv.py. -/
import Derived.Test.YtelahgmnkhkgkaaTxU
namespace Go.Proofs.Ytelahgmnkhkgkaa
open Go.RowKit Go.Sort
set_option linter.unusedVariables false
set_option linter.unusedSimpArgs false

def oneV (way x n d m : Int) : Int × Int := if way = 3 then ((inV x n d m).1, (inV x n d m).2.1) else (x, (onV x n d m).1)
set_option maxRecDepth 100000 in
set_option maxHeartbeats 2000000 in
theorem one_any (x : Int) (T a b : ByteArray) (n d way m : Int) (w : World) (x1 : -9223372036854775808 ≤ x) (x2 : x ≤ 9223372036854775807) (n1 : -9223372036854775808 ≤ n) (n2 : n ≤ 9223372036854775807) (d1 : -9223372036854775808 ≤ d) (d2 : d ≤ 9223372036854775807) :
    Calls Try.prog 38 #[.agg #[.int .i64 x, .string T], .agg #[.string a, .string b, .int .i64 n, .int .i64 d], .int .i64 way, .int .i64 m] w fun e w' => e = .returned (.tuple #[.int .i64 (oneV way x n d m).1, .int .i64 (oneV way x n d m).2]) ∧ Below w.heap.size w w' := by
  have hz : (w.alloc (Obj.cells #[.int .i64 x, .string T] 49)).heap.size = w.heap.size + 1 := by simp
  have hp := Q2.alloc w (.int .i64 x) (.string T) 49
  have hb1 : Below (w.alloc (Obj.cells #[.int .i64 x, .string T] 49)).heap.size (w.alloc (Obj.cells #[.int .i64 x, .string T] 49)) ((w.alloc (Obj.cells #[.int .i64 x, .string T] 49)).alloc (Obj.cells #[.string a, .string b, .int .i64 n, .int .i64 d] 59)) := (Below.refl _ _).alloc (Nat.le_refl _) _
  have hq := Q4.alloc (w.alloc (Obj.cells #[.int .i64 x, .string T] 49)) (.string a) (.string b) (.int .i64 n) (.int .i64 d) 59
  rw [hz] at hq
  have HP := Lib.hid (hp.below hb1)
  have HB0 := Lib.hid ((((Below.refl w.heap.size w).alloc (Nat.le_refl _) (Obj.cells #[.int .i64 x, .string T] 49))).trans (hb1.mono (by simp)))
  have k0 := HP.out.c0
  have k1 := HP.out.c1
  have p0 := hq.c0
  have p1 := hq.c1
  have p2 := hq.c2
  have p3 := hq.c3
  clear hz hp hb1 hq
  by_cases h3 : way = 3
  · have hw : (way == 3) = true := by simpa using h3
    have HV := Lib.hid (show oneV way x n d m = ((inV x n d m).1, (inV x n d m).2.1) from if_pos h3)
    have HI := Lib.hid (fun W => rIn_any x n d m W x1 x2 n1 n2 d1 d2)
    rw [HV.out]
    clear HV h3
    go_enter Try.func38, Try.ntmps38
    go_wp2_with fail
    refine (HI.out _).mono ?_
    rintro e w3 ⟨rfl, hb⟩
    have HP3 := Lib.hid (HP.out.below hb)
    have l0 := HP3.out.c0
    have HB3 := Lib.hid (HB0.out.trans (hb.mono HB0.out.size))
    clear hb k0 k1 p0 p1 p2 p3
    go_wp2
    go_ret2
    exact ⟨rfl, HB3.out⟩
  · have hw : (way == 3) = false := by simpa using h3
    have HV := Lib.hid (show oneV way x n d m = (x, (onV x n d m).1) from if_neg h3)
    have HI := Lib.hid (fun W => rOn_any x n d m W x1 x2 n1 n2 d1 d2)
    rw [HV.out]
    clear HV h3
    go_enter Try.func38, Try.ntmps38
    go_wp2_with fail
    refine (HI.out _).mono ?_
    rintro e w3 ⟨rfl, hb⟩
    have HP3 := Lib.hid (HP.out.below hb)
    have l0 := HP3.out.c0
    have HB3 := Lib.hid (HB0.out.trans (hb.mono HB0.out.size))
    clear hb k0 k1 p0 p1 p2 p3
    go_wp2
    go_ret2
    exact ⟨rfl, HB3.out⟩
end Go.Proofs.Ytelahgmnkhkgkaa
