/- The chapter's examples hold: lives of package accountinglaw01 returns true. -/
import Derived.Test.YtbmggfeneieglaaNumQ
import Derived.Test.YtbmggfeneieglaaNumT
namespace Go.Proofs.Ytbmggfeneieglaa
open Go.RowKit
set_option linter.unusedVariables false

theorem parse_lit (l : List UInt8) (lo hi : Int) (neg : Bool) (d : List UInt8) (hn : isNeg l = neg) (hd : (if neg then l.tail else l) = d) : parseV ⟨l.toArray⟩ lo hi = parseD d neg lo hi := by
  unfold parseV
  rw [toList_mk l, hn]
  congr 1
  cases neg
  · rw [restOf_no (by rw [toList_mk]; exact hn), toList_mk, ← hd]; rfl
  · rw [restOf_yes (by rw [toList_mk]; exact hn), ← hd]
    cases l with
    | nil => cases hn
    | cons c l =>
      have e : (⟨(c :: l).toArray⟩ : ByteArray).size = l.length + 1 := by rw [← bytes_len, toList_mk]; rfl
      rw [e, extract_tail]; rfl
theorem lit1 : parseV ⟨#[45, 49, 50, 48]⟩ (-200) 0 = (-120, 0) := (parse_lit [45, 49, 50, 48] (-200) 0 true [49, 50, 48] rfl rfl).trans (by decide)
theorem lit2 : parseV ⟨#[48, 48, 55]⟩ 0 9 = (0, 5) := (parse_lit [48, 48, 55] 0 9 false [48, 48, 55] rfl rfl).trans (by decide)
theorem lit3 : parseV ⟨#[49, 50]⟩ 0 9 = (0, 3) := (parse_lit [49, 50] 0 9 false [49, 50] rfl rfl).trans (by decide)
theorem lit4 : ((textS (-120)).toList == [45, 49, 50, 48]) = true := by
  rw [textS_list]
  have : text (-120) = [45, 49, 50, 48] := by unfold text; rw [if_pos (by omega)]; simp [dg]
  rw [this]; rfl
theorem lit_size (l : List UInt8) (h : l.length ≤ 400) : (⟨l.toArray⟩ : ByteArray).size ≤ maxLen := by
  rw [← bytes_len, toList_mk]; unfold maxLen; omega
theorem parse_is (s : ByteArray) (lo hi : Int) (w : World) (hs : s.size ≤ maxLen) (v e : Int) (h : parseV s lo hi = (v, e)) :
    Calls Try.prog 29 #[.string s, .int .i64 lo, .int .i64 hi] w fun r w' => r = .returned (.tuple #[.int .i64 v, .int .i64 e]) ∧ w = w' := by
  have k := parse_any s lo hi w hs
  rw [h] at k; exact k

set_option maxHeartbeats 400000 in
theorem lives_any (w : World) :
    Calls Try.prog 19 #[] w fun e w' => e = .returned (.bool true) ∧ Below w.heap.size w w' := by
  have h4 := lit4
  have H1 := Lib.hid (add_yes 2 3 w (by omega) (by omega) (by omega) (by omega) rfl)
  have H2 := Lib.hid (add_no 9223372036854775807 1 w (by omega) (by omega) (by omega) (by omega) rfl)
  have P1 := Lib.hid (parse_is _ _ _ w (lit_size [45, 49, 50, 48] (by decide)) _ _ lit1)
  have P2 := Lib.hid (parse_is _ _ _ w (lit_size [48, 48, 55] (by decide)) _ _ lit2)
  have P3 := Lib.hid (parse_is _ _ _ w (lit_size [49, 50] (by decide)) _ _ lit3)
  have T1 := Lib.hid (text_any (-120) w (by omega) (by omega))
  generalize textS (-120) = S at *
  go_enter Try.func19, Try.ntmps19
  go_wp2_with fail
  refine H1.out.mono ?_
  rintro e w' ⟨rfl, rfl⟩
  go_wp2_with fail
  refine H2.out.mono ?_
  rintro e w' ⟨rfl, rfl⟩
  go_wp2_with fail
  refine P1.out.mono ?_
  rintro e w' ⟨rfl, rfl⟩
  go_wp2_with fail
  refine P2.out.mono ?_
  rintro e w' ⟨rfl, rfl⟩
  go_wp2_with fail
  refine P3.out.mono ?_
  rintro e w' ⟨rfl, rfl⟩
  go_wp2_with fail
  refine T1.out.mono ?_
  rintro e w' ⟨rfl, hb⟩
  go_wp2
  go_ret
  exact ⟨rfl, hb⟩
end Go.Proofs.Ytbmggfeneieglaa
