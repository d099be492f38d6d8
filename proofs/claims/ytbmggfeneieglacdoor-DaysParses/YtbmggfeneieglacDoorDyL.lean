/- What Parse of package days returns. -/
import Derived.Test.YtbmggfeneieglacDoorDyK
namespace Go.Proofs.YtbmggfeneieglacDoor
open Go.RowKit Go.Sort
set_option linter.unusedVariables false

/-- the string is four digits, a hyphen, two digits, a hyphen and two digits; its day; its error. -/
def pdO (s : ByteArray) : Prop := s.size = 10 ∧ s.toList[4]? = some 45 ∧ s.toList[7]? = some 45 ∧ rdO (s.extract 0 4) = true ∧ rdO (s.extract 5 7) = true ∧ rdO (s.extract 8 10) = true
instance (s : ByteArray) : Decidable (pdO s) := by unfold pdO; infer_instance
def pdV (s : ByteArray) : Int := if pdO s then ofV (rdV (s.extract 0 4)) (rdV (s.extract 5 7)) (rdV (s.extract 8 10)) else 0
def pdE (s : ByteArray) : Int := if pdO s then ofE (rdV (s.extract 0 4)) (rdV (s.extract 5 7)) (rdV (s.extract 8 10)) else 5
theorem rdV_b {s : ByteArray} (h : s.size ≤ 4) : 0 ≤ rdV s ∧ rdV s ≤ 9999 := by
  unfold rdV
  split
  · rename_i h1
    have := dec_small (l := s.toList) h1 (by rw [bytes_len]; exact h) s.toList.length
    rw [List.take_length] at this; omega
  · omega
theorem at_get {s : ByteArray} {k : Nat} (hk : k < s.size) : s.toList[k]? = some s[k] := by
  rw [List.getElem?_eq_getElem (by rw [bytes_len]; exact hk), bytes_get s k hk]

set_option maxHeartbeats 4000000 in
theorem dayParse_any (s : ByteArray) (w : World) (ht : Tab w) (hs : s.size ≤ maxLen) :
    Calls Tryd.prog 28 #[.string s] w fun e w' => e = .returned (.tuple #[.int .i64 (pdV s), .int .i64 (pdE s)]) ∧ Below w.heap.size w w' := by
  unfold maxLen at hs
  have no : ¬ pdO s → pdV s = 0 ∧ pdE s = 5 := fun h => ⟨if_neg h, if_neg h⟩
  have NO := Lib.hid no
  clear no
  by_cases h1 : s.size = 10
  · have hl : (s.size : Int) = 10 := by omega
    by_cases h2 : s[4] = 45
    · have b2 : (s[4].toNat : Int) = 45 := by rw [h2]; rfl
      by_cases h3 : s[7] = 45
      · have b3 : (s[7].toNat : Int) = 45 := by rw [h3]; rfl
        have R1 := Lib.hid (fun w => readDigits_any (s.extract 0 4) w (by rw [ByteArray.size_extract]; omega))
        have R2 := Lib.hid (fun w => readDigits_any (s.extract 5 7) w (by rw [ByteArray.size_extract]; omega))
        have R3 := Lib.hid (fun w => readDigits_any (s.extract 8 10) w (by rw [ByteArray.size_extract]; omega))
        have B1 := Lib.hid (rdV_b (s := s.extract 0 4) (by rw [ByteArray.size_extract]; omega))
        have B2 := Lib.hid (rdV_b (s := s.extract 5 7) (by rw [ByteArray.size_extract]; omega))
        have B3 := Lib.hid (rdV_b (s := s.extract 8 10) (by rw [ByteArray.size_extract]; omega))
        have HO := Lib.hid (fun w ht => of_any (rdV (s.extract 0 4)) (rdV (s.extract 5 7)) (rdV (s.extract 8 10)) w ht (by have := B1.out; omega) (by have := B1.out; omega) (by have := B2.out; omega) (by have := B2.out; omega) (by have := B3.out; omega) (by have := B3.out; omega))
        have HP := Lib.hid (show pdO s ↔ (rdO (s.extract 0 4) && rdO (s.extract 5 7) && rdO (s.extract 8 10)) = true by
          unfold pdO
          rw [at_get (by omega), at_get (by omega), h2, h3]
          simp [h1, and_assoc])
        have HV := Lib.hid (show pdO s → pdV s = ofV (rdV (s.extract 0 4)) (rdV (s.extract 5 7)) (rdV (s.extract 8 10)) ∧ pdE s = ofE (rdV (s.extract 0 4)) (rdV (s.extract 5 7)) (rdV (s.extract 8 10)) from fun h => ⟨if_pos h, if_pos h⟩)
        generalize rdV (s.extract 0 4) = V1 at *
        generalize rdV (s.extract 5 7) = V2 at *
        generalize rdV (s.extract 8 10) = V3 at *
        generalize rdO (s.extract 0 4) = O1 at *
        generalize rdO (s.extract 5 7) = O2 at *
        generalize rdO (s.extract 8 10) = O3 at *
        go_enter Tryd.func28, Tryd.ntmps28
        go_wp2_with fail
        refine (R1.out _).mono ?_
        rintro e w1 ⟨rfl, rfl⟩
        go_wp2_with fail
        refine (R2.out _).mono ?_
        rintro e w1 ⟨rfl, rfl⟩
        go_wp2_with fail
        refine (R3.out _).mono ?_
        rintro e w1 ⟨rfl, rfl⟩
        clear R1 R2 R3
        cases O1
        · have HN := Lib.hid (NO.out (fun h => by simpa using HP.out.1 h))
          go_wp2
          go_ret2
          exact ⟨by rw [HN.out.1, HN.out.2]; rfl, Below.refl _ _⟩
        cases O2
        · have HN := Lib.hid (NO.out (fun h => by simpa using HP.out.1 h))
          go_wp2
          go_ret2
          exact ⟨by rw [HN.out.1, HN.out.2]; rfl, Below.refl _ _⟩
        cases O3
        · have HN := Lib.hid (NO.out (fun h => by simpa using HP.out.1 h))
          go_wp2
          go_ret2
          exact ⟨by rw [HN.out.1, HN.out.2]; rfl, Below.refl _ _⟩
        have HW := Lib.hid (HV.out (HP.out.2 rfl))
        go_wp2_with fail
        refine (HO.out _ ht).mono ?_
        rintro e w1 ⟨rfl, hb⟩
        go_wp2
        go_ret2
        exact ⟨by rw [HW.out.1, HW.out.2]; rfl, hb⟩
      · have HN := Lib.hid (NO.out (by unfold pdO; rw [at_get (by omega), at_get (by omega)]; simp [h3]))
        have b3 : ¬ (s[7].toNat : Int) = 45 := fun h => h3 (byte45.1 h)
        go_enter Tryd.func28, Tryd.ntmps28
        go_wp2
        go_ret2
        exact ⟨by rw [HN.out.1, HN.out.2]; rfl, Below.refl _ _⟩
    · have HN := Lib.hid (NO.out (by unfold pdO; rw [at_get (by omega)]; simp [h2]))
      have b2 : ¬ (s[4].toNat : Int) = 45 := fun h => h2 (byte45.1 h)
      go_enter Tryd.func28, Tryd.ntmps28
      go_wp2
      go_ret2
      exact ⟨by rw [HN.out.1, HN.out.2]; rfl, Below.refl _ _⟩
  · have HN := Lib.hid (NO.out (by unfold pdO; simp [h1]))
    have hl : ¬ (s.size : Int) = 10 := by omega
    go_enter Tryd.func28, Tryd.ntmps28
    go_wp2
    go_ret2
    exact ⟨by rw [HN.out.1, HN.out.2]; rfl, Below.refl _ _⟩
end Go.Proofs.YtbmggfeneieglacDoor
