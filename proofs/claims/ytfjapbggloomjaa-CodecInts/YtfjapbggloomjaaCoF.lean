/- What was encoded is read back, with no Go in sight; the examples of chapter 13. -/
import Derived.Test.YtfjapbggloomjaaCoE
namespace Go.Proofs.Ytfjapbggloomjaa
open Go.RowKit Go.Sort
set_option linter.unusedVariables false
set_option linter.unusedSimpArgs false

theorem u8n {n : Nat} (h : n < 256) : n.toUInt8.toNat = n := by have := u8_nat h; omega
theorem mul_step (u p : Nat) : u % 128 * p + u / 128 * (p * 128) = u * p := by
  have e : u = 128 * (u / 128) + u % 128 := by omega
  have e1 : u / 128 * (p * 128) = 128 * (u / 128 * p) := by rw [← Nat.mul_assoc, Nat.mul_comm]
  have e2 : u * p = 128 * (u / 128 * p) + u % 128 * p := by
    conv => lhs; rw [e, Nat.add_mul, Nat.mul_assoc]
  rw [e1, e2]; omega
theorem pow9 : (128 : Nat) ^ 9 = 9223372036854775808 := by decide
theorem tk_grp : ∀ (k u i acc : Nat) (more : List UInt8), u < 128 ^ k → i ≤ 9 → (0 < i → 0 < u) → acc + u * 128 ^ i < 18446744073709551616 → tkV (grp u ++ more) i acc = (siV (acc + u * 128 ^ i), i + (grp u).length, 0)
  | 0, u, i, acc, more, hk, hi, h0, hb => by
    have hu : u = 0 := by simp at hk; omega
    subst hu
    have hi0 : i = 0 := by
      rcases Nat.eq_zero_or_pos i with h | h
      · exact h
      · exact absurd (h0 h) (by omega)
    subst hi0
    rw [grp_lt (by omega)]; simp [tkV]
  | k + 1, u, i, acc, more, hk, hi, h0, hb => by
    by_cases hu : u < 128
    · rw [grp_lt hu]
      show tkV (u.toUInt8 :: more) i acc = _
      have hbad : ¬ ((0 < i ∧ u.toUInt8.toNat = 0) ∨ (i = 9 ∧ 1 < u.toUInt8.toNat)) := by
        rw [u8n (by omega)]
        rintro (⟨h1, h2⟩ | ⟨h1, h2⟩)
        · have := h0 h1; omega
        · subst h1; rw [pow9] at hb; omega
      rw [tkV, if_neg hbad, if_pos (by rw [u8n (by omega)]; exact hu), u8n (by omega), Nat.mod_eq_of_lt hu]; rfl
    · rw [grp_ge hu]
      show tkV ((u % 128 + 128).toUInt8 :: (grp (u / 128) ++ more)) i acc = _
      have hi9 : i ≠ 9 := by
        intro h; subst h; rw [pow9] at hb; omega
      have hbad : ¬ ((0 < i ∧ (u % 128 + 128).toUInt8.toNat = 0) ∨ (i = 9 ∧ 1 < (u % 128 + 128).toUInt8.toNat)) := by
        rw [u8n (by omega)]
        rintro (⟨h1, h2⟩ | ⟨h1, h2⟩) <;> omega
      rw [tkV, if_neg hbad, if_neg (by rw [u8n (by omega)]; omega), u8n (by omega), show (u % 128 + 128) % 128 = u % 128 by omega]
      have hp : (128 : Nat) ^ (i + 1) = 128 ^ i * 128 := Nat.pow_succ ..
      have hs := mul_step u (128 ^ i)
      rw [tk_grp k (u / 128) (i + 1) (acc + u % 128 * 128 ^ i) more (by rw [Nat.pow_succ] at hk; omega) (by omega) (fun _ => by omega) (by rw [hp]; omega), hp]
      rw [show acc + u % 128 * 128 ^ i + u / 128 * (128 ^ i * 128) = acc + u * 128 ^ i by omega]
      simp; omega
theorem tk_put {n : Int} (n1 : -9223372036854775808 ≤ n) (n2 : n ≤ 9223372036854775807) (more : List UInt8) : tkV (grp (unV n) ++ more) 0 0 = (n, (grp (unV n)).length, 0) := by
  have hb := unV_bd n1 n2
  have e : (128 : Nat) ^ 10 = 1180591620717411303424 := by decide
  rw [tk_grp 10 (unV n) 0 0 more (by rw [e]; omega) (by omega) (fun h => by omega) (by simpa using hb)]
  simp [si_un]
theorem tt_put {s : ByteArray} (hp : plaB s = true) (more : List UInt8) : ttV (txE s ++ more) = (s.toList, (txE s).length, 0) := by
  have hs : s.size ≤ 60 := by unfold plaB plainB at hp; rw [bytes_len] at hp; simp at hp; exact hp.2
  have ht := tk_put (n := (s.size : Int)) (by omega) (by omega) (s.toList ++ more)
  have e : txE s ++ more = grp (unV (s.size : Int)) ++ (s.toList ++ more) := by unfold txE; rw [List.append_assoc]
  have hd : ((grp (unV (s.size : Int)) ++ (s.toList ++ more)).drop (grp (unV (s.size : Int))).length).take ((s.size : Int)).toNat = s.toList := by
    rw [List.drop_left, Int.toNat_natCast, ← bytes_len, List.take_left]
  rw [e]
  have hpl : plainB s.toList = true := hp
  unfold ttV
  rw [ht]
  simp only
  rw [hd, if_neg (by omega), if_neg (by omega), if_neg (by rw [List.length_append, List.length_append, bytes_len]; omega), hpl]
  unfold txE
  rw [List.length_append, bytes_len, Int.toNat_natCast]; rfl
theorem live_g1 : grp (unV (-3)) = [5] := by rw [show unV (-3) = 5 by decide, grp_lt (by omega)]; rfl
theorem live_g2 : grp (unV 100) = [200, 1] := by rw [show unV 100 = 200 by decide, grp_ge (by omega), grp_lt (by omega)]; rfl
theorem live_t1 : tkV [200, 1, 7] 0 0 = (100, 2, 0) := by decide +kernel
theorem live_t2 : tkV [128, 0] 0 0 = (0, 0, 5) := by decide +kernel
theorem live_t3 : ttV [4, 97] = ([], 0, 6) := by decide +kernel
theorem live_p : plaB ⟨#[97, 98]⟩ = true := by decide +kernel
theorem live_x : txE ⟨#[97, 98]⟩ = [4, 97, 98] := by
  unfold txE
  rw [show ((⟨#[97, 98]⟩ : ByteArray).size : Int) = 2 from rfl, show unV 2 = 4 by decide, grp_lt (by omega), show (⟨#[97, 98]⟩ : ByteArray).toList = [97, 98] from bs_list [97, 98]]; rfl
theorem lit_int (W : World) (l : List UInt8) (n : Int) (u : Nat) (e : Int) (h : tkV l 0 0 = (n, u, e)) (hl : l.length ≤ 10) : Calls Try.prog 8 #[.slice (some ⟨W.heap.size, 0, none⟩) l.length l.length] (W.alloc (.cells (l.map byV).toArray 5)) fun e' w' => e' = .returned (.tuple #[.int .i64 n, .int .i64 (u : Int), .int .i64 e]) ∧ Below W.heap.size W w' :=
  (takeInt_any _ l.length l _ (rowB_lit W _ l) (by unfold maxLen; omega)).mono fun e' w' ⟨he, hb⟩ => by
    rw [h] at he
    exact ⟨he, hb ▸ (Below.refl _ _).alloc (Nat.le_refl _) _⟩
theorem lit_text (W : World) (l s : List UInt8) (u : Nat) (e : Int) (h : ttV l = (s, u, e)) (hl : l.length ≤ 10) : Calls Try.prog 14 #[.slice (some ⟨W.heap.size, 0, none⟩) l.length l.length] (W.alloc (.cells (l.map byV).toArray 5)) fun e' w' => e' = .returned (.tuple #[.string (bs s), .int .i64 (u : Int), .int .i64 e]) ∧ Below W.heap.size W w' :=
  (takeText_any _ l.length l _ (rowB_lit W _ l) (Nat.le_refl _) (by unfold maxLen; omega)).mono fun e' w' ⟨he, hb⟩ => by
    rw [h] at he
    exact ⟨he, hb ▸ (Below.refl _ _).alloc (Nat.le_refl _) _⟩
theorem lit_put (n : Int) (l : List UInt8) (h : grp (unV n) = l) (n1 : -9223372036854775808 ≤ n) (n2 : n ≤ 9223372036854775807) (W : World) : Calls Try.prog 7 #[.int .i64 n] W fun e' w' => ∃ ao c, e' = .returned (.slice ao l.length c) ∧ RowB w' ao l ∧ Below W.heap.size W w' :=
  (putInt_any n W n1 n2).mono fun e' w' ⟨v, he, ho, hb⟩ => by
    rw [h] at ho
    obtain ⟨ao, c, rfl⟩ := ho.shape
    exact ⟨ao, c, he, OwnV.row ho, hb⟩
theorem lit_ptext (W : World) : Calls Try.prog 12 #[.string ⟨#[97, 98]⟩] W fun e' w' => ∃ ao c, e' = .returned (.tuple #[.slice ao 3 c, .int .i64 0]) ∧ RowB w' ao [4, 97, 98] ∧ Below W.heap.size W w' :=
  (putText_any ⟨#[97, 98]⟩ W (by decide)).mono fun e' w' ⟨v, he, ho, hb⟩ => by
    rw [live_p] at he ho
    simp only [if_true] at he ho
    rw [live_x] at ho
    obtain ⟨ao, c, rfl⟩ := ho.shape
    exact ⟨ao, c, he, OwnV.row ho, hb⟩
set_option maxRecDepth 100000 in
set_option maxHeartbeats 4000000 in
theorem lives_any (w : World) : Calls Try.prog 10 #[] w fun e w' => e = .returned (.bool true) ∧ Below w.heap.size w w' := by
  have HB0 := Lib.hid (Below.refl w.heap.size w)
  go_enter Try.func10, Try.ntmps10
  go_wp2_with fail
  refine (lit_int w [200, 1, 7] _ _ _ live_t1 (by decide)).mono ?_
  rintro e W1 ⟨rfl, hb⟩
  have HB1 := Lib.hid (HB0.out.trans hb)
  clear hb HB0
  go_wp2_with fail
  refine (lit_ptext W1).mono ?_
  rintro e W2 ⟨ao, c, rfl, hr, hb⟩
  have HR2 := Lib.hid hr
  have HB2 := Lib.hid (HB1.out.trans (hb.mono HB1.out.size))
  clear hb hr HB1
  go_wp2_with fail
  refine (lit_int W2 [128, 0] _ _ _ live_t2 (by decide)).mono ?_
  rintro e W3 ⟨rfl, hb⟩
  have HR3 := Lib.hid (HR2.out.below hb)
  have HB3 := Lib.hid (HB2.out.trans (hb.mono HB2.out.size))
  clear hb HB2 HR2
  go_wp2_with fail
  refine (lit_text W3 [4, 97] _ _ _ live_t3 (by decide)).mono ?_
  rintro e W4 ⟨rfl, hb⟩
  have HR4 := Lib.hid (HR3.out.below hb)
  have HB4 := Lib.hid (HB3.out.trans (hb.mono HB3.out.size))
  clear hb HB3 HR3
  go_wp2_with fail
  refine (lit_put (-3) [5] live_g1 (by omega) (by omega) W4).mono ?_
  rintro e W5 ⟨ao5, c5, rfl, hr5, hb⟩
  have cv5 : (convert 22 9 (.slice ao5 1 c5)).run Try.prog W5 = .ok (.string ⟨#[5]⟩) W5 := row_conv hr5 rfl c5
  have HR5 := Lib.hid (HR4.out.below hb)
  have HB5 := Lib.hid (HB4.out.trans (hb.mono HB4.out.size))
  clear hb HB4 HR4 hr5
  go_wp2_with fail
  refine (lit_put 100 [200, 1] live_g2 (by omega) (by omega) W5).mono ?_
  rintro e W6 ⟨ao6, c6, rfl, hr6, hb⟩
  have cv6 : (convert 22 9 (.slice ao6 2 c6)).run Try.prog W6 = .ok (.string ⟨#[200, 1]⟩) W6 := row_conv hr6 rfl c6
  have HR6 := Lib.hid (HR5.out.below hb)
  have HB6 := Lib.hid (HB5.out.trans (hb.mono HB5.out.size))
  have cv7 : (convert 22 9 (.slice ao 3 c)).run Try.prog W6 = .ok (.string ⟨#[4, 97, 98]⟩) W6 := row_conv HR6.out rfl c
  clear hb HB5 HR5 hr6
  go_wp2
  go_ret
  exact ⟨rfl, HB6.out⟩
theorem live_end {w W : World} (hb : Below w.heap.size w W) : Calls Try.prog 10 #[] W fun e w' => e = .returned (.bool true) ∧ Below w.heap.size w w' :=
  (lives_any W).mono fun e w' ⟨he, hb'⟩ => ⟨he, hb.trans (hb'.mono hb.size)⟩
end Go.Proofs.Ytfjapbggloomjaa
