/- The encoding of integers, with no Go in sight; what unsigned, signed, appendInt and PutInt of packages codec and accountingref13 return. -/
import Derived.Test.YtfjapbggloomjaaByt
import Derived.Lib.Zigzag
namespace Go.Proofs.Ytfjapbggloomjaa
open Go.RowKit Go.Sort
set_option linter.unusedVariables false
set_option linter.unusedSimpArgs false

/-- the number of an integer, and the integer of a number. -/
def unV (n : Int) : Nat := if 0 ≤ n then (2 * n).toNat else (-2 * n - 1).toNat
def siV (u : Nat) : Int := if u % 2 = 1 then -((u / 2 : Nat) : Int) - 1 else ((u / 2 : Nat) : Int)
theorem si_un (n : Int) : siV (unV n) = n := by
  unfold siV unV
  split <;> split <;> omega
theorem unV_bd {n : Int} (h1 : -9223372036854775808 ≤ n) (h2 : n ≤ 9223372036854775807) : unV n < 18446744073709551616 := by
  unfold unV; split <;> omega
/-- groups of seven bits. -/
def grp (u : Nat) : List UInt8 := if u < 128 then [u.toUInt8] else (u % 128 + 128).toUInt8 :: grp (u / 128)
theorem grp_lt {u : Nat} (h : u < 128) : grp u = [u.toUInt8] := by rw [grp, if_pos h]
theorem grp_ge {u : Nat} (h : ¬ u < 128) : grp u = (u % 128 + 128).toUInt8 :: grp (u / 128) := by rw [grp, if_neg h]
theorem grp_len : ∀ (k u : Nat), u < 128 ^ (k + 1) → (grp u).length ≤ k + 1 ∧ 1 ≤ (grp u).length
  | 0, u, h => by rw [grp_lt (by simpa using h)]; simp
  | k + 1, u, h => by
    by_cases hu : u < 128
    · rw [grp_lt hu]; simp
    · rw [grp_ge hu]
      have := grp_len k (u / 128) (by rw [Nat.div_lt_iff_lt_mul (by omega)]; rw [← Nat.pow_succ]; exact h)
      simp; omega
theorem grp_len10 {u : Nat} (h : u < 18446744073709551616) : (grp u).length ≤ 10 ∧ 1 ≤ (grp u).length := by
  have e : (128 : Nat) ^ (9 + 1) = 1180591620717411303424 := by decide
  exact grp_len 9 u (by rw [e]; omega)
theorem un_neg {n : Int} (n1 : -9223372036854775808 ≤ n) (h : n < 0) : bits .xor .u64 IntKind.u64.max (IntKind.u64.wrap (IntKind.u64.wrap n * 2)) = -2 * n - 1 := by
  rw [Lib.zigzag_neg n1 h]
  unfold Lib.zigzag
  rw [if_neg (by omega)]
  omega
theorem u8_nat {n : Nat} (h : n < 256) : (n.toUInt8.toNat : Int) = (n : Int) := by
  rw [Nat.toUInt8_eq, UInt8.toNat_ofNat']; omega
set_option maxHeartbeats 400000 in
theorem unsigned_any (n : Int) (w : World) (n1 : -9223372036854775808 ≤ n) (n2 : n ≤ 9223372036854775807) :
    Calls Try.prog 21 #[.int .i64 n] w fun e w' => e = .returned (.int .u64 (unV n : Int)) ∧ w = w' := by
  by_cases h : n < 0
  · have e : (unV n : Int) = -2 * n - 1 := by unfold unV; rw [if_neg (by omega)]; omega
    rw [e]
    clear e
    go_enter Try.func21, Try.ntmps21
    go_wp2
    go_ret
    refine ⟨ret_int ?_, rfl⟩
    exact un_neg n1 (by assumption)
  · have e : (unV n : Int) = 2 * n := by unfold unV; rw [if_pos (by omega)]; omega
    rw [e]
    clear e
    go_enter Try.func21, Try.ntmps21
    go_wp2
    go_ret
    refine ⟨ret_int ?_, rfl⟩
    omega
set_option maxHeartbeats 400000 in
theorem signed_any (u : Nat) (w : World) (h : u < 18446744073709551616) :
    Calls Try.prog 17 #[.int .u64 (u : Int)] w fun e w' => e = .returned (.int .i64 (siV u)) ∧ w = w' := by
  by_cases k : u % 2 = 1
  · have q : ((u : Int) % 2 == 1) = true := by simp; omega
    have e : siV u = -((u / 2 : Nat) : Int) - 1 := if_pos k
    rw [e]
    clear e k
    go_enter Try.func17, Try.ntmps17
    go_wp2
    go_ret
    refine ⟨ret_int ?_, rfl⟩
    have := Lib.i64_not (u / 2) (by omega)
    rw [Int.natCast_ediv] at this
    exact this
  · have q : ((u : Int) % 2 == 1) = false := by simp; omega
    have e : siV u = ((u / 2 : Nat) : Int) := if_neg k
    rw [e]
    clear e k
    go_enter Try.func17, Try.ntmps17
    go_wp2
    go_ret
    refine ⟨ret_int ?_, rfl⟩
    omega
/-- how what appends bytes ends. -/
def ApP (base : Nat) (w : World) (l : List UInt8) (e : Ending) (w' : World) : Prop := ∃ v, e = .returned v ∧ OwnB w' base v l ∧ Below base w w'
theorem row1 (w : World) (b : UInt8) (x : Int) (h : x = (b.toNat : Int)) : RowB (w.alloc (.cells #[.int .u8 x] 5)) (some ⟨w.heap.size, 0, none⟩) [b] := by
  subst h; exact rowB_lit w _ [b]
theorem grp_bit {u : Nat} (h : ¬ u < 128) : (((u : Int) % 128 + 128)) = (((u % 128 + 128).toUInt8).toNat : Int) := by rw [u8_nat (by omega)]; omega
theorem grp_last {u : Nat} (h : u < 128) : (u : Int) = ((u.toUInt8).toNat : Int) := by rw [u8_nat (by omega)]
set_option maxHeartbeats 1000000 in
theorem appendInt_any (base : Nat) (v : Value) (l : List UInt8) (n : Int) (w : World) (n1 : -9223372036854775808 ≤ n) (n2 : n ≤ 9223372036854775807) (hb : base ≤ w.heap.size) (ho : OwnB w base v l) (hl : l.length < 100000) :
    Calls Try.prog 16 #[v, .int .i64 n] w fun e w' => ApP base w (l ++ grp (unV n)) e w' := by
  have H1 := Lib.hid (fun w => unsigned_any n w n1 n2)
  have HU := Lib.hid (unV_bd n1 n2)
  have HO0 := Lib.hid ho
  have HG := Lib.hid (grp_len10 HU.out)
  clear ho
  generalize unV n = u0 at *
  obtain ⟨av, cv, hv⟩ := HO0.out.shape
  subst hv
  go_enter Try.func16, Try.ntmps16
  go_wp2_with fail
  refine (H1.out _).mono ?_
  rintro e w_ ⟨rfl, rfl⟩
  go_wp2
  go_loopw [0, 5] (fun v s wr => ∃ (u : Nat) (L : List UInt8), u < 18446744073709551616 ∧ s = .int .u64 (u : Int) ∧ Hid (OwnB wr base v L) ∧ Hid (Below base w wr) ∧ Hid (L ++ grp u = l ++ grp u0)) (fun _ s _ => (intOf s).toNat)
  case atStart => exact ⟨u0, l, HU.out, by go_num, HO0, Lib.hid (Below.refl _ _), Lib.hid rfl⟩
  case round =>
    obtain ⟨u, L, hu, rfl, HO, HB, HE⟩ := hrel
    obtain ⟨av2, cv2, hv2⟩ := HO.out.shape
    subst hv2
    have hL : L.length < 200000 := by
      have h1 := congrArg List.length HE.out
      rw [List.length_append, List.length_append] at h1
      have h2 := HG.out
      omega
    have hsz := HB.out.size
    by_cases k : u < 128
    · have q : ¬ (128 : Int) ≤ (u : Int) := by omega
      have HX := Lib.hid (row1 · u.toUInt8 _ (grp_last k))
      have HR := Lib.hid (show L ++ [u.toUInt8] = l ++ grp u0 by rw [← HE.out, grp_lt k])
      go_wp2_with (at_builtin; refine wpList_bytes rfl (.tmp 19) (.tmp 22) rfl base _ L [u.toUInt8] rfl (OwnV.below HO.out ((Below.refl _ _).alloc (Nat.le_refl _) _)) (some ⟨wr.heap.size, 0, none⟩) 1 rfl (fun e => by cases e) (HX.out _) (by simp; omega) (by simp; omega) ?_; intro v' w1 hown hbel; have HO2 := Lib.hid hown; have HB2 := Lib.hid (HB.out.trans (((Below.refl _ _).alloc (by omega) _).trans hbel)); clear hown hbel)
      go_ret
      exact ⟨_, rfl, by rw [← HR.out]; exact HO2.out, HB2.out⟩
    · have q : (128 : Int) ≤ (u : Int) := by omega
      have HX := Lib.hid (row1 · (u % 128 + 128).toUInt8 _ (grp_bit k))
      have HR := Lib.hid (show L ++ [(u % 128 + 128).toUInt8] ++ grp (u / 128) = l ++ grp u0 by rw [← HE.out, grp_ge k]; simp)
      have hw1 : IntKind.u8.wrap ((u : Int) % 128 + 128) = (u : Int) % 128 + 128 := by rw [IntKind.wrap_u8']; omega
      go_wp2_with (at_builtin; refine wpList_bytes rfl (.tmp 10) (.tmp 15) rfl base _ L [(u % 128 + 128).toUInt8] rfl (OwnV.below HO.out ((Below.refl _ _).alloc (Nat.le_refl _) _)) (some ⟨wr.heap.size, 0, none⟩) 1 rfl (fun e => by cases e) (HX.out _) (by simp; omega) (by simp; omega) ?_; intro v' w1 hown hbel; have HO2 := Lib.hid hown; have HB2 := Lib.hid (HB.out.trans (((Below.refl _ _).alloc (by omega) _).trans hbel)); clear hown hbel)
      go_roundw
      case rel => exact ⟨u / 128, L ++ [(u % 128 + 128).toUInt8], by omega, by go_num, HO2, HB2, HR⟩
      case measure => simp [intOf]; omega
set_option maxHeartbeats 1000000 in
theorem putInt_any (n : Int) (w : World) (n1 : -9223372036854775808 ≤ n) (n2 : n ≤ 9223372036854775807) :
    Calls Try.prog 7 #[.int .i64 n] w fun e w' => ApP w.heap.size w (grp (unV n)) e w' := by
  have H1 := Lib.hid (appendInt_any w.heap.size (.slice none 0 0) [] n w n1 n2 (Nat.le_refl _) (OwnV.nil _ _ _) (by simp))
  rw [List.nil_append] at H1
  go_enter Try.func7, Try.ntmps7
  go_wp2_with fail
  refine H1.out.mono ?_
  rintro e W1 ⟨v, rfl, ho, hb⟩
  go_wp2
  go_ret
  exact ⟨_, rfl, ho, hb⟩
theorem rUn {n : Int} (n1 : -9223372036854775808 ≤ n) (n2 : n ≤ 9223372036854775807) : (0 ≤ n → n * 2 = (unV n : Int)) ∧ (n < 0 → IntKind.u64.wrap (IntKind.u64.wrap (IntKind.u64.wrap (IntKind.i64.wrap (-(IntKind.i64.wrap (n + 1)))) * 2) + 1) = (unV n : Int)) := by
  constructor
  · intro h; unfold unV; rw [if_pos h]; omega
  · intro h; unfold unV; rw [if_neg (by omega)]; simp only [IntKind.wrap_u64, IntKind.wrap_i64]; omega
end Go.Proofs.Ytfjapbggloomjaa
