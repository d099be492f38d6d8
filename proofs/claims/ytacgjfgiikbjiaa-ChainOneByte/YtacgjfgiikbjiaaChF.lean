/- What Sum and Parse of packages chain and accountingref14 return. -/
import Derived.Test.YtacgjfgiikbjiaaChE
import Derived.Test.YtacgjfgiikbjiaaShelf
namespace Go.Proofs.Ytacgjfgiikbjiaa
open Go.RowKit Go.Sort
set_option linter.unusedVariables false
set_option linter.unusedSimpArgs false

/-- the number with these bytes. -/
def vlB (l : List UInt8) : Int := l.foldl (fun n b => n * 256 + (b.toNat : Int)) 0
theorem vlB_snoc (l : List UInt8) (b : UInt8) : vlB (l ++ [b]) = vlB l * 256 + (b.toNat : Int) := by
  unfold vlB; rw [List.foldl_append]; rfl
theorem vlB_take {l : List UInt8} {j : Nat} (h : j < l.length) : vlB (l.take (j + 1)) = vlB (l.take j) * 256 + (l[j].toNat : Int) := by
  rw [List.take_succ_eq_append_getElem h, vlB_snoc]
theorem vlB_bd : ∀ (n : Nat) (l : List UInt8), l.length = n → 0 ≤ vlB l ∧ vlB l < 256 ^ n
  | 0, l, h => by obtain rfl := List.length_eq_zero_iff.1 h; decide
  | n + 1, l, h => by
    rw [← List.take_append_drop n l]
    obtain ⟨b, hb⟩ : ∃ b, l.drop n = [b] := by
      have : (l.drop n).length = 1 := by rw [List.length_drop]; omega
      exact List.length_eq_one_iff.1 this
    rw [hb, vlB_snoc]
    have ih := vlB_bd n (l.take n) (by rw [List.length_take]; omega)
    have := b.toNat_lt
    generalize vlB (l.take n) = x at *
    have e : (256 : Int) ^ (n + 1) = 256 ^ n * 256 := Int.pow_succ _ _
    rw [e]
    generalize (256 : Int) ^ n = y at *
    omega
theorem pow_le8 {j : Nat} (h : j < 8) : (256 : Int) ^ j ≤ 72057594037927936 := by
  rcases (show j = 0 ∨ j = 1 ∨ j = 2 ∨ j = 3 ∨ j = 4 ∨ j = 5 ∨ j = 6 ∨ j = 7 by omega) with rfl | rfl | rfl | rfl | rfl | rfl | rfl | rfl <;> decide
theorem vlB_lt {l : List UInt8} {j : Nat} (h : j < 8) (hj : j ≤ l.length) : 0 ≤ vlB (l.take j) ∧ vlB (l.take j) < 72057594037927936 := by
  have h1 := vlB_bd j (l.take j) (by rw [List.length_take]; omega)
  have h2 := pow_le8 h
  omega
theorem or_byte {x : Int} (b : UInt8) (h0 : 0 ≤ x) (h1 : x < 72057594037927936) : bits .or .u64 (x * 256) (b.toNat : Int) = x * 256 + (b.toNat : Int) := by
  have hb := b.toNat_lt
  obtain ⟨n, rfl⟩ : ∃ n : Nat, x = (n : Int) := ⟨x.toNat, by omega⟩
  have e : ((n : Int) * 256) = ((n * 256 : Nat) : Int) := by omega
  rw [e, u64_or_nat _ _ (by omega) (by omega), nat_join 8 (n * 256) b.toNat (by omega) (by omega)]
  omega
/-- what Sum returns. -/
def smV (l : List UInt8) : Int := if l.length = 8 then vlB l else 0
def smE (l : List UInt8) : Int := if l.length < 8 then 6 else if 8 < l.length then 5 else 0
set_option maxHeartbeats 1000000 in
theorem sum_any (ao : Option Addr) (c : Nat) (l : List UInt8) (w : World) (hR : RowB w ao l) (hl : l.length ≤ 1000) :
    Calls Try.prog 20 #[.slice ao l.length c] w fun e w' => e = .returned (.tuple #[.int .u64 (smV l), .int .i64 (smE l)]) ∧ w = w' := by
  by_cases h1 : l.length < 8
  · have hi : (l.length : Int) < 8 := by omega
    have e1 : smV l = 0 := if_neg (by omega)
    have e2 : smE l = 6 := if_pos h1
    rw [e1, e2]
    clear e1 e2
    go_enter Try.func20, Try.ntmps20
    go_wp2
    go_ret2
    exact ⟨rfl, rfl⟩
  have hi : ¬ (l.length : Int) < 8 := by omega
  by_cases h2 : 8 < l.length
  · have hi2 : 8 < (l.length : Int) := by omega
    have e1 : smV l = 0 := if_neg (by omega)
    have e2 : smE l = 5 := by unfold smE; rw [if_neg h1, if_pos h2]
    rw [e1, e2]
    clear e1 e2
    go_enter Try.func20, Try.ntmps20
    go_wp2
    go_ret2
    exact ⟨rfl, rfl⟩
  have hi2 : ¬ 8 < (l.length : Int) := by omega
  have h8 : l.length = 8 := by omega
  have e1 : smV l = vlB l := if_pos h8
  have e2 : smE l = 0 := by unfold smE; rw [if_neg h1, if_neg h2]
  rw [e1, e2]
  have H8 := Lib.hid h8
  clear e1 e2 h8
  have HR := Lib.hid hR
  clear hR
  go_enter Try.func20, Try.ntmps20
  go_wp2
  go_loop [2, 11] (fun v i => ∃ j : Nat, j ≤ 8 ∧ i = .int .i64 (j : Int) ∧ v = .int .u64 (vlB (l.take j))) (fun _ i => 8 - (intOf i).toNat)
  case atStart => exact ⟨0, by omega, by go_num, by simp [vlB]⟩
  case round =>
    obtain ⟨j, hj, rfl, rfl⟩ := hrel
    by_cases k : j < 8
    · have hij : (j : Int) < 8 := by omega
      have hij2 : (j : Int) < (l.length : Int) := by have := H8.out; omega
      have kl : j < l.length := by omega
      obtain ⟨b, off, rfl, hb, hc⟩ := HR.out.at j kl
      have HM := Lib.hid (vlB_take kl)
      have hbd := vlB_lt k (show j ≤ l.length by omega)
      have hor := fun b => or_byte b hbd.1 hbd.2
      generalize l[j] = x at *
      generalize vlB (l.take j) = y at *
      have hor2 := hor x
      have hx := x.toNat_lt
      clear hor
      go_wp2
      go_round
      case rel => exact ⟨j + 1, by omega, by go_num, by rw [HM.out]⟩
      case measure => simp [intOf]; omega
    · have hij : ¬ (j : Int) < 8 := by omega
      have e : l.take j = l := List.take_of_length_le (by have := H8.out; omega)
      rw [e]
      clear e
      go_wp2
      go_ret2
      exact ⟨rfl, rfl⟩
set_option maxHeartbeats 1000000 in
theorem rSum_any (ao : Option Addr) (c : Nat) (l : List UInt8) (w : World) (hR : RowB w ao l) (hl : l.length ≤ 1000) :
    Calls Try.prog 21 #[.slice ao l.length c] w fun e w' => e = .returned (.tuple #[.int .u64 (smV l), .int .i64 (smE l)]) ∧ w = w' := by
  by_cases h1 : l.length < 8
  · have hi : (l.length : Int) < 8 := by omega
    have e1 : smV l = 0 := if_neg (by omega)
    have e2 : smE l = 6 := if_pos h1
    rw [e1, e2]
    clear e1 e2
    go_enter Try.func21, Try.ntmps21
    go_wp2
    go_ret2
    exact ⟨rfl, rfl⟩
  have hi : ¬ (l.length : Int) < 8 := by omega
  by_cases h2 : 8 < l.length
  · have hi2 : 8 < (l.length : Int) := by omega
    have e1 : smV l = 0 := if_neg (by omega)
    have e2 : smE l = 5 := by unfold smE; rw [if_neg h1, if_pos h2]
    rw [e1, e2]
    clear e1 e2
    go_enter Try.func21, Try.ntmps21
    go_wp2
    go_ret2
    exact ⟨rfl, rfl⟩
  have hi2 : ¬ 8 < (l.length : Int) := by omega
  have h8 : l.length = 8 := by omega
  have e1 : smV l = vlB l := if_pos h8
  have e2 : smE l = 0 := by unfold smE; rw [if_neg h1, if_neg h2]
  rw [e1, e2]
  have H8 := Lib.hid h8
  clear e1 e2 h8
  have HR := Lib.hid hR
  clear hR
  go_enter Try.func21, Try.ntmps21
  go_wp2
  go_loop [4, 5] (fun v i => ∃ j : Nat, j ≤ 8 ∧ i = .int .i64 (j : Int) ∧ v = .int .u64 (vlB (l.take j))) (fun _ i => 8 - (intOf i).toNat)
  case atStart => exact ⟨0, by omega, by go_num, by simp [vlB]⟩
  case round =>
    obtain ⟨j, hj, rfl, rfl⟩ := hrel
    by_cases k : j < 8
    · have hij : (j : Int) < 8 := by omega
      have hij2 : (j : Int) < (l.length : Int) := by have := H8.out; omega
      have kl : j < l.length := by omega
      obtain ⟨b, off, rfl, hb, hc⟩ := HR.out.at j kl
      have HM := Lib.hid (vlB_take kl)
      have hbd := vlB_lt k (show j ≤ l.length by omega)
      generalize l[j] = x at *
      generalize vlB (l.take j) = y at *
      have hx := x.toNat_lt
      go_wp2
      go_round
      case rel => exact ⟨j + 1, by omega, by go_num, by rw [HM.out]⟩
      case measure => simp [intOf]; omega
    · have hij : ¬ (j : Int) < 8 := by omega
      have e : l.take j = l := List.take_of_length_le (by have := H8.out; omega)
      rw [e]
      clear e
      go_wp2
      go_ret2
      exact ⟨rfl, rfl⟩
/-- the value of a digit, or -1. -/
def hxD : List UInt8 := [48, 49, 50, 51, 52, 53, 54, 55, 56, 57, 97, 98, 99, 100, 101, 102]
def hxI (c : UInt8) : Int := Lib.indexByte hxD c
theorem hxI_all : ∀ n : Fin 256, -1 ≤ hxI (UInt8.ofNat n.val) ∧ hxI (UInt8.ofNat n.val) ≤ 15 := by decide +kernel
theorem hxI_bd (c : UInt8) : -1 ≤ hxI c ∧ hxI c ≤ 15 := by
  have := hxI_all ⟨c.toNat, c.toNat_lt⟩
  rw [UInt8.ofNat_toNat] at this
  exact this
/-- the number with these digits. -/
def pvV (l : List UInt8) : Int := l.foldl (fun n c => n * 16 + hxI c) 0
def pvO (l : List UInt8) : Prop := ∀ c ∈ l, 0 ≤ hxI c
instance (l : List UInt8) : Decidable (pvO l) := by unfold pvO; infer_instance
theorem pvV_snoc (l : List UInt8) (b : UInt8) : pvV (l ++ [b]) = pvV l * 16 + hxI b := by
  unfold pvV; rw [List.foldl_append]; rfl
theorem pvV_take {l : List UInt8} {j : Nat} (h : j < l.length) : pvV (l.take (j + 1)) = pvV (l.take j) * 16 + hxI l[j] := by
  rw [List.take_succ_eq_append_getElem h, pvV_snoc]
theorem pvO_take {l : List UInt8} {j : Nat} (h : j < l.length) (ho : pvO (l.take j)) (hc : 0 ≤ hxI l[j]) : pvO (l.take (j + 1)) := by
  rw [List.take_succ_eq_append_getElem h]
  intro c hc'
  rcases List.mem_append.1 hc' with x | x
  · exact ho c x
  · simp at x; subst x; exact hc
/-- what Parse returns. -/
def paOk (s : ByteArray) : Prop := s.size = 16 ∧ pvO s.toList
instance (s : ByteArray) : Decidable (paOk s) := by unfold paOk; infer_instance
def paV (s : ByteArray) : Int := if paOk s then IntKind.u64.wrap (pvV s.toList) else 0
def paE (s : ByteArray) : Int := if paOk s then 0 else 5
theorem pa_bad {s : ByteArray} (h : ¬ paOk s) : paV s = 0 ∧ paE s = 5 := ⟨if_neg h, if_neg h⟩
theorem pa_ok {s : ByteArray} (h : paOk s) : paV s = IntKind.u64.wrap (pvV s.toList) ∧ paE s = 0 := ⟨if_pos h, if_pos h⟩
theorem wrap_step (x y : Int) : IntKind.u64.wrap (IntKind.u64.wrap (IntKind.u64.wrap x * 16) + y) = IntKind.u64.wrap (x * 16 + y) := by
  simp only [IntKind.wrap_u64]; omega
set_option maxHeartbeats 1000000 in
theorem parse_any (s : ByteArray) (w : World) (hs : s.size ≤ 1000) :
    Calls Try.prog 22 #[.string s] w fun e w' => e = .returned (.tuple #[.int .u64 (paV s), .int .i64 (paE s)]) ∧ w = w' := by
  by_cases h1 : s.size = 16
  · have q1 : ((s.size : Int) != 16) = false := by simp; omega
    have H16 := Lib.hid h1
    clear h1
    go_enter Try.func22, Try.ntmps22
    go_wp2
    go_loop [2, 11] (fun v i => ∃ j : Nat, j ≤ s.size ∧ i = .int .i64 (j : Int) ∧ v = .int .u64 (IntKind.u64.wrap (pvV (s.toList.take j))) ∧ Hid (pvO (s.toList.take j))) (fun _ i => s.size - (intOf i).toNat)
    case atStart => exact ⟨0, by omega, by go_num, by simp [pvV]; rfl, Lib.hid (by simp [pvO])⟩
    case round =>
      obtain ⟨j, hj, rfl, rfl, HO⟩ := hrel
      by_cases k : j < s.size
      · have hij : (j : Int) < (s.size : Int) := by omega
        have kl : j < s.toList.length := by rw [bytes_len]; exact k
        have eb : s.toList[j] = s[j] := bytes_get s j k kl
        have HM := Lib.hid (pvV_take kl)
        have hbd := hxI_bd s[j]
        have HC := Lib.hid (fun w => Try.strings_IndexByte (bs hxD) (s[j].toNat : Int) w)
        have HE := Lib.hid (show Lib.indexByte (bs hxD).data.toList ((s[j].toNat : Int)).toNat.toUInt8 = hxI s[j] by
          unfold hxI
          congr 1
          simp)
        have HP := Lib.hid (fun (h : 0 ≤ hxI s.toList[j]) => pvO_take kl HO.out h)
        rw [eb] at HM HP
        rw [HE.out] at HC
        have HN := Lib.hid (show hxI s[j] < 0 → ¬ paOk s from fun h x => by
          have := x.2 s.toList[j] (List.getElem_mem kl)
          rw [eb] at this; omega)
        clear HE eb
        generalize hxI s[j] = d at *
        generalize pvV (s.toList.take j) = y at *
        unfold bs hxD at HC
        by_cases hd : d < 0
        · have HV := Lib.hid (pa_bad (HN.out hd))
          go_wp2_with fail
          refine (HC.out _).mono ?_
          rintro e w_ ⟨rfl, rfl⟩
          go_wp2
          go_ret2
          exact ⟨by rw [HV.out.1, HV.out.2]; rfl, rfl⟩
        · have HW := Lib.hid (wrap_step y d)
          generalize IntKind.u64.wrap y = Y at *
          go_wp2_with fail
          refine (HC.out _).mono ?_
          rintro e w_ ⟨rfl, rfl⟩
          go_wp2
          go_round
          case rel => exact ⟨j + 1, by omega, by go_num, by rw [HM.out, ← HW.out], Lib.hid (HP.out (by omega))⟩
          case measure => simp [intOf]; omega
      · have hij : ¬ (j : Int) < (s.size : Int) := by omega
        have e : s.toList.take j = s.toList := List.take_of_length_le (by rw [bytes_len]; omega)
        rw [e] at HO ⊢
        have HV := Lib.hid (pa_ok (s := s) ⟨H16.out, HO.out⟩)
        clear e
        go_wp2
        go_ret2
        exact ⟨by rw [HV.out.1, HV.out.2]; rfl, rfl⟩
  · have q1 : ((s.size : Int) != 16) = true := by simp; omega
    have HV := Lib.hid (pa_bad (s := s) (fun x => h1 x.1))
    go_enter Try.func22, Try.ntmps22
    go_wp2
    go_ret2
    exact ⟨by rw [HV.out.1, HV.out.2]; rfl, rfl⟩
end Go.Proofs.Ytacgjfgiikbjiaa
