/- What sum and size of package accountinglaw08, Even of package split and total of package accountingref08 return. -/
import Derived.Test.YtmehihfdfpnfjaaSpS
import Derived.Test.YtmehihfdfpnfjaaMdS
namespace Go.Proofs.Ytmehihfdfpnfjaa
open Go.RowKit Go.Sort
set_option linter.unusedVariables false
set_option linter.unusedSimpArgs false

theorem row_below {B : Nat} {w w' : World} {A : Option Addr} {zs : List Int} (h : Row w A zs) (hB : w.heap.size ≤ B) (hb : Below B w w') : Row w' A zs := by
  refine ⟨fun hl => ?_, h.2⟩
  obtain ⟨b, off, e, hlt, hc⟩ := h.1 hl
  exact ⟨b, off, e, Nat.lt_of_lt_of_le hlt hb.size, fun k hk => (hb.cell (p := ⟨b, off + k, none⟩) (Nat.lt_of_lt_of_le hlt hB)).trans (hc k hk)⟩
theorem row_b {w w' : World} {A : Option Addr} {zs : List Int} (h : Row w A zs) (hb : Below w.heap.size w w') : Row w' A zs := row_below h (Nat.le_refl _) hb
theorem row_nil (w : World) (A : Option Addr) : Row w A [] := ⟨fun h => absurd h (by simp), by simp⟩
theorem row_lit (w : World) (T : TypeId) (zs : List Int) (h : ∀ z ∈ zs, -9223372036854775808 ≤ z ∧ z ≤ 9223372036854775807) : Row (w.alloc (.cells (zs.map (Value.int .i64)).toArray T)) (some ⟨w.heap.size, 0, none⟩) zs :=
  ⟨fun _ => ⟨w.heap.size, 0, rfl, by simp, fun k hk => by rw [World.cell?_alloc_at _ _ _ _ rfl]; simp [hk]⟩, h⟩
def evE (x n : Int) : Int := if n < 1 then 2 else if 200 < n then 9 else shE x (List.replicate n.toNat 1)
def evO (x n : Int) : List Int := if n < 1 then [] else if 200 < n then [] else shO x (List.replicate n.toNat 1)
def EvQ (x n : Int) (w : World) (e : Ending) (w' : World) : Prop :=
  (evE x n = 0 → Ord1 x.natAbs (List.replicate n.toNat (1 : Int)).sum.toNat (wtN (List.replicate n.toNat 1)) (List.replicate n.toNat (1 : Int)).length) ∧ ∃ A, e = .returned (.tuple #[.slice A (evO x n).length (evO x n).length, .int .i64 (evE x n)]) ∧ Row w' A (evO x n) ∧ Below w.heap.size w w'
def rtV (x : Int) (zs : List Int) : Int × Int := if shE x zs = 0 then (zs.sum, 0) else (0, shE x zs)
theorem rt_of {x : Int} {zs : List Int} (h1 : zs.length ≤ 200) (h2 : sumOk x = true) : rtV x zs = wgV zs := by
  unfold rtV
  have e : shE x zs = (wgV zs).2 := by unfold shE; rw [if_neg (by omega), h2]; simp
  rw [e]
  unfold wgV
  repeat' split
  all_goals simp_all
theorem take_le {zs : List Int} (h : zs.all (fun z => decide (0 ≤ z)) = true) (k : Nat) : (zs.take k).sum ≤ zs.sum := by
  have e : zs.sum = (zs.take k).sum + (zs.drop k).sum := by rw [← List.sum_append, List.take_append_drop]
  have : 0 ≤ (zs.drop k).sum := sum_pos (all_pos fun z hz => by
    have := List.all_eq_true.1 h z (List.mem_of_mem_drop hz)
    simpa using this)
  omega
set_option maxRecDepth 100000 in
set_option maxHeartbeats 2000000 in
theorem rTotal_any (x : Int) (A : Option Addr) (c : Nat) (zs : List Int) (w : World) (hR : Row w A zs) (hlen : (zs.length : Int) ≤ 9223372036854775807) :
    Calls Try.prog 39 #[.int .i64 x, .slice A zs.length c] w fun e w' => e = .returned (.tuple #[.int .i64 (rtV x zs).1, .int .i64 (rtV x zs).2]) ∧ w = w' := by
  have HR := Lib.hid hR
  clear hR
  by_cases hl : 200 < zs.length
  · have hl' : (200 : Int) < (zs.length : Int) := by omega
    have HE := Lib.hid (show rtV x zs = (0, 9) by unfold rtV shE; rw [if_pos hl]; simp)
    go_enter Try.func39, Try.ntmps39
    go_wp2
    go_ret2
    exact ⟨by rw [HE.out]; rfl, rfl⟩
  have hl' : ¬ (200 : Int) < (zs.length : Int) := by omega
  by_cases ha : 1000000000000000 < x
  · have HE := Lib.hid (show rtV x zs = (0, 4) by
      have : sumOk x = false := by unfold sumOk; simp; omega
      unfold rtV shE; rw [if_neg hl, if_pos this]; simp)
    have ha' : decide (1000000000000000 < x) = true := decide_eq_true ha
    go_enter Try.func39, Try.ntmps39
    go_wp2
    go_ret2
    exact ⟨by rw [HE.out]; rfl, rfl⟩
  have ha' : decide (1000000000000000 < x) = false := decide_eq_false ha
  by_cases hb : x < -1000000000000000
  · have HE := Lib.hid (show rtV x zs = (0, 4) by
      have : sumOk x = false := by unfold sumOk; simp; omega
      unfold rtV shE; rw [if_neg hl, if_pos this]; simp)
    have hb' : decide (x < -1000000000000000) = true := decide_eq_true hb
    go_enter Try.func39, Try.ntmps39
    go_wp2
    go_ret2
    exact ⟨by rw [HE.out]; rfl, rfl⟩
  have hb' : decide (x < -1000000000000000) = false := decide_eq_false hb
  have HV := Lib.hid (rt_of (x := x) (zs := zs) (by omega) (sumOk_iff.2 (by omega)))
  go_enter Try.func39, Try.ntmps39
  go_wp2
  go_loop [6] (fun x => ∃ k : Nat, k ≤ zs.length ∧ x = .int .i64 k ∧ Hid (∀ i, i < k → ∀ hi : i < zs.length, 0 ≤ zs[i])) (fun x => zs.length - (intOf x).toNat)
  case atStart => exact ⟨0, Nat.zero_le _, rfl, Lib.hid (fun i hi => by omega)⟩
  case round =>
    obtain ⟨k, hk, rfl, HG⟩ := hrel
    by_cases hlt : k < zs.length
    · have hlt' : (k : Int) < (zs.length : Int) := by omega
      obtain ⟨b, off, rfl, hc⟩ := HR.out.at_ hlt
      by_cases hz : zs[k] < 0
      · have HW := Lib.hid (show rtV x zs = (0, 2) by rw [HV.out]; unfold wgV; rw [if_pos (all_bad hlt hz)])
        generalize zs[k] = z at *
        go_wp2
        go_ret2
        exact ⟨by rw [HW.out]; rfl, rfl⟩
      · have HG2 := Lib.hid (show ∀ i, i < k + 1 → ∀ hi : i < zs.length, 0 ≤ zs[i] from fun i h1 hi => by
          by_cases e : i = k
          · subst e; omega
          · exact HG.out i (by omega) hi)
        generalize zs[k] = z at *
        go_wp2
        go_round
        case rel => exact ⟨k + 1, by omega, by go_num, HG2⟩
        case measure => simp [intOf]; omega
    · have hlt' : ¬ (k : Int) < (zs.length : Int) := by omega
      have hall := all_good (zs := zs) (fun i hi => HG.out i (by omega) hi)
      have HA := Lib.hid hall
      have HN := Lib.hid (show ∀ i, ∀ hi : i < zs.length, 0 ≤ zs[i] from fun i hi => HG.out i (by omega) hi)
      have HWq := Lib.hid (show rtV x zs = if 1000000000000000 < zs.sum then (0, 4) else if zs.sum = 0 then (0, 2) else (zs.sum, 0) by rw [HV.out]; unfold wgV; rw [hall]; simp)
      clear hall HG
      go_wp2
      go_loop [7, 8] (fun x y => ∃ k : Nat, k ≤ zs.length ∧ y = .int .i64 k ∧ ∃ s : Int, x = .int .i64 s ∧ 0 ≤ s ∧ s ≤ 1000000000000000 ∧ Hid ((zs.take k).sum = s)) (fun _ y => zs.length - (intOf y).toNat)
      case atStart => exact ⟨0, Nat.zero_le _, rfl, 0, rfl, by omega, by omega, Lib.hid (by simp)⟩
      case round =>
        clear hk hlt hlt'
        obtain ⟨j, hj, rfl, s, rfl, s0, s1, HS⟩ := hrel
        by_cases h : j < zs.length
        · have h' : (j : Int) < (zs.length : Int) := by omega
          obtain ⟨b, off, rfl, hc⟩ := HR.out.at_ h
          have hz0 := HN.out j h
          have HS2 := Lib.hid (show (zs.take (j + 1)).sum = s + zs[j] by rw [sum_snoc zs h, HS.out])
          have HLe := Lib.hid (take_le HA.out (j + 1))
          have hzb := HR.out.bd h
          by_cases hov : 1000000000000000 - s < zs[j]
          · have HW := Lib.hid (show rtV x zs = (0, 4) by
              have := HLe.out; have := HS2.out
              rw [HWq.out, if_pos (by omega)])
            generalize zs[j] = z at *
            go_wp2
            go_ret2
            exact ⟨by rw [HW.out]; rfl, rfl⟩
          · generalize zs[j] = z at *
            go_wp2
            go_round
            case rel => exact ⟨j + 1, by omega, by go_num, s + z, by go_num, by omega, by omega, HS2⟩
            case measure => simp [intOf]; omega
        · have h' : ¬ (j : Int) < (zs.length : Int) := by omega
          have hs : zs.sum = s := by rw [← HS.out, List.take_of_length_le (by omega)]
          have HW := HWq
          rw [hs, if_neg (show ¬ 1000000000000000 < s by omega)] at HW
          clear hs
          by_cases h0 : s = 0
          · rw [if_pos h0] at HW
            subst h0
            go_wp2
            go_ret2
            exact ⟨by rw [HW.out]; rfl, rfl⟩
          · rw [if_neg h0] at HW
            have h0' : (s == 0) = false := by simpa using h0
            go_wp2
            go_ret2
            exact ⟨by rw [HW.out]; rfl, rfl⟩
end Go.Proofs.Ytmehihfdfpnfjaa
