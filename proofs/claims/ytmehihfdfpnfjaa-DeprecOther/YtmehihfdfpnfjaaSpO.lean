/- What isSum, weigh, negated and Shares of package split return. -/
import Derived.Test.YtmehihfdfpnfjaaSpN
import Derived.Test.YtmehihfdfpnfjaaNumX
namespace Go.Proofs.Ytmehihfdfpnfjaa
open Go.RowKit Go.Sort
set_option linter.unusedVariables false
set_option linter.unusedSimpArgs false

def sumOk (x : Int) : Bool := decide (-1000000000000000 ≤ x) && decide (x ≤ 1000000000000000)
set_option maxHeartbeats 1000000 in
theorem isSum_any (x : Int) (w : World) : Calls Try.prog 62 #[.int .i64 x] w fun e w' => e = .returned (.bool (sumOk x)) ∧ w = w' := by
  unfold sumOk
  by_cases h1 : -1000000000000000 ≤ x
  · have k1 : decide (-1000000000000000 ≤ x) = true := decide_eq_true h1
    by_cases h2 : x ≤ 1000000000000000
    · have k2 : decide (x ≤ 1000000000000000) = true := decide_eq_true h2
      go_enter Try.func62, Try.ntmps62
      go_wp2
      go_ret
      exact ⟨ret_bool (by first | rfl | (rw [k1, k2]; rfl)), rfl⟩
    · have k2 : decide (x ≤ 1000000000000000) = false := decide_eq_false h2
      go_enter Try.func62, Try.ntmps62
      go_wp2
      go_ret
      exact ⟨ret_bool (by first | rfl | (rw [k1, k2]; rfl)), rfl⟩
  · have k1 : decide (-1000000000000000 ≤ x) = false := decide_eq_false h1
    go_enter Try.func62, Try.ntmps62
    go_wp2
    go_ret
    exact ⟨ret_bool (by first | rfl | (rw [k1]; rfl)), rfl⟩
/-- the sum of the weights and the first error. -/
def wgV (zs : List Int) : Int × Int :=
  if zs.all (fun z => decide (0 ≤ z)) = false then (0, 2) else if 1000000000000000 < zs.sum then (0, 4) else if zs.sum = 0 then (0, 2) else (zs.sum, 0)
theorem all_bad {zs : List Int} {k : Nat} (hk : k < zs.length) (h : zs[k] < 0) : zs.all (fun z => decide (0 ≤ z)) = false := by
  rw [List.all_eq_false]
  exact ⟨zs[k], List.getElem_mem hk, by simp; omega⟩
theorem all_good {zs : List Int} (h : ∀ k, (hk : k < zs.length) → 0 ≤ zs[k]) : zs.all (fun z => decide (0 ≤ z)) = true := by
  rw [List.all_eq_true]
  intro x hx
  obtain ⟨k, hk, rfl⟩ := List.getElem_of_mem hx
  simpa using h k hk
theorem sum_pos : ∀ {zs : List Int}, zs.all (fun z => decide (0 ≤ z)) = true → 0 ≤ zs.sum
  | [], _ => by simp
  | z :: zs, h => by
    simp only [List.all_cons, Bool.and_eq_true, decide_eq_true_eq] at h
    have := sum_pos h.2
    simp only [List.sum_cons]; omega
set_option maxRecDepth 100000 in
set_option maxHeartbeats 2000000 in
theorem weigh_any (A : Option Addr) (c : Nat) (zs : List Int) (w : World) (hR : Row w A zs) (hn : zs.length ≤ 200) :
    Calls Try.prog 63 #[.slice A zs.length c] w fun e w' => e = .returned (.tuple #[.int .i64 (wgV zs).1, .int .i64 (wgV zs).2]) ∧ w = w' := by
  have HR := Lib.hid hR
  have HS := Lib.hid (sum_any A c zs w hR (by omega))
  have HT := Lib.hid (fun x W => isSum_any x W)
  clear hR
  go_enter Try.func63, Try.ntmps63
  go_wp2
  go_loop [9] (fun x => ∃ k : Nat, k ≤ zs.length ∧ x = .int .i64 k ∧ Hid (∀ i, i < k → ∀ hi : i < zs.length, 0 ≤ zs[i])) (fun x => zs.length - (intOf x).toNat)
  case atStart => exact ⟨0, Nat.zero_le _, rfl, Lib.hid (fun i hi => by omega)⟩
  case round =>
    obtain ⟨k, hk, rfl, HG⟩ := hrel
    by_cases hlt : k < zs.length
    · have hlt' : (k : Int) < (zs.length : Int) := by omega
      obtain ⟨b, off, rfl, hc⟩ := HR.out.at_ hlt
      by_cases hz : zs[k] < 0
      · have HW := Lib.hid (show wgV zs = (0, 2) by unfold wgV; rw [if_pos (all_bad hlt hz)])
        generalize zs[k] = z at *
        go_wp2
        go_ret2
        exact ⟨by rw [HW.out]; rfl, rfl⟩
      · have HG2 := Lib.hid (show ∀ i, i < k + 1 → ∀ hi : i < zs.length, 0 ≤ zs[i] from fun i h1 hi => by
          by_cases e : i = k
          · subst e; omega
          · exact HG.out i (by omega) hi)
        generalize zs[k] = z at *
        go_wp2
        go_round
        case rel => exact ⟨k + 1, by omega, by go_num, HG2⟩
        case measure => simp [intOf]; omega
    · have hlt' : ¬ (k : Int) < (zs.length : Int) := by omega
      have hall := all_good (zs := zs) (fun i hi => HG.out i (by omega) hi)
      have hsp := sum_pos hall
      have HWq := Lib.hid (show wgV zs = if 1000000000000000 < zs.sum then (0, 4) else if zs.sum = 0 then (0, 2) else (zs.sum, 0) by unfold wgV; rw [hall]; simp)
      clear hall
      by_cases hf : fits zs.sum = true
      · have hfv : fit zs.sum = zs.sum := by unfold fit; rw [hf]; rfl
        rw [hf, hfv] at HS
        have HT2 := Lib.hid (fun W => HT.out zs.sum W)
        generalize zs.sum = s at *
        by_cases hb : 1000000000000000 < s
        · have e1 : sumOk s = false := by unfold sumOk; simp; omega
          rw [e1] at HT2
          rw [if_pos hb] at HWq
          clear e1 hf hfv
          go_wp2_with fail
          refine HS.out.mono ?_
          rintro e w2 ⟨rfl, rfl⟩
          go_wp2_with fail
          refine (HT2.out _).mono ?_
          rintro e w2 ⟨rfl, rfl⟩
          go_wp2
          go_ret2
          exact ⟨by rw [HWq.out]; rfl, rfl⟩
        · have e1 : sumOk s = true := by unfold sumOk; simp; omega
          rw [e1] at HT2
          rw [if_neg hb] at HWq
          clear e1 hf hfv
          by_cases h0 : s = 0
          · rw [if_pos h0] at HWq
            subst h0
            go_wp2_with fail
            refine HS.out.mono ?_
            rintro e w2 ⟨rfl, rfl⟩
            go_wp2_with fail
            refine (HT2.out _).mono ?_
            rintro e w2 ⟨rfl, rfl⟩
            go_wp2
            go_ret2
            exact ⟨by rw [HWq.out]; rfl, rfl⟩
          · rw [if_neg h0] at HWq
            have h0' : (s == 0) = false := by simpa using h0
            go_wp2_with fail
            refine HS.out.mono ?_
            rintro e w2 ⟨rfl, rfl⟩
            go_wp2_with fail
            refine (HT2.out _).mono ?_
            rintro e w2 ⟨rfl, rfl⟩
            go_wp2
            go_ret2
            exact ⟨by rw [HWq.out]; rfl, rfl⟩
      · have hf' : fits zs.sum = false := by simpa using hf
        have hb : 1000000000000000 < zs.sum := by
          unfold fits at hf'
          have := of_decide_eq_false hf'
          omega
        rw [if_pos hb] at HWq
        rw [hf'] at HS
        generalize fit zs.sum = q at *
        clear hb hf hf' hsp
        go_wp2_with fail
        refine HS.out.mono ?_
        rintro e w2 ⟨rfl, rfl⟩
        go_wp2
        go_ret2
        exact ⟨by rw [HWq.out]; rfl, rfl⟩
set_option maxRecDepth 100000 in
set_option maxHeartbeats 4000000 in
theorem negated_any (Q n c : Nat) (f : Nat → Nat) (w : World) (hn : n ≤ 200) (hf : ∀ k, k < n → f k ≤ 1000000000000001) (hp : PaV w Q n (fun k => .int .i64 (f k))) :
    Calls Try.prog 64 #[.slice (some ⟨Q, 0, none⟩) n c] w fun e w' => e = .returned (.slice (some ⟨w.heap.size, 0, none⟩) n n) ∧ PaV w' w.heap.size n (fun k => .int .i64 (-(f k : Int))) ∧ Below w.heap.size w w' := by
  obtain ⟨i0, hi, hz0, hz1, hz2⟩ := info_parts inf_int
  have HP := Lib.hid hp
  have HF := Lib.hid hf
  clear hp hf
  go_enter Try.func64, Try.ntmps64
  go_wp2_with (at_make; refine wpList_make_full _ rfl _ _ 24 rfl w.heap.size 3 i0 (.int .i64 0) 1 und_ints hi hz0 hz1 _ _ _ _ n rfl rfl rfl rfl ?_ ?_ ?_ ?_)
  · rw [hz2]; omega
  · unfold maxLen; omega
  · exact Nat.le_refl _
  intro w1 hown hgr
  have HL0 := Lib.hid (PaV.made (w := w1) (base := w.heap.size) (P := w.heap.size) (n := n) (T := 3) (z := .int .i64 0) (by rw [Nat.mul_one]; exact hown))
  have HB0 := Lib.hid (show Below w.heap.size w w1 from (Below.refl _ _).grown hgr (Nat.le_refl _) (by simp))
  clear hown hgr
  go_wp2_with fail
  go_loopw [11] (fun x wr => ∃ k : Nat, k ≤ n ∧ x = .int .i64 k ∧ Hid (PaV wr w.heap.size n (fun t => .int .i64 (if t < k then -(f t : Int) else 0))) ∧ Hid (Below w.heap.size w wr)) (fun x _ => n - (intOf x).toNat)
  case atStart => exact ⟨0, Nat.zero_le _, rfl, Lib.hid (HL0.out.congr fun t _ => by simp), HB0⟩
  case round =>
    obtain ⟨k, hk, rfl, HL, HB⟩ := hrel
    by_cases h : k < n
    · have h' : (k : Int) < (n : Int) := by omega
      have c0 : wr.cell? ⟨Q, k, none⟩ = some (.int .i64 (f k)) := by rw [HB.out.cell HP.out.1]; exact (HP.out.2 k h).1
      have l0 := (HL.out.2 k h).1
      have l1 := (HL.out.2 k h).2
      have hfk := HF.out k h
      have HL2 := Lib.hid (show PaV (wr.setCell ⟨w.heap.size, k, none⟩ (.int .i64 (-(f k : Int)))) w.heap.size n (fun t => .int .i64 (if t < k + 1 then -(f t : Int) else 0)) by
        have q := HL.out.set (g := fun t => .int .i64 (if t < k + 1 then -(f t : Int) else 0)) k h (fun t ht e => by by_cases z : t < k; simp [z, show t < k + 1 by omega]; simp [z, show ¬ t < k + 1 by omega])
        simpa using q)
      have HB2 := Lib.hid (HB.out.setCell (p := ⟨w.heap.size, k, none⟩) (Nat.le_refl _) (.int .i64 (-(f k : Int))))
      go_wp2
      go_roundw
      case rel => exact ⟨k + 1, by omega, by go_num, HL2, HB2⟩
      case measure => simp [intOf]; omega
    · have h' : ¬ (k : Int) < (n : Int) := by omega
      obtain rfl : n = k := by omega
      go_wp2
      go_ret
      exact ⟨rfl, HL.out.congr fun t ht => by simp [ht], HB.out⟩
end Go.Proofs.Ytmehihfdfpnfjaa
