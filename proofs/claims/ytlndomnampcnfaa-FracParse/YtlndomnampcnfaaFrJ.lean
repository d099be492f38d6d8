/- What readNatural and leadingDigits of package frac return. -/
import Derived.Test.YtlndomnampcnfaaFrI
import Derived.Test.YtlndomnampcnfaaByt
namespace Go.Proofs.Ytlndomnampcnfaa
open Go.RowKit Go.Sort
set_option linter.unusedVariables false
set_option linter.unusedSimpArgs false

theorem own_one {w : World} {base : Nat} {T : TypeId} {v x : Value} (h : OwnV w base T v [x]) : ∃ g cap, v = .slice (some ⟨g, 0, none⟩) 1 cap ∧ 1 ≤ cap ∧ g < w.heap.size ∧ w.cell? ⟨g, 0, none⟩ = some x := by
  have h' := h
  rcases h.2 with ⟨_, e⟩ | ⟨g, cap, cur, e, _⟩
  · simp at e
  · subst e
    obtain ⟨b, off, e2, e3, e4⟩ := OwnV.row h' 0 x rfl
    have e2 := Option.some.inj e2
    injection e2 with e5 e6
    subst e5 e6
    exact ⟨g, cap, rfl, by have := OwnV.cap h'; simpa using this, e3, by simpa using e4⟩
theorem dec_lt (l : List UInt8) (h : l.all dig = true) : dec l < 10 ^ l.length := by
  have : ∀ (l : List UInt8) (n : Nat), l.all dig = true → l.foldl (fun n c => n * 10 + (c.toNat - 48)) n < (n + 1) * 10 ^ l.length := by
    intro l
    induction l with
    | nil => intro n _; simp
    | cons c l ih =>
      intro n h
      simp only [List.all_cons, Bool.and_eq_true] at h
      obtain ⟨c1, c2⟩ := dig_iff.1 h.1
      have := ih (n * 10 + (c.toNat - 48)) h.2
      simp only [List.foldl_cons, List.length_cons]
      refine Nat.lt_of_lt_of_le this ?_
      rw [Nat.pow_succ, Nat.mul_comm (10 ^ l.length) 10, ← Nat.mul_assoc]
      exact Nat.mul_le_mul_right _ (by omega)
  simpa [dec] using this l 0 h
theorem row_lit1 (w : World) (T : TypeId) (x : Value) : RowV (w.alloc (.cells #[x] T)) (some ⟨w.heap.size, 0, none⟩) [x] := by
  refine RowV.block (by simp) fun i y hy => ?_
  rw [World.cell?_alloc_at _ _ _ _ rfl, Nat.zero_add]
  simpa using hy
set_option maxRecDepth 100000 in
set_option maxHeartbeats 4000000 in
theorem readNat_any (s : ByteArray) (N : Nat) (w : World) (hNN : dec s.toList = N) (h1 : 1 ≤ s.size) (h8 : s.size ≤ 8) (hd : s.toList.all dig = true) :
    Calls Try.prog 16 #[.string s] w fun e w' => ∃ v, e = .returned v ∧ NatV 0 w' v N ∧ Below w.heap.size w w' := by
  obtain ⟨i0, hi, hz0, hz1, hz2⟩ := info_parts inf_int
  have hN : N < 1000000000 := by
    rw [← hNN]
    refine Nat.lt_of_lt_of_le (dec_lt _ hd) ?_
    rw [bytes_len]
    exact Nat.le_trans (Nat.pow_le_pow_right (by omega) h8) (by decide)
  have HD := Lib.hid hd
  have HNN := Lib.hid hNN
  clear hd hNN
  have hq : (s.size : Int) / 9 = 0 := by omega
  have hq2 : (s.size : Int).tdiv 9 = 0 := by rw [Int.tdiv_eq_ediv_of_nonneg (by omega)]; exact hq
  go_enter Try.func16, Try.ntmps16
  go_wp2_with (at_make; refine wpList_make_own _ rfl _ _ 45 rfl w.heap.size 3 i0 (.int .i64 0) 1 und_nat hi hz0 hz1 _ _ _ 1 rfl rfl rfl ?_ ?_ ?_ ?_)
  · rw [hz2]; omega
  · unfold maxLen; omega
  · exact Nat.le_refl _
  intro w1 hown hgr
  have HO0 := Lib.hid (show OwnV w1 w.heap.size 3 (.slice (some ⟨w.heap.size, 0, none⟩) 0 1) [] from hown)
  have HB0 := Lib.hid (show Below w.heap.size w w1 from (Below.refl _ _).grown hgr (Nat.le_refl _) (by simp))
  clear hown hgr
  go_wp2_with fail
  go_loopw [3, 4] (fun x en wr => (x = .slice (some ⟨w.heap.size, 0, none⟩) 0 1 ∧ en = .int .i64 s.size ∧ Hid (OwnV wr w.heap.size 3 (.slice (some ⟨w.heap.size, 0, none⟩) 0 1) []) ∧ Hid (Below w.heap.size w wr)) ∨ (∃ g cap, x = .slice (some ⟨g, 0, none⟩) 1 cap ∧ en = .int .i64 ((s.size : Int) - 9) ∧ 1 ≤ cap ∧ Hid (g < wr.heap.size ∧ wr.cell? ⟨g, 0, none⟩ = some (.int .i64 N)) ∧ Hid (Below w.heap.size w wr))) (fun _ en _ => (intOf en).toNat)
  case atStart => exact .inl ⟨rfl, rfl, HO0, HB0⟩
  case round =>
    rcases hrel with ⟨rfl, rfl, HO, HB⟩ | ⟨g, cap, rfl, rfl, hcap, HG, HB⟩
    · have hmx : max (0 : Int) ((s.size : Int) - 9) = 0 := by omega
      go_wp2_with fail
      go_loop [5, 6] (fun l i => ∃ k : Nat, k ≤ s.size ∧ i = .int .i64 k ∧ l = .int .i64 (dec (s.toList.take k))) (fun _ i => s.size - (intOf i).toNat)
      case atStart => exact ⟨0, Nat.zero_le _, rfl, rfl⟩
      case round =>
        obtain ⟨k, hk, rfl, rfl⟩ := hrel
        by_cases hlt : k < s.size
        · obtain ⟨d1, d2⟩ := all_at HD.out hlt
          have HS := Lib.hid (show (dec (s.toList.take (k + 1)) : Int) = (dec (s.toList.take k) : Int) * 10 + ((s[k].toNat : Int) - 48) by rw [take_snoc s k hlt, dec_snoc]; omega)
          have hle := dec_take s.toList k
          rw [HNN.out] at hle
          generalize dec (s.toList.take k) = M at *
          go_wp2
          go_round
          case rel => exact ⟨k + 1, by omega, by go_num, by rw [HS.out]⟩
          case measure => simp [intOf]; omega
        · obtain rfl : k = s.size := by omega
          have e1 : s.toList.take s.size = s.toList := val_all (by omega)
          rw [e1, HNN.out]
          clear e1
          have HR := Lib.hid (fun T => row_lit1 wr T (.int .i64 N))
          go_wp2_with (at_builtin; refine wpList_vals und_nat inf_int rfl (by omega) rfl (.tmp 34) (.tmp 36) rfl w.heap.size _ [] [.int .i64 N] rfl (OwnV.below HO.out ((Below.refl _ _).alloc (Nat.le_refl _) _)) (some ⟨wr.heap.size, 0, none⟩) 1 rfl (fun e => by cases e) (HR.out _) (by intro y hy; simp at hy; subst hy; rfl) (by simp) (by have := HB.out.size; simp; omega) ?_; intro v' w2 hown hbel; have HV := Lib.hid (own_one hown); have HB2 := Lib.hid (HB.out.trans (((Below.refl _ _).alloc HB.out.size _).trans hbel)); clear hown hbel; obtain ⟨g, cap, rfl, hc2, hg1, hg2⟩ := HV.out; have HG2 := Lib.hid (And.intro hg1 hg2); clear hg1 hg2 HV)
          go_roundw
          case rel => exact .inr ⟨g, cap, rfl, by go_num, hc2, HG2, HB2⟩
          case measure => simp [intOf]; omega
    · have HT := Lib.hid (trim_one g cap N 0 wr (Nat.zero_le _) hcap HG.out.2 HG.out.1 hN)
      have hneg : ¬ (0 : Int) < (s.size : Int) - 9 := by omega
      go_wp2_with fail
      refine HT.out.mono ?_
      rintro e w2 ⟨v, rfl, hv, rfl⟩
      go_wp2
      go_ret
      exact ⟨v, rfl, hv, HB.out⟩
set_option maxHeartbeats 4000000 in
theorem leading_any (s : ByteArray) (k : Nat) (A B : ByteArray) (w : World) (hs : s.size ≤ 100) (hk : k ≤ s.size) (hA : s.extract 0 k = A) (hB : s.extract k s.size = B)
    (h1 : ∀ j, j < k → ∀ hj : j < s.size, dig s[j] = true) (h2 : ∀ hk : k < s.size, dig s[k] = false) :
    Calls Try.prog 32 #[.string s] w fun e w' => e = .returned (.tuple #[.string A, .string B]) ∧ Below w.heap.size w w' := by
  have H1 := Lib.hid h1
  have H2 := Lib.hid h2
  have HA := Lib.hid hA
  have HB := Lib.hid hB
  clear h1 h2 hA hB
  go_enter Try.func32, Try.ntmps32
  go_wp2
  go_loop [4] (fun i => ∃ j : Nat, j ≤ k ∧ i = .int .i64 j) (fun i => s.size - (intOf i).toNat)
  case atStart => exact ⟨0, Nat.zero_le _, rfl⟩
  case round =>
    obtain ⟨j, hj, rfl⟩ := hrel
    by_cases hlt : j < k
    · have hjs : j < s.size := by omega
      obtain ⟨d1, d2⟩ := dig_iff.1 (H1.out j hlt hjs)
      go_wp2
      go_round
      case rel => exact ⟨j + 1, by omega, by go_num⟩
      case measure => simp [intOf]; omega
    · obtain rfl : j = k := by omega
      by_cases he : j < s.size
      · have hd := H2.out he
        by_cases h48 : 48 ≤ (s[j].toNat : Int)
        · have h57 : ¬ (s[j].toNat : Int) ≤ 57 := fun q => by rw [dig_iff.2 ⟨h48, q⟩] at hd; cases hd
          clear hd
          go_wp2_with fail
          go_quiet (fail)
          go_wp2
          go_ret2
          exact ⟨by rw [← HA.out, ← HB.out]; rfl, below_drewN (Below.refl _ _) _⟩
        · clear hd
          go_wp2_with fail
          go_quiet (fail)
          go_wp2
          go_ret2
          exact ⟨by rw [← HA.out, ← HB.out]; rfl, below_drewN (Below.refl _ _) _⟩
      · obtain rfl : j = s.size := by omega
        have EA := Lib.hid (show A = s by rw [← HA.out]; simp)
        have EB := Lib.hid (show B = ByteArray.empty by rw [← HB.out]; simp)
        go_wp2_with fail
        go_quiet (fail)
        go_wp2
        go_ret2
        exact ⟨by rw [EA.out, EB.out]; rfl, below_drewN (Below.refl _ _) _⟩
theorem lead_a (w : World) : Calls Try.prog 32 #[.string ⟨#[48, 46, 50, 53]⟩] w fun e w' => e = .returned (.tuple #[.string ⟨#[48]⟩, .string ⟨#[46, 50, 53]⟩]) ∧ Below w.heap.size w w' :=
  leading_any _ 1 _ _ w (by decide) (by decide) (by decide +kernel) (by decide +kernel) (fun j h hj => by match j, h with | 0, _ => exact (by decide : dig 48 = true)) (fun _ => (by decide : dig 46 = false))
theorem lead_b (w : World) : Calls Try.prog 32 #[.string ⟨#[50, 53]⟩] w fun e w' => e = .returned (.tuple #[.string ⟨#[50, 53]⟩, .string ⟨#[]⟩]) ∧ Below w.heap.size w w' :=
  leading_any _ 2 _ _ w (by decide) (by decide) (by decide +kernel) (by decide +kernel) (fun j h hj => by match j, h with | 0, _ => exact (by decide : dig 50 = true) | 1, _ => exact (by decide : dig 53 = true)) (fun h => absurd h (by decide))
theorem lead_c (w : World) : Calls Try.prog 32 #[.string ⟨#[48]⟩] w fun e w' => e = .returned (.tuple #[.string ⟨#[48]⟩, .string ⟨#[]⟩]) ∧ Below w.heap.size w w' :=
  leading_any _ 1 _ _ w (by decide) (by decide) (by decide +kernel) (by decide +kernel) (fun j h hj => by match j, h with | 0, _ => exact (by decide : dig 48 = true)) (fun h => absurd h (by decide))
end Go.Proofs.Ytlndomnampcnfaa
