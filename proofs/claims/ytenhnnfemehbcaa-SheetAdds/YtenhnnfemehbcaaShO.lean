/- cell, the reference's Same. Written by wip/mk_sho.py. -/
import Derived.Test.YtenhnnfemehbcaaShN
namespace Go.Proofs.Ytenhnnfemehbcaa
open Go.RowKit Go.Sort
set_option linter.unusedVariables false
set_option linter.unusedSimpArgs false

/-- the laws' cell. -/
def ceL (ac : ByteArray) (n : Int) : Cl := ((⟨#[97]⟩, ac, ⟨#[69, 85, 82]⟩, ⟨#[]⟩, ⟨#[]⟩), n, n)
set_option maxHeartbeats 1000000 in
theorem cell_any (ac : ByteArray) (n : Int) (w : World) : Calls Try.prog 40 #[.string ac, .int .i64 n] w fun e w' => e = .returned (.agg #[.string ⟨#[97]⟩, .string ac, .string ⟨#[69, 85, 82]⟩, .string ⟨#[]⟩, .string ⟨#[]⟩, .int .i64 n, .int .i64 n]) ∧ Gb w w' := by
  have HQ := Lib.hid (Q7.alloc w (.string ⟨#[97]⟩) (.string ac) (.string ⟨#[69, 85, 82]⟩) (.string ⟨#[]⟩) (.string ⟨#[]⟩) (.int .i64 n) (.int .i64 n) 37)
  have HG := Lib.hid (Gb.alloc w (Obj.cells #[.string ⟨#[97]⟩, .string ac, .string ⟨#[69, 85, 82]⟩, .string ⟨#[]⟩, .string ⟨#[]⟩, .int .i64 n, .int .i64 n] 37))
  go_enter Try.func40, Try.ntmps40
  go_wp2
  (try simp only [Exit.inBlock, Exit.then])
  refine bodyPost_ret (v := .agg #[.string ⟨#[97]⟩, .string ac, .string ⟨#[69, 85, 82]⟩, .string ⟨#[]⟩, .string ⟨#[]⟩, .int .i64 n, .int .i64 n]) ?_ rfl ⟨rfl, HG.out⟩
  have u0 := HQ.out.c0
  have u1 := HQ.out.c1
  have u2 := HQ.out.c2
  have u3 := HQ.out.c3
  have u4 := HQ.out.c4
  have u5 := HQ.out.c5
  have u6 := HQ.out.c6
  rw [results_cell_one rfl]
  go_simp
instance : DecidableEq Cl := inferInstanceAs (DecidableEq (Ky × Int × Int))
def smB (L M : List Cl) : Bool := decide (L = M)
theorem sm_len {L M : List Cl} (h : L.length ≠ M.length) : smB L M = false := decide_eq_false (fun e => h (by rw [e]))
theorem sm_at {L M : List Cl} {k : Nat} (h1 : k < L.length) (h2 : k < M.length) (h : L[k] ≠ M[k]) : smB L M = false := decide_eq_false (fun e => h (by subst e; rfl))
theorem sm_all {L M : List Cl} (hl : L.length = M.length) (h : ∀ k, ∀ h1 : k < L.length, ∀ h2 : k < M.length, L[k] = M[k]) : smB L M = true := decide_eq_true (List.ext_getElem hl fun k h1 h2 => h k h1 h2)
theorem ne_cells (a1 a2 a3 a4 a5 b1 b2 b3 b4 b5 : ByteArray) (m n r s : Int) (w : World) :
    (binOp .neq 37 (.agg #[.string a1, .string a2, .string a3, .string a4, .string a5, .int .i64 m, .int .i64 n]) (.agg #[.string b1, .string b2, .string b3, .string b4, .string b5, .int .i64 r, .int .i64 s])).run Try.prog w = .ok (.bool (!decide ((((a1, a2, a3, a4, a5), m, n) : Cl) = ((b1, b2, b3, b4, b5), r, s)))) w := by
  go_simp
  have e : ∀ a b : ByteArray, (a.toList = b.toList) = (a = b) := fun a b => propext ⟨fun h => ba_ext h, fun h => by rw [h]⟩
  simp only [e]
  repeat' split
  all_goals simp_all
set_option maxRecDepth 100000 in
set_option maxHeartbeats 1000000 in
theorem rSame_any (A B : Option Addr) (c c' : Nat) (L M : List Cl) (w : World) (hA : RowS w A L) (hB : RowS w B M) (hl : L.length ≤ 10000) (hm : M.length ≤ 10000) :
    Calls Try.prog 20 #[.slice A L.length c, .slice B M.length c'] w fun e w' => e = .returned (.bool (smB L M)) ∧ Below w.heap.size w w' := by
  have HA := Lib.hid hA
  have HB := Lib.hid hB
  have HLn := Lib.hid (show L.length ≠ M.length → smB L M = false from sm_len)
  have HAt := Lib.hid (show ∀ (k : Nat) (h1 : k < L.length) (h2 : k < M.length), L[k] ≠ M[k] → smB L M = false from fun k h1 h2 h => sm_at h1 h2 h)
  have HAl := Lib.hid (show L.length = M.length → (∀ k, ∀ h1 : k < L.length, ∀ h2 : k < M.length, L[k] = M[k]) → smB L M = true from sm_all)
  obtain ⟨V, hV⟩ : ∃ V, smB L M = V := ⟨_, rfl⟩
  rw [hV] at HLn HAt HAl ⊢
  clear hA hB hV
  by_cases hlen : L.length = M.length
  · have HE := Lib.hid hlen
    rw [← hlen]
    have hl2 : ∀ k, k < L.length → k < M.length := fun k h => by rw [← hlen]; exact h
    clear hlen hm
    go_enter Try.func20, Try.ntmps20
    go_wp2
    go_loopw [5] (fun x wr => ∃ k : Nat, k ≤ L.length ∧ x = .int .i64 k ∧ Hid (∀ j, j < k → ∀ h1 : j < L.length, ∀ h2 : j < M.length, L[j] = M[j]) ∧ Hid (Below w.heap.size w wr)) (fun x _ => L.length - (intOf x).toNat)
    case atStart => exact ⟨0, Nat.zero_le _, rfl, Lib.hid (fun j h => absurd h (by omega)), Lib.hid (Below.refl _ _)⟩
    case round =>
      obtain ⟨k, hk, rfl, HK, HBr⟩ := hrel
      by_cases h : k < L.length
      · have h' : (k : Int) < (L.length : Int) := by omega
        have h'' : (0 : Int) ≤ (k : Int) := by omega
        have h2 := hl2 k h
        obtain ⟨b, off, rfl, hbl, c0, c1, c2, c3, c4, c5, c6⟩ := (HA.out.below HBr.out).at h
        obtain ⟨b', off', rfl, hbl', d0, d1, d2, d3, d4, d5, d6⟩ := (HB.out.below HBr.out).at h2
        have HNe := Lib.hid (fun z => HAt.out k h h2 z)
        obtain ⟨x, hx⟩ : ∃ x, L[k] = x := ⟨_, rfl⟩
        obtain ⟨y, hy⟩ : ∃ y, M[k] = y := ⟨_, rfl⟩
        rw [hx] at c0 c1 c2 c3 c4 c5 c6 HNe
        rw [hy] at d0 d1 d2 d3 d4 d5 d6 HNe
        have HX := Lib.hid hx
        have HY := Lib.hid hy
        clear hx hy
        obtain ⟨⟨a1, a2, a3, a4, a5⟩, m, n⟩ := x
        obtain ⟨⟨b1, b2, b3, b4, b5⟩, r, s⟩ := y
        dsimp only at c0 c1 c2 c3 c4 c5 c6 d0 d1 d2 d3 d4 d5 d6
        by_cases heq : (((a1, a2, a3, a4, a5), m, n) : Cl) = ((b1, b2, b3, b4, b5), r, s)
        · have HKe := Lib.hid (show ∀ j, j < k + 1 → ∀ h1 : j < L.length, ∀ h2 : j < M.length, L[j] = M[j] from fun j hj h1 h2 => by
            rcases Nat.lt_or_ge j k with u | u
            · exact HK.out j u h1 h2
            · have e : j = k := by omega
              subst e
              rw [HX.out, HY.out, heq])
          have qne : ∀ w, (binOp .neq 37 (.agg #[.string a1, .string a2, .string a3, .string a4, .string a5, .int .i64 m, .int .i64 n]) (.agg #[.string b1, .string b2, .string b3, .string b4, .string b5, .int .i64 r, .int .i64 s])).run Try.prog w = .ok (.bool false) w := fun w => by rw [ne_cells, decide_eq_true heq]; rfl
          clear heq HNe
          go_wp2_with fail
          go_quiet (fail)
          have HB2 := Lib.hid (below_drewN HBr.out nq)
          go_wp2
          go_roundw
          case rel => exact ⟨k + 1, by omega, by go_num, HKe, HB2⟩
          case measure => simp [intOf]; omega
        · have HV := Lib.hid (HNe.out heq)
          have qne : ∀ w, (binOp .neq 37 (.agg #[.string a1, .string a2, .string a3, .string a4, .string a5, .int .i64 m, .int .i64 n]) (.agg #[.string b1, .string b2, .string b3, .string b4, .string b5, .int .i64 r, .int .i64 s])).run Try.prog w = .ok (.bool true) w := fun w => by rw [ne_cells, decide_eq_false heq]; rfl
          clear heq HNe
          go_wp2_with fail
          go_quiet (fail)
          have HB2 := Lib.hid (below_drewN HBr.out nq)
          go_wp2
          go_ret
          exact ⟨ret_boolS HV.out.symm, HB2.out⟩
      · have h' : ¬ (k : Int) < (L.length : Int) := by omega
        have HV := Lib.hid (HAl.out HE.out (fun j h1 h2 => HK.out j (by omega) h1 h2))
        go_wp2
        go_ret
        exact ⟨ret_boolS HV.out.symm, HBr.out⟩
  · have HV := Lib.hid (HLn.out hlen)
    have h1 : ((L.length : Int) != (M.length : Int)) = true := by simp; omega
    clear hlen
    go_enter Try.func20, Try.ntmps20
    go_wp2
    go_ret
    exact ⟨ret_boolS HV.out.symm, Below.refl _ _⟩
end Go.Proofs.Ytenhnnfemehbcaa
