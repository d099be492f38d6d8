/- masked, Fold, Base of package sheet. Written by wip/mk_shm.py. -/
import Derived.Test.YtenhnnfemehbcaaShL
namespace Go.Proofs.Ytenhnnfemehbcaa
open Go.RowKit Go.Sort
set_option linter.unusedVariables false
set_option linter.unusedSimpArgs false

/-- a field of a key, kept where its bit is in the mask. -/
def mb (mask : Int) (i : Nat) (a : ByteArray) : ByteArray := if mask / 2 ^ i % 2 = 0 then ⟨#[]⟩ else a
def kyAt (a : Ky) (i : Nat) : ByteArray := (kyL a)[i]!
theorem below_fill5 {w0 w : World} {B N : Nat} (h : Below N w0 w) (hB : N ≤ B) (v0 v1 v2 v3 v4 : Value) : Below N w0 (((((w.setCell ⟨B, 0, none⟩ v0).setCell ⟨B, 1, none⟩ v1).setCell ⟨B, 2, none⟩ v2).setCell ⟨B, 3, none⟩ v3).setCell ⟨B, 4, none⟩ v4) :=
  ((((h.setCell (p := ⟨B, 0, none⟩) hB v0).setCell (p := ⟨B, 1, none⟩) hB v1).setCell (p := ⟨B, 2, none⟩) hB v2).setCell (p := ⟨B, 3, none⟩) hB v3).setCell (p := ⟨B, 4, none⟩) hB v4
theorem and_bits : ∀ n : Fin 32, ∀ k : Fin 5, bits BinOp.and IntKind.i64 ((n.val : Int) / 2 ^ k.val) 1 = (n.val : Int) / 2 ^ k.val % 2 := by decide
theorem and_bit {mask : Int} (h0 : 0 ≤ mask) (h1 : mask ≤ 31) {k : Nat} (hk : k < 5) : bits BinOp.and IntKind.i64 (mask / 2 ^ k) 1 = mask / 2 ^ k % 2 := by
  have e := and_bits ⟨mask.toNat, by omega⟩ ⟨k, hk⟩
  have e2 : ((mask.toNat : Nat) : Int) = mask := by omega
  dsimp only at e
  rw [e2] at e
  exact e
theorem mask_cases {mask : Int} (h0 : 0 ≤ mask) (h1 : mask ≤ 31) : ∃ n : Nat, n < 32 ∧ mask = (n : Int) := ⟨mask.toNat, by omega, by omega⟩
set_option maxRecDepth 100000 in
set_option maxHeartbeats 1000000 in
theorem masked5_any (a1 a2 a3 a4 a5 : ByteArray) (mask : Int) (w : World) (m0 : 0 ≤ mask) (m1 : mask ≤ 31) :
    Calls Try.prog 52 #[.agg #[.string a1, .string a2, .string a3, .string a4, .string a5], .int .i64 mask] w fun e w' => e = .returned (.agg #[.string (mb mask 0 a1), .string (mb mask 1 a2), .string (mb mask 2 a3), .string (mb mask 3 a4), .string (mb mask 4 a5)]) ∧ Below w.heap.size w w' := by
  have hq1 := Q5.alloc w (.string a1) (.string a2) (.string a3) (.string a4) (.string a5) 23
  have hq2 := Q5.alloc (w.alloc (Obj.cells #[.string a1, .string a2, .string a3, .string a4, .string a5] 23)) (.string ⟨#[]⟩) (.string ⟨#[]⟩) (.string ⟨#[]⟩) (.string ⟨#[]⟩) (.string ⟨#[]⟩) 23
  rw [World.size_alloc] at hq2
  have ha : Below (w.alloc (Obj.cells #[.string a1, .string a2, .string a3, .string a4, .string a5] 23)).heap.size (w.alloc (Obj.cells #[.string a1, .string a2, .string a3, .string a4, .string a5] 23)) ((w.alloc (Obj.cells #[.string a1, .string a2, .string a3, .string a4, .string a5] 23)).alloc (Obj.cells #[.string ⟨#[]⟩, .string ⟨#[]⟩, .string ⟨#[]⟩, .string ⟨#[]⟩, .string ⟨#[]⟩] 23)) := (Below.refl _ _).alloc (Nat.le_refl _) _
  have hq1' := hq1.below ha
  have HC := Lib.hid hq2
  have HB := Lib.hid (((Below.refl w.heap.size w).alloc (Nat.le_refl _) (Obj.cells #[.string a1, .string a2, .string a3, .string a4, .string a5] 23)).trans (ha.mono (by simp)))
  have x0 := hq1'.c0
  have x1 := hq1'.c1
  have x2 := hq1'.c2
  have x3 := hq1'.c3
  have x4 := hq1'.c4
  have HF := Lib.hid (fun W => fields_any a1 a2 a3 a4 a5 W)
  clear hq1 hq2 ha hq1'
  go_enter Try.func52, Try.ntmps52
  go_wp2_with fail
  refine (HF.out _).mono ?_
  rintro e w1 ⟨rfl, hg⟩
  have hb := hg.b
  have ha : Below w1.heap.size w1 (w1.alloc (Obj.cells #[.string a1, .string a2, .string a3, .string a4, .string a5] 53)) := (Below.refl _ _).alloc (Nat.le_refl _) _
  have hsz : w.heap.size + 2 ≤ w1.heap.size := by have := hb.size; simp at this; omega
  have HC1 := Lib.hid ((HC.out.below hb).below ha)
  have HB1 := Lib.hid ((HB.out.trans (hb.mono HB.out.size)).trans (ha.mono (by omega)))
  have HQ1 := Lib.hid (Q5.alloc w1 (.string a1) (.string a2) (.string a3) (.string a4) (.string a5) 53)
  have HP1 := Lib.hid (show PaV (w1.alloc (Obj.cells #[.string a1, .string a2, .string a3, .string a4, .string a5] 53)) w1.heap.size 5 (fun t => .string (if t < 0 then mb mask t (kyAt (a1, a2, a3, a4, a5) t) else kyAt (a1, a2, a3, a4, a5) t)) from by
    have hQ := HQ1.out
    refine ⟨hQ.lt, fun t ht => ?_⟩
    rcases (show t = 0 ∨ t = 1 ∨ t = 2 ∨ t = 3 ∨ t = 4 by omega) with e | e | e | e | e <;> subst e
    · exact ⟨hQ.c0, hQ.f0⟩
    · exact ⟨hQ.c1, hQ.f1⟩
    · exact ⟨hQ.c2, hQ.f2⟩
    · exact ⟨hQ.c3, hQ.f3⟩
    · exact ⟨hQ.c4, hQ.f4⟩)
  have hs1 : w1.heap.size < (w1.alloc (Obj.cells #[.string a1, .string a2, .string a3, .string a4, .string a5] 53)).heap.size := by simp
  clear hg hb ha x0 x1 x2 x3 x4 HC HB HF HQ1
  go_wp2
  go_loopw [9] (fun x wr => ∃ k : Nat, k ≤ 5 ∧ x = .int .i64 k ∧ Hid (PaV wr w1.heap.size 5 (fun t => .string (if t < k then mb mask t (kyAt (a1, a2, a3, a4, a5) t) else kyAt (a1, a2, a3, a4, a5) t))) ∧ Hid (Q5 wr (w.heap.size + 1) (.string ⟨#[]⟩) (.string ⟨#[]⟩) (.string ⟨#[]⟩) (.string ⟨#[]⟩) (.string ⟨#[]⟩)) ∧ Hid (Below w.heap.size w wr)) (fun x _ => 5 - (intOf x).toNat)
  case atStart => exact ⟨0, by omega, rfl, HP1, HC1, HB1⟩
  case round =>
    clear HP1 HC1 HB1 hs1
    obtain ⟨k, hk, rfl, HP, HC, HB⟩ := hrel
    by_cases h : k < 5
    · have h' : (k : Int) < 5 := by omega
      have h'' : (0 : Int) ≤ (k : Int) := by omega
      have p0 := (HP.out.2 k h).1
      have p1 := (HP.out.2 k h).2
      have hbit := and_bit m0 m1 h
      rcases Int.emod_two_eq (mask / 2 ^ k) with hz | hz
      · rw [hz] at hbit
        have HP3 := Lib.hid (show PaV (wr.setCell ⟨w1.heap.size, k, none⟩ (.string ⟨#[]⟩)) w1.heap.size 5 (fun t => .string (if t < k + 1 then mb mask t (kyAt (a1, a2, a3, a4, a5) t) else kyAt (a1, a2, a3, a4, a5) t)) by
          have q := HP.out.set (g := fun t => .string (if t < k + 1 then mb mask t (kyAt (a1, a2, a3, a4, a5) t) else kyAt (a1, a2, a3, a4, a5) t)) k h (fun t ht e => by by_cases z : t < k; simp [z, show t < k + 1 by omega]; simp [z, show ¬ t < k + 1 by omega])
          rw [if_pos (Nat.lt_succ_self k), show mb mask k (kyAt (a1, a2, a3, a4, a5) k) = ⟨#[]⟩ from if_pos hz] at q
          exact q)
        have HC3 := Lib.hid (HC.out.far (B' := w1.heap.size) (j := k) (by omega) (.string ⟨#[]⟩))
        have HB3 := Lib.hid (HB.out.setCell (p := ⟨w1.heap.size, k, none⟩) (by show w.heap.size ≤ w1.heap.size; omega) (.string ⟨#[]⟩))
        clear hz HP HC HB
        go_wp2
        go_roundw
        case rel => exact ⟨k + 1, by omega, by go_num, HP3, HC3, HB3⟩
        case measure => simp [intOf]; omega
      · rw [hz] at hbit
        have HP3 := Lib.hid (HP.out.congr (g := fun t => .string (if t < k + 1 then mb mask t (kyAt (a1, a2, a3, a4, a5) t) else kyAt (a1, a2, a3, a4, a5) t)) (fun t _ => by
          by_cases z : t < k
          · simp [z, show t < k + 1 by omega]
          · by_cases z2 : t = k
            · subst z2
              rw [if_neg z, if_pos (Nat.lt_succ_self _), show mb mask t (kyAt (a1, a2, a3, a4, a5) t) = kyAt (a1, a2, a3, a4, a5) t from if_neg (by omega)]
            · simp [z, show ¬ t < k + 1 by omega]))
        clear hz HP
        go_wp2
        go_roundw
        case rel => exact ⟨k + 1, by omega, by go_num, HP3, HC, HB⟩
        case measure => simp [intOf]; omega
    · obtain rfl : k = 5 := by omega
      have p0 := (HP.out.2 0 (by omega)).1
      have p1 := (HP.out.2 1 (by omega)).1
      have p2 := (HP.out.2 2 (by omega)).1
      have p3 := (HP.out.2 3 (by omega)).1
      have p4 := (HP.out.2 4 (by omega)).1
      simp only [show (0 : Nat) < 5 from by decide, show (1 : Nat) < 5 from by decide, show (2 : Nat) < 5 from by decide, show (3 : Nat) < 5 from by decide, show (4 : Nat) < 5 from by decide, if_true] at p0 p1 p2 p3 p4
      change wr.cell? _ = some (.string (mb mask 0 a1)) at p0
      change wr.cell? _ = some (.string (mb mask 1 a2)) at p1
      change wr.cell? _ = some (.string (mb mask 2 a3)) at p2
      change wr.cell? _ = some (.string (mb mask 3 a4)) at p3
      change wr.cell? _ = some (.string (mb mask 4 a5)) at p4
      obtain ⟨d1, hd1⟩ : ∃ d, mb mask 0 a1 = d := ⟨_, rfl⟩
      rw [hd1] at p0
      have HD1 := Lib.hid hd1
      clear hd1
      obtain ⟨d2, hd2⟩ : ∃ d, mb mask 1 a2 = d := ⟨_, rfl⟩
      rw [hd2] at p1
      have HD2 := Lib.hid hd2
      clear hd2
      obtain ⟨d3, hd3⟩ : ∃ d, mb mask 2 a3 = d := ⟨_, rfl⟩
      rw [hd3] at p2
      have HD3 := Lib.hid hd3
      clear hd3
      obtain ⟨d4, hd4⟩ : ∃ d, mb mask 3 a4 = d := ⟨_, rfl⟩
      rw [hd4] at p3
      have HD4 := Lib.hid hd4
      clear hd4
      obtain ⟨d5, hd5⟩ : ∃ d, mb mask 4 a5 = d := ⟨_, rfl⟩
      rw [hd5] at p4
      have HD5 := Lib.hid hd5
      clear hd5
      have f0 := HC.out.f0
      have f1 := HC.out.f1
      have f2 := HC.out.f2
      have f3 := HC.out.f3
      have f4 := HC.out.f4
      have c0 := HC.out.c0
      have c1 := HC.out.c1
      have c2 := HC.out.c2
      have c3 := HC.out.c3
      have c4 := HC.out.c4
      have HQe := Lib.hid (HC.out.fill (.string d1) (.string d2) (.string d3) (.string d4) (.string d5))
      have HBe := Lib.hid (below_fill5 HB.out (show w.heap.size ≤ w.heap.size + 1 by omega) (.string d1) (.string d2) (.string d3) (.string d4) (.string d5))
      go_wp2
      (try simp only [Exit.inBlock, Exit.then])
      refine bodyPost_ret (v := .agg #[.string d1, .string d2, .string d3, .string d4, .string d5]) ?_ rfl ⟨by rw [HD1.out, HD2.out, HD3.out, HD4.out, HD5.out], HBe.out⟩
      clear f0 f1 f2 f3 f4 c0 c1 c2 c3 c4 p0 p1 p2 p3 p4
      have u0 := HQe.out.c0
      have u1 := HQe.out.c1
      have u2 := HQe.out.c2
      have u3 := HQe.out.c3
      have u4 := HQe.out.c4
      rw [results_cell_one rfl]
      go_simp
end Go.Proofs.Ytenhnnfemehbcaa
