/- total, Of of package sheet. Written by wip/mk_shj.py. -/
import Derived.Test.YtenhnnfemehbcaaShI
import Derived.Laws.ResultCell
namespace Go.Proofs.Ytenhnnfemehbcaa
open Go.RowKit Go.Sort
set_option linter.unusedVariables false
set_option linter.unusedSimpArgs false

theorem Q7.fill {w : World} {B : Nat} {a b c d p q r : Value} (h : Q7 w B a b c d p q r) (v0 v1 v2 v3 v4 v5 v6 : Value) : Q7 (((((((w.setCell ⟨B, 0, none⟩ v0).setCell ⟨B, 1, none⟩ v1).setCell ⟨B, 2, none⟩ v2).setCell ⟨B, 3, none⟩ v3).setCell ⟨B, 4, none⟩ v4).setCell ⟨B, 5, none⟩ v5).setCell ⟨B, 6, none⟩ v6) B v0 v1 v2 v3 v4 v5 v6 := ((((((h.set0 v0).set1 v1).set2 v2).set3 v3).set4 v4).set5 v5).set6 v6
theorem below_fill {w0 w : World} {B N : Nat} (h : Below N w0 w) (hB : N ≤ B) (v0 v1 v2 v3 v4 v5 v6 : Value) : Below N w0 (((((((w.setCell ⟨B, 0, none⟩ v0).setCell ⟨B, 1, none⟩ v1).setCell ⟨B, 2, none⟩ v2).setCell ⟨B, 3, none⟩ v3).setCell ⟨B, 4, none⟩ v4).setCell ⟨B, 5, none⟩ v5).setCell ⟨B, 6, none⟩ v6) :=
  ((((((h.setCell (p := ⟨B, 0, none⟩) hB v0).setCell (p := ⟨B, 1, none⟩) hB v1).setCell (p := ⟨B, 2, none⟩) hB v2).setCell (p := ⟨B, 3, none⟩) hB v3).setCell (p := ⟨B, 4, none⟩) hB v4).setCell (p := ⟨B, 5, none⟩) hB v5).setCell (p := ⟨B, 6, none⟩) hB v6
def zCl : Cl := ((⟨#[]⟩, ⟨#[]⟩, ⟨#[]⟩, ⟨#[]⟩, ⟨#[]⟩), 0, 0)
/-- what total returns: the cell of a group, and the error. -/
def toC (g : List Cl) : Cl := if badG g = true then zCl else celG g
def toE (g : List Cl) : Int := if badG g = true then 4 else 0
theorem to_bad {g : List Cl} (h : badG g = true) : toC g = zCl ∧ toE g = 4 := by unfold toC toE; rw [h]; exact ⟨rfl, rfl⟩
theorem to_ok {g : List Cl} (h : badG g = false) : toC g = celG g ∧ toE g = 0 := by unfold toC toE; rw [h]; exact ⟨rfl, rfl⟩
theorem badG_a {g : List Cl} (h : okSum (amS g) = false) : badG g = true := by unfold badG; rw [h]; rfl
theorem badG_b {g : List Cl} (h : okSum (baS g) = false) : badG g = true := by unfold badG; rw [h]; simp
theorem badG_ok {g : List Cl} (h : okSum (amS g) = true) (k : okSum (baS g) = true) : badG g = false := by unfold badG; rw [h, k]; rfl
theorem su_ok {x : Int} (h : okSum x = true) : suV x = x ∧ suE x = 0 := by unfold suV suE; rw [h]; exact ⟨rfl, rfl⟩
theorem su_bad {x : Int} (h : okSum x = false) : suV x = 0 ∧ suE x = 4 := by unfold suV suE; rw [h]; exact ⟨rfl, rfl⟩
set_option maxRecDepth 100000 in
set_option maxHeartbeats 1000000 in
theorem total_any (A : Option Addr) (c : Nat) (L : List Cl) (w : World) (hR : RowS w A L) (hBd : BdS L) (hl : L.length ≤ 2000) (h0 : 0 < L.length) :
    Calls Try.prog 43 #[.slice A L.length c] w fun e w' => e = .returned (.tuple #[.agg (clC (toC L)).toArray, .int .i64 (toE L)]) ∧ Below w.heap.size w w' := by
  have ha : Below w.heap.size w (w.alloc (Obj.cells #[.string ⟨#[]⟩, .string ⟨#[]⟩, .string ⟨#[]⟩, .string ⟨#[]⟩, .string ⟨#[]⟩, .int .i64 0, .int .i64 0] 37)) := (Below.refl _ _).alloc (Nat.le_refl _) _
  have HQ0 := Lib.hid (Q7.alloc w (.string ⟨#[]⟩) (.string ⟨#[]⟩) (.string ⟨#[]⟩) (.string ⟨#[]⟩) (.string ⟨#[]⟩) (.int .i64 0) (.int .i64 0) 37)
  have HR0 := Lib.hid (hR.below ha)
  have HB0 := Lib.hid ha
  have HS1 := Lib.hid (sum_amountOf A c L (w.alloc (Obj.cells #[.string ⟨#[]⟩, .string ⟨#[]⟩, .string ⟨#[]⟩, .string ⟨#[]⟩, .string ⟨#[]⟩, .int .i64 0, .int .i64 0] 37)) HR0.out hBd hl)
  have HS2 := Lib.hid (fun W hW => sum_baseOf A c L W hW hBd hl)
  have hhd : ∃ k1 k2 k3 k4 k5, hdK L = (k1, k2, k3, k4, k5) ∧ (L[0]'h0).1 = (k1, k2, k3, k4, k5) := by
    cases L with
    | nil => simp at h0
    | cons x r => exact ⟨_, _, _, _, _, rfl, rfl⟩
  obtain ⟨k1, k2, k3, k4, k5, hk1, hk2⟩ := hhd
  have HK1 := Lib.hid hk1
  have HK2 := Lib.hid hk2
  have HBA := Lib.hid (@badG_a L)
  have HBB := Lib.hid (@badG_b L)
  have HBO := Lib.hid (@badG_ok L)
  have HCG : Hid (celG L = (hdK L, amS L, baS L)) := Lib.hid rfl
  have HTB := Lib.hid (@to_bad L)
  have HTO := Lib.hid (@to_ok L)
  clear hR ha hk1 hk2 hBd
  obtain ⟨sa, hsa⟩ : ∃ sa, amS L = sa := ⟨_, rfl⟩
  obtain ⟨sb, hsb⟩ : ∃ sb, baS L = sb := ⟨_, rfl⟩
  rw [hsa] at HS1 HBA HBO HCG
  rw [hsb] at HS2 HBB HBO HCG
  clear hsa hsb
  cases oka : okSum sa
  · rw [(su_bad oka).1, (su_bad oka).2] at HS1
    obtain ⟨t1, t2⟩ := HTB.out (HBA.out oka)
    rw [t1, t2]
    clear oka t1 t2
    go_enter Try.func43, Try.ntmps43
    go_wp2_with fail
    refine (HS1.out).mono ?_
    rintro e w1 ⟨rfl, hb⟩
    have HQ1 := Lib.hid (HQ0.out.below hb)
    have HB1 := Lib.hid (HB0.out.trans (hb.mono HB0.out.size))
    have HR1 := Lib.hid (HR0.out.below hb)
    clear hb
    have f0 := HQ1.out.f0
    have c0 := HQ1.out.c0
    have f1 := HQ1.out.f1
    have c1 := HQ1.out.c1
    have f2 := HQ1.out.f2
    have c2 := HQ1.out.c2
    have f3 := HQ1.out.f3
    have c3 := HQ1.out.c3
    have f4 := HQ1.out.f4
    have c4 := HQ1.out.c4
    have f5 := HQ1.out.f5
    have c5 := HQ1.out.c5
    have f6 := HQ1.out.f6
    have c6 := HQ1.out.c6
    have HQe := Lib.hid (HQ1.out.fill (.string ⟨#[]⟩) (.string ⟨#[]⟩) (.string ⟨#[]⟩) (.string ⟨#[]⟩) (.string ⟨#[]⟩) (.int .i64 0) (.int .i64 0))
    have HBe := Lib.hid (below_fill HB1.out (Nat.le_refl _) (.string ⟨#[]⟩) (.string ⟨#[]⟩) (.string ⟨#[]⟩) (.string ⟨#[]⟩) (.string ⟨#[]⟩) (.int .i64 0) (.int .i64 0) : Below w.heap.size w (((((((w1.setCell ⟨w.heap.size, 0, none⟩ (.string ⟨#[]⟩)).setCell ⟨w.heap.size, 1, none⟩ (.string ⟨#[]⟩)).setCell ⟨w.heap.size, 2, none⟩ (.string ⟨#[]⟩)).setCell ⟨w.heap.size, 3, none⟩ (.string ⟨#[]⟩)).setCell ⟨w.heap.size, 4, none⟩ (.string ⟨#[]⟩)).setCell ⟨w.heap.size, 5, none⟩ (.int .i64 0)).setCell ⟨w.heap.size, 6, none⟩ (.int .i64 0)))
    go_wp2
    (try simp only [Exit.inBlock, Exit.then])
    refine bodyPost_ret (v := .tuple #[.agg #[.string ⟨#[]⟩, .string ⟨#[]⟩, .string ⟨#[]⟩, .string ⟨#[]⟩, .string ⟨#[]⟩, .int .i64 0, .int .i64 0], .int .i64 4]) ?_ rfl ⟨rfl, HBe.out⟩
    clear f0 c0 f1 c1 f2 c2 f3 c3 f4 c4 f5 c5 f6 c6
    have u0 := HQe.out.c0
    have u1 := HQe.out.c1
    have u2 := HQe.out.c2
    have u3 := HQe.out.c3
    have u4 := HQe.out.c4
    have u5 := HQe.out.c5
    have u6 := HQe.out.c6
    rw [results_cell_tmp rfl]
    go_simp
  · rw [(su_ok oka).1, (su_ok oka).2] at HS1
    cases okb : okSum sb
    · rw [(su_bad okb).1, (su_bad okb).2] at HS2
      obtain ⟨t1, t2⟩ := HTB.out (HBB.out okb)
      rw [t1, t2]
      clear oka okb t1 t2
      go_enter Try.func43, Try.ntmps43
      go_wp2_with fail
      refine (HS1.out).mono ?_
      rintro e w1 ⟨rfl, hb⟩
      have HQ1 := Lib.hid (HQ0.out.below hb)
      have HB1 := Lib.hid (HB0.out.trans (hb.mono HB0.out.size))
      have HR1 := Lib.hid (HR0.out.below hb)
      clear hb
      go_wp2_with fail
      refine (HS2.out _ HR1.out).mono ?_
      rintro e w2 ⟨rfl, hb⟩
      have HQ2 := Lib.hid (HQ1.out.below hb)
      have HB2 := Lib.hid (HB1.out.trans (hb.mono HB1.out.size))
      have HR2 := Lib.hid (HR1.out.below hb)
      clear hb
      have f0 := HQ2.out.f0
      have c0 := HQ2.out.c0
      have f1 := HQ2.out.f1
      have c1 := HQ2.out.c1
      have f2 := HQ2.out.f2
      have c2 := HQ2.out.c2
      have f3 := HQ2.out.f3
      have c3 := HQ2.out.c3
      have f4 := HQ2.out.f4
      have c4 := HQ2.out.c4
      have f5 := HQ2.out.f5
      have c5 := HQ2.out.c5
      have f6 := HQ2.out.f6
      have c6 := HQ2.out.c6
      have HQe := Lib.hid (HQ2.out.fill (.string ⟨#[]⟩) (.string ⟨#[]⟩) (.string ⟨#[]⟩) (.string ⟨#[]⟩) (.string ⟨#[]⟩) (.int .i64 0) (.int .i64 0))
      have HBe := Lib.hid (below_fill HB2.out (Nat.le_refl _) (.string ⟨#[]⟩) (.string ⟨#[]⟩) (.string ⟨#[]⟩) (.string ⟨#[]⟩) (.string ⟨#[]⟩) (.int .i64 0) (.int .i64 0) : Below w.heap.size w (((((((w2.setCell ⟨w.heap.size, 0, none⟩ (.string ⟨#[]⟩)).setCell ⟨w.heap.size, 1, none⟩ (.string ⟨#[]⟩)).setCell ⟨w.heap.size, 2, none⟩ (.string ⟨#[]⟩)).setCell ⟨w.heap.size, 3, none⟩ (.string ⟨#[]⟩)).setCell ⟨w.heap.size, 4, none⟩ (.string ⟨#[]⟩)).setCell ⟨w.heap.size, 5, none⟩ (.int .i64 0)).setCell ⟨w.heap.size, 6, none⟩ (.int .i64 0)))
      go_wp2
      (try simp only [Exit.inBlock, Exit.then])
      refine bodyPost_ret (v := .tuple #[.agg #[.string ⟨#[]⟩, .string ⟨#[]⟩, .string ⟨#[]⟩, .string ⟨#[]⟩, .string ⟨#[]⟩, .int .i64 0, .int .i64 0], .int .i64 4]) ?_ rfl ⟨rfl, HBe.out⟩
      clear f0 c0 f1 c1 f2 c2 f3 c3 f4 c4 f5 c5 f6 c6
      have u0 := HQe.out.c0
      have u1 := HQe.out.c1
      have u2 := HQe.out.c2
      have u3 := HQe.out.c3
      have u4 := HQe.out.c4
      have u5 := HQe.out.c5
      have u6 := HQe.out.c6
      rw [results_cell_tmp rfl]
      go_simp
    · rw [(su_ok okb).1, (su_ok okb).2] at HS2
      obtain ⟨t1, t2⟩ := HTO.out (HBO.out oka okb)
      have e3 : clC (toC L) = [.string k1, .string k2, .string k3, .string k4, .string k5, .int .i64 sa, .int .i64 sb] := by rw [t1, HCG.out, HK1.out]; rfl
      rw [e3, t2]
      clear oka okb t1 t2 e3
      go_enter Try.func43, Try.ntmps43
      go_wp2_with fail
      refine (HS1.out).mono ?_
      rintro e w1 ⟨rfl, hb⟩
      have HQ1 := Lib.hid (HQ0.out.below hb)
      have HB1 := Lib.hid (HB0.out.trans (hb.mono HB0.out.size))
      have HR1 := Lib.hid (HR0.out.below hb)
      clear hb
      go_wp2_with fail
      refine (HS2.out _ HR1.out).mono ?_
      rintro e w2 ⟨rfl, hb⟩
      have HQ2 := Lib.hid (HQ1.out.below hb)
      have HB2 := Lib.hid (HB1.out.trans (hb.mono HB1.out.size))
      have HR2 := Lib.hid (HR1.out.below hb)
      clear hb
      obtain ⟨b, off, rfl, hbl, z0, z1, z2, z3, z4, _⟩ := HR2.out.at h0
      rw [HK2.out] at z0 z1 z2 z3 z4
      simp only [Nat.zero_mul, Nat.add_zero] at z0 z1 z2 z3 z4
      have zl : (0 : Int) < (L.length : Int) := by omega
      have f0 := HQ2.out.f0
      have c0 := HQ2.out.c0
      have f1 := HQ2.out.f1
      have c1 := HQ2.out.c1
      have f2 := HQ2.out.f2
      have c2 := HQ2.out.c2
      have f3 := HQ2.out.f3
      have c3 := HQ2.out.c3
      have f4 := HQ2.out.f4
      have c4 := HQ2.out.c4
      have f5 := HQ2.out.f5
      have c5 := HQ2.out.c5
      have f6 := HQ2.out.f6
      have c6 := HQ2.out.c6
      have HQe := Lib.hid (HQ2.out.fill (.string k1) (.string k2) (.string k3) (.string k4) (.string k5) (.int .i64 sa) (.int .i64 sb))
      have HBe := Lib.hid (below_fill HB2.out (Nat.le_refl _) (.string k1) (.string k2) (.string k3) (.string k4) (.string k5) (.int .i64 sa) (.int .i64 sb) : Below w.heap.size w (((((((w2.setCell ⟨w.heap.size, 0, none⟩ (.string k1)).setCell ⟨w.heap.size, 1, none⟩ (.string k2)).setCell ⟨w.heap.size, 2, none⟩ (.string k3)).setCell ⟨w.heap.size, 3, none⟩ (.string k4)).setCell ⟨w.heap.size, 4, none⟩ (.string k5)).setCell ⟨w.heap.size, 5, none⟩ (.int .i64 sa)).setCell ⟨w.heap.size, 6, none⟩ (.int .i64 sb)))
      go_wp2
      (try simp only [Exit.inBlock, Exit.then])
      refine bodyPost_ret (v := .tuple #[.agg #[.string k1, .string k2, .string k3, .string k4, .string k5, .int .i64 sa, .int .i64 sb], .int .i64 0]) ?_ rfl ⟨rfl, HBe.out⟩
      clear f0 c0 f1 c1 f2 c2 f3 c3 f4 c4 f5 c5 f6 c6
      have u0 := HQe.out.c0
      have u1 := HQe.out.c1
      have u2 := HQe.out.c2
      have u3 := HQe.out.c3
      have u4 := HQe.out.c4
      have u5 := HQe.out.c5
      have u6 := HQe.out.c6
      rw [results_cell_tmp rfl]
      go_simp
end Go.Proofs.Ytenhnnfemehbcaa
