/- The two lines of the examples, cut into words. WdG's chain stands in the namespace W here (gen.py's SUBNS). The deferred closure of Parse of package terms: behind a panic, and behind none. (*parser).terms of package terms at the words 'eom', '10'. frac.Parse at '0.03'. (*parser).terms at the words 'eom', '10'. Written by wip/mk_tmu.py. A drawn region some of whose operations write what others have loaded: loads are taken first, for those operations wait for them. No conditions. (*parser).terms at the words '0.03', '10', 'net', '30'. Written by wip/mk_tmv.py. Parse of package terms at two lines. Written by wip/mk_tmw.py. The examples of package terms: lives returns true. Written by wip/mk_tmx.py. A later payment has no larger discount, a later document is not due earlier: plain facts, and Due on two days in a row. -/
import Derived.Test.YtkpdbhpmnegahaaDoorGE
import Derived.Test.YtkpdbhpmnegahaaDoorGA
import Derived.Defers
import Derived.Recover
import Derived.Test.YtkpdbhpmnegahaaDoorGC
import Derived.OrdersHeld
import Derived.RegionTactic
namespace Go.Proofs.YtkpdbhpmnegahaaDoor
open Go.RowKit Go.Sort
set_option linter.unusedVariables false
set_option linter.unusedSimpArgs false

def lnA : ByteArray := ⟨#[101, 111, 109, 32, 49, 48]⟩
def lnB : ByteArray := ⟨#[48, 46, 48, 51, 32, 49, 48, 32, 110, 101, 116, 32, 51, 48]⟩
theorem cutA : W.cuR ⟨#[101, 111, 109, 32, 49, 48]⟩ = (0, [(1, [101, 111, 109], 0), (2, [49, 48], 4)], 6) := by decide +kernel
theorem cutB : W.cuR ⟨#[48, 46, 48, 51, 32, 49, 48, 32, 110, 101, 116, 32, 51, 48]⟩ = (0, [(2, [48, 46, 48, 51], 0), (2, [49, 48], 5), (1, [110, 101, 116], 8), (2, [51, 48], 12)], 14) := by decide +kernel
theorem flat3 : ∀ (L : List (Int × List UInt8 × Nat)) (i : Nat) (h : i < L.length), (L.flatMap W.wdC)[i * 3 + 1]? = some (.string (W.bs L[i].2.1))
  | [], i, h => by simp at h
  | x :: L, 0, _ => rfl
  | x :: L, i + 1, h => by
    rw [List.flatMap_cons, List.getElem?_append_right (by show 3 ≤ _; omega)]
    show (L.flatMap W.wdC)[(i + 1) * 3 + 1 - 3]? = _
    rw [show (i + 1) * 3 + 1 - 3 = i * 3 + 1 by omega, flat3 L i (by simpa using h)]
    rfl
/-- words that lie in a row: only their texts. -/
def TxtR (w : World) (g : Nat) (L : List ByteArray) : Prop := ∀ i, (h : i < L.length) → w.cell? ⟨g, i * 3 + 1, none⟩ = some (.string L[i])
theorem cut_words {s : ByteArray} {L : List (Int × List UInt8 × Nat)} {p : Nat} (h : W.cuR s = (0, L, p)) (h0 : L ≠ []) (hs : s.size ≤ 1000) (w : World) :
    Calls Tryd.prog 20 #[.string s] w fun e w' => ∃ g c, e = .returned (.tuple #[.slice (some ⟨g, 0, none⟩) L.length c, .int .i64 (p : Int), .int .i64 0]) ∧ L.length ≤ c ∧ c ≤ maxLen ∧ w.heap.size ≤ g ∧ g < w'.heap.size ∧ TxtR w' g (L.map (fun x => W.bs x.2.1)) ∧ Below w.heap.size w w' := by
  refine (W.cut_any s w hs).mono ?_
  rintro e w' ⟨v, rfl, ho, hb⟩
  rw [h] at ho ⊢
  rcases ho.2 with ⟨_, n⟩ | ⟨g, cap, cur, e, h1, h2, h3, h4, h5⟩
  · exact absurd (List.length_eq_zero_iff.1 n) h0
  · subst e
    refine ⟨g, cap, rfl, h3, h4, h1, lt_of_block h2, fun i hi => ?_, hb⟩
    have hi : i < L.length := by simpa using hi
    have q := ho.cells (g := g) rfl (i * 3 + 1) (.string (W.bs L[i].2.1)) (by
      unfold W.wdCs
      exact flat3 L i hi)
    rw [addr_is] at q
    simpa using q
end Go.Proofs.YtkpdbhpmnegahaaDoor
namespace Go.Proofs.YtkpdbhpmnegahaaDoor
open Go.RowKit Go.Sort
set_option linter.unusedVariables false
set_option linter.unusedSimpArgs false

theorem resC : Tryd.f19.results = #[] := by kernel_rfl
set_option maxHeartbeats 1000000 in
theorem catch_idle (p q : Addr) (w : World) :
    CallsD Tryd.prog 19 #[.pointer (some p), .pointer (some q)] .returning w fun e u' w' => e = .returned (.tuple #[]) ∧ u' = .returning ∧ w' = w := by
  refine callsD_of_wpS Tryd.func19 rfl fun c₀ cs hu => ?_
  apply wpS_seq
  apply wpS_region
  simp [wpOpsS, go_sem, recoverD, hu, Tryd.ntmps19, Exit.thenS]
  refine wpS_cond (t := false) (by simp [Act.eval, Array.replicate]) ?_
  simp only [Bool.false_eq_true, if_false]
  refine wpS_of_wp (wp_skip ?_)
  cases c₀
  simp_all [bodyPostS, results, resC]
set_option maxRecDepth 100000 in
set_option maxHeartbeats 1000000 in
theorem catch_panicking (B E : Nat) (a b c d : Value) (x : Value) (u : TypeId) (pv : Value) (older : List PanicEntry) (w : World) (hB : Q3 w B a b c) (hE : Q1 w E d) (hne : B ≠ E) :
    CallsD Tryd.prog 19 #[.pointer (some ⟨B, 0, none⟩), .pointer (some ⟨E, 0, none⟩)] (.panicking ({ v := .iface u pv, recovered := false } :: older)) w fun e u' w' =>
      e = .returned (.tuple #[]) ∧ u' = .panicking ({ v := .iface u pv, recovered := true } :: older) ∧ w' = (((w.setCell ⟨B, 0, none⟩ (.int .i64 0)).setCell ⟨B, 1, none⟩ (.bool false)).setCell ⟨B, 2, none⟩ (.slice none 0 0)).setCell ⟨E, 0, none⟩ (.int .i64 5) := by
  have q0 := hB.c0
  have q1 := (hB.set0 (.int .i64 0)).c1
  have q2 := ((hB.set0 (.int .i64 0)).set1 (.bool false)).c2
  have f0 := hB.f0
  have f1 := (hB.set0 (.int .i64 0)).f1
  have f2 := ((hB.set0 (.int .i64 0)).set1 (.bool false)).f2
  refine callsD_of_wpS Tryd.func19 rfl fun c₀ cs hu => ?_
  apply wpS_seq
  apply wpS_region
  simp [wpOpsS, go_sem, recoverD, hu, Tryd.ntmps19, Exit.thenS]
  refine wpS_cond (t := true) (by simp [Act.eval, Array.replicate]) ?_
  simp only [if_true]
  refine wpS_of_wp ?_
  have f3 : ((((w.setCell ⟨B, 0, none⟩ (.int .i64 0)).setCell ⟨B, 1, none⟩ (.bool false)).setCell ⟨B, 2, none⟩ (.slice none 0 0))).frozen? ⟨E, 0, none⟩ = false := by
    rw [World.frozen?_setCell, World.frozen?_setCell, World.frozen?_setCell]; exact hE.f0
  have q3 := (((hE.far hne.symm (.int .i64 0) (j := 0)).far hne.symm (.bool false) (j := 1)).far hne.symm (.slice none 0 0) (j := 2)).c0
  clear hB hE
  go_wp2
  clear q0 q1 q2 q3 f0 f1 f2 f3
  simp [bodyPostS, results, resC]
end Go.Proofs.YtkpdbhpmnegahaaDoor
namespace Go.Proofs.YtkpdbhpmnegahaaDoor
open Go.RowKit Go.Sort
set_option linter.unusedVariables false
set_option linter.unusedSimpArgs false

theorem net_eom (w : World) : ∀ j, j < ([⟨#[110, 101, 116]⟩, ⟨#[101, 111, 109]⟩] : List ByteArray).length → (w.alloc (Obj.cells #[.string ⟨#[110, 101, 116]⟩, .string ⟨#[101, 111, 109]⟩] 9)).cell? ⟨w.heap.size, 0 + j, none⟩ = some (.string (([⟨#[110, 101, 116]⟩, ⟨#[101, 111, 109]⟩] : List ByteArray).getD j ByteArray.empty)) := by
  intro j hj
  match j, hj with
  | 0, _ => rw [World.cell?_alloc_at _ _ _ _ rfl]; rfl
  | 1, _ => rw [World.cell?_alloc_at _ _ _ _ rfl]; rfl
theorem one_eom (w : World) : ∀ j, j < ([⟨#[101, 111, 109]⟩] : List ByteArray).length → (w.alloc (Obj.cells #[.string ⟨#[101, 111, 109]⟩] 9)).cell? ⟨w.heap.size, 0 + j, none⟩ = some (.string (([⟨#[101, 111, 109]⟩] : List ByteArray).getD j ByteArray.empty)) := by
  intro j hj
  match j, hj with
  | 0, _ => rw [World.cell?_alloc_at _ _ _ _ rfl]; rfl
theorem cs1 : Lib.containsS [⟨#[110, 101, 116]⟩, ⟨#[101, 111, 109]⟩] ⟨#[101, 111, 109]⟩ = true := by decide +kernel
theorem cs2 : Lib.containsS [⟨#[101, 111, 109]⟩] ⟨#[101, 111, 109]⟩ = true := by decide +kernel
theorem cs3 : Lib.containsS [⟨#[110, 101, 116]⟩, ⟨#[101, 111, 109]⟩] ⟨#[110, 101, 116]⟩ = true := by decide +kernel
theorem cs4 : Lib.containsS [⟨#[101, 111, 109]⟩] ⟨#[110, 101, 116]⟩ = false := by decide +kernel
theorem cs5 : Lib.containsS [⟨#[110, 101, 116]⟩, ⟨#[101, 111, 109]⟩] ⟨#[48, 46, 48, 51]⟩ = false := by decide +kernel
theorem pv10 : parseV ⟨#[49, 48]⟩ 0 365 = (10, 0) := by decide +kernel
theorem pv30 : parseV ⟨#[51, 48]⟩ 0 365 = (30, 0) := by decide +kernel
end Go.Proofs.YtkpdbhpmnegahaaDoor
namespace Go.Proofs.YtkpdbhpmnegahaaDoor
open Go.RowKit Go.Sort

theorem pa03 : paR [48, 46, 48, 51] = (3, 100, 0) := by decide +kernel
theorem parse03 (w : World) : Calls Tryd.prog 54 #[.string ⟨#[48, 46, 48, 51]⟩] w fun e w' => e = .returned (.tuple #[.agg #[.int .i64 3, .int .i64 100], .int .i64 0]) ∧ Below w.heap.size w w' := by
  have h := parse_gen [48, 46, 48, 51] w (by decide)
  rw [pa03] at h
  exact h
end Go.Proofs.YtkpdbhpmnegahaaDoor
namespace Go.Proofs.YtkpdbhpmnegahaaDoor
open Go.RowKit Go.Sort
set_option linter.unusedVariables false
set_option linter.unusedSimpArgs false

theorem grown_set {a b : World} {B P : Nat} (q : a.grownBy b (some B)) (hP : a.heap.size ≤ P) (i : Nat) (v : Value) : a.grownBy (b.setCell ⟨P, i, none⟩ v) (some B) := by
  have k := setCell_grown b P i v
  refine ⟨k.os.trans q.os, k.tape.trans q.tape, k.output.trans q.output, Nat.le_trans q.size k.size, fun j hj hn => ?_⟩
  rw [k.block j (Nat.lt_of_lt_of_le hj q.size) (by intro e; injection e with e; omega)]
  exact q.block j hj hn
def LA : List ByteArray := [⟨#[101, 111, 109]⟩, ⟨#[49, 48]⟩]
set_option maxRecDepth 100000 in
set_option maxHeartbeats 2000000 in
theorem termsA (B g c : Nat) (w : World) (hQ : Q1 w B (.slice (some ⟨g, 0, none⟩) 2 c)) (hT : TxtR w g LA) (hlg : g < w.heap.size) (hne : g ≠ B) (hc : 2 ≤ c) (hm : c ≤ maxLen) :
    Calls Tryd.prog 22 #[.pointer (some ⟨B, 0, none⟩)] w fun e w' => e = .returned (.agg #[.int .i64 10, .bool true, .slice none 0 0]) ∧ w.grownBy w' (some B) := by
  have hlB := hQ.lt
  have w1 : w.cell? ⟨g, 1, none⟩ = some (.string ⟨#[101, 111, 109]⟩) := hT 0 (by decide)
  have w2 : w.cell? ⟨g, 4, none⟩ = some (.string ⟨#[49, 48]⟩) := hT 1 (by decide)
  have ha0 : Below w.heap.size w (w.alloc (Obj.cells #[.int .i64 0, .bool false, .slice none 0 0] 24)) := (Below.refl _ _).alloc (Nat.le_refl _) _
  have hs0 : (w.alloc (Obj.cells #[.int .i64 0, .bool false, .slice none 0 0] 24)).heap.size = w.heap.size + 1 := by simp
  have ha1 : Below (w.alloc (Obj.cells #[.int .i64 0, .bool false, .slice none 0 0] 24)).heap.size (w.alloc (Obj.cells #[.int .i64 0, .bool false, .slice none 0 0] 24)) ((w.alloc (Obj.cells #[.int .i64 0, .bool false, .slice none 0 0] 24)).alloc (Obj.cells #[.string ⟨#[110, 101, 116]⟩, .string ⟨#[101, 111, 109]⟩] 9)) := (Below.refl _ _).alloc (Nat.le_refl _) _
  have hs1 : ((w.alloc (Obj.cells #[.int .i64 0, .bool false, .slice none 0 0] 24)).alloc (Obj.cells #[.string ⟨#[110, 101, 116]⟩, .string ⟨#[101, 111, 109]⟩] 9)).heap.size = w.heap.size + 1 + 1 := by simp
  have ha2 : Below ((w.alloc (Obj.cells #[.int .i64 0, .bool false, .slice none 0 0] 24)).alloc (Obj.cells #[.string ⟨#[110, 101, 116]⟩, .string ⟨#[101, 111, 109]⟩] 9)).heap.size ((w.alloc (Obj.cells #[.int .i64 0, .bool false, .slice none 0 0] 24)).alloc (Obj.cells #[.string ⟨#[110, 101, 116]⟩, .string ⟨#[101, 111, 109]⟩] 9)) (((w.alloc (Obj.cells #[.int .i64 0, .bool false, .slice none 0 0] 24)).alloc (Obj.cells #[.string ⟨#[110, 101, 116]⟩, .string ⟨#[101, 111, 109]⟩] 9)).alloc (Obj.cells #[.string ⟨#[101, 111, 109]⟩] 9)) := (Below.refl _ _).alloc (Nat.le_refl _) _
  have hb1 := ha0.trans (ha1.mono (by omega))
  have hb2 := hb1.trans (ha2.mono (by omega))
  -- the two questions
  have HI1 := Lib.hid (show Calls Tryd.prog 32 #[.pointer (some ⟨B, 0, none⟩), .slice (some ⟨w.heap.size + 1, 0, none⟩) 2 2] ((w.alloc (Obj.cells #[.int .i64 0, .bool false, .slice none 0 0] 24)).alloc (Obj.cells #[.string ⟨#[110, 101, 116]⟩, .string ⟨#[101, 111, 109]⟩] 9)) fun e w' => e = .returned (.bool true) ∧ w' = (w.alloc (Obj.cells #[.int .i64 0, .bool false, .slice none 0 0] 24)).alloc (Obj.cells #[.string ⟨#[110, 101, 116]⟩, .string ⟨#[101, 111, 109]⟩] 9) from by
    have q := isAt_any B g 0 1 c (w.alloc (Obj.cells #[.int .i64 0, .bool false, .slice none 0 0] 24)).heap.size 2 [⟨#[110, 101, 116]⟩, ⟨#[101, 111, 109]⟩] ⟨#[101, 111, 109]⟩ ((w.alloc (Obj.cells #[.int .i64 0, .bool false, .slice none 0 0] 24)).alloc (Obj.cells #[.string ⟨#[110, 101, 116]⟩, .string ⟨#[101, 111, 109]⟩] 9)) (hQ.below hb1) (by rw [hb1.cell hlg]; exact w1) (by simp) (net_eom (w.alloc (Obj.cells #[.int .i64 0, .bool false, .slice none 0 0] 24)))
    rw [cs1, hs0] at q
    exact q)
  have HI2 := Lib.hid (show Calls Tryd.prog 32 #[.pointer (some ⟨B, 0, none⟩), .slice (some ⟨w.heap.size + 1 + 1, 0, none⟩) 1 1] (((w.alloc (Obj.cells #[.int .i64 0, .bool false, .slice none 0 0] 24)).alloc (Obj.cells #[.string ⟨#[110, 101, 116]⟩, .string ⟨#[101, 111, 109]⟩] 9)).alloc (Obj.cells #[.string ⟨#[101, 111, 109]⟩] 9)) fun e w' => e = .returned (.bool true) ∧ w' = ((w.alloc (Obj.cells #[.int .i64 0, .bool false, .slice none 0 0] 24)).alloc (Obj.cells #[.string ⟨#[110, 101, 116]⟩, .string ⟨#[101, 111, 109]⟩] 9)).alloc (Obj.cells #[.string ⟨#[101, 111, 109]⟩] 9) from by
    have q := isAt_any B g 0 1 c ((w.alloc (Obj.cells #[.int .i64 0, .bool false, .slice none 0 0] 24)).alloc (Obj.cells #[.string ⟨#[110, 101, 116]⟩, .string ⟨#[101, 111, 109]⟩] 9)).heap.size 1 [⟨#[101, 111, 109]⟩] ⟨#[101, 111, 109]⟩ (((w.alloc (Obj.cells #[.int .i64 0, .bool false, .slice none 0 0] 24)).alloc (Obj.cells #[.string ⟨#[110, 101, 116]⟩, .string ⟨#[101, 111, 109]⟩] 9)).alloc (Obj.cells #[.string ⟨#[101, 111, 109]⟩] 9)) (hQ.below hb2) (by rw [hb2.cell hlg]; exact w1) (by simp) (one_eom ((w.alloc (Obj.cells #[.int .i64 0, .bool false, .slice none 0 0] 24)).alloc (Obj.cells #[.string ⟨#[110, 101, 116]⟩, .string ⟨#[101, 111, 109]⟩] 9)))
    rw [cs2, hs1] at q
    exact q)
  have hc0 : Below w.heap.size w (w.alloc (Obj.cells #[.int .i64 0, .bool true, .slice none 0 0] 24)) := (Below.refl _ _).alloc (Nat.le_refl _) _
  have hd0 : (w.alloc (Obj.cells #[.int .i64 0, .bool true, .slice none 0 0] 24)).heap.size = w.heap.size + 1 := by simp
  have hc1 : Below (w.alloc (Obj.cells #[.int .i64 0, .bool true, .slice none 0 0] 24)).heap.size (w.alloc (Obj.cells #[.int .i64 0, .bool true, .slice none 0 0] 24)) ((w.alloc (Obj.cells #[.int .i64 0, .bool true, .slice none 0 0] 24)).alloc (Obj.cells #[.string ⟨#[110, 101, 116]⟩, .string ⟨#[101, 111, 109]⟩] 9)) := (Below.refl _ _).alloc (Nat.le_refl _) _
  have hd1 : ((w.alloc (Obj.cells #[.int .i64 0, .bool true, .slice none 0 0] 24)).alloc (Obj.cells #[.string ⟨#[110, 101, 116]⟩, .string ⟨#[101, 111, 109]⟩] 9)).heap.size = w.heap.size + 1 + 1 := by simp
  have hc2 : Below ((w.alloc (Obj.cells #[.int .i64 0, .bool true, .slice none 0 0] 24)).alloc (Obj.cells #[.string ⟨#[110, 101, 116]⟩, .string ⟨#[101, 111, 109]⟩] 9)).heap.size ((w.alloc (Obj.cells #[.int .i64 0, .bool true, .slice none 0 0] 24)).alloc (Obj.cells #[.string ⟨#[110, 101, 116]⟩, .string ⟨#[101, 111, 109]⟩] 9)) (((w.alloc (Obj.cells #[.int .i64 0, .bool true, .slice none 0 0] 24)).alloc (Obj.cells #[.string ⟨#[110, 101, 116]⟩, .string ⟨#[101, 111, 109]⟩] 9)).alloc (Obj.cells #[.string ⟨#[101, 111, 109]⟩] 9)) := (Below.refl _ _).alloc (Nat.le_refl _) _
  have HB3 := Lib.hid ((hc0.trans (hc1.mono (by omega))).trans (hc2.mono (by omega)))
  have HT3 := Lib.hid (((Q3.alloc w (.int .i64 0) (.bool true) (.slice none 0 0) 24).below hc1).below hc2)
  have hQ3 := hQ.below HB3.out
  have h13 : (((w.alloc (Obj.cells #[.int .i64 0, .bool true, .slice none 0 0] 24)).alloc (Obj.cells #[.string ⟨#[110, 101, 116]⟩, .string ⟨#[101, 111, 109]⟩] 9)).alloc (Obj.cells #[.string ⟨#[101, 111, 109]⟩] 9)).cell? ⟨g, 0 + 1, none⟩ = some (.string ⟨#[101, 111, 109]⟩) := by rw [HB3.out.cell hlg]; exact w1
  have h23 : (((w.alloc (Obj.cells #[.int .i64 0, .bool true, .slice none 0 0] 24)).alloc (Obj.cells #[.string ⟨#[110, 101, 116]⟩, .string ⟨#[101, 111, 109]⟩] 9)).alloc (Obj.cells #[.string ⟨#[101, 111, 109]⟩] 9)).cell? ⟨g, 4, none⟩ = some (.string ⟨#[49, 48]⟩) := by rw [HB3.out.cell hlg]; exact w2
  have HW := Lib.hid (word_gen B g 0 1 c ⟨#[101, 111, 109]⟩ (((w.alloc (Obj.cells #[.int .i64 0, .bool true, .slice none 0 0] 24)).alloc (Obj.cells #[.string ⟨#[110, 101, 116]⟩, .string ⟨#[101, 111, 109]⟩] 9)).alloc (Obj.cells #[.string ⟨#[101, 111, 109]⟩] 9)) hQ3 h13 hc hm)
  have HQ3 := Lib.hid hQ3
  have H23 := Lib.hid h23
  clear hQ hT w1 w2 ha0 ha1 ha2 hs0 hs1 hb1 hb2 hQ3 h13 h23 hc0 hc1 hc2 hd0 hd1
  go_enter Tryd.func22, Tryd.ntmps22
  go_wp2
  go_loopw [3] (fun x wr => wr = w.alloc (Obj.cells #[.int .i64 0, .bool false, .slice none 0 0] 24)) (fun x _ => 0)
  case atStart => rfl
  case round =>
    subst hrel
    go_wp2_with fail
    refine HI1.out.mono ?_
    rintro e w_ ⟨rfl, rfl⟩
    go_wp2_with fail
    refine HI2.out.mono ?_
    rintro e w_ ⟨rfl, rfl⟩
    go_wp2_with fail
    refine HW.out.mono ?_
    rintro e w4 ⟨rfl, hp⟩
    have h4 : Q3 w4 w.heap.size (.int .i64 0) (.bool true) (.slice none 0 0) ∧ Q1 w4 B (.slice (some ⟨g, 3, none⟩) 1 (c - 1)) ∧ w4.cell? ⟨g, 3 + 1, none⟩ = some (.string ⟨#[49, 48]⟩) ∧ w.grownBy w4 (some B) := by
      obtain ⟨o, ho, rfl⟩ := hp
      obtain rfl := ho (by omega)
      refine ⟨HT3.out.far (by omega) _, HQ3.out.set0 _, ?_, ?_⟩
      · rw [World.cell?_setCell_other _ _ _ _ (by intro e; injection e with e; exact hne e.symm)]; exact H23.out
      · exact ⟨HB3.out.os, HB3.out.tape, HB3.out.output, by simpa using HB3.out.size, fun i hi hn => ((setCell_grown _ B 0 _).block i (Nat.lt_of_lt_of_le hi HB3.out.size) hn).trans (HB3.out.block i hi)⟩
    have HS := Lib.hid (span_any B g 3 0 (c - 1) ⟨#[49, 48]⟩ 10 w4 h4.2.1 h4.2.2.1 (by omega) (by omega) (by decide) pv10)
    have H4 := Lib.hid h4
    clear h4 hp
    go_wp2_with fail
    refine HS.out.mono ?_
    rintro e w5 ⟨rfl, hp⟩
    have h5 : Q3 w5 w.heap.size (.int .i64 0) (.bool true) (.slice none 0 0) ∧ w.grownBy w5 (some B) := by
      obtain ⟨o, ho, rfl⟩ := hp
      refine ⟨H4.out.1.far (by omega) _, ?_⟩
      have q := H4.out.2.2.2
      exact ⟨q.os, q.tape, q.output, by simpa using q.size, fun i hi hn => ((setCell_grown _ B 0 _).block i (Nat.lt_of_lt_of_le hi q.size) hn).trans (q.block i hi hn)⟩
    have H5 := Lib.hid h5
    clear h5 hp HS HW
    have y0 := H5.out.1.c0
    have y1 := H5.out.1.c1
    have y2 := H5.out.1.c2
    have f0 := H5.out.1.f0
    have f1 := H5.out.1.f1
    have f2 := H5.out.1.f2
    have H6 := Lib.hid (H5.out.1.set0 (.int .i64 10))
    have HG6 := Lib.hid (grown_set (grown_set (grown_set (grown_set H5.out.2 (Nat.le_refl _) 0 (.int .i64 10)) (Nat.le_refl _) 0 (.int .i64 10)) (Nat.le_refl _) 1 (.bool true)) (Nat.le_refl _) 2 (.slice none 0 0))
    have z1 := H6.out.c1
    have z2 := H6.out.c2
    have z0 := H6.out.c0
    go_wp2
    (try simp only [Exit.inBlock, Exit.then])
    refine bodyPost_ret (v := .agg #[.int .i64 10, .bool true, .slice none 0 0]) ?_ rfl ⟨rfl, ?_⟩
    · have u0 := H6.out.c0
      have u1 := H6.out.c1
      have u2 := H6.out.c2
      rw [results_cell_one rfl]
      go_simp
    · exact HG6.out
end Go.Proofs.YtkpdbhpmnegahaaDoor
namespace Go.Proofs.YtkpdbhpmnegahaaDoor
open Go
section
variable {P : Program} {ops : Array Oper} {Q : Exit → Act → World → Prop} {md : Region.Mode} {S : World → Prop} {k : Nat → Bool}

/-- in whatever order: S holds behind every operation but those that k names. -/
def GoesK (P : Program) (md : Region.Mode) (ops : Array Oper) (Q : Exit → Act → World → Prop) (S : World → Prop) (k : Nat → Bool) : Nat → Array Bool → Act → World → Prop
  | 0, l, a, w => Region.ready md ops l = [] ∧ Q .normal a w
  | n + 1, l, a, w => (Region.ready md ops l = [] → Q .normal a w) ∧ ∀ j ∈ Region.ready md ops l, wpOp P ops Q j (fun b x => (k j = false → S x) ∧ GoesK P md ops Q S k n (l.setIfInBounds j true) b x) a w
theorem GoesK.any : ∀ (n : Nat) (l : Array Bool) (a : Act) (w : World), GoesK P md ops Q S k n l a w → wpAny P md ops Q n l a w := by
  intro n
  induction n with
  | zero => exact fun _ _ _ h => h
  | succ n ih => exact fun l a w h => ⟨h.1, fun j hj => wpOp_mono (fun b x y => ih _ b x y.2) (h.2 j hj)⟩
/-- does number k wait for number i? -/
def wait1 (md : Region.Mode) (ops : Array Oper) (k i : Nat) : Bool := match ops[k]? with
  | some o => o.after.any fun e => Region.binds md e && e.on == i
  | none => false
theorem wait1_not {i j : Nat} {l : Array Bool} (hk : wait1 md ops j i = true) (hi : i ∈ Region.ready md ops l) : j ∉ Region.ready md ops l := by
  intro hr
  obtain ⟨_, o, ho, hall⟩ := mem_ready.1 hr
  unfold wait1 at hk
  rw [ho] at hk
  obtain ⟨e, he, hb⟩ := Array.any_eq_true'.1 hk
  rw [Bool.and_eq_true, beq_iff_eq] at hb
  have h1 := hall e he hb.1
  rw [hb.2] at h1
  have h0 := (mem_ready.1 hi).1
  rcases Nat.lt_or_ge i l.size with q | q
  · simp [q] at h0 h1; rw [h0] at h1; cases h1
  · simp [Array.getElem?_eq_none q] at h1
/-- do all that k names, and that have not come up, wait for number i? -/
def waitsL (md : Region.Mode) (ops : Array Oper) (k : Nat → Bool) (l : Array Bool) (i : Nat) : Bool := (List.range ops.size).all fun j => !k j || l.getD j true || wait1 md ops j i
theorem waitsL_at {i j : Nat} {l : Array Bool} (h : waitsL md ops k l i = true) (hj : j ∈ Region.ready md ops l) (hk : k j = true) : wait1 md ops j i = true := by
  obtain ⟨hu, o, ho, _⟩ := mem_ready.1 hj
  have := List.all_eq_true.1 h j (List.mem_range.2 (Array.getElem?_eq_some_iff.1 ho).1)
  rw [hk, hu] at this
  simpa using this
theorem getD_grow {l : Array Bool} {j m : Nat} (h : l.getD m true = true) : (l.setIfInBounds j true).getD m true = true := by
  rcases Nat.decEq j m with e | e
  · rw [getD_set_ne true e]; exact h
  · subst e
    by_cases q : j < l.size
    · simp [q]
    · simp
theorem waitsL_grow {i j : Nat} {l : Array Bool} (h : waitsL md ops k l i = true) : waitsL md ops k (l.setIfInBounds j true) i = true := by
  refine List.all_eq_true.2 fun m hm => ?_
  have := List.all_eq_true.1 h m hm
  simp only [Bool.or_eq_true] at this ⊢
  rcases this with (x | x) | x
  · exact .inl (.inl x)
  · exact .inl (.inr (getD_grow x))
  · exact .inr x
theorem GoesK.take {i : Nat} {o : Oper} {v : Value} {S' : World → Prop} {C : Array Bool → Prop} (ho : ops[i]? = some o) (hs : Region.noSelect ops = true) (hCg : ∀ l j, C l → C (l.setIfInBounds j true))
    (hC : ∀ l j, C l → i ∈ Region.ready md ops l → j ∈ Region.ready md ops l → ∀ x, (k j = false → S x) → S' x) (hi : ∀ w, S' w → k i = false → S w) (hQ : ∀ c a w, Q (.panic c) (a.put o.dst v) w → Q (.panic c) a w) :
    ∀ (n : Nat) (l : Array Bool) (a : Act) (w : World), C l → Region.free md ops l i = true → i ∈ Region.ready md ops l → YieldsIf P ops S' o v a → S' w → GoesK P md ops Q S k n (l.setIfInBounds i true) (a.put o.dst v) w → GoesK P md ops Q S k (n + 1) l a w := by
  have sel := Region.noSelect_spec hs
  suffices H : ∀ (n : Nat) (l : Array Bool) (a : Act) (w : World), C l → (∀ j p, ops[j]? = some p → j ≠ i → l.getD j true = false → (∀ e ∈ p.after, Region.binds md e = true → e.on ≠ i) → o.apart ops p = true) → i ∈ Region.ready md ops l → YieldsIf P ops S' o v a → S' w → GoesK P md ops Q S k n (l.setIfInBounds i true) (a.put o.dst v) w → GoesK P md ops Q S k (n + 1) l a w from
    fun n l a w hc hf => H n l a w hc (fun j p hj => Region.free_spec ho hf j p hj)
  intro n
  induction n with
  | zero =>
    intro l a w _ _ hr hy hS h
    refine ⟨fun e => (by rw [e] at hr; cases hr), fun j hj => ?_⟩
    rcases Nat.decEq j i with e | e
    · exact absurd (ready_mono hj e) (by rw [h.1]; exact List.not_mem_nil)
    · subst e; exact hy.wpOp ho hS ⟨hi w hS, h⟩
  | succ n ih =>
    intro l a w hc hf hr hy hS h
    refine ⟨fun e => (by rw [e] at hr; cases hr), fun j hj => ?_⟩
    rcases Nat.decEq j i with e | e
    · obtain ⟨hun, p, hp, hall⟩ := mem_ready.1 hj
      have hno : ∀ e ∈ p.after, Region.binds md e = true → e.on ≠ i := by
        intro d hd hb q
        have h1 := hall d hd hb
        rw [q] at h1
        have h0 := (mem_ready.1 hr).1
        rcases Nat.lt_or_ge i l.size with z | z
        · simp [z] at h0 h1; rw [h0] at h1; cases h1
        · simp [Array.getElem?_eq_none z] at h1
      refine wpOp_mono (fun b x y => ⟨y.2.1, ih _ b x (hCg _ _ hc) ?_ (ready_mono hr (Ne.symm e)) y.1 (hC l j hc hr hj x y.2.1) ?_⟩) (wpOp_putIf hp (hf j p hp e hun hno) (fun cs c => sel i o cs c ho) (fun cs c => sel j p cs c hp) hQ hy (h.2 j (ready_mono hj e)))
      · intro m q hm hmi hmu hmn
        refine hf m q hm hmi ?_ hmn
        rcases Nat.decEq j m with z | z
        · rwa [getD_set_ne true z] at hmu
        · exact z ▸ hun
      · rw [Array.setIfInBounds_comm _ _ e]; exact y.2.2
    · subst e; exact hy.wpOp ho hS ⟨hi w hS, h⟩
/-- a load, taken first. -/
theorem gk_take {i n : Nat} {o : Oper} {v : Value} {l : Array Bool} {a : Act} {w : World} (ho : ops[i]? = some o) (hs : Region.noSelect ops = true) (hk : waitsL md ops k l i = true) (hf : Region.free md ops l i = true) (hr : (Region.ready md ops l).contains i = true)
    (hQ : ∀ c a w, Q (.panic c) (a.put o.dst v) w → Q (.panic c) a w) (hy : YieldsIf P ops S o v a) (hS : S w) (h : GoesK P md ops Q S k n (l.setIfInBounds i true) (a.put o.dst v) w) : GoesK P md ops Q S k (n + 1) l a w :=
  GoesK.take (S' := S) (C := fun l => waitsL md ops k l i = true) ho hs (fun _ _ h => waitsL_grow h) (fun l j hc hi hj x hx => by
    cases e : k j
    · exact hx e
    · exact absurd hj (wait1_not (waitsL_at hc hj e) hi)) (fun _ h _ => h) hQ n l a w hk hf (by simpa using hr) hy hS h
/-- an operation that looks at no memory, taken first. -/
theorem gk_pure {i n : Nat} {o : Oper} {v : Value} {l : Array Bool} {a : Act} {w : World} (ho : ops[i]? = some o) (hs : Region.noSelect ops = true) (hk : k i = true) (hf : Region.free md ops l i = true) (hr : (Region.ready md ops l).contains i = true)
    (hQ : ∀ c a w, Q (.panic c) (a.put o.dst v) w → Q (.panic c) a w) (hy : Yields P ops o v a) (h : GoesK P md ops Q S k n (l.setIfInBounds i true) (a.put o.dst v) w) : GoesK P md ops Q S k (n + 1) l a w :=
  GoesK.take (S' := fun _ => True) (C := fun _ => True) ho hs (fun _ _ _ => trivial) (fun _ _ _ _ _ _ _ => trivial) (fun _ _ e => by rw [hk] at e; cases e) hQ n l a w trivial hf (by simpa using hr) hy.yieldsIf trivial h
theorem gk_done {l : Array Bool} {a : Act} {w : World} (hr : Region.ready md ops l = []) (h : Q .normal a w) : ∀ n, GoesK P md ops Q S k n l a w
  | 0 => ⟨hr, h⟩
  | _ + 1 => ⟨fun _ => h, by rw [hr]; simp⟩
theorem gk_one {i n : Nat} {o : Oper} {l : Array Bool} {a : Act} {w : World} (ho : ops[i]? = some o) (hr : Region.ready md ops l = [i])
    (h : ∀ K : Act → World → Prop, (∀ b x, (k i = false → S x) → GoesK P md ops Q S k n (l.setIfInBounds i true) b x → K b x) → if Region.wanted o (yielded ops a.tmps) = true then Oper.wp P o a w K Q else K (a.put o.dst undef) w) : GoesK P md ops Q S k (n + 1) l a w := by
  refine ⟨fun e => (by rw [hr] at e; cases e), fun j hj => ?_⟩
  rw [hr] at hj
  obtain rfl : j = i := by simpa using hj
  exact wpOp_step ho fun K hK => h K fun b x h1 h2 => hK b x ⟨h1, h2⟩
theorem gk_two {i j n : Nat} {o p : Oper} {l : Array Bool} {a : Act} {w : World} (ho : ops[i]? = some o) (hp : ops[j]? = some p) (hr : Region.ready md ops l = [i, j])
    (h : ∀ K : Act → World → Prop, (∀ b x, (k i = false → S x) → GoesK P md ops Q S k n (l.setIfInBounds i true) b x → K b x) → if Region.wanted o (yielded ops a.tmps) = true then Oper.wp P o a w K Q else K (a.put o.dst undef) w)
    (h2 : ∀ K : Act → World → Prop, (∀ b x, (k j = false → S x) → GoesK P md ops Q S k n (l.setIfInBounds j true) b x → K b x) → if Region.wanted p (yielded ops a.tmps) = true then Oper.wp P p a w K Q else K (a.put p.dst undef) w) : GoesK P md ops Q S k (n + 1) l a w := by
  refine ⟨fun e => (by rw [hr] at e; cases e), fun m hm => ?_⟩
  rw [hr] at hm
  rcases List.mem_cons.1 hm with rfl | hm
  · exact wpOp_step ho fun K hK => h K fun b x h1 h2 => hK b x ⟨h1, h2⟩
  · obtain rfl : m = j := by simpa using hm
    exact wpOp_step hp fun K hK => h2 K fun b x h1 h2 => hK b x ⟨h1, h2⟩
theorem gk_region {id : Nat} {a : Act} {w : World} (S : World → Prop) (k : Nat → Bool) (hm : P.follows .mixedOrders = true) (h : GoesK P .any ops Q S k ops.size (Array.replicate ops.size false) a w.drew) : (Code.region id ops true).wp P Q a w :=
  wp_region_any hm (GoesK.any _ _ _ _ h)
end
end Go.Proofs.YtkpdbhpmnegahaaDoor
namespace Go.Proofs.YtkpdbhpmnegahaaDoor
open Go.RowKit Go.Sort
set_option linter.unusedVariables false
set_option linter.unusedSimpArgs false

def LB : List ByteArray := [⟨#[48, 46, 48, 51]⟩, ⟨#[49, 48]⟩, ⟨#[110, 101, 116]⟩, ⟨#[51, 48]⟩]
/-- what the first round leaves. -/
structure StB (B g c : Nat) (w wr : World) : Prop where
  t : ∃ C cap, Q3 wr w.heap.size (.int .i64 0) (.bool false) (.slice (some ⟨C, 0, none⟩) 1 cap) ∧ RowC wr (some ⟨C, 0, none⟩) [(10, 3, 100)] ∧ C ≠ w.heap.size ∧ C ≠ B
  q : Q1 wr B (.slice (some ⟨g, 6, none⟩) 2 (c - 2))
  c2 : wr.cell? ⟨g, 6 + 1, none⟩ = some (.string ⟨#[110, 101, 116]⟩)
  c3 : wr.cell? ⟨g, 9 + 1, none⟩ = some (.string ⟨#[51, 48]⟩)
  gr : w.grownBy wr (some B)
def RelB (B g c : Nat) (w wr : World) : Prop := wr = w.alloc (Obj.cells #[.int .i64 0, .bool false, .slice none 0 0] 24) ∨ StB B g c w wr
def slM (w wr : World) : Nat := match wr.cell? ⟨w.heap.size, 2, none⟩ with
  | some (.slice none _ _) => 1
  | _ => 0
theorem grown_cell {a b : World} {B : Nat} (h : a.grownBy b (some B)) {p : Addr} {v : Value} (hc : a.cell? p = some v) (hn : p.block ≠ B) : b.cell? p = some v := h.cell hc (by intro e; injection e with e; exact hn e)
theorem grown_trans {a b c : World} {B : Nat} (h : a.grownBy b (some B)) (k : b.grownBy c (some B)) : a.grownBy c (some B) :=
  ⟨k.os.trans h.os, k.tape.trans h.tape, k.output.trans h.output, Nat.le_trans h.size k.size, fun i hi hn => (k.block i (Nat.lt_of_lt_of_le hi h.size) hn).trans (h.block i hi hn)⟩
theorem below_grown {a b : World} {B : Nat} (h : Below a.heap.size a b) : a.grownBy b (some B) := ⟨h.os, h.tape, h.output, h.size, fun i hi _ => h.block i hi⟩
theorem Q1.grown {a b : World} {B P : Nat} {v : Value} (h : Q1 a P v) (k : a.grownBy b (some B)) (hn : P ≠ B) : Q1 b P v := by
  have hb := k.block P h.lt (by intro e; injection e with e; exact hn e)
  exact ⟨Nat.lt_of_lt_of_le h.lt k.size, by unfold World.cell?; rw [hb]; exact h.c0, by unfold World.frozen?; rw [hb]; exact h.f0⟩
theorem Q2.grown {a b : World} {B P : Nat} {u v : Value} (h : Q2 a P u v) (k : a.grownBy b (some B)) (hn : P ≠ B) : Q2 b P u v := by
  have hb := k.block P h.lt (by intro e; injection e with e; exact hn e)
  exact ⟨Nat.lt_of_lt_of_le h.lt k.size, by unfold World.cell?; rw [hb]; exact h.c0, by unfold World.frozen?; rw [hb]; exact h.f0, by unfold World.cell?; rw [hb]; exact h.c1, by unfold World.frozen?; rw [hb]; exact h.f1⟩
theorem Q3.grown {a b : World} {B P : Nat} {u v x : Value} (h : Q3 a P u v x) (k : a.grownBy b (some B)) (hn : P ≠ B) : Q3 b P u v x := by
  have hb := k.block P h.lt (by intro e; injection e with e; exact hn e)
  exact ⟨Nat.lt_of_lt_of_le h.lt k.size, by unfold World.cell?; rw [hb]; exact h.c0, by unfold World.frozen?; rw [hb]; exact h.f0, by unfold World.cell?; rw [hb]; exact h.c1, by unfold World.frozen?; rw [hb]; exact h.f1, by unfold World.cell?; rw [hb]; exact h.c2, by unfold World.frozen?; rw [hb]; exact h.f2⟩
theorem wdp_all {B g off n c : Nat} {w w' : World} {v : Value} (h : WdP B g off n c w w') (hQ : Q1 w B v) (hn : 0 < n) : w.grownBy w' (some B) ∧ Q1 w' B (.slice (some ⟨g, off + 3, none⟩) n (c - 1)) := by
  obtain ⟨o, ho, rfl⟩ := h
  obtain rfl := ho hn
  exact ⟨setCell_grown _ _ _ _, hQ.set0 _⟩
theorem rowC_set {w : World} {C P i : Nat} {v : Value} {L : List Ct} (h : RowC w (some ⟨C, 0, none⟩) L) (hn : C ≠ P) : RowC (w.setCell ⟨P, i, none⟩ v) (some ⟨C, 0, none⟩) L := by
  intro h0
  obtain ⟨b, off, e, hl, hc⟩ := h h0
  injection e with e
  injection e with e1 e2
  subst e1 e2
  refine ⟨C, 0, rfl, by simpa using hl, fun j hj => ?_⟩
  obtain ⟨q0, q1, q2⟩ := hc j hj
  have hne : ∀ k, (⟨P, i, none⟩ : Addr) ≠ ⟨C, k, none⟩ := fun k e => by injection e with e; exact hn e.symm
  exact ⟨by rw [World.cell?_setCell_other _ _ _ _ (hne _)]; exact q0, by rw [World.cell?_setCell_other _ _ _ _ (hne _)]; exact q1, by rw [World.cell?_setCell_other _ _ _ _ (hne _)]; exact q2⟩
theorem slM_nil {w wr : World} {u v : Value} (h : Q3 wr w.heap.size u v (.slice none 0 0)) : slM w wr = 1 := by unfold slM; rw [h.c2]
theorem slM_some {w wr : World} {u v : Value} {a : Addr} {n c : Nat} (h : Q3 wr w.heap.size u v (.slice (some a) n c)) : slM w wr = 0 := by unfold slM; rw [h.c2]
theorem und_cuts : Tryd.prog.underlying 22 = some (.slice 44) := by kernel_rfl
theorem inf_cut : (Tryd.prog.info? 44).map (fun i => (i.zero, i.size, i.bytes)) = some (some (.agg #[.int .i64 0, .int .i64 0, .int .i64 0]), 3, 24) := by kernel_rfl
/-- a row of one cut that the call owns. -/
theorem row_cut {w : World} {base : Nat} {v : Value} (h : w.ownsRow base 44 3 v 1 [.int .i64 10, .int .i64 3, .int .i64 100]) : ∃ C cap, v = .slice (some ⟨C, 0, none⟩) 1 cap ∧ base ≤ C ∧ C < w.heap.size ∧ RowC w (some ⟨C, 0, none⟩) [(10, 3, 100)] := by
  have hc := fun g e => h.cells (g := g) e
  rcases h.2 with ⟨_, n⟩ | ⟨C, cap, cur, rfl, hb, hg, _, _, _, _⟩
  · cases n
  · have hl : C < w.heap.size := lt_of_block hg
    refine ⟨C, cap, rfl, hb, hl, fun _ => ⟨C, 0, rfl, hl, fun i hi => ?_⟩⟩
    obtain rfl : i = 0 := by simp at hi; omega
    have q0 := hc C rfl 0 _ rfl
    have q1 := hc C rfl 1 _ rfl
    have q2 := hc C rfl 2 _ rfl
    rw [addr_is] at q0 q1 q2
    exact ⟨by simpa using q0, by simpa using q1, by simpa using q2⟩
set_option maxRecDepth 100000 in
set_option maxHeartbeats 2000000 in
theorem termsB (B g c : Nat) (w : World) (hQ : Q1 w B (.slice (some ⟨g, 0, none⟩) 4 c)) (hT : TxtR w g LB) (hlg : g < w.heap.size) (hne : g ≠ B) (hc : 4 ≤ c) (hm : c ≤ maxLen) :
    Calls Tryd.prog 22 #[.pointer (some ⟨B, 0, none⟩)] w fun e w' => ∃ C cap, e = .returned (.agg #[.int .i64 30, .bool false, .slice (some ⟨C, 0, none⟩) 1 cap]) ∧ RowC w' (some ⟨C, 0, none⟩) [(10, 3, 100)] ∧ w.grownBy w' (some B) := by
  obtain ⟨i0, hi, hz0, hz1, hz2⟩ := info_parts inf_cut
  have hlB := hQ.lt
  have t0 : w.cell? ⟨g, 0 + 1, none⟩ = some (.string ⟨#[48, 46, 48, 51]⟩) := hT 0 (by decide)
  have t1 : w.cell? ⟨g, 3 + 1, none⟩ = some (.string ⟨#[49, 48]⟩) := hT 1 (by decide)
  have t2 : w.cell? ⟨g, 6 + 1, none⟩ = some (.string ⟨#[110, 101, 116]⟩) := hT 2 (by decide)
  have t3 : w.cell? ⟨g, 9 + 1, none⟩ = some (.string ⟨#[51, 48]⟩) := hT 3 (by decide)
  have HTx := Lib.hid (And.intro t0 (And.intro t1 (And.intro t2 t3)))
  have HQ0 := Lib.hid hQ
  have HPa := Lib.hid parse03
  clear hQ hT t0 t1 t2 t3
  go_enter Tryd.func22, Tryd.ntmps22
  go_wp2
  go_loopw [3] (fun x wr => RelB B g c w wr) (fun x wr => slM w wr)
  case atStart => exact .inl rfl
  case round =>
    rcases hrel with rfl | hst
    · -- the first round
      have ha0 : Below w.heap.size w (w.alloc (Obj.cells #[.int .i64 0, .bool false, .slice none 0 0] 24)) := (Below.refl _ _).alloc (Nat.le_refl _) _
      have hs0 : (w.alloc (Obj.cells #[.int .i64 0, .bool false, .slice none 0 0] 24)).heap.size = w.heap.size + 1 := by simp
      have ha1 : Below (w.alloc (Obj.cells #[.int .i64 0, .bool false, .slice none 0 0] 24)).heap.size (w.alloc (Obj.cells #[.int .i64 0, .bool false, .slice none 0 0] 24)) ((w.alloc (Obj.cells #[.int .i64 0, .bool false, .slice none 0 0] 24)).alloc (Obj.cells #[.string ⟨#[110, 101, 116]⟩, .string ⟨#[101, 111, 109]⟩] 9)) := (Below.refl _ _).alloc (Nat.le_refl _) _
      have hs1 : ((w.alloc (Obj.cells #[.int .i64 0, .bool false, .slice none 0 0] 24)).alloc (Obj.cells #[.string ⟨#[110, 101, 116]⟩, .string ⟨#[101, 111, 109]⟩] 9)).heap.size = w.heap.size + 1 + 1 := by simp
      have hb1 := ha0.trans (ha1.mono (by omega))
      have hQ1 := HQ0.out.below hb1
      have HI1 := Lib.hid (show Calls Tryd.prog 32 #[.pointer (some ⟨B, 0, none⟩), .slice (some ⟨w.heap.size + 1, 0, none⟩) 2 2] ((w.alloc (Obj.cells #[.int .i64 0, .bool false, .slice none 0 0] 24)).alloc (Obj.cells #[.string ⟨#[110, 101, 116]⟩, .string ⟨#[101, 111, 109]⟩] 9)) fun e w' => e = .returned (.bool false) ∧ w' = (w.alloc (Obj.cells #[.int .i64 0, .bool false, .slice none 0 0] 24)).alloc (Obj.cells #[.string ⟨#[110, 101, 116]⟩, .string ⟨#[101, 111, 109]⟩] 9) from by
        have q := isAt_any B g 0 3 c (w.alloc (Obj.cells #[.int .i64 0, .bool false, .slice none 0 0] 24)).heap.size 2 [⟨#[110, 101, 116]⟩, ⟨#[101, 111, 109]⟩] ⟨#[48, 46, 48, 51]⟩ ((w.alloc (Obj.cells #[.int .i64 0, .bool false, .slice none 0 0] 24)).alloc (Obj.cells #[.string ⟨#[110, 101, 116]⟩, .string ⟨#[101, 111, 109]⟩] 9)) hQ1 (by rw [hb1.cell hlg]; exact HTx.out.1) (by simp) (net_eom (w.alloc (Obj.cells #[.int .i64 0, .bool false, .slice none 0 0] 24)))
        rw [cs5, hs0] at q
        exact q)
      have HFr := Lib.hid (fraction_ok B g 0 3 c ⟨#[48, 46, 48, 51]⟩ 3 100 ((w.alloc (Obj.cells #[.int .i64 0, .bool false, .slice none 0 0] 24)).alloc (Obj.cells #[.string ⟨#[110, 101, 116]⟩, .string ⟨#[101, 111, 109]⟩] 9)) hQ1 (by rw [hb1.cell hlg]; exact HTx.out.1) hc hm HPa)
      have HT1 := Lib.hid ((Q3.alloc w (.int .i64 0) (.bool false) (.slice none 0 0) 24).below ha1)
      have HG1 := Lib.hid (show w.grownBy ((w.alloc (Obj.cells #[.int .i64 0, .bool false, .slice none 0 0] 24)).alloc (Obj.cells #[.string ⟨#[110, 101, 116]⟩, .string ⟨#[101, 111, 109]⟩] 9)) (some B) from below_grown hb1)
      have HBl := Lib.hid hb1
      clear ha0 ha1 hs0 hs1 hb1 hQ1
      go_wp2_with fail
      refine HI1.out.mono ?_
      rintro e w_ ⟨rfl, rfl⟩
      go_wp2_with fail
      refine HFr.out.mono ?_
      rintro e w2 ⟨rfl, hp⟩
      obtain ⟨hpg, o, ho, hpq⟩ := hp
      obtain rfl := ho (by omega)
      have hs2 : w.heap.size + 1 ≤ w2.heap.size := by have := hpg.size; simp at this; omega
      have hT2 := HT1.out.grown hpg (by omega)
      have hG2 := grown_trans HG1.out hpg
      have hb3 : Below w2.heap.size w2 (w2.alloc (Obj.cells #[.int .i64 3, .int .i64 100] 35)) := (Below.refl _ _).alloc (Nat.le_refl _) _
      have HT3 := Lib.hid (hT2.below hb3)
      have HF3 := Lib.hid (Q2.alloc w2 (.int .i64 3) (.int .i64 100) 35)
      have HG3 := Lib.hid (grown_below hG2 (hb3.mono hG2.size))
      have HQ3 := Lib.hid (hpq.below hb3)
      have hs3 : w.heap.size + 1 ≤ (w2.alloc (Obj.cells #[.int .i64 3, .int .i64 100] 35)).heap.size := by have := hb3.size; omega
      have hlF : w.heap.size < w2.heap.size := by omega
      clear hpg hpq hT2 hG2 hb3 HT1 HG1 HFr HI1
      obtain ⟨F, hF⟩ : ∃ F, w2.heap.size = F := ⟨_, rfl⟩
      rw [hF] at HF3
      have h13 : (w2.alloc (Obj.cells #[.int .i64 3, .int .i64 100] 35)).cell? ⟨g, 3 + 1, none⟩ = some (.string ⟨#[49, 48]⟩) := grown_cell HG3.out HTx.out.2.1 hne
      have HSp0 := Lib.hid (fun W (h : Q1 W B (.slice (some ⟨g, 3, none⟩) 3 (c - 1))) h2 => span_any B g 3 2 (c - 1) ⟨#[49, 48]⟩ 10 W h h2 (by omega) (by omega) (by decide) pv10)
      go_wp2_with fail
      (try rw [hF])
      generalize w2.alloc (Obj.cells #[.int .i64 3, .int .i64 100] 35) = W3 at *
      have HSp := Lib.hid (HSp0.out W3.drew (HQ3.out.below ((Below.refl _ _).drew)) h13)
      have HQ3 := Lib.hid (HQ3.out.below ((Below.refl W3.heap.size W3).drew))
      have HT3 := Lib.hid (HT3.out.below ((Below.refl W3.heap.size W3).drew))
      have HF3 := Lib.hid (HF3.out.below ((Below.refl W3.heap.size W3).drew))
      have HSS := Lib.hid (show W3.drew.cell? ⟨w.heap.size, 2, none⟩ = some (.slice none 0 0) ∧ W3.drew.cell? ⟨F, 0, none⟩ = some (.int .i64 3) ∧ W3.drew.cell? ⟨F, 1, none⟩ = some (.int .i64 100) from ⟨HT3.out.c2, HF3.out.c0, HF3.out.c1⟩)
      clear HSp0 h13
      refine gk_region (fun x => x.cell? ⟨w.heap.size, 2, none⟩ = some (.slice none 0 0) ∧ x.cell? ⟨F, 0, none⟩ = some (.int .i64 3) ∧ x.cell? ⟨F, 1, none⟩ = some (.int .i64 100)) (fun j => j == 9) (by kernel_rfl) ?_
      refine gk_take (i := 0) (v := ?_) rfl (by kernel_rfl) (by kernel_rfl) (by kernel_rfl) (by kernel_rfl) (fun _ _ _ h => h) (Or.inl ⟨by kernel_rfl, ?_⟩) HSS.out ?_
      rotate_left
      · ((intro x hx; obtain ⟨hx0, hx1, hx2⟩ := hx; go_simp) <;> with_reducible rfl)
      try simp only [Act.put, List.setIfInBounds_toArray, List.set_cons_zero, List.set_cons_succ]
      refine gk_take (i := 1) (v := ?_) rfl (by kernel_rfl) (by kernel_rfl) (by kernel_rfl) (by kernel_rfl) (fun _ _ _ h => h) (Or.inl ⟨by kernel_rfl, ?_⟩) HSS.out ?_
      rotate_left
      · ((intro x hx; obtain ⟨hx0, hx1, hx2⟩ := hx; go_simp) <;> with_reducible rfl)
      try simp only [Act.put, List.setIfInBounds_toArray, List.set_cons_zero, List.set_cons_succ]
      refine gk_take (i := 2) (v := ?_) rfl (by kernel_rfl) (by kernel_rfl) (by kernel_rfl) (by kernel_rfl) (fun _ _ _ h => h) (Or.inl ⟨by kernel_rfl, ?_⟩) HSS.out ?_
      rotate_left
      · ((intro x hx; obtain ⟨hx0, hx1, hx2⟩ := hx; go_simp) <;> with_reducible rfl)
      try simp only [Act.put, List.setIfInBounds_toArray, List.set_cons_zero, List.set_cons_succ]
      refine gk_take (i := 3) (v := ?_) rfl (by kernel_rfl) (by kernel_rfl) (by kernel_rfl) (by kernel_rfl) (fun _ _ _ h => h) (Or.inl ⟨by kernel_rfl, ?_⟩) HSS.out ?_
      rotate_left
      · ((intro x hx; obtain ⟨hx0, hx1, hx2⟩ := hx; go_simp) <;> with_reducible rfl)
      try simp only [Act.put, List.setIfInBounds_toArray, List.set_cons_zero, List.set_cons_succ]
      refine gk_one (i := 4) rfl (by kernel_rfl) (fun K hK => ?_)
      go_simp
      go_at_call 34
      refine HSp.out.mono ?_
      rintro e w4 ⟨rfl, hp⟩
      have h4 := wdp_all hp HQ3.out (by omega)
      have HT4 := Lib.hid (HT3.out.grown h4.1 (by omega))
      have HF4 := Lib.hid (HF3.out.grown h4.1 (by omega))
      have HSS4 := Lib.hid (show w4.cell? ⟨w.heap.size, 2, none⟩ = some (.slice none 0 0) ∧ w4.cell? ⟨F, 0, none⟩ = some (.int .i64 3) ∧ w4.cell? ⟨F, 1, none⟩ = some (.int .i64 100) from ⟨HT4.out.c2, HF4.out.c0, HF4.out.c1⟩)
      have HQ4 := Lib.hid h4.2
      have HG4 := Lib.hid (grown_trans HG3.out (grown_trans (below_grown ((Below.refl W3.heap.size W3).drew)) h4.1))
      have hs4 : W3.heap.size ≤ w4.heap.size := h4.1.size
      clear hp h4
      refine hK _ _ (fun _ => HSS4.out) ?_
      clear hK K
      try simp only [Act.put, List.setIfInBounds_toArray, List.set_cons_zero, List.set_cons_succ]
      refine gk_take (i := 5) (v := ?_) rfl (by kernel_rfl) (by kernel_rfl) (by kernel_rfl) (by kernel_rfl) (fun _ _ _ h => h) (Or.inl ⟨by kernel_rfl, ?_⟩) HSS4.out ?_
      rotate_left
      · ((intro x hx; obtain ⟨hx0, hx1, hx2⟩ := hx; go_simp) <;> with_reducible rfl)
      try simp only [Act.put, List.setIfInBounds_toArray, List.set_cons_zero, List.set_cons_succ]
      refine gk_one (i := 6) rfl (by kernel_rfl) (fun K hK => ?_)
      go_simp
      have hb5 : Below w4.heap.size w4 (w4.alloc (Obj.cells #[.int .i64 10, .int .i64 3, .int .i64 100] 44)) := (Below.refl _ _).alloc (Nat.le_refl _) _
      have HT5 := Lib.hid (HT4.out.below hb5)
      have HF5 := Lib.hid (HF4.out.below hb5)
      have HQ5 := Lib.hid (HQ4.out.below hb5)
      have HSS5 := Lib.hid (show (w4.alloc (Obj.cells #[.int .i64 10, .int .i64 3, .int .i64 100] 44)).cell? ⟨w.heap.size, 2, none⟩ = some (.slice none 0 0) ∧ (w4.alloc (Obj.cells #[.int .i64 10, .int .i64 3, .int .i64 100] 44)).cell? ⟨F, 0, none⟩ = some (.int .i64 3) ∧ (w4.alloc (Obj.cells #[.int .i64 10, .int .i64 3, .int .i64 100] 44)).cell? ⟨F, 1, none⟩ = some (.int .i64 100) from ⟨HT5.out.c2, HF5.out.c0, HF5.out.c1⟩)
      have HG5 := Lib.hid (grown_below HG4.out (hb5.mono HG4.out.size))
      have hs5 := hb5.size
      refine hK _ _ (fun _ => HSS5.out) ?_
      clear hK K
      try simp only [Act.put, List.setIfInBounds_toArray, List.set_cons_zero, List.set_cons_succ]
      refine gk_one (i := 7) rfl (by kernel_rfl) (fun K hK => ?_)
      rw [if_pos (by kernel_rfl)]
      refine wp_append_own _ (.tmp 11) (.tmp 16) _ rfl (w.heap.size + 1) 44 i0 _ 3 24 und_cuts hi hz0 hz1 hz2 rfl (by decide) _ 0 [] rfl (World.ownsRow_nil _ _ _ _) ⟨w4.heap.size, 0, none⟩ 1 1 [.int .i64 10, .int .i64 3, .int .i64 100] rfl rfl ?_ ?_ (by unfold maxLen; omega) (by omega) (by simp; omega) ?_
      · intro j u hj
        rw [addr_is, World.cell?_alloc_at _ _ _ _ rfl]
        simpa using hj
      · intro u hu; simp at hu; rcases hu with rfl | rfl | rfl <;> rfl
      intro v6 w6 hown hgr _
      rw [Nat.zero_add, List.nil_append] at hown
      obtain ⟨C, cap, rfl, hC1, hC2, hC3⟩ := row_cut hown
      have hb6 : Below (w4.alloc (Obj.cells #[.int .i64 10, .int .i64 3, .int .i64 100] 44)).heap.size (w4.alloc (Obj.cells #[.int .i64 10, .int .i64 3, .int .i64 100] 44)) w6 := (Below.refl _ _).grown hgr (Nat.le_refl _) (by intro k hk; cases hk)
      have HT6 := Lib.hid (HT5.out.below hb6)
      have HF6 := Lib.hid (HF5.out.below hb6)
      have HQ6 := Lib.hid (HQ5.out.below hb6)
      have HSS6 := Lib.hid (show w6.cell? ⟨w.heap.size, 2, none⟩ = some (.slice none 0 0) ∧ w6.cell? ⟨F, 0, none⟩ = some (.int .i64 3) ∧ w6.cell? ⟨F, 1, none⟩ = some (.int .i64 100) from ⟨HT6.out.c2, HF6.out.c0, HF6.out.c1⟩)
      have HG6 := Lib.hid (grown_below HG5.out (hb6.mono HG5.out.size))
      have HC6 := Lib.hid hC3
      have HCl := Lib.hid (And.intro hC1 hC2)
      have z2 := HT6.out.c2
      have f2 := HT6.out.f2
      clear hown hgr hb6 hC1 hC2 hC3
      refine hK _ _ (fun _ => HSS6.out) ?_
      clear hK K
      try simp only [Act.put, List.setIfInBounds_toArray, List.set_cons_zero, List.set_cons_succ]
      refine gk_take (i := 8) (v := ?_) rfl (by kernel_rfl) (by kernel_rfl) (by kernel_rfl) (by kernel_rfl) (fun _ _ _ h => h) (Or.inl ⟨by kernel_rfl, ?_⟩) HSS6.out ?_
      rotate_left
      · ((intro x hx; obtain ⟨hx0, hx1, hx2⟩ := hx; go_simp) <;> with_reducible rfl)
      try simp only [Act.put, List.setIfInBounds_toArray, List.set_cons_zero, List.set_cons_succ]
      refine gk_one (i := 9) rfl (by kernel_rfl) (fun K hK => ?_)
      go_simp
      refine hK _ _ (fun h => by cases h) ?_
      clear hK K
      try simp only [Act.put, List.setIfInBounds_toArray, List.set_cons_zero, List.set_cons_succ]
      refine gk_done (by kernel_rfl) ?_ _
      try simp only [Act.put, List.setIfInBounds_toArray, List.set_cons_zero, List.set_cons_succ]
      try go_simp
      have HSt := Lib.hid (show StB B g c w (w6.setCell ⟨w.heap.size, 2, none⟩ (.slice (some ⟨C, 0, none⟩) 1 cap)) from
        ⟨⟨C, cap, HT6.out.set2 _, rowC_set HC6.out (by have := HCl.out.1; omega), by have := HCl.out.1; omega, by have := HCl.out.1; omega⟩, by have q := HQ6.out.far (show B ≠ w.heap.size by omega) (j := 2) (.slice (some ⟨C, 0, none⟩) 1 cap); rwa [show c - 1 - 1 = c - 2 by omega] at q,
          grown_cell (grown_set HG6.out (Nat.le_refl _) 2 _) HTx.out.2.2.1 hne, grown_cell (grown_set HG6.out (Nat.le_refl _) 2 _) HTx.out.2.2.2 hne, grown_set HG6.out (Nat.le_refl _) 2 _⟩)
      have HM1 := Lib.hid (slM_nil (w := w) (Q3.alloc w (.int .i64 0) (.bool false) (.slice none 0 0) 24))
      have HM2 := Lib.hid (slM_some (w := w) (HT6.out.set2 (.slice (some ⟨C, 0, none⟩) 1 cap)))
      clear HT6 HF6 HQ6 HSS6 HG6 HC6 HCl z2 f2 HSS HSS4 HSS5 HT3 HT4 HT5 HF3 HF4 HF5 HQ3 HQ4 HQ5 HG3 HG4 HG5 HSp
      generalize w6.setCell ⟨w.heap.size, 2, none⟩ (.slice (some ⟨C, 0, none⟩) 1 cap) = w7 at *
      go_wp2
      go_roundw
      case rel => exact .inr HSt.out
      case measure => rw [HM1.out, HM2.out]; omega
    · obtain ⟨⟨C, cap, hT, hC, hC0, hCB⟩, hq, hc2, hc3, hgr⟩ := hst
      have hs := hgr.size
      have ha1 : Below wr.heap.size wr (wr.alloc (Obj.cells #[.string ⟨#[110, 101, 116]⟩, .string ⟨#[101, 111, 109]⟩] 9)) := (Below.refl _ _).alloc (Nat.le_refl _) _
      have hs1 : (wr.alloc (Obj.cells #[.string ⟨#[110, 101, 116]⟩, .string ⟨#[101, 111, 109]⟩] 9)).heap.size = wr.heap.size + 1 := by simp
      have ha2 : Below (wr.alloc (Obj.cells #[.string ⟨#[110, 101, 116]⟩, .string ⟨#[101, 111, 109]⟩] 9)).heap.size (wr.alloc (Obj.cells #[.string ⟨#[110, 101, 116]⟩, .string ⟨#[101, 111, 109]⟩] 9)) ((wr.alloc (Obj.cells #[.string ⟨#[110, 101, 116]⟩, .string ⟨#[101, 111, 109]⟩] 9)).alloc (Obj.cells #[.string ⟨#[101, 111, 109]⟩] 9)) := (Below.refl _ _).alloc (Nat.le_refl _) _
      have hb2 := ha1.trans (ha2.mono (by omega))
      have hlg2 : g < wr.heap.size := by omega
      have HI1 := Lib.hid (show Calls Tryd.prog 32 #[.pointer (some ⟨B, 0, none⟩), .slice (some ⟨wr.heap.size, 0, none⟩) 2 2] (wr.alloc (Obj.cells #[.string ⟨#[110, 101, 116]⟩, .string ⟨#[101, 111, 109]⟩] 9)) fun e w' => e = .returned (.bool true) ∧ w' = wr.alloc (Obj.cells #[.string ⟨#[110, 101, 116]⟩, .string ⟨#[101, 111, 109]⟩] 9) from by
        have q := isAt_any B g 6 1 (c - 2) wr.heap.size 2 [⟨#[110, 101, 116]⟩, ⟨#[101, 111, 109]⟩] ⟨#[110, 101, 116]⟩ (wr.alloc (Obj.cells #[.string ⟨#[110, 101, 116]⟩, .string ⟨#[101, 111, 109]⟩] 9)) (hq.below ha1) (by rw [ha1.cell hlg2]; exact hc2) (by simp) (net_eom wr)
        rw [cs3] at q
        exact q)
      have HI2 := Lib.hid (show Calls Tryd.prog 32 #[.pointer (some ⟨B, 0, none⟩), .slice (some ⟨wr.heap.size + 1, 0, none⟩) 1 1] ((wr.alloc (Obj.cells #[.string ⟨#[110, 101, 116]⟩, .string ⟨#[101, 111, 109]⟩] 9)).alloc (Obj.cells #[.string ⟨#[101, 111, 109]⟩] 9)) fun e w' => e = .returned (.bool false) ∧ w' = (wr.alloc (Obj.cells #[.string ⟨#[110, 101, 116]⟩, .string ⟨#[101, 111, 109]⟩] 9)).alloc (Obj.cells #[.string ⟨#[101, 111, 109]⟩] 9) from by
        have q := isAt_any B g 6 1 (c - 2) (wr.alloc (Obj.cells #[.string ⟨#[110, 101, 116]⟩, .string ⟨#[101, 111, 109]⟩] 9)).heap.size 1 [⟨#[101, 111, 109]⟩] ⟨#[110, 101, 116]⟩ ((wr.alloc (Obj.cells #[.string ⟨#[110, 101, 116]⟩, .string ⟨#[101, 111, 109]⟩] 9)).alloc (Obj.cells #[.string ⟨#[101, 111, 109]⟩] 9)) (hq.below hb2) (by rw [hb2.cell hlg2]; exact hc2) (by simp) (one_eom (wr.alloc (Obj.cells #[.string ⟨#[110, 101, 116]⟩, .string ⟨#[101, 111, 109]⟩] 9)))
        rw [cs4, hs1] at q
        exact q)
      have hT2 := hT.below hb2
      have HT2 := Lib.hid hT2
      have HQ2 := Lib.hid (hq.below hb2)
      have HC2 := Lib.hid (hC.below hb2)
      have HG2 := Lib.hid (grown_below hgr (hb2.mono hs))
      have h23 : ((wr.alloc (Obj.cells #[.string ⟨#[110, 101, 116]⟩, .string ⟨#[101, 111, 109]⟩] 9)).alloc (Obj.cells #[.string ⟨#[101, 111, 109]⟩] 9)).cell? ⟨g, 6 + 1, none⟩ = some (.string ⟨#[110, 101, 116]⟩) := by rw [hb2.cell hlg2]; exact hc2
      have HW0 := Lib.hid (fun W (h : Q1 W B (.slice (some ⟨g, 6, none⟩) 2 (c - 2))) h2 => word_gen B g 6 1 (c - 2) ⟨#[110, 101, 116]⟩ W h h2 (by omega) (by omega))
      have HS0 := Lib.hid (fun W (h : Q1 W B (.slice (some ⟨g, 9, none⟩) 1 (c - 2 - 1))) h2 => span_any B g 9 0 (c - 2 - 1) ⟨#[51, 48]⟩ 30 W h h2 (by omega) (by omega) (by decide) pv30)
      have HTA := Lib.hid (HT2.out.set1 (.bool false))
      have HQA := Lib.hid (HQ2.out.far (show B ≠ w.heap.size by omega) (j := 1) (.bool false))
      have HCA := Lib.hid (And.intro HC2.out hC0)
      have HGA := Lib.hid (grown_set HG2.out (Nat.le_refl _) 1 (.bool false))
      have hA : ((((wr.alloc (Obj.cells #[.string ⟨#[110, 101, 116]⟩, .string ⟨#[101, 111, 109]⟩] 9)).alloc (Obj.cells #[.string ⟨#[101, 111, 109]⟩] 9)).setCell ⟨w.heap.size, 1, none⟩ (.bool false))).cell? ⟨g, 6 + 1, none⟩ = some (.string ⟨#[110, 101, 116]⟩) := grown_cell HGA.out HTx.out.2.2.1 hne
      have HW := Lib.hid (HW0.out _ HQA.out hA)
      have HWA := Lib.hid (rowC_set (P := w.heap.size) (i := 1) (v := .bool false) HC2.out hC0)
      clear hA HW0 HC2 HG2 HQ2
      have x1 := HT2.out.c1
      have f1 := HT2.out.f1
      clear hq hc2 hc3 hgr ha1 hs1 ha2 hT hT2 hC
      go_wp2_with fail
      refine HI1.out.mono ?_
      rintro e w_ ⟨rfl, rfl⟩
      go_wp2_with fail
      refine HI2.out.mono ?_
      rintro e w_ ⟨rfl, rfl⟩
      go_wp2_with fail
      clear x1 f1
      refine HW.out.mono ?_
      rintro e w4 ⟨rfl, hp⟩
      have h4 := wdp_all hp HQA.out (by omega)
      have hC4 : RowC w4 (some ⟨C, 0, none⟩) [(10, 3, 100)] := by obtain ⟨o, _, rfl⟩ := hp; exact rowC_set HWA.out hCB
      have HT4 := Lib.hid (HTA.out.grown h4.1 (by omega))
      have HG4 := Lib.hid (grown_trans HGA.out h4.1)
      have HC4 := Lib.hid hC4
      have HS := Lib.hid (HS0.out w4 h4.2 (grown_cell HG4.out HTx.out.2.2.2 hne))
      clear h4 hp hC4 HW HWA HTA HQA HGA HS0 HCA HT2
      go_wp2_with fail
      refine HS.out.mono ?_
      rintro e w5 ⟨rfl, hp⟩
      have hg5 : w4.grownBy w5 (some B) := by obtain ⟨o, _, rfl⟩ := hp; exact setCell_grown _ _ _ _
      have hC5 : RowC w5 (some ⟨C, 0, none⟩) [(10, 3, 100)] := by obtain ⟨o, _, rfl⟩ := hp; exact rowC_set HC4.out hCB
      have H5 := Lib.hid (HT4.out.grown hg5 (by omega))
      have HG5 := Lib.hid (grown_trans HG4.out hg5)
      have HG6 := Lib.hid (grown_set (grown_set (grown_set (grown_set HG5.out (Nat.le_refl _) 0 (.int .i64 30)) (Nat.le_refl _) 0 (.int .i64 30)) (Nat.le_refl _) 1 (.bool false)) (Nat.le_refl _) 2 (.slice (some ⟨C, 0, none⟩) 1 cap))
      have HC6 := Lib.hid (rowC_set (P := w.heap.size) (i := 2) (v := .slice (some ⟨C, 0, none⟩) 1 cap) (rowC_set (P := w.heap.size) (i := 1) (v := .bool false) (rowC_set (P := w.heap.size) (i := 0) (v := .int .i64 30) (rowC_set (P := w.heap.size) (i := 0) (v := .int .i64 30) hC5 hC0) hC0) hC0) hC0)
      clear hp hg5 hC5 HS HC4 HT4 HG4
      have y0 := H5.out.c0
      have y1 := H5.out.c1
      have y2 := H5.out.c2
      have f0 := H5.out.f0
      have f1 := H5.out.f1
      have f2 := H5.out.f2
      have H6 := Lib.hid (H5.out.set0 (.int .i64 30))
      have z1 := H6.out.c1
      have z2 := H6.out.c2
      have z0 := H6.out.c0
      go_wp2
      (try simp only [Exit.inBlock, Exit.then])
      refine bodyPost_ret (v := .agg #[.int .i64 30, .bool false, .slice (some ⟨C, 0, none⟩) 1 cap]) ?_ rfl ⟨C, cap, rfl, HC6.out, HG6.out⟩
      have u0 := H6.out.c0
      have u1 := H6.out.c1
      have u2 := H6.out.c2
      rw [results_cell_one rfl]
      go_simp
end Go.Proofs.YtkpdbhpmnegahaaDoor
namespace Go.Proofs.YtkpdbhpmnegahaaDoor
open Go.RowKit Go.Sort
set_option linter.unusedVariables false
set_option linter.unusedSimpArgs false

theorem resP : Tryd.f8.results = #[.cell 2 24, .cell 3 26] := by kernel_rfl
def LX : List Ct := [(10, 3, 100)]
theorem exA : tmS 10 true [] = ⟨#[101, 111, 109, 32, 49, 48]⟩ ∧ tmE 10 [] = 0 := by decide +kernel
theorem exB : tmS 30 false LX = ⟨#[51, 47, 49, 48, 48, 32, 49, 48, 32, 110, 101, 116, 32, 51, 48]⟩ ∧ tmE 30 LX = 0 := by decide +kernel
theorem txA (w : World) : Calls Tryd.prog 6 #[.agg #[.int .i64 10, .bool true, .slice none 0 0]] w fun e w' => e = .returned (.tuple #[.string ⟨#[101, 111, 109, 32, 49, 48]⟩, .int .i64 0]) ∧ Below w.heap.size w w' := by
  have q := text_tm 10 true none 0 [] w ⟨by omega, by omega⟩ (fun h => absurd h (by simp)) (fun c hc => by cases hc) (by simp)
  rw [exA.1, exA.2] at q
  exact q
theorem txB (C cap : Nat) (w : World) (hR : RowC w (some ⟨C, 0, none⟩) [(10, 3, 100)]) : Calls Tryd.prog 6 #[.agg #[.int .i64 30, .bool false, .slice (some ⟨C, 0, none⟩) 1 cap]] w fun e w' => e = .returned (.tuple #[.string ⟨#[51, 47, 49, 48, 48, 32, 49, 48, 32, 110, 101, 116, 32, 51, 48]⟩, .int .i64 0]) ∧ Below w.heap.size w w' := by
  have q := text_tm 30 false (some ⟨C, 0, none⟩) cap LX w ⟨by omega, by omega⟩ hR (fun c hc => by simp [LX] at hc; subst hc; exact ⟨⟨by decide, by decide⟩, ⟨by decide, by decide⟩, by decide, by decide⟩) (by unfold maxLen LX; simp)
  rw [exB.1, exB.2] at q
  exact q
set_option maxRecDepth 100000 in
set_option maxHeartbeats 2000000 in
theorem parseA (w : World) : Calls Tryd.prog 8 #[.string ⟨#[101, 111, 109, 32, 49, 48]⟩] w fun e w' => e = .returned (.tuple #[.agg #[.int .i64 10, .bool true, .slice none 0 0], .int .i64 0]) ∧ Below w.heap.size w w' := by
  have hmf : ∀ (fn : Fn) (first cap : Array Value) (w : World), (Instr.makeFunc fn first cap).run Tryd.prog w = .ok (.func fn first cap) w := fun _ _ _ _ => rfl
  have HC := Lib.hid (fun W => cut_words cutA (by decide) (by decide) W)
  have HD := Lib.hid (fun W => demand_ok W)
  have HDn := Lib.hid (fun W => demand_no W)
  have ha0 : Below w.heap.size w (w.alloc (Obj.cells #[.int .i64 0, .bool false, .slice none 0 0] 24)) := (Below.refl _ _).alloc (Nat.le_refl _) _
  have hs0 : (w.alloc (Obj.cells #[.int .i64 0, .bool false, .slice none 0 0] 24)).heap.size = w.heap.size + 1 := by simp
  have ha1 : Below (w.alloc (Obj.cells #[.int .i64 0, .bool false, .slice none 0 0] 24)).heap.size (w.alloc (Obj.cells #[.int .i64 0, .bool false, .slice none 0 0] 24)) ((w.alloc (Obj.cells #[.int .i64 0, .bool false, .slice none 0 0] 24)).alloc (Obj.cells #[.int .i64 0] 26)) := (Below.refl _ _).alloc (Nat.le_refl _) _
  have HT1 := Lib.hid ((Q3.alloc w (.int .i64 0) (.bool false) (.slice none 0 0) 24).below ha1)
  have HE1 := Lib.hid (show Q1 ((w.alloc (Obj.cells #[.int .i64 0, .bool false, .slice none 0 0] 24)).alloc (Obj.cells #[.int .i64 0] 26)) (w.heap.size + 1) (.int .i64 0) from by have q := Q1.alloc (w.alloc (Obj.cells #[.int .i64 0, .bool false, .slice none 0 0] 24)) (.int .i64 0) 26; rwa [hs0] at q)
  have HB1 := Lib.hid (ha0.trans (ha1.mono (by omega)))
  have hs1 : ((w.alloc (Obj.cells #[.int .i64 0, .bool false, .slice none 0 0] 24)).alloc (Obj.cells #[.int .i64 0] 26)).heap.size = w.heap.size + 1 + 1 := by simp
  clear ha0 ha1 hs0
  go_enter_defers Tryd.func8, Tryd.ntmps8
  go_wp2_with fail
  refine (HC.out _).mono ?_
  rintro e w2 ⟨g, cp, rfl, hcl, hcm, hg1, hg2, hTx, hb⟩
  have hs2 : w.heap.size + 1 + 1 ≤ w2.heap.size := by have := hb.size; omega
  have HT2 := Lib.hid (HT1.out.below hb)
  have HE2 := Lib.hid (HE1.out.below hb)
  have HB2 := Lib.hid (HB1.out.trans (hb.mono HB1.out.size))
  have HTx := Lib.hid hTx
  have HG := Lib.hid (And.intro hcl (And.intro hcm (And.intro (show w.heap.size + 1 + 1 ≤ g by omega) hg2)))
  clear hb hTx hcl hcm hg1 HT1 HE1 HB1 hs1
  have x0 := HE2.out.c0
  have y0 := HE2.out.f0
  have HT3 := Lib.hid (HT2.out.far (show w.heap.size ≠ w.heap.size + 1 by omega) (j := 0) (.int .i64 0))
  have HE3 := Lib.hid (HE2.out.set0 (.int .i64 0))
  have HB3 := Lib.hid (HB2.out.setCell (p := ⟨w.heap.size + 1, 0, none⟩) (by dsimp only; omega) (.int .i64 0))
  have HX3 := Lib.hid (show TxtR (w2.setCell ⟨w.heap.size + 1, 0, none⟩ (.int .i64 0)) g LA from fun i hi => by
    rw [World.cell?_setCell_other _ _ _ _ (by intro e; injection e with e; have := HG.out.2.2.1; omega)]
    exact HTx.out i hi)
  have hs3 : (w2.setCell ⟨w.heap.size + 1, 0, none⟩ (.int .i64 0)).heap.size = w2.heap.size := by simp
  have hg3 : g < (w2.setCell ⟨w.heap.size + 1, 0, none⟩ (.int .i64 0)).heap.size := by rw [hs3]; exact HG.out.2.2.2
  clear HT2 HE2 HB2 HTx
  have z0 := HE3.out.c0
  go_wp2_with fail
  refine (HD.out _).mono ?_
  rintro e w_ ⟨rfl, rfl⟩
  clear x0 y0
  obtain ⟨W3, hW3⟩ : ∃ W, w2.setCell ⟨w.heap.size + 1, 0, none⟩ (.int .i64 0) = W := ⟨_, rfl⟩
  rw [hW3] at HT3 HE3 HB3 HX3 hs3 hg3 z0
  (try rw [hW3])
  clear hW3
  have ha4 : Below W3.heap.size W3 (W3.alloc (Obj.cells #[.slice (some ⟨g, 0, none⟩) 2 cp] 56)) := (Below.refl _ _).alloc (Nat.le_refl _) _
  have HP4 := Lib.hid (Q1.alloc W3 (.slice (some ⟨g, 0, none⟩) 2 cp) 56)
  have HT4 := Lib.hid (HT3.out.below ha4)
  have HE4 := Lib.hid (HE3.out.below ha4)
  have HB4 := Lib.hid (HB3.out.trans (ha4.mono HB3.out.size))
  have HTm := Lib.hid (termsA W3.heap.size g cp _ HP4.out (fun i hi => by rw [ha4.cell hg3]; exact HX3.out i hi) (Nat.lt_of_lt_of_le hg3 ha4.size) (by omega) HG.out.1 HG.out.2.1)
  have hs4 : w.heap.size + 1 + 1 ≤ W3.heap.size := by omega
  clear ha4 HT3 HE3 HB3 HX3 hg3 z0 hs3
  go_wp2_with fail
  refine HTm.out.mono ?_
  rintro e w5 ⟨rfl, hgr⟩
  have HT5 := Lib.hid (HT4.out.grown hgr (by omega))
  have HE5 := Lib.hid (HE4.out.grown hgr (by omega))
  have HB5 := Lib.hid (show Below w.heap.size w w5 from HB4.out.trans ⟨hgr.os, hgr.tape, hgr.output, hgr.size, fun k hk => hgr.block k (by have := HB4.out.size; omega) (by intro e; injection e with e; omega)⟩)
  have hs5 : w.heap.size + 1 + 1 ≤ w5.heap.size := by have := hgr.size; simp at this; omega
  clear hgr HT4 HE4 HB4 HP4 HTm
  
  have ha6 : Below w5.heap.size w5 (w5.alloc (Obj.cells #[.int .i64 10, .bool true, .slice none 0 0] 24)) := (Below.refl _ _).alloc (Nat.le_refl _) _
  have HR6 := Lib.hid (Q3.alloc w5 (.int .i64 10) (.bool true) (.slice none 0 0) 24)
  have HT6 := Lib.hid (HT5.out.below ha6)
  have HE6 := Lib.hid (HE5.out.below ha6)
  have HB6 := Lib.hid (HB5.out.trans (ha6.mono HB5.out.size))
  have HX := Lib.hid (fun W => txA W)
  clear ha6 HT5 HE5 HB5
  obtain ⟨R, hR⟩ : ∃ R, w5.heap.size = R := ⟨_, rfl⟩
  have HRl := Lib.hid (show w.heap.size + 1 + 1 ≤ R by omega)
  rw [hR] at HR6
  have u0 := HR6.out.c0
  have u1 := HR6.out.c1
  have u2 := HR6.out.c2
  go_wp2_with fail
  refine (HX.out _ ).mono ?_
  rintro e w7 ⟨rfl, hb⟩
  clear u0 u1 u2
  have HT7 := Lib.hid (HT6.out.below hb)
  have HE7 := Lib.hid (HE6.out.below hb)
  have HR7 := Lib.hid (HR6.out.below hb)
  have HB7 := Lib.hid (HB6.out.trans (hb.mono HB6.out.size))
  clear hb HT6 HE6 HR6 HB6
  have HE8 := Lib.hid (HE7.out.set0 (.int .i64 0))
  have HT8 := Lib.hid (HT7.out.far (show w.heap.size ≠ w.heap.size + 1 by omega) (j := 0) (.int .i64 0))
  have HB8 := Lib.hid (HB7.out.setCell (p := ⟨w.heap.size + 1, 0, none⟩) (by dsimp only; omega) (.int .i64 0))
  have HR8 := Lib.hid (HR7.out.far (show R ≠ w.heap.size + 1 by have := HRl.out; omega) (j := 0) (.int .i64 0))
  have x0 := HE7.out.c0
  have y0 := HE7.out.f0
  have z0 := HE8.out.c0
  go_wp2_with fail
  refine (HD.out _).mono ?_
  rintro e w_ ⟨rfl, rfl⟩
  clear x0 y0 z0
  have x0 := HE8.out.c0
  have y0 := HE8.out.f0
  have u0 := HR8.out.c0
  have u1 := HR8.out.c1
  have u2 := HR8.out.c2
  have t0 := HT8.out.c0
  have t1 := HT8.out.c1
  have t2 := HT8.out.c2
  have g0 := HT8.out.f0
  have g1 := HT8.out.f1
  have g2 := HT8.out.f2
  have H9 := Lib.hid (HT8.out.set0 (.int .i64 10))
  have g3 := H9.out.f1
  have t3 := H9.out.c1
  have H10 := Lib.hid (H9.out.set1 (.bool true))
  have g4 := H10.out.f2
  have t4 := H10.out.c2
  have H11 := Lib.hid (H10.out.set2 (.slice none 0 0))
  have HE11 := Lib.hid (((HE8.out.far (show w.heap.size + 1 ≠ w.heap.size by omega) (j := 0) (.int .i64 10)).far (show w.heap.size + 1 ≠ w.heap.size by omega) (j := 1) (.bool true)).far (show w.heap.size + 1 ≠ w.heap.size by omega) (j := 2) (.slice none 0 0))
  have HB11 := Lib.hid (((HB8.out.setCell (p := ⟨w.heap.size, 0, none⟩) (Nat.le_refl _) (.int .i64 10)).setCell (p := ⟨w.heap.size, 1, none⟩) (Nat.le_refl _) (.bool true)).setCell (p := ⟨w.heap.size, 2, none⟩) (Nat.le_refl _) (.slice none 0 0))
  have x3 := HE11.out.c0
  have y3 := HE11.out.f0
  have HE12 := Lib.hid (HE11.out.set0 (.int .i64 0))
  have HT12 := Lib.hid (H11.out.far (show w.heap.size ≠ w.heap.size + 1 by omega) (j := 0) (.int .i64 0))
  have HB12 := Lib.hid (HB11.out.setCell (p := ⟨w.heap.size + 1, 0, none⟩) (by dsimp only; omega) (.int .i64 0))
  go_wp2
  clear x0 y0 u0 u1 u2 t0 t1 t2 g0 g1 g2 g3 t3 g4 t4 x3 y3 H9 H10 H11 HE11 HB11 HE8 HT8 HB8 HR8
  generalize (((((w7.setCell ⟨w.heap.size + 1, 0, none⟩ (.int .i64 0)).setCell ⟨w.heap.size, 0, none⟩ (.int .i64 10)).setCell ⟨w.heap.size, 1, none⟩ (.bool true)).setCell ⟨w.heap.size, 2, none⟩ (.slice none 0 0)).setCell ⟨w.heap.size + 1, 0, none⟩ (.int .i64 0)) = W9 at *
  refine leaves_cons (f := 19) (args := #[.pointer (some ⟨w.heap.size, 0, none⟩), .pointer (some ⟨w.heap.size + 1, 0, none⟩)]) (by simp) (by simp [go_sem]) ?_
  refine (catch_idle ⟨w.heap.size, 0, none⟩ ⟨w.heap.size + 1, 0, none⟩ _).mono ?_
  rintro e u' w'' ⟨rfl, rfl, rfl⟩
  have t0 := HT12.out.c0
  have t1 := HT12.out.c1
  have t2 := HT12.out.c2
  have e0 := HE12.out.c0
  have hB := HB12.out
  simp [Leaves, settle, results, resP, go_sem, t0, t1, t2, e0]
  exact hB
set_option maxRecDepth 100000 in
set_option maxHeartbeats 2000000 in
theorem parseB (w : World) : Calls Tryd.prog 8 #[.string ⟨#[48, 46, 48, 51, 32, 49, 48, 32, 110, 101, 116, 32, 51, 48]⟩] w fun e w' => e = .returned (.tuple #[.agg #[.int .i64 0, .bool false, .slice none 0 0], .int .i64 5]) ∧ Below w.heap.size w w' := by
  have hmf : ∀ (fn : Fn) (first cap : Array Value) (w : World), (Instr.makeFunc fn first cap).run Tryd.prog w = .ok (.func fn first cap) w := fun _ _ _ _ => rfl
  have HC := Lib.hid (fun W => cut_words cutB (by decide) (by decide) W)
  have HD := Lib.hid (fun W => demand_ok W)
  have HDn := Lib.hid (fun W => demand_no W)
  have ha0 : Below w.heap.size w (w.alloc (Obj.cells #[.int .i64 0, .bool false, .slice none 0 0] 24)) := (Below.refl _ _).alloc (Nat.le_refl _) _
  have hs0 : (w.alloc (Obj.cells #[.int .i64 0, .bool false, .slice none 0 0] 24)).heap.size = w.heap.size + 1 := by simp
  have ha1 : Below (w.alloc (Obj.cells #[.int .i64 0, .bool false, .slice none 0 0] 24)).heap.size (w.alloc (Obj.cells #[.int .i64 0, .bool false, .slice none 0 0] 24)) ((w.alloc (Obj.cells #[.int .i64 0, .bool false, .slice none 0 0] 24)).alloc (Obj.cells #[.int .i64 0] 26)) := (Below.refl _ _).alloc (Nat.le_refl _) _
  have HT1 := Lib.hid ((Q3.alloc w (.int .i64 0) (.bool false) (.slice none 0 0) 24).below ha1)
  have HE1 := Lib.hid (show Q1 ((w.alloc (Obj.cells #[.int .i64 0, .bool false, .slice none 0 0] 24)).alloc (Obj.cells #[.int .i64 0] 26)) (w.heap.size + 1) (.int .i64 0) from by have q := Q1.alloc (w.alloc (Obj.cells #[.int .i64 0, .bool false, .slice none 0 0] 24)) (.int .i64 0) 26; rwa [hs0] at q)
  have HB1 := Lib.hid (ha0.trans (ha1.mono (by omega)))
  have hs1 : ((w.alloc (Obj.cells #[.int .i64 0, .bool false, .slice none 0 0] 24)).alloc (Obj.cells #[.int .i64 0] 26)).heap.size = w.heap.size + 1 + 1 := by simp
  clear ha0 ha1 hs0
  go_enter_defers Tryd.func8, Tryd.ntmps8
  go_wp2_with fail
  refine (HC.out _).mono ?_
  rintro e w2 ⟨g, cp, rfl, hcl, hcm, hg1, hg2, hTx, hb⟩
  have hs2 : w.heap.size + 1 + 1 ≤ w2.heap.size := by have := hb.size; omega
  have HT2 := Lib.hid (HT1.out.below hb)
  have HE2 := Lib.hid (HE1.out.below hb)
  have HB2 := Lib.hid (HB1.out.trans (hb.mono HB1.out.size))
  have HTx := Lib.hid hTx
  have HG := Lib.hid (And.intro hcl (And.intro hcm (And.intro (show w.heap.size + 1 + 1 ≤ g by omega) hg2)))
  clear hb hTx hcl hcm hg1 HT1 HE1 HB1 hs1
  have x0 := HE2.out.c0
  have y0 := HE2.out.f0
  have HT3 := Lib.hid (HT2.out.far (show w.heap.size ≠ w.heap.size + 1 by omega) (j := 0) (.int .i64 0))
  have HE3 := Lib.hid (HE2.out.set0 (.int .i64 0))
  have HB3 := Lib.hid (HB2.out.setCell (p := ⟨w.heap.size + 1, 0, none⟩) (by dsimp only; omega) (.int .i64 0))
  have HX3 := Lib.hid (show TxtR (w2.setCell ⟨w.heap.size + 1, 0, none⟩ (.int .i64 0)) g LB from fun i hi => by
    rw [World.cell?_setCell_other _ _ _ _ (by intro e; injection e with e; have := HG.out.2.2.1; omega)]
    exact HTx.out i hi)
  have hs3 : (w2.setCell ⟨w.heap.size + 1, 0, none⟩ (.int .i64 0)).heap.size = w2.heap.size := by simp
  have hg3 : g < (w2.setCell ⟨w.heap.size + 1, 0, none⟩ (.int .i64 0)).heap.size := by rw [hs3]; exact HG.out.2.2.2
  clear HT2 HE2 HB2 HTx
  have z0 := HE3.out.c0
  go_wp2_with fail
  refine (HD.out _).mono ?_
  rintro e w_ ⟨rfl, rfl⟩
  clear x0 y0
  obtain ⟨W3, hW3⟩ : ∃ W, w2.setCell ⟨w.heap.size + 1, 0, none⟩ (.int .i64 0) = W := ⟨_, rfl⟩
  rw [hW3] at HT3 HE3 HB3 HX3 hs3 hg3 z0
  (try rw [hW3])
  clear hW3
  have ha4 : Below W3.heap.size W3 (W3.alloc (Obj.cells #[.slice (some ⟨g, 0, none⟩) 4 cp] 56)) := (Below.refl _ _).alloc (Nat.le_refl _) _
  have HP4 := Lib.hid (Q1.alloc W3 (.slice (some ⟨g, 0, none⟩) 4 cp) 56)
  have HT4 := Lib.hid (HT3.out.below ha4)
  have HE4 := Lib.hid (HE3.out.below ha4)
  have HB4 := Lib.hid (HB3.out.trans (ha4.mono HB3.out.size))
  have HTm := Lib.hid (termsB W3.heap.size g cp _ HP4.out (fun i hi => by rw [ha4.cell hg3]; exact HX3.out i hi) (Nat.lt_of_lt_of_le hg3 ha4.size) (by omega) HG.out.1 HG.out.2.1)
  have hs4 : w.heap.size + 1 + 1 ≤ W3.heap.size := by omega
  clear ha4 HT3 HE3 HB3 HX3 hg3 z0 hs3
  go_wp2_with fail
  refine HTm.out.mono ?_
  rintro e w5 ⟨C, cap, rfl, hC, hgr⟩
  have HT5 := Lib.hid (HT4.out.grown hgr (by omega))
  have HE5 := Lib.hid (HE4.out.grown hgr (by omega))
  have HB5 := Lib.hid (show Below w.heap.size w w5 from HB4.out.trans ⟨hgr.os, hgr.tape, hgr.output, hgr.size, fun k hk => hgr.block k (by have := HB4.out.size; omega) (by intro e; injection e with e; omega)⟩)
  have hs5 : w.heap.size + 1 + 1 ≤ w5.heap.size := by have := hgr.size; simp at this; omega
  clear hgr HT4 HE4 HB4 HP4 HTm
  have HC := Lib.hid hC
  have ha6 : Below w5.heap.size w5 (w5.alloc (Obj.cells #[.int .i64 30, .bool false, .slice (some ⟨C, 0, none⟩) 1 cap] 24)) := (Below.refl _ _).alloc (Nat.le_refl _) _
  have HR6 := Lib.hid (Q3.alloc w5 (.int .i64 30) (.bool false) (.slice (some ⟨C, 0, none⟩) 1 cap) 24)
  have HT6 := Lib.hid (HT5.out.below ha6)
  have HE6 := Lib.hid (HE5.out.below ha6)
  have HB6 := Lib.hid (HB5.out.trans (ha6.mono HB5.out.size))
  have HC6 := Lib.hid (hC.below ha6)
  have HX := Lib.hid (fun W hr => txB C cap W hr)
  clear ha6 HT5 HE5 HB5
  obtain ⟨R, hR⟩ : ∃ R, w5.heap.size = R := ⟨_, rfl⟩
  have HRl := Lib.hid (show w.heap.size + 1 + 1 ≤ R by omega)
  rw [hR] at HR6
  have u0 := HR6.out.c0
  have u1 := HR6.out.c1
  have u2 := HR6.out.c2
  go_wp2_with fail
  refine (HX.out _ HC6.out).mono ?_
  rintro e w7 ⟨rfl, hb⟩
  clear u0 u1 u2
  have HT7 := Lib.hid (HT6.out.below hb)
  have HE7 := Lib.hid (HE6.out.below hb)
  have HR7 := Lib.hid (HR6.out.below hb)
  have HB7 := Lib.hid (HB6.out.trans (hb.mono HB6.out.size))
  clear hb HT6 HE6 HR6 HB6
  have HE8 := Lib.hid (HE7.out.set0 (.int .i64 0))
  have HT8 := Lib.hid (HT7.out.far (show w.heap.size ≠ w.heap.size + 1 by omega) (j := 0) (.int .i64 0))
  have HB8 := Lib.hid (HB7.out.setCell (p := ⟨w.heap.size + 1, 0, none⟩) (by dsimp only; omega) (.int .i64 0))
  have HR8 := Lib.hid (HR7.out.far (show R ≠ w.heap.size + 1 by have := HRl.out; omega) (j := 0) (.int .i64 0))
  have x0 := HE7.out.c0
  have y0 := HE7.out.f0
  have z0 := HE8.out.c0
  go_wp2_with fail
  refine (HDn.out _).mono ?_
  rintro e w_ ⟨rfl, rfl⟩
  clear x0 y0 z0
  go_wp2
  generalize w7.setCell ⟨w.heap.size + 1, 0, none⟩ (.int .i64 0) = W9 at *
  refine leaves_cons (f := 19) (args := #[.pointer (some ⟨w.heap.size, 0, none⟩), .pointer (some ⟨w.heap.size + 1, 0, none⟩)]) (by simp) (by simp [go_sem]) ?_
  refine (catch_panicking w.heap.size (w.heap.size + 1) _ _ _ _ (.int .i64 5) 26 (.int .i64 5) [] W9 HT8.out HE8.out (by omega)).mono ?_
  rintro e u' w'' ⟨rfl, rfl, rfl⟩
  have hT := ((HT8.out.set0 (.int .i64 0)).set1 (.bool false)).set2 (.slice none 0 0)
  have hT2 := hT.far (show w.heap.size ≠ w.heap.size + 1 by omega) (j := 0) (.int .i64 5)
  have hE2 := (((HE8.out.far (show w.heap.size + 1 ≠ w.heap.size by omega) (j := 0) (.int .i64 0)).far (show w.heap.size + 1 ≠ w.heap.size by omega) (j := 1) (.bool false)).far (show w.heap.size + 1 ≠ w.heap.size by omega) (j := 2) (.slice none 0 0)).set0 (.int .i64 5)
  have hB := (((HB8.out.setCell (p := ⟨w.heap.size, 0, none⟩) (Nat.le_refl _) (.int .i64 0)).setCell (p := ⟨w.heap.size, 1, none⟩) (Nat.le_refl _) (.bool false)).setCell (p := ⟨w.heap.size, 2, none⟩) (Nat.le_refl _) (.slice none 0 0)).setCell (p := ⟨w.heap.size + 1, 0, none⟩) (by dsimp only; omega) (.int .i64 5)
  generalize (((W9.setCell ⟨w.heap.size, 0, none⟩ (.int .i64 0)).setCell ⟨w.heap.size, 1, none⟩ (.bool false)).setCell ⟨w.heap.size, 2, none⟩ (.slice none 0 0)).setCell ⟨w.heap.size + 1, 0, none⟩ (.int .i64 5) = W10 at *
  have t0 := hT2.c0
  have t1 := hT2.c1
  have t2 := hT2.c2
  have e0 := hE2.c0
  simp [Leaves, settle, results, resP, go_sem, t0, t1, t2, e0]
  exact hB
end Go.Proofs.YtkpdbhpmnegahaaDoor
namespace Go.Proofs.YtkpdbhpmnegahaaDoor
open Go.RowKit Go.Sort
set_option linter.unusedVariables false
set_option linter.unusedSimpArgs false

theorem r64_small {x : Int} (h : -1000000 ≤ x) (h2 : x ≤ 1000000) : r64 x := ⟨by omega, by omega⟩
set_option maxRecDepth 100000 in
set_option maxHeartbeats 1000000 in
theorem rSame0 (w : World) : Calls Tryd.prog 9 #[.agg #[.int .i64 10, .bool true, .slice none 0 0], .agg #[.int .i64 10, .bool true, .slice none 0 0]] w fun e w' => e = .returned (.bool true) ∧ Below w.heap.size w w' := by
  have ha0 : Below w.heap.size w (w.alloc (Obj.cells #[.int .i64 10, .bool true, .slice none 0 0] 24)) := (Below.refl _ _).alloc (Nat.le_refl _) _
  have hs0 : (w.alloc (Obj.cells #[.int .i64 10, .bool true, .slice none 0 0] 24)).heap.size = w.heap.size + 1 := by simp
  have ha1 : Below (w.alloc (Obj.cells #[.int .i64 10, .bool true, .slice none 0 0] 24)).heap.size (w.alloc (Obj.cells #[.int .i64 10, .bool true, .slice none 0 0] 24)) ((w.alloc (Obj.cells #[.int .i64 10, .bool true, .slice none 0 0] 24)).alloc (Obj.cells #[.int .i64 10, .bool true, .slice none 0 0] 24)) := (Below.refl _ _).alloc (Nat.le_refl _) _
  have HP := Lib.hid ((Q3.alloc w (.int .i64 10) (.bool true) (.slice none 0 0) 24).below ha1)
  have HQ := Lib.hid (show Q3 ((w.alloc (Obj.cells #[.int .i64 10, .bool true, .slice none 0 0] 24)).alloc (Obj.cells #[.int .i64 10, .bool true, .slice none 0 0] 24)) (w.heap.size + 1) (.int .i64 10) (.bool true) (.slice none 0 0) from by have q := Q3.alloc (w.alloc (Obj.cells #[.int .i64 10, .bool true, .slice none 0 0] 24)) (.int .i64 10) (.bool true) (.slice none 0 0) 24; rwa [hs0] at q)
  have HB := Lib.hid (ha0.trans (ha1.mono (by omega)))
  clear ha0 hs0 ha1
  have x0 := HP.out.c0
  have x1 := HP.out.c1
  have x2 := HP.out.c2
  have y0 := HQ.out.c0
  have y1 := HQ.out.c1
  have y2 := HQ.out.c2
  go_enter Tryd.func9, Tryd.ntmps9
  go_wp2
  go_loop [5] (fun x => x = .int .i64 0) (fun _ => 0)
  case atStart => rfl
  case round =>
    subst hrel
    go_wp2
    go_ret
    exact ⟨rfl, HB.out⟩
theorem ex4 : tmS 30 false L2 = ⟨#[51, 47, 49, 48, 48, 32, 49, 48, 32, 49, 47, 53, 48, 32, 50, 48, 32, 110, 101, 116, 32, 51, 48]⟩ ∧ tmE 30 L2 = 0 := by decide +kernel
theorem dy1 (E : Int) : dyV 30 false L2 46000 E = (46030, 0) := by unfold dyV; rw [ex1]; simp
theorem ex5 : tmB 10 [] = true := by decide +kernel
theorem dy2 : dyV 10 true [] 45000 45014 = (45024, 0) := by unfold dyV; rw [ex5]; simp
theorem dues1 (net : Int) (eom : Bool) (A : Option Addr) (c : Nat) (L : List Ct) (day : Int) (hn : r64 net) (hBd : BdC L) (hl : L.length ≤ maxLen) (hd : r64 day) (h1 : 0 ≤ day) (h2 : day ≤ 109572) :
    ∃ E, ∀ w, Tab w → RowC w A L → Calls Tryd.prog 11 #[.agg #[.int .i64 net, .bool eom, .slice A L.length c], .int .i64 day] w fun e w' => e = .returned (.tuple #[.int .i64 (dyV net eom L day E).1, .int .i64 (dyV net eom L day E).2]) ∧ Below w.heap.size w w' := by
  obtain ⟨y, m, d, hI, a, b, e⟩ := end_ex h1 h2
  exact ⟨_, fun w ht hr => due_tm net eom A c L day _ w ht hn hr hBd hl hd (fun _ _ => ⟨a, b⟩) (fun _ _ W hT => monthEnd_any day y m d W hT hI)⟩
theorem due1 (b : Nat) (w : World) (ht : Tab w) (hr : RowC w (some ⟨b, 0, none⟩) L2) : Calls Tryd.prog 11 #[.agg #[.int .i64 30, .bool false, .slice (some ⟨b, 0, none⟩) 2 2], .int .i64 46000] w fun e w' => e = .returned (.tuple #[.int .i64 46030, .int .i64 0]) ∧ Below w.heap.size w w' := by
  obtain ⟨E, h1⟩ := dues1 30 false (some ⟨b, 0, none⟩) 2 L2 46000 (r64_small (by omega) (by omega)) bd2 (by unfold maxLen; simp [L2]) (r64_small (by omega) (by omega)) (by omega) (by omega)
  have q := h1 w ht hr
  rw [dy1] at q
  exact q
theorem isd : IsDate 45000 2023 3 17 := by
  refine ⟨?_, ?_⟩ <;> decide +kernel
theorem due2 (w : World) (ht : Tab w) : Calls Tryd.prog 11 #[.agg #[.int .i64 10, .bool true, .slice none 0 0], .int .i64 45000] w fun e w' => e = .returned (.tuple #[.int .i64 45024, .int .i64 0]) ∧ Below w.heap.size w w' := by
  have hE : ofN 2023 3 (lenV 2023 3) = 45014 := by decide +kernel
  have q := due_tm 10 true none 0 [] 45000 45014 w ht (r64_small (by omega) (by omega)) (fun h => absurd h (by simp)) (fun c hc => by cases hc) (by simp) (r64_small (by omega) (by omega)) (fun _ _ => by omega) (fun _ _ W hT => by have k := monthEnd_any 45000 2023 3 17 W hT isd; rw [hE] at k; exact k)
  rw [dy2] at q
  exact q
theorem cut1 (b : Nat) (w : World) (hr : RowC w (some ⟨b, 0, none⟩) L2) : Calls Tryd.prog 10 #[.agg #[.int .i64 30, .bool false, .slice (some ⟨b, 0, none⟩) 2 2], .int .i64 46000, .int .i64 46015] w fun e w' => e = .returned (.tuple #[.agg #[.int .i64 1, .int .i64 50], .int .i64 0]) ∧ Below w.heap.size w w' := by
  have q := cut_tm 30 false (some ⟨b, 0, none⟩) 2 L2 46000 46015 w (r64_small (by omega) (by omega)) hr bd2 (by unfold maxLen; simp [L2]) (r64_small (by omega) (by omega)) (r64_small (by omega) (by omega))
  rw [ex2] at q
  exact q
theorem cut2 (b : Nat) (w : World) (hr : RowC w (some ⟨b, 0, none⟩) L2) : Calls Tryd.prog 10 #[.agg #[.int .i64 30, .bool false, .slice (some ⟨b, 0, none⟩) 2 2], .int .i64 46000, .int .i64 46021] w fun e w' => e = .returned (.tuple #[.agg #[.int .i64 0, .int .i64 1], .int .i64 0]) ∧ Below w.heap.size w w' := by
  have q := cut_tm 30 false (some ⟨b, 0, none⟩) 2 L2 46000 46021 w (r64_small (by omega) (by omega)) hr bd2 (by unfold maxLen; simp [L2]) (r64_small (by omega) (by omega)) (r64_small (by omega) (by omega))
  rw [ex3] at q
  exact q
theorem text1 (b : Nat) (w : World) (hr : RowC w (some ⟨b, 0, none⟩) L2) : Calls Tryd.prog 6 #[.agg #[.int .i64 30, .bool false, .slice (some ⟨b, 0, none⟩) 2 2]] w fun e w' => e = .returned (.tuple #[.string ⟨#[51, 47, 49, 48, 48, 32, 49, 48, 32, 49, 47, 53, 48, 32, 50, 48, 32, 110, 101, 116, 32, 51, 48]⟩, .int .i64 0]) ∧ Below w.heap.size w w' := by
  have q := text_tm 30 false (some ⟨b, 0, none⟩) 2 L2 w (r64_small (by omega) (by omega)) hr bd2 (by unfold maxLen; simp [L2])
  rw [ex4.1, ex4.2] at q
  exact q
theorem right1 (b : Nat) (w : World) (hr : RowC w (some ⟨b, 0, none⟩) L2) : Calls Tryd.prog 7 #[.agg #[.int .i64 30, .bool false, .slice (some ⟨b, 0, none⟩) 2 2]] w fun e w' => e = .returned (.bool true) ∧ Below w.heap.size w w' := by
  have q := right_tm 30 false (some ⟨b, 0, none⟩) 2 L2 w (r64_small (by omega) (by omega)) hr bd2 (by unfold maxLen; simp [L2])
  rw [ex1] at q
  exact q
set_option maxRecDepth 100000 in
set_option maxHeartbeats 4000000 in
theorem lives_any (w : World) (ht : Tab w) : Calls Tryd.prog 5 #[] w fun e w' => e = .returned (.bool true) ∧ Below w.heap.size w w' := by
  have HT := Lib.hid ht
  have hE := eqFrYes
  clear ht
  go_enter Tryd.func5, Tryd.ntmps5
  go_wp2_with fail
  refine (usual_any _).mono ?_
  rintro e w1 ⟨b, rfl, hr, hb⟩
  have HB1 := Lib.hid (hb)
  have T_1 := Lib.hid (HT.out.below hb)
  have R_1 := Lib.hid hr
  clear hb HT hr
  have ha : Below w1.heap.size w1 (w1.alloc (Obj.cells #[.int .i64 30, .bool false, .slice (some ⟨b, 0, none⟩) 2 2] 24)) := (Below.refl _ _).alloc (Nat.le_refl _) _
  have HB2 := Lib.hid (HB1.out.trans ((ha).mono HB1.out.size))
  have T_2 := Lib.hid (T_1.out.below ha)
  have R_2 := Lib.hid (R_1.out.below ha)
  have P_2 := Lib.hid (Q3.alloc w1 (.int .i64 30) (.bool false) (.slice (some ⟨b, 0, none⟩) 2 2) 24)
  clear ha HB1 T_1 R_1
  have xP0 := P_2.out.c0
  have xP1 := P_2.out.c1
  have xP2 := P_2.out.c2
  go_wp2_with fail
  refine (due1 b _ T_2.out R_2.out).mono ?_
  rintro e w3 ⟨rfl, hb⟩
  clear xP0 xP1 xP2
  have HB3 := Lib.hid (HB2.out.trans ((hb).mono HB2.out.size))
  have T_3 := Lib.hid (T_2.out.below hb)
  have R_3 := Lib.hid (R_2.out.below hb)
  have P_3 := Lib.hid (P_2.out.below hb)
  clear hb HB2 T_2 R_2 P_2
  have xP0 := P_3.out.c0
  have xP1 := P_3.out.c1
  have xP2 := P_3.out.c2
  go_wp2_with fail
  refine (cut1 b _ R_3.out).mono ?_
  rintro e w4 ⟨rfl, hb⟩
  clear xP0 xP1 xP2
  have HB4 := Lib.hid (HB3.out.trans ((hb).mono HB3.out.size))
  have T_4 := Lib.hid (T_3.out.below hb)
  have R_4 := Lib.hid (R_3.out.below hb)
  have P_4 := Lib.hid (P_3.out.below hb)
  clear hb HB3 T_3 R_3 P_3
  have ha : Below w4.heap.size w4 (w4.alloc (Obj.cells #[.int .i64 1, .int .i64 50] 35)) := (Below.refl _ _).alloc (Nat.le_refl _) _
  have HB5 := Lib.hid (HB4.out.trans ((ha).mono HB4.out.size))
  have T_5 := Lib.hid (T_4.out.below ha)
  have R_5 := Lib.hid (R_4.out.below ha)
  have P_5 := Lib.hid (P_4.out.below ha)
  have F_5 := Lib.hid (Q2.alloc w4 (.int .i64 1) (.int .i64 50) 35)
  clear ha HB4 T_4 R_4 P_4
  have xP0 := P_5.out.c0
  have xP1 := P_5.out.c1
  have xP2 := P_5.out.c2
  have xF0 := F_5.out.c0
  have xF1 := F_5.out.c1
  go_wp2_with fail
  refine (cut2 b _ R_5.out).mono ?_
  rintro e w6 ⟨rfl, hb⟩
  clear xP0 xP1 xP2 xF0 xF1
  have HB6 := Lib.hid (HB5.out.trans ((hb).mono HB5.out.size))
  have T_6 := Lib.hid (T_5.out.below hb)
  have R_6 := Lib.hid (R_5.out.below hb)
  have P_6 := Lib.hid (P_5.out.below hb)
  have F_6 := Lib.hid (F_5.out.below hb)
  clear hb HB5 T_5 R_5 P_5 F_5
  have ha : Below w6.heap.size w6 (w6.alloc (Obj.cells #[.int .i64 0, .int .i64 1] 35)) := (Below.refl _ _).alloc (Nat.le_refl _) _
  have HB7 := Lib.hid (HB6.out.trans ((ha).mono HB6.out.size))
  have T_7 := Lib.hid (T_6.out.below ha)
  have R_7 := Lib.hid (R_6.out.below ha)
  have P_7 := Lib.hid (P_6.out.below ha)
  have F_7 := Lib.hid (F_6.out.below ha)
  have G_7 := Lib.hid (Q2.alloc w6 (.int .i64 0) (.int .i64 1) 35)
  clear ha HB6 T_6 R_6 P_6 F_6
  have xP0 := P_7.out.c0
  have xP1 := P_7.out.c1
  have xP2 := P_7.out.c2
  have xF0 := F_7.out.c0
  have xF1 := F_7.out.c1
  have xG0 := G_7.out.c0
  have xG1 := G_7.out.c1
  go_wp2_with fail
  refine (text1 b _ R_7.out).mono ?_
  rintro e w8 ⟨rfl, hb⟩
  clear xP0 xP1 xP2 xF0 xF1 xG0 xG1
  have HB8 := Lib.hid (HB7.out.trans ((hb).mono HB7.out.size))
  have T_8 := Lib.hid (T_7.out.below hb)
  have R_8 := Lib.hid (R_7.out.below hb)
  have P_8 := Lib.hid (P_7.out.below hb)
  have F_8 := Lib.hid (F_7.out.below hb)
  have G_8 := Lib.hid (G_7.out.below hb)
  clear hb HB7 T_7 R_7 P_7 F_7 G_7
  have xP0 := P_8.out.c0
  have xP1 := P_8.out.c1
  have xP2 := P_8.out.c2
  have xF0 := F_8.out.c0
  have xF1 := F_8.out.c1
  have xG0 := G_8.out.c0
  have xG1 := G_8.out.c1
  go_wp2_with fail
  refine (parseA _).mono ?_
  rintro e w9 ⟨rfl, hb⟩
  clear xP0 xP1 xP2 xF0 xF1 xG0 xG1
  have HB9 := Lib.hid (HB8.out.trans ((hb).mono HB8.out.size))
  have T_9 := Lib.hid (T_8.out.below hb)
  have R_9 := Lib.hid (R_8.out.below hb)
  have P_9 := Lib.hid (P_8.out.below hb)
  have F_9 := Lib.hid (F_8.out.below hb)
  have G_9 := Lib.hid (G_8.out.below hb)
  clear hb HB8 T_8 R_8 P_8 F_8 G_8
  have ha : Below w9.heap.size w9 (w9.alloc (Obj.cells #[.int .i64 10, .bool true, .slice none 0 0] 24)) := (Below.refl _ _).alloc (Nat.le_refl _) _
  have HB10 := Lib.hid (HB9.out.trans ((ha).mono HB9.out.size))
  have T_10 := Lib.hid (T_9.out.below ha)
  have R_10 := Lib.hid (R_9.out.below ha)
  have P_10 := Lib.hid (P_9.out.below ha)
  have F_10 := Lib.hid (F_9.out.below ha)
  have G_10 := Lib.hid (G_9.out.below ha)
  have H_10 := Lib.hid (Q3.alloc w9 (.int .i64 10) (.bool true) (.slice none 0 0) 24)
  clear ha HB9 T_9 R_9 P_9 F_9 G_9
  have xP0 := P_10.out.c0
  have xP1 := P_10.out.c1
  have xP2 := P_10.out.c2
  have xF0 := F_10.out.c0
  have xF1 := F_10.out.c1
  have xG0 := G_10.out.c0
  have xG1 := G_10.out.c1
  have xH0 := H_10.out.c0
  have xH1 := H_10.out.c1
  have xH2 := H_10.out.c2
  go_wp2_with fail
  refine (due2 _ T_10.out).mono ?_
  rintro e w11 ⟨rfl, hb⟩
  clear xP0 xP1 xP2 xF0 xF1 xG0 xG1 xH0 xH1 xH2
  have HB11 := Lib.hid (HB10.out.trans ((hb).mono HB10.out.size))
  have T_11 := Lib.hid (T_10.out.below hb)
  have R_11 := Lib.hid (R_10.out.below hb)
  have P_11 := Lib.hid (P_10.out.below hb)
  have F_11 := Lib.hid (F_10.out.below hb)
  have G_11 := Lib.hid (G_10.out.below hb)
  have H_11 := Lib.hid (H_10.out.below hb)
  clear hb HB10 T_10 R_10 P_10 F_10 G_10 H_10
  have xP0 := P_11.out.c0
  have xP1 := P_11.out.c1
  have xP2 := P_11.out.c2
  have xF0 := F_11.out.c0
  have xF1 := F_11.out.c1
  have xG0 := G_11.out.c0
  have xG1 := G_11.out.c1
  have xH0 := H_11.out.c0
  have xH1 := H_11.out.c1
  have xH2 := H_11.out.c2
  go_wp2_with fail
  refine (parseB _).mono ?_
  rintro e w12 ⟨rfl, hb⟩
  clear xP0 xP1 xP2 xF0 xF1 xG0 xG1 xH0 xH1 xH2
  have HB12 := Lib.hid (HB11.out.trans ((hb).mono HB11.out.size))
  have T_12 := Lib.hid (T_11.out.below hb)
  have R_12 := Lib.hid (R_11.out.below hb)
  have P_12 := Lib.hid (P_11.out.below hb)
  have F_12 := Lib.hid (F_11.out.below hb)
  have G_12 := Lib.hid (G_11.out.below hb)
  have H_12 := Lib.hid (H_11.out.below hb)
  clear hb HB11 T_11 R_11 P_11 F_11 G_11 H_11
  have ha : Below w12.heap.size w12 (w12.alloc (Obj.cells #[.int .i64 0, .bool false, .slice none 0 0] 24)) := (Below.refl _ _).alloc (Nat.le_refl _) _
  have HB13 := Lib.hid (HB12.out.trans ((ha).mono HB12.out.size))
  have T_13 := Lib.hid (T_12.out.below ha)
  have R_13 := Lib.hid (R_12.out.below ha)
  have P_13 := Lib.hid (P_12.out.below ha)
  have F_13 := Lib.hid (F_12.out.below ha)
  have G_13 := Lib.hid (G_12.out.below ha)
  have H_13 := Lib.hid (H_12.out.below ha)
  have Z_13 := Lib.hid (Q3.alloc w12 (.int .i64 0) (.bool false) (.slice none 0 0) 24)
  clear ha HB12 T_12 R_12 P_12 F_12 G_12 H_12
  have xP0 := P_13.out.c0
  have xP1 := P_13.out.c1
  have xP2 := P_13.out.c2
  have xF0 := F_13.out.c0
  have xF1 := F_13.out.c1
  have xG0 := G_13.out.c0
  have xG1 := G_13.out.c1
  have xH0 := H_13.out.c0
  have xH1 := H_13.out.c1
  have xH2 := H_13.out.c2
  have xZ0 := Z_13.out.c0
  have xZ1 := Z_13.out.c1
  have xZ2 := Z_13.out.c2
  go_wp2_with fail
  refine (rSame0 _).mono ?_
  rintro e w14 ⟨rfl, hb⟩
  clear xP0 xP1 xP2 xF0 xF1 xG0 xG1 xH0 xH1 xH2 xZ0 xZ1 xZ2
  have HB14 := Lib.hid (HB13.out.trans ((hb).mono HB13.out.size))
  have T_14 := Lib.hid (T_13.out.below hb)
  have R_14 := Lib.hid (R_13.out.below hb)
  have P_14 := Lib.hid (P_13.out.below hb)
  have F_14 := Lib.hid (F_13.out.below hb)
  have G_14 := Lib.hid (G_13.out.below hb)
  have H_14 := Lib.hid (H_13.out.below hb)
  have Z_14 := Lib.hid (Z_13.out.below hb)
  clear hb HB13 T_13 R_13 P_13 F_13 G_13 H_13 Z_13
  have xP0 := P_14.out.c0
  have xP1 := P_14.out.c1
  have xP2 := P_14.out.c2
  have xF0 := F_14.out.c0
  have xF1 := F_14.out.c1
  have xG0 := G_14.out.c0
  have xG1 := G_14.out.c1
  have xH0 := H_14.out.c0
  have xH1 := H_14.out.c1
  have xH2 := H_14.out.c2
  have xZ0 := Z_14.out.c0
  have xZ1 := Z_14.out.c1
  have xZ2 := Z_14.out.c2
  go_wp2_with fail
  refine (right1 b _ R_14.out).mono ?_
  rintro e w15 ⟨rfl, hb⟩
  clear xP0 xP1 xP2 xF0 xF1 xG0 xG1 xH0 xH1 xH2 xZ0 xZ1 xZ2
  have HB15 := Lib.hid (HB14.out.trans ((hb).mono HB14.out.size))
  have T_15 := Lib.hid (T_14.out.below hb)
  have R_15 := Lib.hid (R_14.out.below hb)
  have P_15 := Lib.hid (P_14.out.below hb)
  have F_15 := Lib.hid (F_14.out.below hb)
  have G_15 := Lib.hid (G_14.out.below hb)
  have H_15 := Lib.hid (H_14.out.below hb)
  have Z_15 := Lib.hid (Z_14.out.below hb)
  clear hb HB14 T_14 R_14 P_14 F_14 G_14 H_14 Z_14
  have xP0 := P_15.out.c0
  have xP1 := P_15.out.c1
  have xP2 := P_15.out.c2
  have xF0 := F_15.out.c0
  have xF1 := F_15.out.c1
  have xG0 := G_15.out.c0
  have xG1 := G_15.out.c1
  have xH0 := H_15.out.c0
  have xH1 := H_15.out.c1
  have xH2 := H_15.out.c2
  have xZ0 := Z_15.out.c0
  have xZ1 := Z_15.out.c1
  have xZ2 := Z_15.out.c2
  go_wp2
  go_ret
  exact ⟨rfl, HB15.out⟩
end Go.Proofs.YtkpdbhpmnegahaaDoor
namespace Go.Proofs.YtkpdbhpmnegahaaDoor
open Go.RowKit Go.Sort
set_option linter.unusedVariables false
set_option linter.unusedSimpArgs false

/-- the smaller fraction. -/
def LeF (x y : Int × Int) : Prop := x.1 * y.2 ≤ y.1 * x.2
theorem leF_trans {x y z : Int × Int} (hx : 0 < x.2) (hy : 0 < y.2) (hz : 0 < z.2) (h : LeF x y) (k : LeF y z) : LeF x z := by
  unfold LeF at *
  have h1 : x.1 * y.2 * z.2 ≤ y.1 * x.2 * z.2 := Int.mul_le_mul_of_nonneg_right h (Int.le_of_lt hz)
  have h2 : y.1 * z.2 * x.2 ≤ z.1 * y.2 * x.2 := Int.mul_le_mul_of_nonneg_right k (Int.le_of_lt hx)
  have e1 : y.1 * x.2 * z.2 = y.1 * z.2 * x.2 := by rw [Int.mul_assoc, Int.mul_comm x.2, ← Int.mul_assoc]
  have e2 : x.1 * y.2 * z.2 = x.1 * z.2 * y.2 := by rw [Int.mul_assoc, Int.mul_comm y.2, ← Int.mul_assoc]
  have e3 : z.1 * y.2 * x.2 = z.1 * x.2 * y.2 := by rw [Int.mul_assoc, Int.mul_comm y.2, ← Int.mul_assoc]
  have h3 : x.1 * z.2 * y.2 ≤ z.1 * x.2 * y.2 := by rw [← e2, ← e3]; exact Int.le_trans h1 (e1 ▸ h2)
  exact Int.le_of_mul_le_mul_right h3 hy
/-- discounts that fall. -/
def Falls : List Ct → Prop
  | [] => True
  | c :: r => 0 < c.2.1 ∧ 0 < c.2.2 ∧ (∀ d ∈ r, LeF d.2 c.2) ∧ Falls r
theorem cuD_fall {day paid : Int} : ∀ {L : List Ct}, Falls L → LeF (cuD day (paid + 1) L) (cuD day paid L)
  | [], _ => by unfold LeF cuD; omega
  | c :: r, h => by
    obtain ⟨h1, h2, h3, h4⟩ := h
    have hin : ∀ (l : List Ct) (p : Int), (cuD day p l = (0, 1) ∨ ∃ d ∈ l, cuD day p l = d.2) := by
      intro l p
      induction l with
      | nil => exact .inl rfl
      | cons e l ih =>
        unfold cuD
        split
        · exact .inr ⟨e, List.mem_cons_self, rfl⟩
        · rcases ih with q | ⟨d, hd, q⟩
          · exact .inl q
          · exact .inr ⟨d, List.mem_cons_of_mem _ hd, q⟩
    by_cases a : paid + 1 ≤ day + c.1
    · have b : paid ≤ day + c.1 := by omega
      rw [cuD, if_pos a, cuD, if_pos b]
      unfold LeF; omega
    · rw [cuD, if_neg a]
      by_cases b : paid ≤ day + c.1
      · rw [cuD, if_pos b]
        rcases hin r (paid + 1) with q | ⟨d, hd, q⟩
        · rw [q]; unfold LeF; dsimp only; omega
        · rw [q]; exact h3 d hd
      · rw [cuD, if_neg b]
        exact cuD_fall h4
theorem cp_neg {a b c d : Int} (h1 : rightB a b = true) (h2 : rightB c d = true) (h : cpV a b c d < 0) : a * d < c * b := by
  unfold cpV at h
  rw [ok_yes h1 h2] at h
  simp only [if_true] at h
  unfold cmpI at h
  by_cases q : a * d < c * b
  · exact q
  · rw [if_neg q] at h; split at h <;> omega
theorem tm_next {net : Int} {L : List Ct} (h : tmB net L = true) {k : Nat} (hk : k + 1 < L.length) : LeF (L[k + 1]).2 (L[k]'(by omega)).2 := by
  have hi := (tm_is h).2.2.2
  have r1 := hi (k + 1) hk
  have r0 := hi k (by omega)
  have h' := h
  unfold tmB at h'
  simp only [Bool.and_eq_true, decide_eq_true_eq, spB] at h'
  have := List.all_eq_true.1 h'.2.2 (k + 1) (List.mem_range.2 hk)
  rw [okAt_next hk (by unfold spB; rw [decide_eq_true r1.1, decide_eq_true r1.2.1]; rfl) (by unfold dcB; rw [r1.2.2.1, decide_eq_true r1.2.2.2.1, decide_eq_true r1.2.2.2.2]; rfl)] at this
  unfold flB at this
  simp only [Bool.and_eq_true, decide_eq_true_eq] at this
  have q := cp_neg r1.2.2.1 r0.2.2.1 this.2
  unfold LeF
  omega
theorem falls_of : ∀ {L : List Ct}, (∀ k (hk : k < L.length), 0 < L[k].2.1 ∧ 0 < L[k].2.2) → (∀ k (hk : k + 1 < L.length), LeF (L[k + 1]).2 (L[k]'(by omega)).2) → Falls L
  | [], _, _ => trivial
  | c :: r, h, hn => by
    have h0 := h 0 (by simp)
    have hr : ∀ k (hk : k < r.length), 0 < r[k].2.1 ∧ 0 < r[k].2.2 := fun k hk => h (k + 1) (by simpa using hk)
    refine ⟨h0.1, h0.2, ?_, falls_of hr (fun k hk => hn (k + 1) (by simpa using hk))⟩
    have all : ∀ k (hk : k < r.length), LeF r[k].2 c.2 := by
      intro k
      induction k with
      | zero => intro hk; exact hn 0 (by simpa using hk)
      | succ k ih =>
        intro hk
        have a := hn (k + 1) (by simpa using hk)
        exact leF_trans (hr _ hk).2 (hr k (by omega)).2 h0.2 a (ih (by omega))
    intro d hd
    obtain ⟨k, hk, rfl⟩ := List.getElem_of_mem hd
    exact all k hk
theorem tm_falls {net : Int} {L : List Ct} (h : tmB net L = true) : Falls L := by
  have hi := (tm_is h).2.2.2
  exact falls_of (fun k hk => by have := hi k hk; omega) (fun k hk => tm_next h hk)
theorem cuD_bd {net : Int} {L : List Ct} (h : tmB net L = true) (day paid : Int) : 0 ≤ (cuD day paid L).1 ∧ (cuD day paid L).1 ≤ 1000000 ∧ 1 ≤ (cuD day paid L).2 ∧ (cuD day paid L).2 ≤ 1000000 := by
  have hi := (tm_is h).2.2.2
  have all : ∀ c ∈ L, 0 ≤ c.2.1 ∧ c.2.1 ≤ 1000000 ∧ 1 ≤ c.2.2 ∧ c.2.2 ≤ 1000000 := fun c hc => by
    obtain ⟨k, hk, rfl⟩ := List.getElem_of_mem hc
    have q := hi k hk
    have r := of_decide_eq_true (q.2.2.1 : rightB _ _ = true)
    obtain ⟨r1, r2, r3, r4, _⟩ := r
    omega
  clear hi h
  induction L with
  | nil => unfold cuD; omega
  | cons c r ih =>
    unfold cuD
    split
    · exact all c List.mem_cons_self
    · exact ih (fun d hd => all d (List.mem_cons_of_mem _ hd))
/-- Due on two days in a row. -/
theorem dues2 (net : Int) (eom : Bool) (A : Option Addr) (c : Nat) (L : List Ct) (day : Int) (hn : r64 net) (hBd : BdC L) (hl : L.length ≤ maxLen) (h0 : 0 ≤ day) (h1 : day < 109572) :
    ∃ E F, day ≤ E ∧ E ≤ F ∧ (∀ w, Tab w → RowC w A L → Calls Tryd.prog 11 #[.agg #[.int .i64 net, .bool eom, .slice A L.length c], .int .i64 day] w fun e w' => e = .returned (.tuple #[.int .i64 (dyV net eom L day E).1, .int .i64 (dyV net eom L day E).2]) ∧ Below w.heap.size w w') ∧
      (∀ w, Tab w → RowC w A L → Calls Tryd.prog 11 #[.agg #[.int .i64 net, .bool eom, .slice A L.length c], .int .i64 (day + 1)] w fun e w' => e = .returned (.tuple #[.int .i64 (dyV net eom L (day + 1) F).1, .int .i64 (dyV net eom L (day + 1) F).2]) ∧ Below w.heap.size w w') := by
  obtain ⟨y, m, d, hI, a, b, e⟩ := end_ex h0 (by omega : day ≤ 109572)
  obtain ⟨y', m', d', hI', a', b', e'⟩ := end_ex (by omega : 0 ≤ day + 1) (by omega : day + 1 ≤ 109572)
  refine ⟨_, _, e, ?_, fun w ht hr => due_tm net eom A c L day _ w ht hn hr hBd hl ⟨by omega, by omega⟩ (fun _ _ => ⟨a, b⟩) (fun _ _ W hT => monthEnd_any day y m d W hT hI), fun w ht hr => due_tm net eom A c L (day + 1) _ w ht hn hr hBd hl ⟨by omega, by omega⟩ (fun _ _ => ⟨a', b'⟩) (fun _ _ W hT => monthEnd_any (day + 1) y' m' d' W hT hI')⟩
  by_cases q : day + 1 ≤ ofN y m (lenV y m)
  · have hv := hI.1
    have hd := hI.2
    have hI2 : IsDate (day + 1) y m (d + 1) := by
      obtain ⟨v1, v2, v3, v4⟩ := hv
      have hdd : ofN y m d = day := hd
      refine ⟨⟨v1, v2, by omega, ?_⟩, ?_⟩
      · unfold ofN at q hdd; omega
      · unfold ofN at *; omega
    obtain ⟨rfl, rfl, _⟩ := IsDate.uniq hI2 hI'
    exact Int.le_refl _
  · omega
end Go.Proofs.YtkpdbhpmnegahaaDoor
