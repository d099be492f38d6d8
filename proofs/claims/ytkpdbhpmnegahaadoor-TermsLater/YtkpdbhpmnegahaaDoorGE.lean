/- The notation of terms; Text of package accountingref24. Written by wip/mk_tmf.py. Text of package terms. Written by wip/mk_tmg.py. The law's example; demand of package terms. isAt and span of package terms. word, span and fraction of package terms: what they leave. The example of package accountinglaw24. The laws' parameter opened: terms. No conditions. The laws on terms, but for the examples: what lives answers is a hypothesis here. Written by wip/mk_tmp.py. -/
import Derived.Test.YtkpdbhpmnegahaaDoorGD
import Derived.Test.YtkpdbhpmnegahaaDoorShelf
import Derived.Deep.SlicePairs
import Derived.OpenShut
namespace Go.Proofs.YtkpdbhpmnegahaaDoor
open Go.RowKit Go.Sort
set_option linter.unusedVariables false
set_option linter.unusedSimpArgs false

/-- the notation of the first k cuts, each with a blank behind it. -/
def tmQ (L : List Ct) : Nat → ByteArray
  | 0 => ⟨#[]⟩
  | k + 1 => tmQ L k ++ (((txS (L.getD k (0, 0, 0)).2.1 (L.getD k (0, 0, 0)).2.2 ++ ⟨#[32]⟩) ++ textS (L.getD k (0, 0, 0)).1) ++ ⟨#[32]⟩)
def endS (eom : Bool) : ByteArray := if eom = true then ⟨#[101, 111, 109, 32]⟩ else ⟨#[110, 101, 116, 32]⟩
/-- what Text returns. -/
def tmS (net : Int) (eom : Bool) (L : List Ct) : ByteArray := if tmB net L = true then (tmQ L L.length ++ endS eom) ++ textS net else ⟨#[]⟩
theorem tmE_no {net : Int} {L : List Ct} (h : tmB net L = false) : tmE net L = 2 := by unfold tmE; rw [h]; rfl
theorem tmE_yes {net : Int} {L : List Ct} (h : tmB net L = true) : tmE net L = 0 := by unfold tmE; rw [h]; rfl
theorem tmS_no {net : Int} {eom : Bool} {L : List Ct} (h : tmB net L = false) : tmS net eom L = ⟨#[]⟩ := by unfold tmS; rw [h]; rfl
theorem tmS_yes {net : Int} {eom : Bool} {L : List Ct} (h : tmB net L = true) : tmS net eom L = (tmQ L L.length ++ endS eom) ++ textS net := by unfold tmS; rw [h]; rfl
theorem getD_ct {L : List Ct} {k : Nat} (h : k < L.length) : L.getD k (0, 0, 0) = L[k] := by
  rw [List.getD_eq_getElem?_getD, List.getElem?_eq_getElem h]; rfl
theorem textS_le {n : Int} (h : r64 n) : (textS n).size ≤ 21 := by rw [textS_size]; exact text_len h.1 h.2
theorem txS_le {n d : Int} (h : r64 n) (h2 : r64 d) : (txS n d).size ≤ 43 := by
  unfold txS
  split
  · split
    · have := textS_le h; omega
    · have := textS_le h; have := textS_le h2
      simp only [ByteArray.size_append]
      have : (⟨#[47]⟩ : ByteArray).size = 1 := rfl
      omega
  · exact Nat.zero_le _
theorem tmQ_le {L : List Ct} (hB : BdC L) : ∀ k, k ≤ L.length → (tmQ L k).size ≤ k * 70
  | 0, _ => Nat.zero_le _
  | k + 1, hk => by
    have h1 := tmQ_le hB k (by omega)
    obtain ⟨b1, b2, b3⟩ := hB L[k] (List.getElem_mem (by omega))
    have h2 := textS_le b1
    have h3 := txS_le b2 b3
    unfold tmQ
    rw [getD_ct (by omega)]
    simp only [ByteArray.size_append]
    have : (⟨#[32]⟩ : ByteArray).size = 1 := rfl
    omega
end Go.Proofs.YtkpdbhpmnegahaaDoor
namespace Go.Proofs.YtkpdbhpmnegahaaDoor
open Go.RowKit Go.Sort
set_option linter.unusedVariables false
set_option linter.unusedSimpArgs false

theorem und_strs : Tryd.prog.underlying 42 = some (.slice 9) := by kernel_rfl
theorem inf_str : (Tryd.prog.info? 9).map (fun i => (i.zero, i.size, i.bytes)) = some (some (.string ⟨#[]⟩), 1, 16) := by kernel_rfl
def strV (xs : List ByteArray) : List Value := xs.map Value.string
/-- the words of the first k cuts. -/
def ptQ (L : List Ct) : Nat → List ByteArray
  | 0 => []
  | k + 1 => ptQ L k ++ [txS (L.getD k (0, 0, 0)).2.1 (L.getD k (0, 0, 0)).2.2, textS (L.getD k (0, 0, 0)).1]
theorem ptQ_len (L : List Ct) : ∀ k, (ptQ L k).length = 2 * k
  | 0 => rfl
  | k + 1 => by unfold ptQ; rw [List.length_append, ptQ_len L k]; simp; omega
def endW (eom : Bool) : ByteArray := if eom = true then ⟨#[101, 111, 109]⟩ else ⟨#[110, 101, 116]⟩
theorem tail_sp : ∀ (r : List (List UInt8)) (y : List UInt8), Lib.joinTail [32] (r ++ [y]) = [32] ++ (r.flatMap (fun p => p ++ [32]) ++ y)
  | [], y => by simp [Lib.joinTail]
  | p :: r, y => by
    have e : Lib.joinTail [32] (p :: (r ++ [y])) = ([32] ++ p) ++ Lib.joinTail [32] (r ++ [y]) := by unfold Lib.joinTail; rw [List.map_cons, List.flatten_cons]
    rw [List.cons_append, e, tail_sp r y]
    simp
theorem join_sp (ps : List (List UInt8)) (y : List UInt8) : Lib.join (ps ++ [y]) [32] = ps.flatMap (fun p => p ++ [32]) ++ y := by
  cases ps with
  | nil => simp [Lib.join, List.intercalate]
  | cons p r => rw [List.cons_append, Lib.join_cons, tail_sp]; simp
theorem tmQ_list (L : List Ct) : ∀ k, (tmQ L k).data.toList = ((ptQ L k).map (·.data.toList)).flatMap (fun p => p ++ [32])
  | 0 => rfl
  | k + 1 => by
    unfold tmQ ptQ
    rw [List.map_append, List.flatMap_append, ← tmQ_list L k]
    simp [ByteArray.data_append]
theorem text_join (L : List Ct) (eom : Bool) (net : Int) : Lib.join ((ptQ L L.length ++ [endW eom, textS net]).map (·.data.toList)) [32] = ((tmQ L L.length ++ endS eom) ++ textS net).data.toList := by
  have e : (ptQ L L.length ++ [endW eom, textS net]).map (·.data.toList) = ((ptQ L L.length).map (·.data.toList) ++ [(endW eom).data.toList]) ++ [(textS net).data.toList] := by simp
  rw [e, join_sp, List.flatMap_append, ← tmQ_list]
  cases eom <;> simp [endW, endS, ByteArray.data_append]
theorem own_join {w : World} {base : Nat} {T : TypeId} {v : Value} {xs : List ByteArray} (h : OwnV w base T v (strV xs)) (h0 : xs ≠ []) : ∃ g cap, v = .slice (some ⟨g, 0, none⟩) xs.length cap ∧ g < w.heap.size ∧ xs.length ≤ cap ∧ ∀ j x, xs[j]? = some x → w.cell? ⟨g, 0 + j, none⟩ = some (.string x) := by
  have hl : (strV xs).length = xs.length := by unfold strV; simp
  unfold OwnV at h
  rcases h.2 with ⟨_, n⟩ | ⟨g, cap, cur, e, _, e3, e4, _⟩
  · rw [hl] at n; exact absurd (List.length_eq_zero_iff.1 n) h0
  · rw [hl] at e e4
    refine ⟨g, cap, e, lt_of_block e3, e4, fun j x hx => ?_⟩
    have := h.cells (g := g) (by rw [e]; rfl) j (.string x) (by unfold strV; rw [List.getElem?_map, hx]; rfl)
    rw [addr_is] at this
    exact this
theorem join_tm (L : List Ct) (eom : Bool) (net : Int) (X : ByteArray) (hX : endW eom = X) (hq : (tmQ L L.length).size ≤ 350) (hn : (textS net).size ≤ 21) (hL : L.length ≤ 5) (g cp : Nat) (w : World)
    (hcl : ∀ j x, (ptQ L L.length ++ [X, textS net])[j]? = some x → w.cell? ⟨g, 0 + j, none⟩ = some (.string x)) (hg : g < w.heap.size) (hcp : (ptQ L L.length ++ [X, textS net]).length ≤ cp) :
    Calls Tryd.prog 15 #[.slice (some ⟨g, 0, none⟩) (ptQ L L.length ++ [X, textS net]).length cp, .string ⟨#[32]⟩] w fun e w' => e = .returned (.string ((tmQ L L.length ++ endS eom) ++ textS net)) ∧ Below w.heap.size w w' := by
  subst hX
  have ht := text_join L eom net
  have h3 : (endS eom).size = 4 := by cases eom <;> rfl
  have hs : ((tmQ L L.length ++ endS eom) ++ textS net).data.toList.length ≤ 400 := by
    rw [Array.length_toList]
    show ((tmQ L L.length ++ endS eom) ++ textS net).size ≤ 400
    simp only [ByteArray.size_append]; omega
  have e32 : (⟨#[32]⟩ : ByteArray).data.toList = [32] := rfl
  have e : (⟨(Lib.join ((ptQ L L.length ++ [endW eom, textS net]).map (·.data.toList)) (⟨#[32]⟩ : ByteArray).data.toList).toArray⟩ : ByteArray) = (tmQ L L.length ++ endS eom) ++ textS net := by rw [e32, ht, Array.toArray_toList]
  have hlen : (Lib.join ((ptQ L L.length ++ [endW eom, textS net]).map (·.data.toList)) (⟨#[32]⟩ : ByteArray).data.toList).length ≤ 140737488355328 := by rw [e32, ht]; omega
  have hN : (ptQ L L.length ++ [endW eom, textS net]).length ≤ 140737488355328 := by rw [List.length_append, ptQ_len]; simp; omega
  rw [← e]
  exact Tryd.strings_Join g 0 cp _ ⟨#[32]⟩ w hcl hg hN hcp hlen
theorem row_new2 (w : World) (F T : ByteArray) : RowV (w.alloc (Obj.cells #[.string F, .string T] 9)) (some ⟨w.heap.size, 0, none⟩) [.string F, .string T] := by
  intro i x hx
  refine ⟨w.heap.size, 0, rfl, by simp, ?_⟩
  match i, hx with
  | 0, hx => cases hx; rw [World.cell?_alloc_at _ _ _ _ rfl]; rfl
  | 1, hx => cases hx; rw [World.cell?_alloc_at _ _ _ _ rfl]; rfl
  | n + 2, hx => simp at hx
theorem str_cells2 (F T : ByteArray) : ∀ y ∈ [Value.string F, Value.string T], y.oneCell' = true := by
  intro y hy
  simp at hy
  rcases hy with rfl | rfl <;> rfl
set_option maxRecDepth 100000 in
set_option maxHeartbeats 4000000 in
theorem text_tm (net : Int) (eom : Bool) (A : Option Addr) (c : Nat) (L : List Ct) (w : World) (hn : r64 net) (hR : RowC w A L) (hBd : BdC L) (hl : L.length ≤ maxLen) :
    Calls Tryd.prog 6 #[.agg #[.int .i64 net, .bool eom, .slice A L.length c]] w fun e w' => e = .returned (.tuple #[.string (tmS net eom L), .int .i64 (tmE net L)]) ∧ Below w.heap.size w w' := by
  have HRt := Lib.hid (fun W (hr : RowC W A L) => right_tm net eom A c L W hn hr hBd hl)
  have ha : Below w.heap.size w (w.alloc (Obj.cells #[.int .i64 net, .bool eom, .slice A L.length c] 24)) := (Below.refl _ _).alloc (Nat.le_refl _) _
  have HP0 := Lib.hid (Q3.alloc w (.int .i64 net) (.bool eom) (.slice A L.length c) 24)
  have HB0 := Lib.hid ha
  have HR0 := Lib.hid (hR.below ha)
  have HR := Lib.hid hR
  have HN := Lib.hid (fun W => text_any net W hn.1 hn.2)
  have hnS := textS_le hn
  clear ha hR
  cases q0 : tmB net L
  · rw [q0] at HRt
    rw [tmS_no q0, tmE_no q0]
    go_enter Tryd.func6, Tryd.ntmps6
    have x0 := HP0.out.c0
    have x1 := HP0.out.c1
    have x2 := HP0.out.c2
    go_wp2_with fail
    refine (HRt.out _ HR0.out).mono ?_
    rintro e w1 ⟨rfl, hb⟩
    have HB1 := Lib.hid (HB0.out.trans (hb.mono HB0.out.size))
    clear hb
    go_wp2
    go_ret2
    exact ⟨rfl, HB1.out⟩
  rw [q0] at HRt
  rw [tmS_yes q0, tmE_yes q0]
  obtain ⟨n1, n2, h5, _⟩ := tm_is q0
  have HLe := Lib.hid (tmQ_le hBd)
  have HBd := Lib.hid hBd
  have HSn := Lib.hid hnS
  clear hBd hnS
  go_enter Tryd.func6, Tryd.ntmps6
  have x0 := HP0.out.c0
  have x1 := HP0.out.c1
  have x2 := HP0.out.c2
  go_wp2_with fail
  refine (HRt.out _ HR0.out).mono ?_
  rintro e w1 ⟨rfl, hb⟩
  clear x0 x1 x2
  have HB1 := Lib.hid (HB0.out.trans (hb.mono HB0.out.size))
  have HP1 := Lib.hid (HP0.out.below hb)
  have hs1 : w.heap.size + 1 ≤ w1.heap.size := by have := hb.size; simp at this; omega
  clear hb HP0 HB0 HR0 HRt
  have x2 := HP1.out.c2
  go_wp2
  go_loopw [4, 16] (fun y x wr => ∃ (k : Nat) (v : Value), k ≤ L.length ∧ x = .int .i64 k ∧ v = y ∧ Hid (OwnV wr (w.heap.size + 1) 9 v (strV (ptQ L k))) ∧ w.heap.size + 1 ≤ wr.heap.size ∧ Hid (Q3 wr w.heap.size (.int .i64 net) (.bool eom) (.slice A L.length c)) ∧ Hid (Below w.heap.size w wr)) (fun _ x _ => L.length - (intOf x).toNat)
  case atStart => exact ⟨0, _, Nat.zero_le _, rfl, rfl, Lib.hid (OwnV.nil _ _ _), hs1, HP1, HB1⟩
  case round =>
    clear HP1 HB1 x2 hs1
    obtain ⟨k, v, hk, rfl, rfl, HO, hsz, HP, HB⟩ := hrel
    by_cases h : k < L.length
    · have h' : (k : Int) < (L.length : Int) := by omega
      obtain ⟨b, off, rfl, hbl, hcl⟩ := (HR.out.below HB.out) (by omega)
      obtain ⟨c0, c1, c2⟩ := hcl k h
      obtain ⟨r1, r2, r3⟩ := HBd.out L[k] (List.getElem_mem h)
      have HX := Lib.hid (show ptQ L (k + 1) = ptQ L k ++ [txS (L.getD k (0, 0, 0)).2.1 (L.getD k (0, 0, 0)).2.2, textS (L.getD k (0, 0, 0)).1] from rfl)
      rw [getD_ct h] at HX
      have HLn := Lib.hid (ptQ_len L k)
      obtain ⟨r, hr⟩ : ∃ r, L[k] = r := ⟨_, rfl⟩
      rw [hr] at c0 c1 c2 r1 r2 r3 HX
      obtain ⟨a1, a2, a3⟩ := r
      dsimp only at c0 c1 c2 r1 r2 r3 HX
      have HF := Lib.hid (fun W => textF_any a2 a3 W r2.1 r2.2 r3.1 r3.2)
      have HT := Lib.hid (fun W => text_any a1 W r1.1 r1.2)
      clear hr hcl
      generalize txS a2 a3 = F at *
      generalize txE a2 a3 = fe at *
      generalize textS a1 = T at *
      have ha : Below wr.heap.size wr (wr.alloc (Obj.cells #[.int .i64 a1, .int .i64 a2, .int .i64 a3] 44)) := (Below.refl _ _).alloc (Nat.le_refl _) _
      have HC := Lib.hid (Q3.alloc wr (.int .i64 a1) (.int .i64 a2) (.int .i64 a3) 44)
      have HPa := Lib.hid (HP.out.below ha)
      have HOa := Lib.hid (HO.out.below ha)
      have HBa := Lib.hid (HB.out.trans (ha.mono HB.out.size))
      have hsa : w.heap.size + 1 ≤ (wr.alloc (Obj.cells #[.int .i64 a1, .int .i64 a2, .int .i64 a3] 44)).heap.size := by simp; omega
      have y0 := HC.out.c0
      have y1 := HC.out.c1
      have y2 := HC.out.c2
      clear ha HP HO HB hsz
      go_wp2_with fail
      refine (HF.out _).mono ?_
      rintro e w2 ⟨rfl, hb⟩
      clear y0 y1 y2 c0 c1 c2
      have HC2 := Lib.hid (HC.out.below hb)
      have HP2 := Lib.hid (HPa.out.below hb)
      have HO2 := Lib.hid (HOa.out.below hb)
      have HB2 := Lib.hid (HBa.out.trans (hb.mono HBa.out.size))
      have hs2 : w.heap.size + 1 ≤ w2.heap.size := Nat.le_trans hsa hb.size
      clear hb HC HPa HOa HBa hsa
      have y0 := HC2.out.c0
      go_wp2_with fail
      refine (HT.out _).mono ?_
      rintro e w3 ⟨rfl, hb⟩
      clear y0
      have ha : Below w3.heap.size w3 (w3.alloc (Obj.cells #[.string F, .string T] 9)) := (Below.refl _ _).alloc (Nat.le_refl _) _
      have HP3 := Lib.hid ((HP2.out.below hb).below ha)
      have HO3 := Lib.hid ((HO2.out.below hb).below ha)
      have hs3 : w.heap.size + 1 ≤ w3.heap.size := Nat.le_trans hs2 hb.size
      have HB3 := Lib.hid ((HB2.out.trans (hb.mono HB2.out.size)).trans (ha.mono (by omega)))
      have hs4 : w.heap.size + 1 ≤ (w3.alloc (Obj.cells #[.string F, .string T] 9)).heap.size := by simp; omega
      clear hb ha HP2 HO2 HB2 HC2 hs2
      go_wp2_with (at_builtin
                   go_loud (refine wpList_vals und_strs inf_str rfl (by decide) rfl (.tmp 26) (.tmp 31) rfl (w.heap.size + 1) v _ [.string F, .string T] rfl HO3.out (some ⟨w3.heap.size, 0, none⟩) 2 rfl (fun e => by cases e) (row_new2 w3 F T) (str_cells2 F T) (by unfold strV; rw [List.length_map, HLn.out]; simp; omega) hs4 ?_)
                   intro v' w5 o5 b5
                   have HO5 := Lib.hid o5
                   have HB5 := Lib.hid b5
                   clear o5 b5)
      have hs5 : w.heap.size + 1 ≤ w5.heap.size := Nat.le_trans hs4 HB5.out.size
      have HP5 := Lib.hid (HP3.out.belowN HB5.out (by omega) HB5.out.size)
      have HB6 := Lib.hid (HB3.out.trans (HB5.out.mono (by omega)))
      refine ⟨⟨k + 1, v', by omega, by go_num, rfl, by rw [HX.out]; unfold strV at HO5 ⊢; rw [List.map_append]; exact HO5, hs5, HP5, HB6⟩, ?_⟩
      simp [intOf]; omega
    · have h' : ¬ (k : Int) < (L.length : Int) := by omega
      obtain rfl : k = L.length := by omega
      have hT : ∃ T, textS net = T := ⟨_, rfl⟩
      have sQ := HLe.out L.length (Nat.le_refl _)
      have HLn := Lib.hid (ptQ_len L L.length)
      have HLq := Lib.hid (show (tmQ L L.length).size ≤ 350 by omega)
      clear HLe sQ
      have x0 := HP.out.c0
      have x1 := HP.out.c1
      cases eom with
      | true =>
        have HJn := Lib.hid (join_tm L true net ⟨#[101, 111, 109]⟩ rfl HLq.out HSn.out h5)
        clear HLq
        obtain ⟨R, hRR⟩ : ∃ R, (tmQ L L.length ++ endS true) ++ textS net = R := ⟨_, rfl⟩
        have HRR := Lib.hid hRR
        rw [hRR] at HJn
        clear hRR
        go_wp2_with fail
        refine (HN.out _).mono ?_
        rintro e w3 ⟨rfl, hb⟩
        clear x0 x1
        have ha : Below w3.heap.size w3 (w3.alloc (Obj.cells #[.string ⟨#[101, 111, 109]⟩, .string (textS net)] 9)) := (Below.refl _ _).alloc (Nat.le_refl _) _
        have HO3 := Lib.hid ((HO.out.below hb).below ha)
        have hs3 : w.heap.size + 1 ≤ w3.heap.size := Nat.le_trans hsz hb.size
        have HB3 := Lib.hid ((HB.out.trans (hb.mono HB.out.size)).trans (ha.mono (by omega)))
        have hs4 : w.heap.size + 1 ≤ (w3.alloc (Obj.cells #[.string ⟨#[101, 111, 109]⟩, .string (textS net)] 9)).heap.size := by simp; omega
        clear hb ha HO HB HP
        go_wp2_with (at_builtin
                     go_loud (refine wpList_vals und_strs inf_str rfl (by decide) rfl (.tmp 36) (.tmp 41) rfl (w.heap.size + 1) v _ [.string ⟨#[101, 111, 109]⟩, .string (textS net)] rfl HO3.out (some ⟨w3.heap.size, 0, none⟩) 2 rfl (fun e => by cases e) (row_new2 w3 _ _) (str_cells2 _ _) (by unfold strV; rw [List.length_map, HLn.out]; simp; omega) hs4 ?_)
                     intro v' w5 o5 b5
                     have o6 : OwnV w5 (w.heap.size + 1) 9 v' (strV (ptQ L L.length ++ [⟨#[101, 111, 109]⟩, textS net])) := by unfold strV at o5 ⊢; rw [List.map_append]; exact o5
                     obtain ⟨g, cp, hv, hg, hcp, hcl⟩ := own_join o6 (by simp)
                     subst hv
                     have HB5 := Lib.hid (HB3.out.trans (b5.mono (by omega)))
                     have hj := HJn.out g cp w5 hcl hg hcp
                     generalize (ptQ L L.length ++ [⟨#[101, 111, 109]⟩, textS net]).length = nn at *
                     have HJ := Lib.hid hj
                     clear hj
                     clear o5 b5 o6 hcl hg hcp)
        refine (HJ.out).mono ?_
        rintro e w6 ⟨rfl, hb⟩
        have HB6 := Lib.hid (HB5.out.trans (hb.mono HB5.out.size))
        clear hb
        go_wp2
        go_ret2
        exact ⟨by rw [HRR.out]; rfl, HB6.out⟩
      | false =>
        have HJn := Lib.hid (join_tm L false net ⟨#[110, 101, 116]⟩ rfl HLq.out HSn.out h5)
        clear HLq
        obtain ⟨R, hRR⟩ : ∃ R, (tmQ L L.length ++ endS false) ++ textS net = R := ⟨_, rfl⟩
        have HRR := Lib.hid hRR
        rw [hRR] at HJn
        clear hRR
        go_wp2_with fail
        refine (HN.out _).mono ?_
        rintro e w3 ⟨rfl, hb⟩
        clear x0 x1
        have ha : Below w3.heap.size w3 (w3.alloc (Obj.cells #[.string ⟨#[110, 101, 116]⟩, .string (textS net)] 9)) := (Below.refl _ _).alloc (Nat.le_refl _) _
        have HO3 := Lib.hid ((HO.out.below hb).below ha)
        have hs3 : w.heap.size + 1 ≤ w3.heap.size := Nat.le_trans hsz hb.size
        have HB3 := Lib.hid ((HB.out.trans (hb.mono HB.out.size)).trans (ha.mono (by omega)))
        have hs4 : w.heap.size + 1 ≤ (w3.alloc (Obj.cells #[.string ⟨#[110, 101, 116]⟩, .string (textS net)] 9)).heap.size := by simp; omega
        clear hb ha HO HB HP
        go_wp2_with (at_builtin
                     go_loud (refine wpList_vals und_strs inf_str rfl (by decide) rfl (.tmp 36) (.tmp 41) rfl (w.heap.size + 1) v _ [.string ⟨#[110, 101, 116]⟩, .string (textS net)] rfl HO3.out (some ⟨w3.heap.size, 0, none⟩) 2 rfl (fun e => by cases e) (row_new2 w3 _ _) (str_cells2 _ _) (by unfold strV; rw [List.length_map, HLn.out]; simp; omega) hs4 ?_)
                     intro v' w5 o5 b5
                     have o6 : OwnV w5 (w.heap.size + 1) 9 v' (strV (ptQ L L.length ++ [⟨#[110, 101, 116]⟩, textS net])) := by unfold strV at o5 ⊢; rw [List.map_append]; exact o5
                     obtain ⟨g, cp, hv, hg, hcp, hcl⟩ := own_join o6 (by simp)
                     subst hv
                     have HB5 := Lib.hid (HB3.out.trans (b5.mono (by omega)))
                     have hj := HJn.out g cp w5 hcl hg hcp
                     generalize (ptQ L L.length ++ [⟨#[110, 101, 116]⟩, textS net]).length = nn at *
                     have HJ := Lib.hid hj
                     clear hj
                     clear o5 b5 o6 hcl hg hcp)
        refine (HJ.out).mono ?_
        rintro e w6 ⟨rfl, hb⟩
        have HB6 := Lib.hid (HB5.out.trans (hb.mono HB5.out.size))
        clear hb
        go_wp2
        go_ret2
        exact ⟨by rw [HRR.out]; rfl, HB6.out⟩
end Go.Proofs.YtkpdbhpmnegahaaDoor
namespace Go.Proofs.YtkpdbhpmnegahaaDoor
open Go.RowKit Go.Sort
set_option linter.unusedVariables false
set_option linter.unusedSimpArgs false

/-- the cuts of the example. -/
def L2 : List Ct := [(10, 3, 100), (20, 1, 50)]
theorem ex1 : tmB 30 L2 = true := by decide +kernel
theorem ex2 : cuT 30 L2 46000 46015 = (1, 50, 0) := by decide +kernel
theorem ex3 : cuT 30 L2 46000 46021 = (0, 1, 0) := by decide +kernel
theorem bd2 : BdC L2 := by
  intro c hc
  simp [L2] at hc
  rcases hc with rfl | rfl <;> exact ⟨⟨by decide, by decide⟩, ⟨by decide, by decide⟩, by decide, by decide⟩
set_option maxHeartbeats 400000 in
theorem demand_ok (w : World) : Calls Tryd.prog 21 #[.bool true] w fun e w' => e = .returned (.tuple #[]) ∧ w = w' := by
  go_enter Tryd.func21, Tryd.ntmps21
  go_wp2
  first
    | (go_end0; exact ⟨rfl, rfl⟩)
    | (refine bodyPost_ret (results_none rfl _ _ _) rfl ?_; exact ⟨rfl, rfl⟩)
set_option maxHeartbeats 400000 in
theorem demand_no (w : World) : Calls Tryd.prog 21 #[.bool false] w fun e w' => e = .panicked [{ v := .iface 26 (.int .i64 5), recovered := false }] ∧ w = w' := by
  go_enter Tryd.func21, Tryd.ntmps21
  go_wp2
  exact ⟨rfl, rfl, rfl⟩
set_option maxRecDepth 100000 in
set_option maxHeartbeats 1000000 in
theorem word_any (B g off n c : Nat) (S : ByteArray) (w : World) (hQ : Q1 w B (.slice (some ⟨g, off, none⟩) (n + 1) c)) (h1 : w.cell? ⟨g, off + 1, none⟩ = some (.string S)) (hc : n + 1 ≤ c) (hc2 : 1 < c) (hm : c ≤ maxLen) :
    Calls Tryd.prog 35 #[.pointer (some ⟨B, 0, none⟩)] w fun e w' => e = .returned (.string S) ∧ w' = w.setCell ⟨B, 0, none⟩ (.slice (some ⟨g, off + 3, none⟩) n (c - 1)) := by
  have x0 := hQ.c0
  have f0 := hQ.f0
  have HD := Lib.hid (demand_ok w)
  have q1 : (0 : Int) < ((n + 1 : Nat) : Int) := by omega
  have q2 : decide ((0 : Int) < ((n + 1 : Nat) : Int)) = true := decide_eq_true q1
  go_enter Tryd.func35, Tryd.ntmps35
  go_wp2_with fail
  refine (HD.out).mono ?_
  rintro e w_ ⟨rfl, rfl⟩
  go_wp2
  go_ret
  exact ⟨rfl, rfl⟩
set_option maxRecDepth 100000 in
set_option maxHeartbeats 1000000 in
theorem word_last (B g off : Nat) (S : ByteArray) (w : World) (hQ : Q1 w B (.slice (some ⟨g, off, none⟩) 1 1)) (h1 : w.cell? ⟨g, off + 1, none⟩ = some (.string S)) :
    Calls Tryd.prog 35 #[.pointer (some ⟨B, 0, none⟩)] w fun e w' => e = .returned (.string S) ∧ w' = w.setCell ⟨B, 0, none⟩ (.slice (some ⟨g, off, none⟩) 0 0) := by
  have x0 := hQ.c0
  have f0 := hQ.f0
  have HD := Lib.hid (demand_ok w)
  go_enter Tryd.func35, Tryd.ntmps35
  go_wp2_with fail
  refine (HD.out).mono ?_
  rintro e w_ ⟨rfl, rfl⟩
  go_wp2
  go_ret
  exact ⟨rfl, rfl⟩
end Go.Proofs.YtkpdbhpmnegahaaDoor
namespace Go.Proofs.YtkpdbhpmnegahaaDoor
open Go.RowKit Go.Sort
set_option linter.unusedVariables false
set_option linter.unusedSimpArgs false

set_option maxRecDepth 100000 in
set_option maxHeartbeats 1000000 in
theorem isAt_any (B g off n c b c2 : Nat) (zs : List ByteArray) (S : ByteArray) (w : World) (hQ : Q1 w B (.slice (some ⟨g, off, none⟩) (n + 1) c)) (h1 : w.cell? ⟨g, off + 1, none⟩ = some (.string S))
    (hz : zs.length ≤ 9223372036854775807) (hc : ∀ j, j < zs.length → w.cell? ⟨b, 0 + j, none⟩ = some (.string (zs.getD j ByteArray.empty))) :
    Calls Tryd.prog 32 #[.pointer (some ⟨B, 0, none⟩), .slice (some ⟨b, 0, none⟩) zs.length c2] w fun e w' => e = .returned (.bool (Lib.containsS zs S)) ∧ w' = w := by
  have HC := Lib.hid (show Calls Tryd.prog 53 #[.slice (some ⟨b, 0, none⟩) zs.length c2, .string S] w fun e w' => e = .returned (.bool (Lib.containsS zs S)) ∧ w' = w from by
    have := Tryd.slices_Contains_string b 0 zs.length c2 zs S w (Nat.le_refl _) hz hc
    rw [List.take_length] at this
    exact this)
  have x0 := hQ.c0
  have q1 : (0 : Int) < ((n + 1 : Nat) : Int) := by omega
  clear hc hQ
  generalize Lib.containsS zs S = r at *
  generalize zs.length = m at *
  go_enter Tryd.func32, Tryd.ntmps32
  go_wp2_with fail
  refine (HC.out).mono ?_
  rintro e w_ ⟨rfl, rfl⟩
  go_wp2
  go_ret
  exact ⟨rfl, rfl⟩
/-- what word leaves. -/
def WdP (B g off n c : Nat) (w w' : World) : Prop := ∃ o, (0 < n → o = off + 3) ∧ w' = w.setCell ⟨B, 0, none⟩ (.slice (some ⟨g, o, none⟩) n (c - 1))
theorem word_gen (B g off n c : Nat) (S : ByteArray) (w : World) (hQ : Q1 w B (.slice (some ⟨g, off, none⟩) (n + 1) c)) (h1 : w.cell? ⟨g, off + 1, none⟩ = some (.string S)) (hc : n + 1 ≤ c) (hm : c ≤ maxLen) :
    Calls Tryd.prog 35 #[.pointer (some ⟨B, 0, none⟩)] w fun e w' => e = .returned (.string S) ∧ WdP B g off n c w w' := by
  by_cases h : 1 < c
  · exact (word_any B g off n c S w hQ h1 hc h hm).mono fun e w' ⟨a, b⟩ => ⟨a, off + 3, fun _ => rfl, b⟩
  · obtain rfl : n = 0 := by omega
    obtain rfl : c = 1 := by omega
    exact (word_last B g off S w hQ h1).mono fun e w' ⟨a, b⟩ => ⟨a, off, fun q => absurd q (by omega), b⟩
set_option maxRecDepth 100000 in
set_option maxHeartbeats 1000000 in
theorem span_any (B g off n c : Nat) (S : ByteArray) (v : Int) (w : World) (hQ : Q1 w B (.slice (some ⟨g, off, none⟩) (n + 1) c)) (h1 : w.cell? ⟨g, off + 1, none⟩ = some (.string S)) (hc : n + 1 ≤ c) (hm : c ≤ maxLen) (hS : S.size ≤ maxLen) (hv : parseV S 0 365 = (v, 0)) :
    Calls Tryd.prog 34 #[.pointer (some ⟨B, 0, none⟩)] w fun e w' => e = .returned (.int .i64 v) ∧ WdP B g off n c w w' := by
  have HW := Lib.hid (word_gen B g off n c S w hQ h1 hc hm)
  have HP := Lib.hid (fun W => parse_any S 0 365 W hS)
  have HD := Lib.hid (fun W => demand_ok W)
  rw [hv] at HP
  clear hQ h1 hv
  go_enter Tryd.func34, Tryd.ntmps34
  go_wp2_with fail
  refine (HW.out).mono ?_
  rintro e w1 ⟨rfl, hp⟩
  have HQ := Lib.hid hp
  clear hp
  go_wp2_with fail
  refine (HP.out _).mono ?_
  rintro e w_ ⟨rfl, rfl⟩
  go_wp2_with fail
  refine (HD.out _).mono ?_
  rintro e w_ ⟨rfl, rfl⟩
  go_wp2
  go_ret
  exact ⟨rfl, HQ.out⟩
/-- fraction where the word is none. -/
theorem fraction_bad (B g off n c : Nat) (S : ByteArray) (fn fd fe : Int) (w : World) (hQ : Q1 w B (.slice (some ⟨g, off, none⟩) (n + 1) c)) (h1 : w.cell? ⟨g, off + 1, none⟩ = some (.string S)) (hc : n + 1 ≤ c) (hm : c ≤ maxLen)
    (he : fe ≠ 0) (HP : Hid (∀ W, Calls Tryd.prog 54 #[.string S] W fun e w' => e = .returned (.tuple #[.agg #[.int .i64 fn, .int .i64 fd], .int .i64 fe]) ∧ Below W.heap.size W w')) :
    Calls Tryd.prog 33 #[.pointer (some ⟨B, 0, none⟩)] w fun e w' => e = .panicked [{ v := .iface 26 (.int .i64 5), recovered := false }] ∧ w.heap.size ≤ w'.heap.size := by
  have ha : Below w.heap.size w (w.alloc (Obj.cells #[.int .i64 0, .int .i64 0] 35)) := (Below.refl _ _).alloc (Nat.le_refl _) _
  have hlg : g < w.heap.size := World.block_lt_of_cell? w _ h1
  have HW := Lib.hid (word_gen B g off n c S (w.alloc (Obj.cells #[.int .i64 0, .int .i64 0] 35)) (hQ.below ha) (by rw [ha.cell hlg]; exact h1) hc hm)
  have HD := Lib.hid (fun W => demand_no W)
  have he' : (fe == 0) = false := by simpa using he
  clear hQ h1 ha he
  go_enter Tryd.func33, Tryd.ntmps33
  go_wp2_with fail
  refine (HW.out).mono ?_
  rintro e w1 ⟨rfl, hp⟩
  have hsz : w.heap.size ≤ w1.heap.size := by obtain ⟨o, _, rfl⟩ := hp; simp
  clear hp
  go_wp2_with fail
  refine (HP.out _).mono ?_
  rintro e w2 ⟨rfl, hb⟩
  have hsz2 : w.heap.size ≤ w2.heap.size := Nat.le_trans hsz hb.size
  clear hb
  go_wp2_with fail
  refine (HD.out _).mono ?_
  rintro e w_ ⟨rfl, rfl⟩
  go_wp2
  exact ⟨rfl, rfl, by simp; omega⟩
end Go.Proofs.YtkpdbhpmnegahaaDoor
namespace Go.Proofs.YtkpdbhpmnegahaaDoor
open Go.RowKit Go.Sort
set_option linter.unusedVariables false
set_option linter.unusedSimpArgs false

/-- the parser behind a word: of what lay there nothing but its cell has turned, and it stands at the next word. -/
def PsP (B g off n c : Nat) (w w' : World) : Prop := w.grownBy w' (some B) ∧ ∃ o, (0 < n → o = off + 3) ∧ Q1 w' B (.slice (some ⟨g, o, none⟩) n (c - 1))
theorem setCell_grown (w : World) (B i : Nat) (v : Value) : w.grownBy (w.setCell ⟨B, i, none⟩ v) (some B) :=
  ⟨rfl, rfl, rfl, by simp, fun k _ hk => Below.heap_setCell _ _ _ k (fun e => hk (by rw [e]))⟩
theorem grown_below {a b c : World} {row : Option Nat} (h : a.grownBy b row) (k : Below a.heap.size b c) : a.grownBy c row :=
  ⟨k.os.trans h.os, k.tape.trans h.tape, k.output.trans h.output, Nat.le_trans h.size k.size, fun i hi hne => (k.block i hi).trans (h.block i hi hne)⟩
theorem WdP.ps {B g off n c : Nat} {w w' : World} {v : Value} (h : WdP B g off n c w w') (hQ : Q1 w B v) : PsP B g off n c w w' := by
  obtain ⟨o, h1, rfl⟩ := h
  exact ⟨setCell_grown _ _ _ _, o, h1, hQ.set0 _⟩
theorem results_cell_one {fn : Func} {p : Tmp} {ty : TypeId} (h : fn.results = #[.cell p ty]) (tmps : Array Value) (P : Program) (w : World) :
    (results fn tmps).run P w = ((asAddr (tmps.getD p undef)).run P w).andThen fun a w₁ => (loadVar ty a).run P w₁ := by
  simp only [results, h]
  simp [Sem.run_bind, Result.andThen]
/-- fraction where the word is a fraction. -/
theorem fraction_ok (B g off n c : Nat) (S : ByteArray) (fn fd : Int) (w : World) (hQ : Q1 w B (.slice (some ⟨g, off, none⟩) (n + 1) c)) (h1 : w.cell? ⟨g, off + 1, none⟩ = some (.string S)) (hc : n + 1 ≤ c) (hm : c ≤ maxLen)
    (HP : Hid (∀ W, Calls Tryd.prog 54 #[.string S] W fun e w' => e = .returned (.tuple #[.agg #[.int .i64 fn, .int .i64 fd], .int .i64 0]) ∧ Below W.heap.size W w')) :
    Calls Tryd.prog 33 #[.pointer (some ⟨B, 0, none⟩)] w fun e w' => e = .returned (.agg #[.int .i64 fn, .int .i64 fd]) ∧ PsP B g off n c w w' := by
  have ha : Below w.heap.size w (w.alloc (Obj.cells #[.int .i64 0, .int .i64 0] 35)) := (Below.refl _ _).alloc (Nat.le_refl _) _
  have hlg : g < w.heap.size := World.block_lt_of_cell? w _ h1
  have hlB := hQ.lt
  have hQa := hQ.below ha
  have HQa := Lib.hid hQa
  have HF := Lib.hid (Q2.alloc w (.int .i64 0) (.int .i64 0) 35)
  have HW := Lib.hid (word_gen B g off n c S (w.alloc (Obj.cells #[.int .i64 0, .int .i64 0] 35)) hQa (by rw [ha.cell hlg]; exact h1) hc hm)
  have HD := Lib.hid (fun W => demand_ok W)
  have HA := Lib.hid ha
  clear hQ h1 ha hQa
  go_enter Tryd.func33, Tryd.ntmps33
  go_wp2_with fail
  refine (HW.out).mono ?_
  rintro e w1 ⟨rfl, hp⟩
  have hps := hp.ps HQa.out
  have HG1 := Lib.hid (show w.grownBy w1 (some B) from ⟨hps.1.os.trans HA.out.os, hps.1.tape.trans HA.out.tape, hps.1.output.trans HA.out.output, Nat.le_trans HA.out.size hps.1.size, fun i hi hne => (hps.1.block i (Nat.lt_of_lt_of_le hi HA.out.size) hne).trans (HA.out.block i hi)⟩)
  have HQ1 := Lib.hid hps.2
  have HF1 := Lib.hid (show Q2 w1 w.heap.size (.int .i64 0) (.int .i64 0) from by
    obtain ⟨o, _, rfl⟩ := hp
    exact HF.out.far (by omega) _)
  have hs1 : w.heap.size + 1 ≤ w1.heap.size := by have := hps.1.size; simp at this; omega
  clear hp hps HQa HF HA
  go_wp2_with fail
  refine (HP.out _).mono ?_
  rintro e w2 ⟨rfl, hb⟩
  have HF2 := Lib.hid (HF1.out.below hb)
  have HB2 := Lib.hid (show Below w.heap.size w1 w2 from hb.mono (by omega))
  have hs2 : w.heap.size + 1 ≤ w2.heap.size := Nat.le_trans hs1 hb.size
  clear hb HF1
  have ha : Below w2.heap.size w2 (w2.alloc (Obj.cells #[.int .i64 fn, .int .i64 fd] 35)) := (Below.refl _ _).alloc (Nat.le_refl _) _
  have HG := Lib.hid (Q2.alloc w2 (.int .i64 fn) (.int .i64 fd) 35)
  have HF3 := Lib.hid (HF2.out.below ha)
  have HB3 := Lib.hid (HB2.out.trans (ha.mono (by omega)))
  clear ha HF2 HB2
  go_wp2_with fail
  refine (HD.out _).mono ?_
  rintro e w_ ⟨rfl, rfl⟩
  have y0 := HG.out.c0
  have y1 := HG.out.c1
  have f0 := HF3.out.f0
  have f1 := (HF3.out.set0 (.int .i64 fn)).f1
  have q0 := HF3.out.c0
  have q1' := (HF3.out.set0 (.int .i64 fn)).c1
  have HBe := Lib.hid ((HB3.out.setCell (p := ⟨w.heap.size, 0, none⟩) (Nat.le_refl _) (.int .i64 fn)).setCell (p := ⟨w.heap.size, 1, none⟩) (Nat.le_refl _) (.int .i64 fd))
  have HQe := Lib.hid ((HF3.out.set0 (.int .i64 fn)).set1 (.int .i64 fd))
  go_wp2
  (try simp only [Exit.inBlock, Exit.then])
  refine bodyPost_ret (v := .agg #[.int .i64 fn, .int .i64 fd]) ?_ rfl ⟨rfl, grown_below HG1.out HBe.out, by
    obtain ⟨o, h1, h2⟩ := HQ1.out
    exact ⟨o, h1, h2.belowN HBe.out hlB HBe.out.size⟩⟩
  have u0 := HQe.out.c0
  have u1 := HQe.out.c1
  rw [results_cell_one rfl]
  go_simp
end Go.Proofs.YtkpdbhpmnegahaaDoor
namespace Go.Proofs.YtkpdbhpmnegahaaDoor
open Go.RowKit Go.Sort
set_option linter.unusedVariables false
set_option linter.unusedSimpArgs false

theorem row2 (w : World) : RowC (w.alloc (Obj.cells #[.int .i64 10, .int .i64 3, .int .i64 100, .int .i64 20, .int .i64 1, .int .i64 50] 44)) (some ⟨w.heap.size, 0, none⟩) L2 := by
  refine fun _ => ⟨w.heap.size, 0, rfl, by simp, fun i hi => ?_⟩
  have hi : i < 2 := hi
  match i, hi with
  | 0, _ => exact ⟨by rw [World.cell?_alloc_at _ _ _ _ rfl]; rfl, by rw [World.cell?_alloc_at _ _ _ _ rfl]; rfl, by rw [World.cell?_alloc_at _ _ _ _ rfl]; rfl⟩
  | 1, _ => exact ⟨by rw [World.cell?_alloc_at _ _ _ _ rfl]; rfl, by rw [World.cell?_alloc_at _ _ _ _ rfl]; rfl, by rw [World.cell?_alloc_at _ _ _ _ rfl]; rfl⟩
set_option maxRecDepth 100000 in
set_option maxHeartbeats 1000000 in
theorem usual_any (w : World) : Calls Tryd.prog 12 #[] w fun e w' => ∃ b, e = .returned (.agg #[.int .i64 30, .bool false, .slice (some ⟨b, 0, none⟩) 2 2]) ∧ RowC w' (some ⟨b, 0, none⟩) L2 ∧ Below w.heap.size w w' := by
  have ha1 : Below w.heap.size w (w.alloc (Obj.cells #[.int .i64 0, .bool false, .slice none 0 0] 24)) := (Below.refl _ _).alloc (Nat.le_refl _) _
  have HP := Lib.hid (Q3.alloc w (.int .i64 0) (.bool false) (.slice none 0 0) 24)
  go_enter Tryd.func12, Tryd.ntmps12
  go_wp2
  have hW : (w.alloc (Obj.cells #[.int .i64 30, .bool false, .slice (some ⟨w.heap.size + 1, 0, none⟩) 2 2] 24)).heap.size = w.heap.size + 1 := by simp
  have hr := row2 (w.alloc (Obj.cells #[.int .i64 30, .bool false, .slice (some ⟨w.heap.size + 1, 0, none⟩) 2 2] 24))
  have hb : Below w.heap.size w (w.alloc (Obj.cells #[.int .i64 30, .bool false, .slice (some ⟨w.heap.size + 1, 0, none⟩) 2 2] 24)) := (Below.refl _ _).alloc (Nat.le_refl _) _
  have hb2 : Below (w.alloc (Obj.cells #[.int .i64 30, .bool false, .slice (some ⟨w.heap.size + 1, 0, none⟩) 2 2] 24)).heap.size (w.alloc (Obj.cells #[.int .i64 30, .bool false, .slice (some ⟨w.heap.size + 1, 0, none⟩) 2 2] 24)) ((w.alloc (Obj.cells #[.int .i64 30, .bool false, .slice (some ⟨w.heap.size + 1, 0, none⟩) 2 2] 24)).alloc (Obj.cells #[.int .i64 10, .int .i64 3, .int .i64 100, .int .i64 20, .int .i64 1, .int .i64 50] 44)) := (Below.refl _ _).alloc (Nat.le_refl _) _
  have hq := (Q3.alloc w (.int .i64 30) (.bool false) (.slice (some ⟨w.heap.size + 1, 0, none⟩) 2 2) 24).below hb2
  rw [hW] at hr
  (try simp only [Exit.inBlock, Exit.then])
  refine bodyPost_ret (v := .agg #[.int .i64 30, .bool false, .slice (some ⟨w.heap.size + 1, 0, none⟩) 2 2]) ?_ rfl ⟨w.heap.size + 1, rfl, hr, hb.trans (hb2.mono (by simp))⟩
  have u0 := hq.c0
  have u1 := hq.c1
  have u2 := hq.c2
  rw [results_cell_one rfl]
  clear hr hb hb2 hq hW HP ha1
  go_simp
end Go.Proofs.YtkpdbhpmnegahaaDoor
namespace Go.Proofs.YtkpdbhpmnegahaaDoor
open Go.RowKit Go.Sort
set_option linter.unusedVariables false
set_option linter.unusedSimpArgs false

open Go.ChangeShapes Go.WideShapes Go.Deep
theorem lt_cellF {w : World} {p : Addr} {v : Value} (h : w.cell? p = some v) : p.block < w.heap.size := by
  rcases Nat.lt_or_ge p.block w.heap.size with k | k
  · exact k
  · simp [World.cell?, Array.getElem?_eq_none k] at h
theorem cellsCu : Tryd.prog.cellsOf 44 = 3 := by kernel_rfl
theorem cellsFr : Tryd.prog.cellsOf 35 = 2 := by kernel_rfl
theorem cellsIn : Tryd.prog.cellsOf 3 = 1 := by kernel_rfl
theorem cellsBo : Tryd.prog.cellsOf 4 = 1 := by kernel_rfl
theorem cellsSl : Tryd.prog.cellsOf 22 = 1 := by kernel_rfl
theorem cellsTm : Tryd.prog.cellsOf 24 = 3 := by kernel_rfl
def OkC (w : World) (A : Option Addr) (len : Nat) (L : List Ct) : Prop := L.length = len ∧ RowC w A L ∧ BdC L ∧ L.length ≤ maxLen
set_option maxRecDepth 100000 in
theorem rowC_cells {H : Type} {enc : TypeId × Value → H} {w : World} {base : Nat} {spare : Nat → Bool} {held : Bool} {fuel : Nat} {cs : List Value} {x : DataW H × List MemPlace}
    (hf : DataW.trod enc Tryd.prog w base spare held fuel 22 cs = some x) : ∃ (A : Option Addr) (len cap : Nat) (L : List Ct), cs = [.slice A len cap] ∧ OkC w A len L := by
  rcases open_slice Tryd.underlying22 hf with ⟨hcs, _⟩ | ⟨a, l, c, m, n, D, Pl, hcs, hb, hl, hm, hmm, _, hcell⟩
  · exact ⟨none, 0, 0, [], hcs, rfl, (fun h => absurd h (by simp)), (fun t ht => by cases ht), by simp⟩
  · refine ⟨some a, l, c, ?_⟩
    have hlm : l ≤ m := by rw [hmm]; split <;> omega
    have ce := cellsCu
    have cf := cellsFr
    have ci := cellsIn
    have each : ∀ i, i < l → ∃ q : Ct, (w.cell? (a.add (i * 3)) = some (.int .i64 q.1) ∧ w.cell? (a.add (i * 3 + 1)) = some (.int .i64 q.2.1) ∧ w.cell? (a.add (i * 3 + 2)) = some (.int .i64 q.2.2)) ∧ (r64 q.1 ∧ r64 q.2.1 ∧ r64 q.2.2) := by
      intro i hi
      obtain ⟨cs', h1, h2⟩ := hcell i (by omega)
      rw [ce] at h1
      obtain ⟨_, hlen, hat⟩ := World.cells?_some h1
      obtain ⟨xs, k, hk, hxy, _, hxl, hf⟩ := DataW.trod_struct Tryd.underlying44 h2
      match xs, hxl, cs', hlen with
      | [y0, y1], _, [v0, v1, v2], _ =>
        have g0 := hf 0 _ rfl
        have g1 := hf 1 _ rfl
        simp [cf, ci] at g0 g1
        obtain ⟨z, e0, _, hz⟩ := DataW.trod_int Tryd.underlying3 g0
        obtain ⟨ys, k2, hk2, hxy2, _, hyl, hf2⟩ := DataW.trod_struct Tryd.underlying35 g1
        match ys, hyl with
        | [u0, u1], _ =>
          have r0 := hf2 0 _ rfl
          have r1 := hf2 1 _ rfl
          simp [ci] at r0 r1
          obtain ⟨x, f0, _, hx⟩ := DataW.trod_int Tryd.underlying3 r0
          obtain ⟨y, f1, _, hy⟩ := DataW.trod_int Tryd.underlying3 r1
          simp at e0 f0 f1
          subst e0 f0 f1
          have q0 := hat 0 (by omega)
          have q1 := hat 1 (by omega)
          have q2 := hat 2 (by omega)
          rw [add_add] at q0 q1 q2
          exact ⟨(z, x, y), ⟨by simpa using q0, by simpa using q1, by simpa using q2⟩, wf64' hz, wf64' hx, wf64' hy⟩
    obtain ⟨q, hq⟩ := choose_lt each
    refine ⟨(List.range l).map q, hcs, by simp, fun h0 => ?_, fun t ht => ?_, by simp; omega⟩
    · have h0 : 0 < l := by simpa using h0
      obtain ⟨b, off, spot⟩ := a
      have hspot : spot = none := by simpa [Addr.add] using World.cell?_spot (hq 0 h0).1.1
      subst hspot
      have hlt : b < w.heap.size := by
        have := (hq 0 h0).1.1
        rw [addr_is] at this
        exact lt_cellF this
      refine ⟨b, off, rfl, hlt, fun i hi => ?_⟩
      have hi : i < l := by simpa using hi
      obtain ⟨⟨c0, c1, c2⟩, _⟩ := hq i hi
      rw [addr_is] at c0 c1 c2
      simp only [List.getElem_map, List.getElem_range]
      exact ⟨c0, by rw [Nat.add_assoc]; exact c1, by rw [Nat.add_assoc]; exact c2⟩
    · obtain ⟨i, hi, rfl⟩ := List.mem_map.1 ht
      have hi : i < l := by simpa using hi
      exact (hq i hi).2
end Go.Proofs.YtkpdbhpmnegahaaDoor
namespace Go.Proofs.YtkpdbhpmnegahaaDoor
open Go.RowKit Go.Sort
set_option linter.unusedVariables false
set_option linter.unusedSimpArgs false

open Go.ChangeShapes Go.WideShapes Go.Deep
set_option maxRecDepth 100000 in
theorem terms_of {H : Type} {enc : TypeId × Value → H} {w : World} {base : Nat} {spare : Nat → Bool} {held : Bool} {v : Value} {r : Reach} {b0 : Nat} {d : DataW H} {p : List MemPlace}
    (hv : Value.okWide Tryd.prog w r b0 24 v) (h : DataW.Trod enc Tryd.prog w base spare held 24 v d p) :
    ∃ net eom A len c L, v = .agg #[.int .i64 net, .bool eom, .slice A len c] ∧ r64 net ∧ OkC w A len L := by
  obtain ⟨cs, rfl, hsz⟩ := okWide_struct Tryd.underlying24 hv
  rw [cellsTm] at hsz
  obtain ⟨fuel, hf⟩ := h
  obtain ⟨l⟩ := cs
  match l, hsz with
  | [v0, v1, v2], _ =>
    obtain ⟨xs, k, hk, hxy, _, hxl, hf⟩ := DataW.trod_struct Tryd.underlying24 hf
    match xs, hxl with
    | [y0, y1, y2], _ =>
      have g0 := hf 0 _ rfl
      have g1 := hf 1 _ rfl
      have g2 := hf 2 _ rfl
      simp [Value.cells, cellsIn, cellsBo, cellsSl] at g0 g1 g2
      obtain ⟨z0, e0, _, w0⟩ := DataW.trod_int Tryd.underlying3 g0
      obtain ⟨z1, e1, _⟩ := DataW.trod_bool Tryd.underlying4 g1
      obtain ⟨A, len, cap, L, e2, w2⟩ := rowC_cells g2
      simp at e0 e1 e2
      subst e0 e1 e2
      exact ⟨z0, z1, A, len, cap, L, rfl, wf64' w0, w2⟩
theorem eqFr (a b x y : Int) (w : World) : (Op.equalIn 10000 35 (.agg #[.int .i64 a, .int .i64 b]) (.agg #[.int .i64 x, .int .i64 y])).run Tryd.prog w = .ok (a == x && b == y) w := by
  have u3 := Tryd.underlying3
  have a3 := Tryd.isAgg3
  have z3 := Tryd.sizeOf3
  have hS : Tryd.prog.underlying 35 = some (.struct (Tryd.prog.fieldsOf 35)) := by kernel_rfl
  rw [show (10000 : Nat) = 9999 + 1 from rfl, run_equalIn_agg w 9999 35 _ _ hS (by kernel_rfl)]
  simp only [Program.fieldsOf, Tryd.underlying35]
  go_simp
  by_cases h1 : a = x <;> by_cases h2 : b = y <;> simp [h1, h2]
theorem eqFrYes (a b : Int) (w : World) : (Op.equalIn 10000 35 (.agg #[.int .i64 a, .int .i64 b]) (.agg #[.int .i64 a, .int .i64 b])).run Tryd.prog w = .ok true w := by
  rw [eqFr]; simp
/-- what lives answers. -/
def LivP : Prop := ∀ w, Tab w → Calls Tryd.prog 5 #[] w fun e w' => e = .returned (.bool true) ∧ Below w.heap.size w w'
end Go.Proofs.YtkpdbhpmnegahaaDoor
