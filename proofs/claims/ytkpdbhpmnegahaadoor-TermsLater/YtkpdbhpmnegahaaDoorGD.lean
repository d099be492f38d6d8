/- Terms of payment: which are right, when a document is due, which discount a payment has, the notation: plain facts; cuts in memory. No conditions. Spans, shares, the order of cuts and days, of the packages terms and accountingref24. Written by wip/mk_tma.py. Right of package terms. Written by wip/mk_tmb.py. Right of package accountingref24. Written by wip/mk_tmc.py. Cut of the packages terms and accountingref24. Written by wip/mk_tmd.py. Due of the packages terms and accountingref24. Written by wip/mk_tme.py. -/
import Derived.Test.YtkpdbhpmnegahaaDoorFrH
import Derived.Test.YtkpdbhpmnegahaaDoorQs
import Derived.Test.YtkpdbhpmnegahaaDoorDyH
import Derived.Lib.QuietBelow
import Derived.BigQuiet
import Derived.Laws.ResultCell
namespace Go.Proofs.YtkpdbhpmnegahaaDoor
open Go.RowKit Go.Sort
set_option linter.unusedVariables false
set_option linter.unusedSimpArgs false

/-- a cut: its days, its fraction's parts. -/
abbrev Ct := Int × Int × Int
def spB (n : Int) : Bool := decide (0 ≤ n) && decide (n ≤ 365)
def dcB (n d : Int) : Bool := rightB n d && (decide (0 < n) && decide (n < d))
def flB (c p : Ct) : Bool := decide (p.1 < c.1) && decide (cpV c.2.1 c.2.2 p.2.1 p.2.2 < 0)
/-- the k-th cut is right behind the one before. -/
def okAt (L : List Ct) (k : Nat) : Bool :=
  match L[k]? with
  | none => true
  | some c => spB c.1 && (dcB c.2.1 c.2.2 && (match k with
    | 0 => true
    | j + 1 => match L[j]? with
      | none => true
      | some p => flB c p))
def tmB (net : Int) (L : List Ct) : Bool := spB net && (decide (L.length ≤ 5) && (List.range L.length).all (okAt L))
theorem tm_net {net : Int} {L : List Ct} (h : spB net = false) : tmB net L = false := by unfold tmB; rw [h]; rfl
theorem tm_many {net : Int} {L : List Ct} (h : ¬ L.length ≤ 5) : tmB net L = false := by unfold tmB; rw [decide_eq_false h]; simp
theorem tm_bad {net : Int} {L : List Ct} {k : Nat} (hk : k < L.length) (h : okAt L k = false) : tmB net L = false := by
  have : (List.range L.length).all (okAt L) = false := by
    rw [List.all_eq_false]
    exact ⟨k, List.mem_range.2 hk, by simp [h]⟩
  unfold tmB; rw [this]; simp
theorem tm_ok {net : Int} {L : List Ct} (h1 : spB net = true) (h2 : L.length ≤ 5) (h3 : ∀ k, k < L.length → okAt L k = true) : tmB net L = true := by
  have : (List.range L.length).all (okAt L) = true := List.all_eq_true.2 fun k hk => h3 k (List.mem_range.1 hk)
  unfold tmB; rw [h1, decide_eq_true h2, this]; rfl
theorem tm_is {net : Int} {L : List Ct} (h : tmB net L = true) : 0 ≤ net ∧ net ≤ 365 ∧ L.length ≤ 5 ∧ ∀ k (hk : k < L.length), 0 ≤ L[k].1 ∧ L[k].1 ≤ 365 ∧ rightB L[k].2.1 L[k].2.2 = true ∧ 0 < L[k].2.1 ∧ L[k].2.1 < L[k].2.2 := by
  unfold tmB at h
  simp only [Bool.and_eq_true, decide_eq_true_eq, spB] at h
  obtain ⟨⟨a, b⟩, c, e⟩ := h
  refine ⟨a, b, c, fun k hk => ?_⟩
  have := List.all_eq_true.1 e k (List.mem_range.2 hk)
  unfold okAt at this
  rw [List.getElem?_eq_getElem hk] at this
  simp only [Bool.and_eq_true, decide_eq_true_eq, spB, dcB] at this
  obtain ⟨⟨q1, q2⟩, ⟨q3, q4, q5⟩, _⟩ := this
  exact ⟨q1, q2, q3, q4, q5⟩
theorem okAt_span {L : List Ct} {k : Nat} (hk : k < L.length) (h : spB L[k].1 = false) : okAt L k = false := by
  unfold okAt; rw [List.getElem?_eq_getElem hk]; simp [h]
theorem okAt_share {L : List Ct} {k : Nat} (hk : k < L.length) (h : dcB L[k].2.1 L[k].2.2 = false) : okAt L k = false := by
  unfold okAt; rw [List.getElem?_eq_getElem hk]; simp [h]
theorem okAt_first {L : List Ct} (hk : 0 < L.length) (h1 : spB L[0].1 = true) (h2 : dcB L[0].2.1 L[0].2.2 = true) : okAt L 0 = true := by
  unfold okAt; rw [List.getElem?_eq_getElem hk]; simp [h1, h2]
theorem okAt_next {L : List Ct} {j : Nat} (hk : j + 1 < L.length) (h1 : spB L[j + 1].1 = true) (h2 : dcB L[j + 1].2.1 L[j + 1].2.2 = true) : okAt L (j + 1) = flB L[j + 1] (L[j]'(by omega)) := by
  unfold okAt; rw [List.getElem?_eq_getElem hk]; simp only [h1, h2, Bool.true_and]; rw [List.getElem?_eq_getElem (by omega)]
/-- Due, E the end of the day's month. -/
def dyV (net : Int) (eom : Bool) (L : List Ct) (day E : Int) : Int × Int :=
  if tmB net L = false then (0, 2)
  else if ¬ (0 ≤ day ∧ day ≤ 109572) then (0, 11)
  else if ¬ (0 ≤ (if eom = true then E else day) + net ∧ (if eom = true then E else day) + net ≤ 109572) then (0, 11)
  else ((if eom = true then E else day) + net, 0)
/-- the discount of a payment. -/
def cuD (day paid : Int) : List Ct → Int × Int
  | [] => (0, 1)
  | c :: r => if paid ≤ day + c.1 then (c.2.1, c.2.2) else cuD day paid r
def cuT (net : Int) (L : List Ct) (day paid : Int) : Int × Int × Int :=
  if tmB net L = false then (0, 0, 2)
  else if ¬ (0 ≤ day ∧ day ≤ 109572) ∨ ¬ (0 ≤ paid ∧ paid ≤ 109572) then (0, 0, 11)
  else ((cuD day paid L).1, (cuD day paid L).2, 0)
theorem cuD_yes {day paid : Int} {L : List Ct} {k : Nat} (hk : k < L.length) (h0 : cuD day paid L = cuD day paid (L.drop k)) (h : paid ≤ day + L[k].1) : cuD day paid L = (L[k].2.1, L[k].2.2) := by
  rw [h0, List.drop_eq_getElem_cons hk]; unfold cuD; rw [if_pos h]
theorem cuD_no {day paid : Int} {L : List Ct} {k : Nat} (hk : k < L.length) (h0 : cuD day paid L = cuD day paid (L.drop k)) (h : ¬ paid ≤ day + L[k].1) : cuD day paid L = cuD day paid (L.drop (k + 1)) := by
  rw [h0, List.drop_eq_getElem_cons hk]; rw [cuD, if_neg h]
theorem cuD_end {day paid : Int} {L : List Ct} (h0 : cuD day paid L = cuD day paid (L.drop L.length)) : cuD day paid L = (0, 1) := by
  rw [h0, List.drop_length]; rfl
def tmE (net : Int) (L : List Ct) : Int := if tmB net L = true then 0 else 2
/-- cuts in memory. -/
def BdC (L : List Ct) : Prop := ∀ c ∈ L, r64 c.1 ∧ r64 c.2.1 ∧ r64 c.2.2
def RowC (w : World) (A : Option Addr) (L : List Ct) : Prop :=
  0 < L.length → ∃ b off, A = some ⟨b, off, none⟩ ∧ b < w.heap.size ∧ ∀ i, (h : i < L.length) → w.cell? ⟨b, off + i * 3, none⟩ = some (.int .i64 L[i].1) ∧ w.cell? ⟨b, off + i * 3 + 1, none⟩ = some (.int .i64 L[i].2.1) ∧ w.cell? ⟨b, off + i * 3 + 2, none⟩ = some (.int .i64 L[i].2.2)
theorem RowC.below {w w' : World} {A : Option Addr} {L : List Ct} (h : RowC w A L) (hb : Below w.heap.size w w') : RowC w' A L := by
  intro h0
  obtain ⟨b, off, e, hl, hc⟩ := h h0
  exact ⟨b, off, e, Nat.lt_of_lt_of_le hl hb.size, fun i hi => ⟨by rw [hb.cell hl]; exact (hc i hi).1, by rw [hb.cell hl]; exact (hc i hi).2.1, by rw [hb.cell hl]; exact (hc i hi).2.2⟩⟩
end Go.Proofs.YtkpdbhpmnegahaaDoor
namespace Go.Proofs.YtkpdbhpmnegahaaDoor
open Go.RowKit Go.Sort
set_option linter.unusedVariables false
set_option linter.unusedSimpArgs false

theorem dc_no {n d : Int} (h : rightB n d = false) : dcB n d = false := by unfold dcB; rw [h]; rfl
theorem dc_neg {n d : Int} (h : ¬ 0 < n) : dcB n d = false := by unfold dcB; rw [decide_eq_false h]; simp
theorem dc_big {n d : Int} (h : ¬ n < d) : dcB n d = false := by unfold dcB; rw [decide_eq_false h]; simp
theorem dc_yes {n d : Int} (h : rightB n d = true) (h1 : 0 < n) (h2 : n < d) : dcB n d = true := by unfold dcB; rw [h, decide_eq_true h1, decide_eq_true h2]; rfl
theorem fl_early {c p : Ct} (h : ¬ p.1 < c.1) : flB c p = false := by unfold flB; rw [decide_eq_false h]; rfl
theorem fl_late {c p : Ct} (h : p.1 < c.1) : flB c p = decide (cpV c.2.1 c.2.2 p.2.1 p.2.2 < 0) := by unfold flB; rw [decide_eq_true h]; rfl
set_option maxHeartbeats 400000 in
theorem isSpan_any (n : Int) (w : World) (hn : r64 n) :
    Calls Tryd.prog 16 #[.int .i64 n] w fun e w' => e = .returned (.bool (spB n)) ∧ w = w' := by
  obtain ⟨n1, n2⟩ := hn
  by_cases h1 : n < 0
  · have q1 : decide (0 ≤ n) = false := decide_eq_false (by omega)
    have HV := Lib.hid (show (spB n) = false from by unfold spB; rw [q1]; rfl)
    go_enter Tryd.func16, Tryd.ntmps16
    go_wp2
    go_ret
    exact ⟨by first | rfl | (rw [HV.out]; rfl), rfl⟩
  by_cases h2 : n ≤ 365
  · have q1 : decide (0 ≤ n) = true := decide_eq_true (by omega)
    have q2 : decide (n ≤ 365) = true := decide_eq_true h2
    have HV := Lib.hid (show (spB n) = true from by unfold spB; rw [q1, q2]; rfl)
    go_enter Tryd.func16, Tryd.ntmps16
    go_wp2
    go_ret
    exact ⟨by first | rfl | (rw [HV.out]; rfl), rfl⟩
  · have q1 : decide (0 ≤ n) = true := decide_eq_true (by omega)
    have q2 : decide (n ≤ 365) = false := decide_eq_false h2
    have HV := Lib.hid (show (spB n) = false from by unfold spB; rw [q1, q2]; rfl)
    go_enter Tryd.func16, Tryd.ntmps16
    go_wp2
    go_ret
    exact ⟨by first | rfl | (rw [HV.out]; rfl), rfl⟩
set_option maxHeartbeats 400000 in
theorem isDayT_any (n : Int) (w : World) (hn : r64 n) :
    Calls Tryd.prog 23 #[.int .i64 n] w fun e w' => e = .returned (.bool (decide (0 ≤ n ∧ n ≤ 109572))) ∧ w = w' := by
  obtain ⟨n1, n2⟩ := hn
  have H := Lib.hid (fun W => weekday_any n W n1 n2)
  by_cases h : 0 ≤ n ∧ n ≤ 109572
  · rw [if_pos h] at H
    rw [decide_eq_true h]
    have h7 : 0 ≤ n % 7 := by omega
    have h7' : n % 7 < 7 := by omega
    clear h
    generalize n % 7 = k at *
    go_enter Tryd.func23, Tryd.ntmps23
    go_wp2_with fail
    refine (H.out _).mono ?_
    rintro e w1 ⟨rfl, rfl⟩
    go_wp2
    go_ret
    exact ⟨rfl, rfl⟩
  · rw [if_neg h] at H
    rw [decide_eq_false h]
    clear h
    go_enter Tryd.func23, Tryd.ntmps23
    go_wp2_with fail
    refine (H.out _).mono ?_
    rintro e w1 ⟨rfl, rfl⟩
    go_wp2
    go_ret
    exact ⟨rfl, rfl⟩
set_option maxHeartbeats 1000000 in
theorem isDiscount_any (n d : Int) (w : World) (hn : r64 n) (hd : r64 d) :
    Calls Tryd.prog 17 #[.agg #[.int .i64 n, .int .i64 d]] w fun e w' => e = .returned (.bool (dcB n d)) ∧ Below w.heap.size w w' := by
  obtain ⟨n1, n2⟩ := hn
  obtain ⟨d1, d2⟩ := hd
  have HP := Lib.hid (Q2.alloc w (.int .i64 n) (.int .i64 d) 35)
  have HB := Lib.hid ((Below.refl w.heap.size w).alloc (Nat.le_refl _) (Obj.cells #[.int .i64 n, .int .i64 d] 35))
  cases q : rightB n d
  · have H := Lib.hid (fun W => right_val n d false q W n1 n2 d1 d2)
    have HV := Lib.hid (dc_no q)
    go_enter Tryd.func17, Tryd.ntmps17
    have x0 := HP.out.c0
    have x1 := HP.out.c1
    go_wp2_with fail
    refine (H.out _).mono ?_
    rintro e w1 ⟨rfl, hb⟩
    clear x0 x1
    have HP1 := Lib.hid (HP.out.below hb)
    have HB1 := Lib.hid (HB.out.trans (hb.mono HB.out.size))
    clear hb HP HB
    have x0 := HP1.out.c0
    have x1 := HP1.out.c1
    go_wp2
    go_ret
    exact ⟨by rw [HV.out]; rfl, HB1.out⟩
  have H := Lib.hid (fun W => right_val n d true q W n1 n2 d1 d2)
  by_cases h1 : 0 < n
  case neg =>
    have HV := Lib.hid (dc_neg (d := d) h1)
    have q1 : decide (0 < n) = false := decide_eq_false h1
    go_enter Tryd.func17, Tryd.ntmps17
    have x0 := HP.out.c0
    have x1 := HP.out.c1
    go_wp2_with fail
    refine (H.out _).mono ?_
    rintro e w1 ⟨rfl, hb⟩
    clear x0 x1
    have HP1 := Lib.hid (HP.out.below hb)
    have HB1 := Lib.hid (HB.out.trans (hb.mono HB.out.size))
    clear hb HP HB
    have x0 := HP1.out.c0
    have x1 := HP1.out.c1
    go_wp2
    go_ret
    exact ⟨by rw [HV.out]; rfl, HB1.out⟩
  have q1 : decide (0 < n) = true := decide_eq_true h1
  by_cases h2 : n < d
  · have HV := Lib.hid (dc_yes q h1 h2)
    have q2 : decide (n < d) = true := decide_eq_true h2
    go_enter Tryd.func17, Tryd.ntmps17
    have x0 := HP.out.c0
    have x1 := HP.out.c1
    go_wp2_with fail
    refine (H.out _).mono ?_
    rintro e w1 ⟨rfl, hb⟩
    clear x0 x1
    have HP1 := Lib.hid (HP.out.below hb)
    have HB1 := Lib.hid (HB.out.trans (hb.mono HB.out.size))
    clear hb HP HB
    have x0 := HP1.out.c0
    have x1 := HP1.out.c1
    go_wp2
    go_ret
    exact ⟨by rw [HV.out]; rfl, HB1.out⟩
  · have HV := Lib.hid (dc_big (n := n) (d := d) h2)
    have q2 : decide (n < d) = false := decide_eq_false h2
    go_enter Tryd.func17, Tryd.ntmps17
    have x0 := HP.out.c0
    have x1 := HP.out.c1
    go_wp2_with fail
    refine (H.out _).mono ?_
    rintro e w1 ⟨rfl, hb⟩
    clear x0 x1
    have HP1 := Lib.hid (HP.out.below hb)
    have HB1 := Lib.hid (HB.out.trans (hb.mono HB.out.size))
    clear hb HP HB
    have x0 := HP1.out.c0
    have x1 := HP1.out.c1
    go_wp2
    go_ret
    exact ⟨by rw [HV.out]; rfl, HB1.out⟩
set_option maxHeartbeats 1000000 in
theorem follows_any (c p : Ct) (w : World) (hc : r64 c.1 ∧ r64 c.2.1 ∧ r64 c.2.2) (hp : r64 p.1 ∧ r64 p.2.1 ∧ r64 p.2.2) :
    Calls Tryd.prog 18 #[.agg #[.int .i64 c.1, .int .i64 c.2.1, .int .i64 c.2.2], .agg #[.int .i64 p.1, .int .i64 p.2.1, .int .i64 p.2.2]] w fun e w' => e = .returned (.bool (flB c p)) ∧ Below w.heap.size w w' := by
  obtain ⟨⟨c1, c2⟩, ⟨c3, c4⟩, c5, c6⟩ := hc
  obtain ⟨⟨p1, p2⟩, ⟨p3, p4⟩, p5, p6⟩ := hp
  have H := Lib.hid (fun W => cmpF_any c.2.1 c.2.2 p.2.1 p.2.2 W c3 c4 c5 c6 p3 p4 p5 p6)
  have HE := Lib.hid (fl_early (c := c) (p := p))
  have HL := Lib.hid (fl_late (c := c) (p := p))
  generalize cpV c.2.1 c.2.2 p.2.1 p.2.2 = z at *
  generalize flB c p = r at *
  obtain ⟨a1, a2, a3⟩ := c
  obtain ⟨b1, b2, b3⟩ := p
  dsimp only at *
  have HA := Lib.hid (Q3.alloc w (.int .i64 a1) (.int .i64 a2) (.int .i64 a3) 44)
  have hb1 : Below (w.alloc (Obj.cells #[.int .i64 a1, .int .i64 a2, .int .i64 a3] 44)).heap.size (w.alloc (Obj.cells #[.int .i64 a1, .int .i64 a2, .int .i64 a3] 44)) ((w.alloc (Obj.cells #[.int .i64 a1, .int .i64 a2, .int .i64 a3] 44)).alloc (Obj.cells #[.int .i64 b1, .int .i64 b2, .int .i64 b3] 44)) := (Below.refl _ _).alloc (Nat.le_refl _) _
  have HP := Lib.hid (HA.out.below hb1)
  have HQ := Lib.hid (Q3.alloc (w.alloc (Obj.cells #[.int .i64 a1, .int .i64 a2, .int .i64 a3] 44)) (.int .i64 b1) (.int .i64 b2) (.int .i64 b3) 44)
  have HB := Lib.hid (((Below.refl w.heap.size w).alloc (Nat.le_refl _) (Obj.cells #[.int .i64 a1, .int .i64 a2, .int .i64 a3] 44)).trans (hb1.mono (by simp)))
  clear hb1 HA
  by_cases h1 : b1 < a1
  case neg =>
    have HV := Lib.hid (HE.out h1)
    have q1 : decide (b1 < a1) = false := decide_eq_false h1
    go_enter Tryd.func18, Tryd.ntmps18
    have x0 := HP.out.c0
    have x1 := HP.out.c1
    have x2 := HP.out.c2
    have y0 := HQ.out.c0
    have y1 := HQ.out.c1
    have y2 := HQ.out.c2
    go_wp2
    go_ret
    exact ⟨by rw [HV.out]; rfl, HB.out⟩
  have HV := Lib.hid (HL.out h1)
  have q1 : decide (b1 < a1) = true := decide_eq_true h1
  by_cases h2 : z < 0
  · have q2 : decide (z < 0) = true := decide_eq_true h2
    go_enter Tryd.func18, Tryd.ntmps18
    have x0 := HP.out.c0
    have x1 := HP.out.c1
    have x2 := HP.out.c2
    have y0 := HQ.out.c0
    have y1 := HQ.out.c1
    have y2 := HQ.out.c2
    go_wp2_with fail
    refine (H.out _).mono ?_
    rintro e w1 ⟨rfl, hb⟩
    have HB1 := Lib.hid (HB.out.trans (hb.mono HB.out.size))
    clear hb x0 x1 x2 y0 y1 y2 HP HQ
    go_wp2
    go_ret
    exact ⟨by rw [HV.out, q2]; rfl, HB1.out⟩
  · have q2 : decide (z < 0) = false := decide_eq_false h2
    go_enter Tryd.func18, Tryd.ntmps18
    have x0 := HP.out.c0
    have x1 := HP.out.c1
    have x2 := HP.out.c2
    have y0 := HQ.out.c0
    have y1 := HQ.out.c1
    have y2 := HQ.out.c2
    go_wp2_with fail
    refine (H.out _).mono ?_
    rintro e w1 ⟨rfl, hb⟩
    have HB1 := Lib.hid (HB.out.trans (hb.mono HB.out.size))
    clear hb x0 x1 x2 y0 y1 y2 HP HQ
    go_wp2
    go_ret
    exact ⟨by rw [HV.out, q2]; rfl, HB1.out⟩
end Go.Proofs.YtkpdbhpmnegahaaDoor
namespace Go.Proofs.YtkpdbhpmnegahaaDoor
open Go.RowKit Go.Sort
set_option linter.unusedVariables false
set_option linter.unusedSimpArgs false

theorem okAt_snoc {L : List Ct} {k : Nat} (h : ∀ i, i < k → okAt L i = true) (h2 : okAt L k = true) : ∀ i, i < k + 1 → okAt L i = true := fun i hi => by
  by_cases e : i = k
  · rw [e]; exact h2
  · exact h i (by omega)
set_option maxRecDepth 100000 in
set_option maxHeartbeats 4000000 in
theorem right_tm (net : Int) (eom : Bool) (A : Option Addr) (c : Nat) (L : List Ct) (w : World) (hn : r64 net) (hR : RowC w A L) (hBd : BdC L) (hl : L.length ≤ maxLen) :
    Calls Tryd.prog 7 #[.agg #[.int .i64 net, .bool eom, .slice A L.length c]] w fun e w' => e = .returned (.bool (tmB net L)) ∧ Below w.heap.size w w' := by
  have hl' := hl
  unfold maxLen at hl'
  have HP := Lib.hid (Q3.alloc w (.int .i64 net) (.bool eom) (.slice A L.length c) 24)
  have HB0 := Lib.hid ((Below.refl w.heap.size w).alloc (Nat.le_refl _) (Obj.cells #[.int .i64 net, .bool eom, .slice A L.length c] 24))
  have HS := Lib.hid (fun W => isSpan_any net W hn)
  have HR := Lib.hid hR
  have HBd := Lib.hid hBd
  clear hR hBd
  cases q0 : spB net
  · rw [q0] at HS
    have HV := Lib.hid (tm_net (L := L) q0)
    go_enter Tryd.func7, Tryd.ntmps7
    have x0 := HP.out.c0
    have x1 := HP.out.c1
    have x2 := HP.out.c2
    go_wp2_with fail
    refine (HS.out _).mono ?_
    rintro e w_ ⟨rfl, rfl⟩
    go_wp2
    go_ret
    exact ⟨by first | (rw [HV.out]; done) | (rw [HV.out]; rfl), HB0.out⟩
  rw [q0] at HS
  by_cases g5 : L.length ≤ 5
  case neg =>
    have g5' : (5 : Int) < (L.length : Int) := by omega
    have HV := Lib.hid (tm_many (net := net) g5)
    go_enter Tryd.func7, Tryd.ntmps7
    have x0 := HP.out.c0
    have x1 := HP.out.c1
    have x2 := HP.out.c2
    go_wp2_with fail
    refine (HS.out _).mono ?_
    rintro e w_ ⟨rfl, rfl⟩
    go_wp2
    go_ret
    exact ⟨by first | (rw [HV.out]; done) | (rw [HV.out]; rfl), HB0.out⟩
  have g5' : ¬ (5 : Int) < (L.length : Int) := by omega
  have HQ0 := Lib.hid q0
  go_enter Tryd.func7, Tryd.ntmps7
  have x0 := HP.out.c0
  have x1 := HP.out.c1
  have x2 := HP.out.c2
  go_wp2_with fail
  refine (HS.out _).mono ?_
  rintro e w_ ⟨rfl, rfl⟩
  go_wp2
  go_loopw [18] (fun x wr => ∃ k : Nat, k ≤ L.length ∧ x = .int .i64 k ∧ Hid (∀ i, i < k → okAt L i = true) ∧ Hid (Q3 wr w.heap.size (.int .i64 net) (.bool eom) (.slice A L.length c)) ∧ Hid (Below w.heap.size w wr)) (fun x _ => L.length - (intOf x).toNat)
  case atStart => exact ⟨0, Nat.zero_le _, rfl, Lib.hid (fun i hi => absurd hi (by omega)), HP, HB0⟩
  case round =>
    clear x0 x1 x2 HP HB0 HS
    obtain ⟨k, hk, rfl, HK, HP, HB⟩ := hrel
    by_cases h : k < L.length
    · have h' : (k : Int) < (L.length : Int) := by omega
      obtain ⟨b, off, rfl, hbl, hcl⟩ := (HR.out.below HB.out) (by omega)
      obtain ⟨c0, c1, c2⟩ := hcl k h
      have hbr := HBd.out L[k] (List.getElem_mem h)
      have HSp := Lib.hid (okAt_span (L := L) h)
      have HSh := Lib.hid (okAt_share (L := L) h)
      have HFi := Lib.hid (@okAt_first L)
      have HNx := Lib.hid (fun (j : Nat) (hj : j + 1 < L.length) => okAt_next (L := L) hj)
      have HTb := Lib.hid (tm_bad (net := net) h)
      obtain ⟨r, hr⟩ : ∃ r, L[k] = r := ⟨_, rfl⟩
      have HrE := Lib.hid hr
      rw [hr] at c0 c1 c2 hbr HSp HSh
      obtain ⟨a1, a2, a3⟩ := r
      dsimp only at c0 c1 c2 hbr
      obtain ⟨r1, r2, r3⟩ := hbr
      have ha : Below wr.heap.size wr (wr.alloc (Obj.cells #[.int .i64 a1, .int .i64 a2, .int .i64 a3] 44)) := (Below.refl _ _).alloc (Nat.le_refl _) _
      have HQ := Lib.hid (Q3.alloc wr (.int .i64 a1) (.int .i64 a2) (.int .i64 a3) 44)
      have HPa := Lib.hid (HP.out.below ha)
      have HBa := Lib.hid (HB.out.trans (ha.mono HB.out.size))
      have HS := Lib.hid (fun W => isSpan_any a1 W r1)
      have HD := Lib.hid (fun W => isDiscount_any a2 a3 W r2 r3)
      have hsa : (wr.alloc (Obj.cells #[.int .i64 a1, .int .i64 a2, .int .i64 a3] 44)).heap.size = wr.heap.size + 1 := by simp
      have y0 := HQ.out.c0
      have y1 := HQ.out.c1
      have y2 := HQ.out.c2
      clear hr hcl ha HP HB
      cases q1 : spB a1
      · rw [q1] at HS
        have HV := Lib.hid (HTb.out (HSp.out q1))
        go_wp2_with fail
        refine (HS.out _).mono ?_
        rintro e w_ ⟨rfl, rfl⟩
        go_wp2
        go_ret
        exact ⟨by first | (rw [HV.out]; done) | (rw [HV.out]; rfl), HBa.out⟩
      rw [q1] at HS
      cases q2 : dcB a2 a3
      · rw [q2] at HD
        have HV := Lib.hid (HTb.out (HSh.out q2))
        go_wp2_with fail
        refine (HS.out _).mono ?_
        rintro e w_ ⟨rfl, rfl⟩
        go_wp2_with fail
        refine (HD.out _).mono ?_
        rintro e w2 ⟨rfl, hb⟩
        have HB2 := Lib.hid (HBa.out.trans (hb.mono HBa.out.size))
        clear hb
        go_wp2
        go_ret
        exact ⟨by first | (rw [HV.out]; done) | (rw [HV.out]; rfl), HB2.out⟩
      rw [q2] at HD
      go_wp2_with fail
      refine (HS.out _).mono ?_
      rintro e w_ ⟨rfl, rfl⟩
      go_wp2_with fail
      refine (HD.out _).mono ?_
      rintro e w2 ⟨rfl, hb⟩
      have HB2 := Lib.hid (HBa.out.trans (hb.mono HBa.out.size))
      have HP2 := Lib.hid (HPa.out.below hb)
      have HQ2 := Lib.hid (HQ.out.below hb)
      clear hb y0 y1 y2 HPa HBa HQ c0 c1 c2
      cases k with
      | zero =>
        have HX := Lib.hid (okAt_snoc HK.out (HFi.out h (by rw [HrE.out]; exact q1) (by rw [HrE.out]; exact q2)))
        have y0 := HQ2.out.c0
        clear y0
        go_wp2_with fail
        refine wp_region_quiet_below (l := _) (by kernel_rfl) (by kernel_rfl) ?_
        repeat (first | go_big_quiet_step (fail))
        refine wpQuiet_nil ?_
        intro w5 hw'
        obtain ⟨⟨dq2, osq2⟩, hw''⟩ := hw'
        have hb2 := below_regrown w2 dq2 osq2
        rw [← hw''] at hb2
        clear hw''
        have HP5 := Lib.hid (HP2.out.below hb2)
        have HB5 := Lib.hid (HB2.out.trans (hb2.mono HB2.out.size))
        clear hb2
        go_wp2
        go_roundw
        case rel => exact ⟨0 + 1, by omega, by go_num, HX, HP5, HB5⟩
        case measure => simp [intOf]; omega
      | succ j =>
        obtain ⟨b', off', e1, _, e3⟩ := (HR.out.below HB2.out) (by omega)
        simp only [Option.some.injEq, Addr.mk.injEq, and_true] at e1
        obtain ⟨rfl, rfl⟩ := e1
        obtain ⟨d0, d1, d2⟩ := e3 j (by omega)
        clear e3
        have HF := Lib.hid (fun W => follows_any (a1, a2, a3) (L[j]'(by omega)) W ⟨r1, r2, r3⟩ (HBd.out _ (List.getElem_mem (by omega))))
        have HX := Lib.hid (HNx.out j h (by rw [HrE.out]; exact q1) (by rw [HrE.out]; exact q2))
        rw [HrE.out] at HX
        obtain ⟨r, hr⟩ : ∃ r, (L[j]'(by omega)) = r := ⟨_, rfl⟩
        rw [hr] at d0 d1 d2 HF HX
        clear hr
        obtain ⟨b1, b2, b3⟩ := r
        dsimp only at d0 d1 d2 HF
        generalize flB (a1, a2, a3) (b1, b2, b3) = f at *
        have z0 : decide ((0 : Int) < ((j + 1 : Nat) : Int)) = true := decide_eq_true (by omega)
        have z1 : (0 : Int) < ((j + 1 : Nat) : Int) := by omega
        have z2 : ((j + 1 : Nat) : Int) - 1 = (j : Int) := by omega
        have z3 : (0 : Int) ≤ (j : Int) := by omega
        have z4 : (j : Int) < (L.length : Int) := by omega
        have C1 : ∀ dd os, Calls Tryd.prog 18 #[.agg #[.int .i64 a1, .int .i64 a2, .int .i64 a3], .agg #[.int .i64 b1, .int .i64 b2, .int .i64 b3]] (grow (redrawn w2 dd) os) fun e w'' => e = .returned (.bool f) ∧ ∃ p : Regrown, w'' = grow (redrawn w2 p.d) p.os := fun dd os => Calls.regrown_of (HF.out _)
        have m0 := cell_regrown HP2.out.c2
        have m1 := cell_regrown HQ2.out.c0
        have m2 := cell_regrown HQ2.out.c1
        have m3 := cell_regrown HQ2.out.c2
        have m4 := cell_regrown d0
        have m5 := cell_regrown d1
        have m6 := cell_regrown d2
        clear d0 d1 d2
        go_wp2_with fail
        refine wp_region_quiet_below (l := _) (by kernel_rfl) (by kernel_rfl) ?_
        repeat (first | go_big_quiet_step (first | (go_at_call 18; exact C1 _ _)))
        refine wpQuiet_nil ?_
        intro w5 hw'
        obtain ⟨⟨dq2, osq2⟩, hw''⟩ := hw'
        have hb2 := below_regrown w2 dq2 osq2
        rw [← hw''] at hb2
        clear hw'' C1 m0 m1 m2 m3 m4 m5 m6
        have HP5 := Lib.hid (HP2.out.below hb2)
        have HB5 := Lib.hid (HB2.out.trans (hb2.mono HB2.out.size))
        clear hb2
        cases f
        · have HV := Lib.hid (HTb.out HX.out)
          go_wp2
          go_ret
          exact ⟨by first | (rw [HV.out]; done) | (rw [HV.out]; rfl), HB5.out⟩
        · have HX2 := Lib.hid (okAt_snoc HK.out HX.out)
          go_wp2
          go_roundw
          case rel => exact ⟨j + 1 + 1, by omega, by go_num, HX2, HP5, HB5⟩
          case measure => simp [intOf]; omega
    · have h' : ¬ (k : Int) < (L.length : Int) := by omega
      have HV := Lib.hid (tm_ok (net := net) (L := L) HQ0.out g5 (fun i hi => HK.out i (by omega)))
      go_wp2
      go_ret
      exact ⟨by first | (rw [HV.out]; done) | (rw [HV.out]; rfl), HB.out⟩
end Go.Proofs.YtkpdbhpmnegahaaDoor
namespace Go.Proofs.YtkpdbhpmnegahaaDoor
open Go.RowKit Go.Sort
set_option linter.unusedVariables false
set_option linter.unusedSimpArgs false

theorem sp_neg {n : Int} (h : n < 0) : spB n = false := by unfold spB; rw [decide_eq_false (by omega)]; rfl
theorem sp_big {n : Int} (h : 365 < n) : spB n = false := by unfold spB; rw [decide_eq_false (p := n ≤ 365) (by omega)]; simp
theorem sp_yes {n : Int} (h : ¬ n < 0) (h2 : ¬ 365 < n) : spB n = true := by unfold spB; rw [decide_eq_true (by omega), decide_eq_true (by omega)]; rfl
end Go.Proofs.YtkpdbhpmnegahaaDoor
namespace Go.Proofs.YtkpdbhpmnegahaaDoor
open Go.RowKit Go.Sort
set_option linter.unusedVariables false
set_option linter.unusedSimpArgs false

theorem cuT_bad {net : Int} {L : List Ct} {day paid : Int} (h : tmB net L = false) : cuT net L day paid = (0, 0, 2) := by unfold cuT; rw [if_pos h]
theorem cuT_day {net : Int} {L : List Ct} {day paid : Int} (h : tmB net L = true) (h2 : ¬ (0 ≤ day ∧ day ≤ 109572) ∨ ¬ (0 ≤ paid ∧ paid ≤ 109572)) : cuT net L day paid = (0, 0, 11) := by unfold cuT; rw [if_neg (by rw [h]; decide), if_pos h2]
theorem cuT_ok {net : Int} {L : List Ct} {day paid : Int} (h : tmB net L = true) (h1 : 0 ≤ day ∧ day ≤ 109572) (h2 : 0 ≤ paid ∧ paid ≤ 109572) {n d : Int} (h3 : cuD day paid L = (n, d)) : cuT net L day paid = (n, d, 0) := by
  unfold cuT; rw [if_neg (by rw [h]; decide), if_neg (by omega), h3]
set_option maxRecDepth 100000 in
set_option maxHeartbeats 4000000 in
theorem cut_tm (net : Int) (eom : Bool) (A : Option Addr) (c : Nat) (L : List Ct) (day paid : Int) (w : World) (hn : r64 net) (hR : RowC w A L) (hBd : BdC L) (hl : L.length ≤ maxLen) (hd : r64 day) (hp : r64 paid) :
    Calls Tryd.prog 10 #[.agg #[.int .i64 net, .bool eom, .slice A L.length c], .int .i64 day, .int .i64 paid] w fun e w' => e = .returned (.tuple #[.agg #[.int .i64 (cuT net L day paid).1, .int .i64 (cuT net L day paid).2.1], .int .i64 (cuT net L day paid).2.2]) ∧ Below w.heap.size w w' := by
  have hl' := hl
  unfold maxLen at hl'
  have HRt := Lib.hid (fun W (hr : RowC W A L) => right_tm net eom A c L W hn hr hBd hl)
  have HD := Lib.hid (fun W => isDayT_any day W hd)
  have HPd := Lib.hid (fun W => isDayT_any paid W hp)
  have ha1 : Below w.heap.size w (w.alloc (Obj.cells #[.int .i64 net, .bool eom, .slice A L.length c] 24)) := (Below.refl _ _).alloc (Nat.le_refl _) _
  have ha2 : Below (w.alloc (Obj.cells #[.int .i64 net, .bool eom, .slice A L.length c] 24)).heap.size (w.alloc (Obj.cells #[.int .i64 net, .bool eom, .slice A L.length c] 24)) ((w.alloc (Obj.cells #[.int .i64 net, .bool eom, .slice A L.length c] 24)).alloc (Obj.cells #[.int .i64 0, .int .i64 0] 35)) := (Below.refl _ _).alloc (Nat.le_refl _) _
  have HQ0 := Lib.hid (show Q2 ((w.alloc (Obj.cells #[.int .i64 net, .bool eom, .slice A L.length c] 24)).alloc (Obj.cells #[.int .i64 0, .int .i64 0] 35)) (w.heap.size + 1) (.int .i64 0) (.int .i64 0) from by
    have q := Q2.alloc (w.alloc (Obj.cells #[.int .i64 net, .bool eom, .slice A L.length c] 24)) (.int .i64 0) (.int .i64 0) 35
    rw [World.size_alloc] at q; exact q)
  have HP0 := Lib.hid ((Q3.alloc w (.int .i64 net) (.bool eom) (.slice A L.length c) 24).below ha2)
  have HB0 := Lib.hid (ha1.trans (ha2.mono (by simp)))
  have HR0 := Lib.hid ((hR.below ha1).below ha2)
  have HR := Lib.hid hR
  obtain ⟨d1, d2⟩ := hd
  obtain ⟨p1, p2⟩ := hp
  clear ha1 ha2 hR
  cases q0 : tmB net L
  · rw [q0] at HRt
    have HE := Lib.hid (cuT_bad (day := day) (paid := paid) q0)
    go_enter Tryd.func10, Tryd.ntmps10
    have x0 := HP0.out.c0
    have x1 := HP0.out.c1
    have x2 := HP0.out.c2
    go_wp2_with fail
    refine (HRt.out _ HR0.out).mono ?_
    rintro e w1 ⟨rfl, hb⟩
    clear x0 x1 x2
    have HB1 := Lib.hid (HB0.out.trans (hb.mono HB0.out.size))
    have HQ1 := Lib.hid (HQ0.out.below hb)
    have HP1 := Lib.hid (HP0.out.below hb)
    clear hb HB0 HQ0 HP0
    have x0 := HP1.out.c0
    have x1 := HP1.out.c1
    have x2 := HP1.out.c2
    have f0 := HQ1.out.f0
    have f1 := (HQ1.out.set0 (.int .i64 0)).f1
    have q0 := HQ1.out.c0
    have q1' := (HQ1.out.set0 (.int .i64 0)).c1
    have HBe := Lib.hid ((HB1.out.setCell (p := ⟨w.heap.size + 1, 0, none⟩) (by simp) (.int .i64 0)).setCell (p := ⟨w.heap.size + 1, 1, none⟩) (by simp) (.int .i64 0))
    have HQe := Lib.hid ((HQ1.out.set0 (.int .i64 0)).set1 (.int .i64 0))
    go_wp2
    (try simp only [Exit.inBlock, Exit.then])
    refine bodyPost_ret (v := .tuple #[.agg #[.int .i64 0, .int .i64 0], .int .i64 2]) ?_ rfl ⟨by rw [HE.out], HBe.out⟩
    have u0 := HQe.out.c0
    have u1 := HQe.out.c1
    rw [results_cell_tmp rfl]
    go_simp
  rw [q0] at HRt
  by_cases hd : 0 ≤ day ∧ day ≤ 109572
  case neg =>
    rw [decide_eq_false hd] at HD
    have HE := Lib.hid (cuT_day q0 (Or.inl hd) (paid := paid))
    go_enter Tryd.func10, Tryd.ntmps10
    have x0 := HP0.out.c0
    have x1 := HP0.out.c1
    have x2 := HP0.out.c2
    go_wp2_with fail
    refine (HRt.out _ HR0.out).mono ?_
    rintro e w1 ⟨rfl, hb⟩
    clear x0 x1 x2
    have HB1 := Lib.hid (HB0.out.trans (hb.mono HB0.out.size))
    have HQ1 := Lib.hid (HQ0.out.below hb)
    have HP1 := Lib.hid (HP0.out.below hb)
    clear hb HB0 HQ0 HP0
    have x0 := HP1.out.c0
    have x1 := HP1.out.c1
    have x2 := HP1.out.c2
    go_wp2_with fail
    refine (HD.out _).mono ?_
    rintro e w_ ⟨rfl, rfl⟩
    have f0 := HQ1.out.f0
    have f1 := (HQ1.out.set0 (.int .i64 0)).f1
    have q0 := HQ1.out.c0
    have q1' := (HQ1.out.set0 (.int .i64 0)).c1
    have HBe := Lib.hid ((HB1.out.setCell (p := ⟨w.heap.size + 1, 0, none⟩) (by simp) (.int .i64 0)).setCell (p := ⟨w.heap.size + 1, 1, none⟩) (by simp) (.int .i64 0))
    have HQe := Lib.hid ((HQ1.out.set0 (.int .i64 0)).set1 (.int .i64 0))
    go_wp2
    (try simp only [Exit.inBlock, Exit.then])
    refine bodyPost_ret (v := .tuple #[.agg #[.int .i64 0, .int .i64 0], .int .i64 11]) ?_ rfl ⟨by rw [HE.out], HBe.out⟩
    have u0 := HQe.out.c0
    have u1 := HQe.out.c1
    rw [results_cell_tmp rfl]
    go_simp
  rw [decide_eq_true hd] at HD
  by_cases hp : 0 ≤ paid ∧ paid ≤ 109572
  case neg =>
    rw [decide_eq_false hp] at HPd
    have HE := Lib.hid (cuT_day q0 (Or.inr hp) (day := day))
    go_enter Tryd.func10, Tryd.ntmps10
    have x0 := HP0.out.c0
    have x1 := HP0.out.c1
    have x2 := HP0.out.c2
    go_wp2_with fail
    refine (HRt.out _ HR0.out).mono ?_
    rintro e w1 ⟨rfl, hb⟩
    clear x0 x1 x2
    have HB1 := Lib.hid (HB0.out.trans (hb.mono HB0.out.size))
    have HQ1 := Lib.hid (HQ0.out.below hb)
    have HP1 := Lib.hid (HP0.out.below hb)
    clear hb HB0 HQ0 HP0
    have x0 := HP1.out.c0
    have x1 := HP1.out.c1
    have x2 := HP1.out.c2
    go_wp2_with fail
    refine (HD.out _).mono ?_
    rintro e w_ ⟨rfl, rfl⟩
    go_wp2_with fail
    refine (HPd.out _).mono ?_
    rintro e w_ ⟨rfl, rfl⟩
    have f0 := HQ1.out.f0
    have f1 := (HQ1.out.set0 (.int .i64 0)).f1
    have q0 := HQ1.out.c0
    have q1' := (HQ1.out.set0 (.int .i64 0)).c1
    have HBe := Lib.hid ((HB1.out.setCell (p := ⟨w.heap.size + 1, 0, none⟩) (by simp) (.int .i64 0)).setCell (p := ⟨w.heap.size + 1, 1, none⟩) (by simp) (.int .i64 0))
    have HQe := Lib.hid ((HQ1.out.set0 (.int .i64 0)).set1 (.int .i64 0))
    go_wp2
    (try simp only [Exit.inBlock, Exit.then])
    refine bodyPost_ret (v := .tuple #[.agg #[.int .i64 0, .int .i64 0], .int .i64 11]) ?_ rfl ⟨by rw [HE.out], HBe.out⟩
    have u0 := HQe.out.c0
    have u1 := HQe.out.c1
    rw [results_cell_tmp rfl]
    go_simp
  rw [decide_eq_true hp] at HPd
  have HOk := Lib.hid (fun (n d : Int) (h : cuD day paid L = (n, d)) => cuT_ok q0 hd hp h)
  have HIs := Lib.hid (tm_is q0).2.2.2
  obtain ⟨d3, d4⟩ := hd
  obtain ⟨p3, p4⟩ := hp
  go_enter Tryd.func10, Tryd.ntmps10
  have x0 := HP0.out.c0
  have x1 := HP0.out.c1
  have x2 := HP0.out.c2
  go_wp2_with fail
  refine (HRt.out _ HR0.out).mono ?_
  rintro e w1 ⟨rfl, hb⟩
  clear x0 x1 x2
  have HB1 := Lib.hid (HB0.out.trans (hb.mono HB0.out.size))
  have HQ1 := Lib.hid (HQ0.out.below hb)
  have HP1 := Lib.hid (HP0.out.below hb)
  clear hb HB0 HQ0 HP0
  have x0 := HP1.out.c0
  have x1 := HP1.out.c1
  have x2 := HP1.out.c2
  go_wp2_with fail
  refine (HD.out _).mono ?_
  rintro e w_ ⟨rfl, rfl⟩
  go_wp2_with fail
  refine (HPd.out _).mono ?_
  rintro e w_ ⟨rfl, rfl⟩
  go_wp2
  go_loopw [26] (fun x wr => ∃ k : Nat, k ≤ L.length ∧ x = .int .i64 k ∧ Hid (cuD day paid L = cuD day paid (L.drop k)) ∧ Hid (Q3 wr w.heap.size (.int .i64 net) (.bool eom) (.slice A L.length c)) ∧ Hid (Q2 wr (w.heap.size + 1) (.int .i64 0) (.int .i64 0)) ∧ Hid (Below w.heap.size w wr)) (fun x _ => L.length - (intOf x).toNat)
  case atStart => exact ⟨0, Nat.zero_le _, rfl, Lib.hid rfl, HP1, HQ1, HB1⟩
  case round =>
    clear x0 x1 x2 HP1 HQ1 HB1 HRt HD HPd HR0
    obtain ⟨k, hk, rfl, HK, HP, HQ, HB⟩ := hrel
    have x2 := HP.out.c2
    by_cases h : k < L.length
    · have h' : (k : Int) < (L.length : Int) := by omega
      obtain ⟨b, off, rfl, hbl, hcl⟩ := (HR.out.below HB.out) (by omega)
      obtain ⟨c0, c1, c2⟩ := hcl k h
      have hbr := hBd L[k] (List.getElem_mem h)
      obtain ⟨i1, i2, _⟩ := HIs.out k h
      have HY := Lib.hid (cuD_yes h HK.out)
      have HN := Lib.hid (cuD_no h HK.out)
      obtain ⟨r, hr⟩ : ∃ r, L[k] = r := ⟨_, rfl⟩
      rw [hr] at c0 c1 c2 hbr i1 i2 HY HN
      obtain ⟨a1, a2, a3⟩ := r
      dsimp only at c0 c1 c2 hbr i1 i2 HY HN
      clear hr hcl HK
      have ha : Below wr.heap.size wr (wr.alloc (Obj.cells #[.int .i64 a1, .int .i64 a2, .int .i64 a3] 44)) := (Below.refl _ _).alloc (Nat.le_refl _) _
      have HC := Lib.hid (Q3.alloc wr (.int .i64 a1) (.int .i64 a2) (.int .i64 a3) 44)
      have HPa := Lib.hid (HP.out.below ha)
      have HQa := Lib.hid (HQ.out.below ha)
      have HBa := Lib.hid (HB.out.trans (ha.mono HB.out.size))
      have y0 := HC.out.c0
      have y1 := HC.out.c1
      have y2 := HC.out.c2
      clear ha HP HQ HB
      by_cases e1 : paid ≤ day + a1
      · have HE := Lib.hid (HOk.out _ _ (HY.out e1))
        clear HY HN HOk
        have f0 := HQa.out.f0
        have f1 := (HQa.out.set0 (.int .i64 a2)).f1
        have q0 := HQa.out.c0
        have q1' := (HQa.out.set0 (.int .i64 a2)).c1
        have HBe := Lib.hid ((HBa.out.setCell (p := ⟨w.heap.size + 1, 0, none⟩) (by simp) (.int .i64 a2)).setCell (p := ⟨w.heap.size + 1, 1, none⟩) (by simp) (.int .i64 a3))
        have HQe := Lib.hid ((HQa.out.set0 (.int .i64 a2)).set1 (.int .i64 a3))
        go_wp2
        (try simp only [Exit.inBlock, Exit.then])
        refine bodyPost_ret (v := .tuple #[.agg #[.int .i64 a2, .int .i64 a3], .int .i64 0]) ?_ rfl ⟨by rw [HE.out], HBe.out⟩
        have u0 := HQe.out.c0
        have u1 := HQe.out.c1
        rw [results_cell_tmp rfl]
        go_simp
      · have HX := Lib.hid (HN.out e1)
        clear HY HN HOk
        go_wp2
        go_roundw
        case rel => exact ⟨k + 1, by omega, by go_num, HX, HPa, HQa, HBa⟩
        case measure => simp [intOf]; omega
    · have h' : ¬ (k : Int) < (L.length : Int) := by omega
      obtain rfl : k = L.length := by omega
      have HE := Lib.hid (HOk.out _ _ (cuD_end HK.out))
      clear HOk HK
      have f0 := HQ.out.f0
      have f1 := (HQ.out.set0 (.int .i64 0)).f1
      have q0 := HQ.out.c0
      have q1' := (HQ.out.set0 (.int .i64 0)).c1
      have HBe := Lib.hid ((HB.out.setCell (p := ⟨w.heap.size + 1, 0, none⟩) (by simp) (.int .i64 0)).setCell (p := ⟨w.heap.size + 1, 1, none⟩) (by simp) (.int .i64 1))
      have HQe := Lib.hid ((HQ.out.set0 (.int .i64 0)).set1 (.int .i64 1))
      go_wp2
      (try simp only [Exit.inBlock, Exit.then])
      refine bodyPost_ret (v := .tuple #[.agg #[.int .i64 0, .int .i64 1], .int .i64 0]) ?_ rfl ⟨by rw [HE.out], HBe.out⟩
      have u0 := HQe.out.c0
      have u1 := HQe.out.c1
      rw [results_cell_tmp rfl]
      go_simp
end Go.Proofs.YtkpdbhpmnegahaaDoor
namespace Go.Proofs.YtkpdbhpmnegahaaDoor
open Go.RowKit Go.Sort
set_option linter.unusedVariables false
set_option linter.unusedSimpArgs false

theorem dyV_bad {net : Int} {eom : Bool} {L : List Ct} {day E : Int} (h : tmB net L = false) : dyV net eom L day E = (0, 2) := by unfold dyV; rw [if_pos h]
theorem dyV_day {net : Int} {eom : Bool} {L : List Ct} {day E : Int} (h : tmB net L = true) (h2 : ¬ (0 ≤ day ∧ day ≤ 109572)) : dyV net eom L day E = (0, 11) := by unfold dyV; rw [if_neg (by rw [h]; decide), if_pos h2]
theorem dyV_far {net : Int} {eom : Bool} {L : List Ct} {day E D : Int} (h : tmB net L = true) (h2 : 0 ≤ day ∧ day ≤ 109572) (hD : (if eom = true then E else day) = D) (h3 : ¬ (0 ≤ D + net ∧ D + net ≤ 109572)) : dyV net eom L day E = (0, 11) := by
  unfold dyV; rw [if_neg (by rw [h]; decide), if_neg (by simpa using h2), hD, if_pos h3]
theorem dyV_ok {net : Int} {eom : Bool} {L : List Ct} {day E D : Int} (h : tmB net L = true) (h2 : 0 ≤ day ∧ day ≤ 109572) (hD : (if eom = true then E else day) = D) (h3 : 0 ≤ D + net ∧ D + net ≤ 109572) : dyV net eom L day E = (D + net, 0) := by
  unfold dyV; rw [if_neg (by rw [h]; decide), if_neg (by simpa using h2), hD, if_neg (by simpa using h3)]
set_option maxRecDepth 100000 in
set_option maxHeartbeats 4000000 in
theorem due_tm (net : Int) (eom : Bool) (A : Option Addr) (c : Nat) (L : List Ct) (day E : Int) (w : World) (ht : Tab w) (hn : r64 net) (hR : RowC w A L) (hBd : BdC L) (hl : L.length ≤ maxLen) (hd : r64 day)
    (hE : 0 ≤ day → day ≤ 109572 → 0 ≤ E ∧ E ≤ 109572) (hM : 0 ≤ day → day ≤ 109572 → ∀ W, Tab W → Calls Tryd.prog 24 #[.int .i64 day] W fun e w' => e = .returned (.tuple #[.int .i64 E, .int .i64 0]) ∧ Below W.heap.size W w') :
    Calls Tryd.prog 11 #[.agg #[.int .i64 net, .bool eom, .slice A L.length c], .int .i64 day] w fun e w' => e = .returned (.tuple #[.int .i64 (dyV net eom L day E).1, .int .i64 (dyV net eom L day E).2]) ∧ Below w.heap.size w w' := by
  have HRt := Lib.hid (fun W (hr : RowC W A L) => right_tm net eom A c L W hn hr hBd hl)
  have HD := Lib.hid (fun W => isDayT_any day W hd)
  have HN := Lib.hid (fun x W (hx : r64 x) => isDayT_any x W hx)
  have ha : Below w.heap.size w (w.alloc (Obj.cells #[.int .i64 net, .bool eom, .slice A L.length c] 24)) := (Below.refl _ _).alloc (Nat.le_refl _) _
  have HP0 := Lib.hid (Q3.alloc w (.int .i64 net) (.bool eom) (.slice A L.length c) 24)
  have HB0 := Lib.hid ha
  have HR0 := Lib.hid (hR.below ha)
  have HT0 := Lib.hid (ht.below ha)
  obtain ⟨d1, d2⟩ := hd
  clear ha hR
  cases q0 : tmB net L
  · rw [q0] at HRt
    have HE := Lib.hid (dyV_bad (eom := eom) (day := day) (E := E) q0)
    go_enter Tryd.func11, Tryd.ntmps11
    have x0 := HP0.out.c0
    have x1 := HP0.out.c1
    have x2 := HP0.out.c2
    go_wp2_with fail
    refine (HRt.out _ HR0.out).mono ?_
    rintro e w1 ⟨rfl, hb⟩
    clear x0 x1 x2
    have HB1 := Lib.hid (HB0.out.trans (hb.mono HB0.out.size))
    have HP1 := Lib.hid (HP0.out.below hb)
    have HT1 := Lib.hid (HT0.out.below hb)
    clear hb
    have x0 := HP1.out.c0
    have x1 := HP1.out.c1
    have x2 := HP1.out.c2
    go_wp2
    go_ret2
    exact ⟨by first | (rw [HE.out]; done) | (rw [HE.out]; rfl), HB1.out⟩
  rw [q0] at HRt
  by_cases hd : 0 ≤ day ∧ day ≤ 109572
  case neg =>
    rw [decide_eq_false hd] at HD
    have HE := Lib.hid (dyV_day (eom := eom) (E := E) q0 hd)
    go_enter Tryd.func11, Tryd.ntmps11
    have x0 := HP0.out.c0
    have x1 := HP0.out.c1
    have x2 := HP0.out.c2
    go_wp2_with fail
    refine (HRt.out _ HR0.out).mono ?_
    rintro e w1 ⟨rfl, hb⟩
    clear x0 x1 x2
    have HB1 := Lib.hid (HB0.out.trans (hb.mono HB0.out.size))
    have HP1 := Lib.hid (HP0.out.below hb)
    have HT1 := Lib.hid (HT0.out.below hb)
    clear hb
    have x0 := HP1.out.c0
    have x1 := HP1.out.c1
    have x2 := HP1.out.c2
    go_wp2_with fail
    refine (HD.out _).mono ?_
    rintro e w_ ⟨rfl, rfl⟩
    go_wp2
    go_ret2
    exact ⟨by first | (rw [HE.out]; done) | (rw [HE.out]; rfl), HB1.out⟩
  rw [decide_eq_true hd] at HD
  obtain ⟨n1, n2, _⟩ := tm_is q0
  obtain ⟨e1, e2⟩ := hE hd.1 hd.2
  have HM := Lib.hid (hM hd.1 hd.2)
  clear hM hE
  cases eom with
  | true =>
    by_cases hf : 0 ≤ E + net ∧ E + net ≤ 109572
    · have HE := Lib.hid (dyV_ok (eom := true) (E := E) q0 hd (D := E) (by simp) hf)
      have HF := Lib.hid (fun W => HN.out (E + net) W ⟨by omega, by omega⟩)
      rw [decide_eq_true hf] at HF
      go_enter Tryd.func11, Tryd.ntmps11
      have x0 := HP0.out.c0
      have x1 := HP0.out.c1
      have x2 := HP0.out.c2
      go_wp2_with fail
      refine (HRt.out _ HR0.out).mono ?_
      rintro e w1 ⟨rfl, hb⟩
      clear x0 x1 x2
      have HB1 := Lib.hid (HB0.out.trans (hb.mono HB0.out.size))
      have HP1 := Lib.hid (HP0.out.below hb)
      have HT1 := Lib.hid (HT0.out.below hb)
      clear hb
      have x0 := HP1.out.c0
      have x1 := HP1.out.c1
      have x2 := HP1.out.c2
      go_wp2_with fail
      refine (HD.out _).mono ?_
      rintro e w_ ⟨rfl, rfl⟩
      go_wp2_with fail
      refine (HM.out _ HT1.out).mono ?_
      rintro e w2 ⟨rfl, hb⟩
      clear x0 x1 x2
      have HB2 := Lib.hid (HB1.out.trans (hb.mono HB1.out.size))
      have HP2 := Lib.hid (HP1.out.below hb)
      have HT2 := Lib.hid (HT1.out.below hb)
      clear hb
      have x0 := HP2.out.c0
      have x1 := HP2.out.c1
      have x2 := HP2.out.c2
      go_wp2_with fail
      refine (HF.out _).mono ?_
      rintro e w_ ⟨rfl, rfl⟩
      go_wp2
      go_ret2
      exact ⟨by first | (rw [HE.out]; done) | (rw [HE.out]; rfl), HB2.out⟩
    · have HE := Lib.hid (dyV_far (eom := true) (E := E) q0 hd (D := E) (by simp) hf)
      have HF := Lib.hid (fun W => HN.out (E + net) W ⟨by omega, by omega⟩)
      rw [decide_eq_false hf] at HF
      go_enter Tryd.func11, Tryd.ntmps11
      have x0 := HP0.out.c0
      have x1 := HP0.out.c1
      have x2 := HP0.out.c2
      go_wp2_with fail
      refine (HRt.out _ HR0.out).mono ?_
      rintro e w1 ⟨rfl, hb⟩
      clear x0 x1 x2
      have HB1 := Lib.hid (HB0.out.trans (hb.mono HB0.out.size))
      have HP1 := Lib.hid (HP0.out.below hb)
      have HT1 := Lib.hid (HT0.out.below hb)
      clear hb
      have x0 := HP1.out.c0
      have x1 := HP1.out.c1
      have x2 := HP1.out.c2
      go_wp2_with fail
      refine (HD.out _).mono ?_
      rintro e w_ ⟨rfl, rfl⟩
      go_wp2_with fail
      refine (HM.out _ HT1.out).mono ?_
      rintro e w2 ⟨rfl, hb⟩
      clear x0 x1 x2
      have HB2 := Lib.hid (HB1.out.trans (hb.mono HB1.out.size))
      have HP2 := Lib.hid (HP1.out.below hb)
      have HT2 := Lib.hid (HT1.out.below hb)
      clear hb
      have x0 := HP2.out.c0
      have x1 := HP2.out.c1
      have x2 := HP2.out.c2
      go_wp2_with fail
      refine (HF.out _).mono ?_
      rintro e w_ ⟨rfl, rfl⟩
      go_wp2
      go_ret2
      exact ⟨by first | (rw [HE.out]; done) | (rw [HE.out]; rfl), HB2.out⟩
  | false =>
    by_cases hf : 0 ≤ day + net ∧ day + net ≤ 109572
    · have HE := Lib.hid (dyV_ok (eom := false) (E := E) q0 hd (D := day) (by simp) hf)
      have HF := Lib.hid (fun W => HN.out (day + net) W ⟨by omega, by omega⟩)
      rw [decide_eq_true hf] at HF
      go_enter Tryd.func11, Tryd.ntmps11
      have x0 := HP0.out.c0
      have x1 := HP0.out.c1
      have x2 := HP0.out.c2
      go_wp2_with fail
      refine (HRt.out _ HR0.out).mono ?_
      rintro e w1 ⟨rfl, hb⟩
      clear x0 x1 x2
      have HB1 := Lib.hid (HB0.out.trans (hb.mono HB0.out.size))
      have HP1 := Lib.hid (HP0.out.below hb)
      have HT1 := Lib.hid (HT0.out.below hb)
      clear hb
      have x0 := HP1.out.c0
      have x1 := HP1.out.c1
      have x2 := HP1.out.c2
      go_wp2_with fail
      refine (HD.out _).mono ?_
      rintro e w_ ⟨rfl, rfl⟩
      go_wp2_with fail
      refine (HF.out _).mono ?_
      rintro e w_ ⟨rfl, rfl⟩
      go_wp2
      go_ret2
      exact ⟨by first | (rw [HE.out]; done) | (rw [HE.out]; rfl), HB1.out⟩
    · have HE := Lib.hid (dyV_far (eom := false) (E := E) q0 hd (D := day) (by simp) hf)
      have HF := Lib.hid (fun W => HN.out (day + net) W ⟨by omega, by omega⟩)
      rw [decide_eq_false hf] at HF
      go_enter Tryd.func11, Tryd.ntmps11
      have x0 := HP0.out.c0
      have x1 := HP0.out.c1
      have x2 := HP0.out.c2
      go_wp2_with fail
      refine (HRt.out _ HR0.out).mono ?_
      rintro e w1 ⟨rfl, hb⟩
      clear x0 x1 x2
      have HB1 := Lib.hid (HB0.out.trans (hb.mono HB0.out.size))
      have HP1 := Lib.hid (HP0.out.below hb)
      have HT1 := Lib.hid (HT0.out.below hb)
      clear hb
      have x0 := HP1.out.c0
      have x1 := HP1.out.c1
      have x2 := HP1.out.c2
      go_wp2_with fail
      refine (HD.out _).mono ?_
      rintro e w_ ⟨rfl, rfl⟩
      go_wp2_with fail
      refine (HF.out _).mono ?_
      rintro e w_ ⟨rfl, rfl⟩
      go_wp2
      go_ret2
      exact ⟨by first | (rw [HE.out]; done) | (rw [HE.out]; rfl), HB1.out⟩
/-- the end of a day's month. -/
theorem end_ex {n : Int} (h1 : 0 ≤ n) (h2 : n ≤ 109572) : ∃ y m d, IsDate n y m d ∧ 0 ≤ ofN y m (lenV y m) ∧ ofN y m (lenV y m) ≤ 109572 ∧ n ≤ ofN y m (lenV y m) := by
  obtain ⟨y, m, d, h⟩ := IsDate.ex h1 h2
  have hv := h.1
  have hL : IsDate (ofN y m (lenV y m)) y m (lenV y m) := ⟨hv.last, rfl⟩
  obtain ⟨a, b, _, _⟩ := hL.range
  refine ⟨y, m, d, h, a, b, ?_⟩
  have e := h.2
  obtain ⟨_, _, _, hd⟩ := hv
  unfold ofN at e ⊢
  omega
end Go.Proofs.YtkpdbhpmnegahaaDoor
