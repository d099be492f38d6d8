/- What Find of package accountingref11 returns. Written by wip/mk_fxi.py. -/
import Derived.Test.YtdeoplbdgbgimaaFxH
namespace Go.Proofs.Ytdeoplbdgbgimaa
open Go.RowKit Go.Sort
set_option linter.unusedVariables false
set_option linter.unusedSimpArgs false

theorem mt_no {c : ByteArray} {k d : Int} {r : Rt} (h : r.1 ≠ c ∨ r.2.1 ≠ k ∨ ¬ r.2.2.1 ≤ d) : mt c k d r = false := by
  cases q : mt c k d r
  · rfl
  · obtain ⟨a1, a2, a3⟩ := mt_is q
    rcases h with h | h | h
    · exact absurd a1 h
    · exact absurd a2 h
    · exact absurd a3 h
theorem bstF_no {c : ByteArray} {k d : Int} {acc : Option Rt} {r : Rt} (h : r.1 ≠ c ∨ r.2.1 ≠ k ∨ ¬ r.2.2.1 ≤ d) : bstF c k d acc r = acc := by
  unfold bstF; rw [if_neg]; intro q; rw [mt_no h] at q; exact absurd q.1 (by decide)
theorem bstF_new {c : ByteArray} {k d : Int} {r : Rt} (h1 : r.1 = c) (h2 : r.2.1 = k) (h3 : r.2.2.1 ≤ d) : bstF c k d none r = some r := by
  unfold bstF; rw [if_pos ⟨mt_of h1 h2 h3, fun q e => by cases e⟩]
theorem bstF_gt {c : ByteArray} {k d : Int} {q r : Rt} (h1 : r.1 = c) (h2 : r.2.1 = k) (h3 : r.2.2.1 ≤ d) (h4 : q.2.2.1 < r.2.2.1) : bstF c k d (some q) r = some r := by
  unfold bstF; rw [if_pos ⟨mt_of h1 h2 h3, fun x e => by cases e; exact h4⟩]
theorem bstF_le {c : ByteArray} {k d : Int} {q r : Rt} (h4 : ¬ q.2.2.1 < r.2.2.1) : bstF c k d (some q) r = some q := by
  unfold bstF; rw [if_neg (fun h => h4 (h.2 q rfl))]
/-- where the reference's loop stands. -/
def AtB (L : List Rt) (c : ByteArray) (k d : Int) (n : Nat) (a : Int) : Prop := (a = -1 ∧ bst (L.take n) c k d = none) ∨ ∃ j, ∃ hj : j < L.length, a = (j : Int) ∧ bst (L.take n) c k d = some L[j]
theorem bst_take {L : List Rt} {n : Nat} (h : n < L.length) (c : ByteArray) (k d : Int) : bst (L.take (n + 1)) c k d = bstF c k d (bst (L.take n) c k d) L[n] := by
  rw [List.take_succ_eq_append_getElem h, bst_snoc]
set_option maxRecDepth 100000 in
set_option maxHeartbeats 4000000 in
theorem rFind_any (base : ByteArray) (A : Option Addr) (cp : Nat) (L : List Rt) (c : ByteArray) (kd d : Int) (w : World) (hb0 : base.size ≤ maxLen) (hR : RowR w A L) (hBd : BdR L) (hn : L.length ≤ 2000) (hs : c.size ≤ maxLen) (hk : r64 kd) (hd : r64 d) :
    Calls Try.prog 19 #[.string base, .slice A L.length cp, .string c, .int .i64 kd, .int .i64 d] w fun e w' => e = .returned (.tuple #[.agg #[.int .i64 (fnd base L c kd d).1, .int .i64 (fnd base L c kd d).2.1], .int .i64 (fnd base L c kd d).2.2]) ∧ Below w.heap.size w w' := by
  obtain ⟨k1, k2⟩ := hk
  obtain ⟨d1, d2⟩ := hd
  have H1 := Lib.hid (fun W => rCurCode_any c W hs)
  have H2 := Lib.hid (fun W => rIs_any d W d1 d2)
  have HR0 := Lib.hid hR
  have HBd := Lib.hid hBd
  have HQ := Lib.hid (Q2.alloc w (.int .i64 0) (.int .i64 0) 37)
  have HB := Lib.hid ((Below.refl w.heap.size w).alloc (Nat.le_refl _) (Obj.cells #[.int .i64 0, .int .i64 0] 37))
  clear hR hBd
  cases q1 : codeB c
  · have HV := Lib.hid (show fnd base L c kd d = (0, 0, 13) by
      have e : plE c kd d = 13 := by unfold plE; rw [q1]; rfl
      unfold fnd; rw [e, if_pos (by decide)])
    rw [q1] at H1
    go_enter Try.func19, Try.ntmps19
    go_wp2_with fail
    refine (H1.out _).mono ?_
    rintro e w_ ⟨rfl, rfl⟩
    go_wp2
    (try simp only [Exit.inBlock, Exit.then])
    refine bodyPost_ret (v := .tuple #[.agg #[.int .i64 0, .int .i64 0], .int .i64 13]) ?_ rfl ⟨by rw [HV.out], HB.out⟩
    have u0 := HQ.out.c0
    have u1 := HQ.out.c1
    rw [results_cell_tmp rfl]
    go_simp
  rw [q1] at H1
  by_cases g1 : kd < 1
  · have HV := Lib.hid (show fnd base L c kd d = (0, 0, 10) by
      have e : plE c kd d = 10 := by unfold plE; rw [q1, if_neg (by decide), if_pos (Or.inl g1)]
      unfold fnd; rw [e, if_pos (by decide)])
    go_enter Try.func19, Try.ntmps19
    go_wp2_with fail
    refine (H1.out _).mono ?_
    rintro e w_ ⟨rfl, rfl⟩
    go_wp2
    (try simp only [Exit.inBlock, Exit.then])
    refine bodyPost_ret (v := .tuple #[.agg #[.int .i64 0, .int .i64 0], .int .i64 10]) ?_ rfl ⟨by rw [HV.out], HB.out⟩
    have u0 := HQ.out.c0
    have u1 := HQ.out.c1
    rw [results_cell_tmp rfl]
    go_simp
  by_cases g2 : 3 < kd
  · have HV := Lib.hid (show fnd base L c kd d = (0, 0, 10) by
      have e : plE c kd d = 10 := by unfold plE; rw [q1, if_neg (by decide), if_pos (Or.inr g2)]
      unfold fnd; rw [e, if_pos (by decide)])
    go_enter Try.func19, Try.ntmps19
    go_wp2_with fail
    refine (H1.out _).mono ?_
    rintro e w_ ⟨rfl, rfl⟩
    go_wp2
    (try simp only [Exit.inBlock, Exit.then])
    refine bodyPost_ret (v := .tuple #[.agg #[.int .i64 0, .int .i64 0], .int .i64 10]) ?_ rfl ⟨by rw [HV.out], HB.out⟩
    have u0 := HQ.out.c0
    have u1 := HQ.out.c1
    rw [results_cell_tmp rfl]
    go_simp
  by_cases g3 : 0 ≤ d ∧ d ≤ 109572
  · have hpl : plE c kd d = 0 := by unfold plE; rw [q1, if_neg (by decide), if_neg (by omega), if_neg (by simpa using g3)]
    rw [decide_eq_true g3] at H2
    cases q2 : (c.toList == base.toList)
    · have hb := str_ne.1 q2
      have HV := Lib.hid (show (bst L c kd d = none → fnd base L c kd d = (0, 0, 20)) ∧ ∀ r, bst L c kd d = some r → fnd base L c kd d = (r.2.2.2.1, r.2.2.2.2, 0) from ⟨fun h => by unfold fnd; rw [if_neg (by simpa using hpl), if_neg hb, h], fun r h => by unfold fnd; rw [if_neg (by simpa using hpl), if_neg hb, h]⟩)
      clear hb hpl
      go_enter Try.func19, Try.ntmps19
      go_wp2_with fail
      refine (H1.out _).mono ?_
      rintro e w_ ⟨rfl, rfl⟩
      go_wp2_with fail
      refine (H2.out _).mono ?_
      rintro e w_ ⟨rfl, rfl⟩
      go_wp2
      go_loopw [12, 13] (fun y x wr => ∃ (k : Nat) (a : Int), k ≤ L.length ∧ x = .int .i64 k ∧ y = .int .i64 a ∧ Hid (AtB L c kd d k a) ∧ Hid (Q2 wr w.heap.size (.int .i64 0) (.int .i64 0)) ∧ Hid (Below w.heap.size w wr)) (fun _ x _ => L.length - (intOf x).toNat)
      case atStart => exact ⟨0, -1, Nat.zero_le _, rfl, rfl, Lib.hid (Or.inl ⟨rfl, rfl⟩), HQ, HB⟩
      case round =>
        clear HQ HB H1 H2
        obtain ⟨k, a, hk, rfl, rfl, HA, HQ, HB⟩ := hrel
        by_cases h : k < L.length
        · have h' : (k : Int) < (L.length : Int) := by omega
          obtain ⟨b, off, rfl, hl, hcl⟩ := (HR0.out.below HB.out) (by omega)
          obtain ⟨c0, c1, c2, _, _⟩ := hcl k h
          have HS := Lib.hid (bst_take h c kd d)
          rcases HA.out with ⟨ha, hbn⟩ | ⟨j, hj, ha, hbs⟩
          · have HNo := Lib.hid (fun (q : L[k].1 ≠ c ∨ L[k].2.1 ≠ kd ∨ ¬ L[k].2.2.1 ≤ d) => show AtB L c kd d (k + 1) a from by
              have e := HS.out
              rw [bstF_no q] at e
              exact Or.inl ⟨ha, e.trans hbn⟩)
            have HYe := Lib.hid (fun (q1 : L[k].1 = c) (q2 : L[k].2.1 = kd) (q3 : L[k].2.2.1 ≤ d) => show AtB L c kd d (k + 1) (k : Int) from Or.inr ⟨k, h, rfl, by rw [HS.out, hbn, bstF_new q1 q2 q3]⟩)
            clear hbn
            subst ha
            clear hcl HA HS
            generalize L[k].1 = S at *
            generalize L[k].2.1 = ck at *
            generalize L[k].2.2.1 = cd at *
            cases e1 : (S.toList == c.toList)
            · have HX := Lib.hid (HNo.out (Or.inl (str_ne.1 e1)))
              clear HNo HYe
              go_wp2_with fail
              go_quiet (fail)
              have HB3 := Lib.hid (below_drewN HB.out nq)
              have HQ3 := Lib.hid (HQ.out.below (below_drewN (Below.refl wr.heap.size wr) nq))
              clear c0 c1 c2
              go_wp2
              go_roundw
              case rel => exact ⟨k + 1, -1, by omega, by go_num, rfl, HX, HQ3, HB3⟩
              case measure => simp [intOf]; omega
            · have e1' := str_eq.1 e1
              by_cases e2 : ck = kd
              · have e2' : (ck == kd) = true := by simpa using e2
                by_cases e3 : cd ≤ d
                · have HX := Lib.hid (HYe.out e1' e2 e3)
                  clear HNo HYe e1' e2
                  go_wp2_with fail
                  go_quiet (fail)
                  have HB3 := Lib.hid (below_drewN HB.out nq)
                  have HQ3 := Lib.hid (HQ.out.below (below_drewN (Below.refl wr.heap.size wr) nq))
                  clear c0 c1 c2
                  go_wp2
                  go_roundw
                  case rel => exact ⟨k + 1, (k : Int), by omega, by go_num, rfl, HX, HQ3, HB3⟩
                  case measure => simp [intOf]; omega
                · have HX := Lib.hid (HNo.out (Or.inr (Or.inr e3)))
                  have e3' : decide (cd ≤ d) = false := decide_eq_false e3
                  clear HNo HYe e1' e2
                  go_wp2_with fail
                  go_quiet (fail)
                  have HB3 := Lib.hid (below_drewN HB.out nq)
                  have HQ3 := Lib.hid (HQ.out.below (below_drewN (Below.refl wr.heap.size wr) nq))
                  clear c0 c1 c2
                  go_wp2
                  go_roundw
                  case rel => exact ⟨k + 1, -1, by omega, by go_num, rfl, HX, HQ3, HB3⟩
                  case measure => simp [intOf]; omega
              · have HX := Lib.hid (HNo.out (Or.inr (Or.inl e2)))
                have e2' : (ck == kd) = false := by simpa using e2
                clear HNo HYe e1' e2
                go_wp2_with fail
                go_quiet (fail)
                have HB3 := Lib.hid (below_drewN HB.out nq)
                have HQ3 := Lib.hid (HQ.out.below (below_drewN (Below.refl wr.heap.size wr) nq))
                clear c0 c1 c2
                go_wp2
                go_roundw
                case rel => exact ⟨k + 1, -1, by omega, by go_num, rfl, HX, HQ3, HB3⟩
                case measure => simp [intOf]; omega
          · have HNo := Lib.hid (fun (q : L[k].1 ≠ c ∨ L[k].2.1 ≠ kd ∨ ¬ L[k].2.2.1 ≤ d) => show AtB L c kd d (k + 1) a from by
              have e := HS.out
              rw [bstF_no q] at e
              exact Or.inr ⟨j, hj, ha, e.trans hbs⟩)
            have HYe := Lib.hid (fun (q1 : L[k].1 = c) (q2 : L[k].2.1 = kd) (q3 : L[k].2.2.1 ≤ d) (q4 : L[j].2.2.1 < L[k].2.2.1) => show AtB L c kd d (k + 1) (k : Int) from Or.inr ⟨k, h, rfl, by rw [HS.out, hbs, bstF_gt q1 q2 q3 q4]⟩)
            have HLe := Lib.hid (fun (q4 : ¬ L[j].2.2.1 < L[k].2.2.1) => show AtB L c kd d (k + 1) a from Or.inr ⟨j, hj, ha, by rw [HS.out, hbs, bstF_le q4]⟩)
            have hj' : (j : Int) < (L.length : Int) := by omega
            obtain ⟨_, _, y2, _, _⟩ := hcl j hj
            have ga : ¬ (j : Int) < 0 := by omega
            clear hbs
            subst ha
            generalize L[j].2.2.1 = dj at *
            clear hcl HA HS
            generalize L[k].1 = S at *
            generalize L[k].2.1 = ck at *
            generalize L[k].2.2.1 = cd at *
            cases e1 : (S.toList == c.toList)
            · have HX := Lib.hid (HNo.out (Or.inl (str_ne.1 e1)))
              clear HNo HYe HLe
              go_wp2_with fail
              go_quiet (fail)
              have HB3 := Lib.hid (below_drewN HB.out nq)
              have HQ3 := Lib.hid (HQ.out.below (below_drewN (Below.refl wr.heap.size wr) nq))
              clear c0 c1 c2
              go_wp2
              go_roundw
              case rel => exact ⟨k + 1, (j : Int), by omega, by go_num, rfl, HX, HQ3, HB3⟩
              case measure => simp [intOf]; omega
            · have e1' := str_eq.1 e1
              by_cases e2 : ck = kd
              · have e2' : (ck == kd) = true := by simpa using e2
                by_cases e3 : cd ≤ d
                · by_cases e4 : dj < cd
                  · have HX := Lib.hid (HYe.out e1' e2 e3 e4)
                    clear HNo HYe HLe e1' e2
                    go_wp2_with fail
                    go_quiet (fail)
                    have HB3 := Lib.hid (below_drewN HB.out nq)
                    have HQ3 := Lib.hid (HQ.out.below (below_drewN (Below.refl wr.heap.size wr) nq))
                    clear c0 c1 c2
                    go_wp2
                    go_roundw
                    case rel => exact ⟨k + 1, (k : Int), by omega, by go_num, rfl, HX, HQ3, HB3⟩
                    case measure => simp [intOf]; omega
                  · have HX := Lib.hid (HLe.out e4)
                    clear HNo HYe HLe e1' e2
                    go_wp2_with fail
                    go_quiet (fail)
                    have HB3 := Lib.hid (below_drewN HB.out nq)
                    have HQ3 := Lib.hid (HQ.out.below (below_drewN (Below.refl wr.heap.size wr) nq))
                    clear c0 c1 c2
                    go_wp2
                    go_roundw
                    case rel => exact ⟨k + 1, (j : Int), by omega, by go_num, rfl, HX, HQ3, HB3⟩
                    case measure => simp [intOf]; omega
                · have HX := Lib.hid (HNo.out (Or.inr (Or.inr e3)))
                  have e3' : decide (cd ≤ d) = false := decide_eq_false e3
                  clear HNo HYe HLe e1' e2
                  go_wp2_with fail
                  go_quiet (fail)
                  have HB3 := Lib.hid (below_drewN HB.out nq)
                  have HQ3 := Lib.hid (HQ.out.below (below_drewN (Below.refl wr.heap.size wr) nq))
                  clear c0 c1 c2
                  go_wp2
                  go_roundw
                  case rel => exact ⟨k + 1, (j : Int), by omega, by go_num, rfl, HX, HQ3, HB3⟩
                  case measure => simp [intOf]; omega
              · have HX := Lib.hid (HNo.out (Or.inr (Or.inl e2)))
                have e2' : (ck == kd) = false := by simpa using e2
                clear HNo HYe HLe e1' e2
                go_wp2_with fail
                go_quiet (fail)
                have HB3 := Lib.hid (below_drewN HB.out nq)
                have HQ3 := Lib.hid (HQ.out.below (below_drewN (Below.refl wr.heap.size wr) nq))
                clear c0 c1 c2
                go_wp2
                go_roundw
                case rel => exact ⟨k + 1, (j : Int), by omega, by go_num, rfl, HX, HQ3, HB3⟩
                case measure => simp [intOf]; omega
        · have h' : ¬ (k : Int) < (L.length : Int) := by omega
          obtain rfl : k = L.length := by omega
          have hA := HA.out
          unfold AtB at hA
          rw [List.take_length] at hA
          rcases hA with ⟨ha, hbn⟩ | ⟨j, hj, ha, hbs⟩
          · have HE := Lib.hid (HV.out.1 hbn)
            subst ha
            clear hbn HA
            have f0 := HQ.out.f0
            have f1 := (HQ.out.set0 (.int .i64 0)).f1
            have q0 := HQ.out.c0
            have q1' := (HQ.out.set0 (.int .i64 0)).c1
            have HBe := Lib.hid ((HB.out.setCell (p := ⟨w.heap.size, 0, none⟩) (Nat.le_refl _) (.int .i64 0)).setCell (p := ⟨w.heap.size, 1, none⟩) (Nat.le_refl _) (.int .i64 0))
            have HQe := Lib.hid ((HQ.out.set0 (.int .i64 0)).set1 (.int .i64 0))
            go_wp2
            (try simp only [Exit.inBlock, Exit.then])
            refine bodyPost_ret (v := .tuple #[.agg #[.int .i64 0, .int .i64 0], .int .i64 20]) ?_ rfl ⟨by rw [HE.out], HBe.out⟩
            have u0 := HQe.out.c0
            have u1 := HQe.out.c1
            rw [results_cell_tmp rfl]
            go_simp
          · have HE := Lib.hid (HV.out.2 _ hbs)
            subst ha
            have hj' : (j : Int) < (L.length : Int) := by omega
            have ga : ¬ (j : Int) < 0 := by omega
            obtain ⟨b, off, rfl, hl, hcl⟩ := (HR0.out.below HB.out) (by omega)
            obtain ⟨_, _, _, c3, c4⟩ := hcl j hj
            clear hbs HA hcl
            generalize L[j].2.2.2.1 = vn at *
            generalize L[j].2.2.2.2 = vd at *
            have f0 := HQ.out.f0
            have f1 := (HQ.out.set0 (.int .i64 vn)).f1
            have q0 := HQ.out.c0
            have q1' := (HQ.out.set0 (.int .i64 vn)).c1
            have HBe := Lib.hid ((HB.out.setCell (p := ⟨w.heap.size, 0, none⟩) (Nat.le_refl _) (.int .i64 vn)).setCell (p := ⟨w.heap.size, 1, none⟩) (Nat.le_refl _) (.int .i64 vd))
            have HQe := Lib.hid ((HQ.out.set0 (.int .i64 vn)).set1 (.int .i64 vd))
            go_wp2
            (try simp only [Exit.inBlock, Exit.then])
            refine bodyPost_ret (v := .tuple #[.agg #[.int .i64 vn, .int .i64 vd], .int .i64 0]) ?_ rfl ⟨by rw [HE.out], HBe.out⟩
            have u0 := HQe.out.c0
            have u1 := HQe.out.c1
            rw [results_cell_tmp rfl]
            go_simp
    · have hb := str_eq.1 q2
      have HV := Lib.hid (show fnd base L c kd d = (1, 1, 0) by unfold fnd; rw [if_neg (by simpa using hpl), if_pos hb])
      clear hb hpl
      go_enter Try.func19, Try.ntmps19
      go_wp2_with fail
      refine (H1.out _).mono ?_
      rintro e w_ ⟨rfl, rfl⟩
      go_wp2_with fail
      refine (H2.out _).mono ?_
      rintro e w_ ⟨rfl, rfl⟩
      go_wp2
      have HBe := Lib.hid ((Below.refl w.heap.size w).alloc (Nat.le_refl _) (Obj.cells #[.int .i64 1, .int .i64 1] 37))
      have HQe := Lib.hid (Q2.alloc w (.int .i64 1) (.int .i64 1) 37)
      (try simp only [Exit.inBlock, Exit.then])
      refine bodyPost_ret (v := .tuple #[.agg #[.int .i64 1, .int .i64 1], .int .i64 0]) ?_ rfl ⟨by rw [HV.out], HBe.out⟩
      have u0 := HQe.out.c0
      have u1 := HQe.out.c1
      rw [results_cell_tmp rfl]
      go_simp
  · have HV := Lib.hid (show fnd base L c kd d = (0, 0, 11) by
      have e : plE c kd d = 11 := by unfold plE; rw [q1, if_neg (by decide), if_neg (by omega), if_pos g3]
      unfold fnd; rw [e, if_pos (by decide)])
    rw [decide_eq_false g3] at H2
    go_enter Try.func19, Try.ntmps19
    go_wp2_with fail
    refine (H1.out _).mono ?_
    rintro e w_ ⟨rfl, rfl⟩
    go_wp2_with fail
    refine (H2.out _).mono ?_
    rintro e w_ ⟨rfl, rfl⟩
    go_wp2
    (try simp only [Exit.inBlock, Exit.then])
    refine bodyPost_ret (v := .tuple #[.agg #[.int .i64 0, .int .i64 0], .int .i64 11]) ?_ rfl ⟨by rw [HV.out], HB.out⟩
    have u0 := HQ.out.c0
    have u1 := HQ.out.c1
    rw [results_cell_tmp rfl]
    go_simp
end Go.Proofs.Ytdeoplbdgbgimaa
