/- What Find of package fx returns. Written by wip/mk_fxf.py. -/
import Derived.Test.YtdeoplbdgbgimaaFxE
import Derived.Laws.ResultCell
namespace Go.Proofs.Ytdeoplbdgbgimaa
open Go.RowKit Go.Sort
set_option linter.unusedVariables false
set_option linter.unusedSimpArgs false

set_option maxHeartbeats 1000000 in
theorem find_nil (c : ByteArray) (k d : Int) (w : World) :
    Calls Try.prog 16 #[.pointer none, .string c, .int .i64 k, .int .i64 d] w fun e w' => e = .returned (.tuple #[.agg #[.int .i64 0, .int .i64 0], .int .i64 1]) ∧ Below w.heap.size w w' := by
  have HQ := Lib.hid (show Q2 ((w.alloc (Obj.cells #[.int .i64 d] 3)).alloc (Obj.cells #[.int .i64 0, .int .i64 0] 37)) (w.heap.size + 1) (.int .i64 0) (.int .i64 0) from by
    have q := Q2.alloc (w.alloc (Obj.cells #[.int .i64 d] 3)) (.int .i64 0) (.int .i64 0) 37
    rw [World.size_alloc] at q; exact q)
  have HB := Lib.hid (((Below.refl w.heap.size w).alloc (Nat.le_refl _) (Obj.cells #[.int .i64 d] 3)).alloc (by simp) (Obj.cells #[.int .i64 0, .int .i64 0] 37))
  go_enter Try.func16, Try.ntmps16
  go_wp2
  (try simp only [Exit.inBlock, Exit.then])
  refine bodyPost_ret (v := .tuple #[.agg #[.int .i64 0, .int .i64 0], .int .i64 1]) ?_ rfl ⟨rfl, HB.out⟩
  have u0 := HQ.out.c0
  have u1 := HQ.out.c1
  rw [results_cell_tmp rfl]
  go_simp
set_option maxRecDepth 100000 in
set_option maxHeartbeats 4000000 in
theorem find_any (N B : Nat) (base : ByteArray) (L : List Rt) (c : ByteArray) (k d : Int) (w : World) (hT : TabT w N B base L) (hO : OkR base L) (hs : c.size ≤ maxLen) (hk : r64 k) (hd : r64 d) :
    Calls Try.prog 16 #[.pointer (some ⟨B, 0, none⟩), .string c, .int .i64 k, .int .i64 d] w fun e w' => e = .returned (.tuple #[.agg #[.int .i64 (fnd base L c k d).1, .int .i64 (fnd base L c k d).2.1], .int .i64 (fnd base L c k d).2.2]) ∧ Below w.heap.size w w' := by
  have H1 := Lib.hid (fun W => placeE_any c k d W hs hk hd)
  have HW := Lib.hid hO.2.2.2
  have hL2 := hO.2.1
  obtain ⟨k1, k2⟩ := hk
  obtain ⟨d1, d2⟩ := hd
  have ha1 : Below w.heap.size w (w.alloc (Obj.cells #[.int .i64 d] 3)) := (Below.refl _ _).alloc (Nat.le_refl _) _
  have ha2 : Below (w.alloc (Obj.cells #[.int .i64 d] 3)).heap.size (w.alloc (Obj.cells #[.int .i64 d] 3)) ((w.alloc (Obj.cells #[.int .i64 d] 3)).alloc (Obj.cells #[.int .i64 0, .int .i64 0] 37)) := (Below.refl _ _).alloc (Nat.le_refl _) _
  have HQ := Lib.hid (show Q2 ((w.alloc (Obj.cells #[.int .i64 d] 3)).alloc (Obj.cells #[.int .i64 0, .int .i64 0] 37)) (w.heap.size + 1) (.int .i64 0) (.int .i64 0) from by
    have q := Q2.alloc (w.alloc (Obj.cells #[.int .i64 d] 3)) (.int .i64 0) (.int .i64 0) 37
    rw [World.size_alloc] at q; exact q)
  have HD := Lib.hid ((Q1.alloc w (.int .i64 d) 3).below ha2)
  have HB := Lib.hid (ha1.trans (ha2.mono (by simp)))
  have HT := Lib.hid ((hT.below ha1).below ha2)
  have hsz : ((w.alloc (Obj.cells #[.int .i64 d] 3)).alloc (Obj.cells #[.int .i64 0, .int .i64 0] 37)).heap.size = w.heap.size + 2 := by simp
  have hTB := hT.2
  clear ha1 ha2 hT hO
  have x0 := HD.out.c0
  by_cases e0 : plE c k d = 0
  · rw [e0] at H1
    cases q1 : (c.toList == base.toList)
    · have e1 := str_ne.1 q1
      have HV := Lib.hid (show (bst L c k d = none → fnd base L c k d = (0, 0, 20)) ∧ ∀ r, bst L c k d = some r → fnd base L c k d = (r.2.2.2.1, r.2.2.2.2, 0) from ⟨fun h => by unfold fnd; rw [if_neg (by simpa using e0), if_neg e1, h], fun r h => by unfold fnd; rw [if_neg (by simpa using e0), if_neg e1, h]⟩)
      clear e1 e0
      go_enter Try.func16, Try.ntmps16
      go_wp2_with fail
      refine (H1.out _).mono ?_
      rintro e w1 ⟨rfl, hb⟩
      have HB1 := Lib.hid (HB.out.trans (hb.mono (by omega)))
      have HQ1 := Lib.hid (HQ.out.below hb)
      have HD1 := Lib.hid (HD.out.below hb)
      have HT1 := Lib.hid (HT.out.below hb)
      have hs1 := hb.size
      clear hb x0 HQ HD HT HB H1 hTB
      obtain ⟨hNB, M, hq3, hsr⟩ := HT1.out
      obtain ⟨n, g, hM, hlook⟩ := srs_look hsr
      obtain ⟨A', S, cp, hval, hrow, hp, hsd⟩ := hlook (c, k)
      obtain ⟨l, hkey⟩ := keyS (c, k) hs ⟨k1, k2⟩
      have HM := Lib.hid hM
      have HVal := Lib.hid hval
      have HRow := Lib.hid hrow
      have HP := Lib.hid hp
      have HSd := Lib.hid hsd
      have y0 := hq3.c0
      have y2 := hq3.c2
      have hSl : S.length ≤ 2000 := by
        have := hp.length_eq
        have := slF_len L (c, k)
        omega
      have hb2 : Below w1.heap.size w1 (w1.alloc (Obj.cells #[.slice A' S.length cp] 22)) := (Below.refl _ _).alloc (Nat.le_refl _) _
      have HX := Lib.hid (show Bxs (w1.alloc (Obj.cells #[.slice A' S.length cp] 22)) w1.heap.size w.heap.size A' S cp d from ⟨Q1.alloc w1 _ _, HD1.out.below hb2, hrow.below hb2⟩)
      have HB2 := Lib.hid (HB1.out.trans (hb2.mono HB1.out.size))
      have HQ2 := Lib.hid (HQ1.out.below hb2)
      have HS := Lib.hid (search_any w1.heap.size w.heap.size A' S cp d _ HX.out hSl hsd)
      have z0 := HX.out.1.c0
      clear hval hrow hp hsd hM hlook hsr hq3 HT1 hb2 HQ1 HB1
      go_wp2_with (first
        | (at_lookup; refine wpList_lookK rfl (.tmp 34) (.tmp 37) _ rfl EH 63 22 (Go.Maps.Keyed.of_law lawS) und_mapS (zero_rates _) M n g rfl HM.out (c, k) l rfl hkey ?_; rw [HVal.out])
        | fail)
      refine HS.out.mono ?_
      rintro e w3 ⟨rfl, hb⟩
      have HB3 := Lib.hid (HB2.out.trans (hb.mono HB2.out.size))
      have HQ3 := Lib.hid (HQ2.out.below hb)
      have HX3 := Lib.hid (HX.out.below hb)
      clear hb z0 HX HQ2 HB2 HS y0 y2
      rcases Nat.eq_zero_or_pos (ltr S d) with hz | hz
      · have HE := Lib.hid (show fnd base L c k d = (0, 0, 20) from HV.out.1 (ltr_zero HP.out HSd.out hz))
        rw [hz]
        have f0 := HQ3.out.f0
        have f1 := (HQ3.out.set0 (.int .i64 0)).f1
        have q0 := HQ3.out.c0
        have q1' := (HQ3.out.set0 (.int .i64 0)).c1
        have HBe := Lib.hid ((HB3.out.setCell (p := ⟨w.heap.size + 1, 0, none⟩) (by simp) (.int .i64 0)).setCell (p := ⟨w.heap.size + 1, 1, none⟩) (by simp) (.int .i64 0))
        have HQe := Lib.hid ((HQ3.out.set0 (.int .i64 0)).set1 (.int .i64 0))
        go_wp2
        (try simp only [Exit.inBlock, Exit.then])
        refine bodyPost_ret (v := .tuple #[.agg #[.int .i64 0, .int .i64 0], .int .i64 20]) ?_ rfl ⟨by rw [HE.out], HBe.out⟩
        have u0 := HQe.out.c0
        have u1 := HQe.out.c1
        rw [results_cell_tmp rfl]
        go_simp
      · obtain ⟨i, hi⟩ : ∃ i, ltr S d = i + 1 := ⟨ltr S d - 1, by omega⟩
        have hle := ltr_le S d
        have hiS : i < S.length := by omega
        have HE := Lib.hid (show fnd base L c k d = (S[i].2.2.2.1, S[i].2.2.2.2, 0) from HV.out.2 _ (ltr_some HW.out HP.out HSd.out hiS hi))
        obtain ⟨b, rfl, hbl, hc⟩ := HX3.out.2.2 (by omega)
        obtain ⟨c2, c3, c4⟩ := hc i hiS
        have z0 := HX3.out.1.c0
        have hi' : (i : Int) < (S.length : Int) := by omega
        have hne : ((ltr S d : Int) == 0) = false := by simp; omega
        have hmi : ((ltr S d : Int) - 1) = (i : Int) := by omega
        have hlb : (ltr S d : Int) ≤ 2000 := by omega
        have hlg : 0 < (ltr S d : Int) := by omega
        have HBe := Lib.hid ((HB3.out.setCell (p := ⟨w.heap.size + 1, 0, none⟩) (by simp) (.int .i64 S[i].2.2.2.1)).setCell (p := ⟨w.heap.size + 1, 1, none⟩) (by simp) (.int .i64 S[i].2.2.2.2))
        have HQe := Lib.hid ((HQ3.out.set0 (.int .i64 S[i].2.2.2.1)).set1 (.int .i64 S[i].2.2.2.2))
        have f0 := HQ3.out.f0
        have f1 := (HQ3.out.set0 (.int .i64 S[i].2.2.2.1)).f1
        have q0 := HQ3.out.c0
        have q1' := (HQ3.out.set0 (.int .i64 S[i].2.2.2.1)).c1
        clear hc c2 hi hz hle
        generalize S[i].2.2.2.1 = vn at *
        generalize S[i].2.2.2.2 = vd at *
        generalize (ltr S d : Int) = lt at *
        go_wp2
        (try simp only [Exit.inBlock, Exit.then])
        refine bodyPost_ret (v := .tuple #[.agg #[.int .i64 vn, .int .i64 vd], .int .i64 0]) ?_ rfl ⟨by rw [HE.out], HBe.out⟩
        have u0 := HQe.out.c0
        have u1 := HQe.out.c1
        rw [results_cell_tmp rfl]
        go_simp
    · have e1 := str_eq.1 q1
      have HV := Lib.hid (show fnd base L c k d = (1, 1, 0) by unfold fnd; rw [if_neg (by simpa using e0), if_pos e1])
      clear e1 e0
      go_enter Try.func16, Try.ntmps16
      go_wp2_with fail
      refine (H1.out _).mono ?_
      rintro e w1 ⟨rfl, hb⟩
      have HB1 := Lib.hid (HB.out.trans (hb.mono (by omega)))
      have HQ1 := Lib.hid (HQ.out.below hb)
      have HT1 := Lib.hid (HT.out.below hb)
      clear hb x0 HQ HD HT HB H1 hTB
      obtain ⟨hNB, M, hq3, hsr⟩ := HT1.out
      have y0 := hq3.c0
      have f0 := HQ1.out.f0
      have f1 := (HQ1.out.set0 (.int .i64 1)).f1
      have q0 := HQ1.out.c0
      have q1' := (HQ1.out.set0 (.int .i64 1)).c1
      have HBe := Lib.hid ((HB1.out.setCell (p := ⟨w.heap.size + 1, 0, none⟩) (by simp) (.int .i64 1)).setCell (p := ⟨w.heap.size + 1, 1, none⟩) (by simp) (.int .i64 1))
      have HQe := Lib.hid ((HQ1.out.set0 (.int .i64 1)).set1 (.int .i64 1))
      clear hq3 hsr HT1
      go_wp2
      (try simp only [Exit.inBlock, Exit.then])
      refine bodyPost_ret (v := .tuple #[.agg #[.int .i64 1, .int .i64 1], .int .i64 0]) ?_ rfl ⟨by rw [HV.out], HBe.out⟩
      have u0 := HQe.out.c0
      have u1 := HQe.out.c1
      rw [results_cell_tmp rfl]
      go_simp
  · have HV := Lib.hid (show fnd base L c k d = (0, 0, plE c k d) by unfold fnd; rw [if_pos (by simpa using e0)])
    have e1 : (plE c k d != 0) = true := by simpa using e0
    clear e0
    generalize plE c k d = pe at *
    go_enter Try.func16, Try.ntmps16
    go_wp2_with fail
    refine (H1.out _).mono ?_
    rintro e w1 ⟨rfl, hb⟩
    have HB1 := Lib.hid (HB.out.trans (hb.mono (by omega)))
    have HQ1 := Lib.hid (HQ.out.below hb)
    clear hb x0 HQ HD HT HB H1 hTB
    have f0 := HQ1.out.f0
    have f1 := (HQ1.out.set0 (.int .i64 0)).f1
    have q0 := HQ1.out.c0
    have q1' := (HQ1.out.set0 (.int .i64 0)).c1
    have HBe := Lib.hid ((HB1.out.setCell (p := ⟨w.heap.size + 1, 0, none⟩) (by simp) (.int .i64 0)).setCell (p := ⟨w.heap.size + 1, 1, none⟩) (by simp) (.int .i64 0))
    have HQe := Lib.hid ((HQ1.out.set0 (.int .i64 0)).set1 (.int .i64 0))
    go_wp2
    (try simp only [Exit.inBlock, Exit.then])
    refine bodyPost_ret (v := .tuple #[.agg #[.int .i64 0, .int .i64 0], .int .i64 pe]) ?_ rfl ⟨by rw [HV.out], HBe.out⟩
    have u0 := HQe.out.c0
    have u1 := HQe.out.c1
    rw [results_cell_tmp rfl]
    go_simp
end Go.Proofs.Ytdeoplbdgbgimaa
