/- The walk of FxLatest. Written by wip/mk_fxr.py. -/
import Derived.Test.YtdeoplbdgbgimaaFxP
namespace Go.Proofs.Ytdeoplbdgbgimaa
open Go.RowKit Go.Sort
set_option linter.unusedVariables false
set_option linter.unusedSimpArgs false

/-- what the law's first loop has found among the first k rates. -/
def Lat (L : List Rt) (c : ByteArray) (kd d : Int) (k : Nat) (best : Int) (sm : Bool) : Prop :=
  (sm = false ∧ ∀ j, j < k → (hj : j < L.length) → mt c kd d L[j] = false) ∨
  (sm = true ∧ (∃ j, ∃ hj : j < L.length, mt c kd d L[j] = true ∧ best = L[j].2.2.1) ∧ ∀ i, i < k → (hi : i < L.length) → mt c kd d L[i] = true → L[i].2.2.1 ≤ best)
theorem lat_no {L : List Rt} {c : ByteArray} {kd d : Int} {k : Nat} {best : Int} {sm : Bool} (h : Lat L c kd d k best sm) (hk : k < L.length) (hm : mt c kd d L[k] = false) : Lat L c kd d (k + 1) best sm := by
  rcases h with ⟨a, b⟩ | ⟨a, b, e⟩
  · refine .inl ⟨a, fun j hj hjl => ?_⟩
    by_cases q : j = k
    · subst q; exact hm
    · exact b j (by omega) hjl
  · refine .inr ⟨a, b, fun j hj hjl hmj => ?_⟩
    by_cases q : j = k
    · subst q; rw [hm] at hmj; cases hmj
    · exact e j (by omega) hjl hmj
theorem lat_yes {L : List Rt} {c : ByteArray} {kd d : Int} {k : Nat} {best : Int} {sm : Bool} (h : Lat L c kd d k best sm) (hk : k < L.length) (hm : mt c kd d L[k] = true) (hb : sm = true → best ≤ L[k].2.2.1) : Lat L c kd d (k + 1) L[k].2.2.1 true := by
  refine .inr ⟨rfl, ⟨k, hk, hm, rfl⟩, fun j hj hjl hmj => ?_⟩
  by_cases q : j = k
  · subst q; omega
  · rcases h with ⟨a, b⟩ | ⟨a, b, e⟩
    · rw [b j (by omega) hjl] at hmj; cases hmj
    · have := e j (by omega) hjl hmj
      have := hb a
      omega
theorem lat_lt {L : List Rt} {c : ByteArray} {kd d : Int} {k : Nat} {best : Int} (h : Lat L c kd d k best true) (hk : k < L.length) (hb : ¬ best ≤ L[k].2.2.1) : Lat L c kd d (k + 1) best true := by
  rcases h with ⟨a, b⟩ | ⟨a, b, e⟩
  · cases a
  · refine .inr ⟨a, b, fun j hj hjl hmj => ?_⟩
    by_cases q : j = k
    · subst q; omega
    · exact e j (by omega) hjl hmj
theorem lat_end {L : List Rt} {c : ByteArray} {kd d : Int} {k : Nat} {best : Int} {sm : Bool} (h : Lat L c kd d k best sm) (hk : ¬ k < L.length) {r : Rt} (hr : Best L c kd d r) : sm = true ∧ best = r.2.2.1 := by
  obtain ⟨i, hi, e⟩ := List.getElem_of_mem hr.1
  rcases h with ⟨a, b⟩ | ⟨a, ⟨j, hj, b1, b2⟩, f⟩
  · have := b i (by omega) hi
    rw [e, hr.2.1] at this; cases this
  · refine ⟨a, ?_⟩
    have h1 := f i (by omega) hi (by rw [e]; exact hr.2.1)
    have h2 := hr.2.2 L[j] (List.getElem_mem hj) b1
    rw [e] at h1
    omega
theorem lat_none {L : List Rt} {c : ByteArray} {kd d : Int} {k : Nat} {best : Int} {sm : Bool} (h : Lat L c kd d k best sm) (hn : ∀ q ∈ L, mt c kd d q = false) : sm = false := by
  rcases h with ⟨a, _⟩ | ⟨_, ⟨j, hj, b1, _⟩, _⟩
  · exact a
  · rw [hn _ (List.getElem_mem hj)] at b1; cases b1
theorem mt_bool {c : ByteArray} {kd d : Int} {r : Rt} (h1 : (r.1.toList == c.toList) = true) (h2 : r.2.1 = kd) (h3 : r.2.2.1 ≤ d) : mt c kd d r = true := mt_of (str_eq.1 h1) h2 h3
/-- what Find has answered. -/
theorem fnd_cases {base : ByteArray} {L : List Rt} {c : ByteArray} {k d : Int} (hb : c ≠ base) : ((fnd base L c k d).1 = 0 ∧ (fnd base L c k d).2.1 = 0 ∧ (fnd base L c k d).2.2 ≠ 0 ∧ ((fnd base L c k d).2.2 ≠ 20 ∨ ∀ q ∈ L, mt c k d q = false)) ∨ ∃ r, Best L c k d r ∧ fnd base L c k d = (r.2.2.2.1, r.2.2.2.2, 0) := by
  unfold fnd
  by_cases h1 : plE c k d = 0
  · rw [if_neg (by simpa using h1), if_neg hb]
    cases q : bst L c k d with
    | none => exact .inl ⟨rfl, rfl, by decide, .inr (bst_none q)⟩
    | some r => exact .inr ⟨r, bst_some q, rfl⟩
  · rw [if_pos h1]
    refine .inl ⟨rfl, rfl, h1, .inl ?_⟩
    unfold plE
    split
    · decide
    · split
      · decide
      · split <;> decide
set_option maxRecDepth 100000 in
set_option maxHeartbeats 6000000 in
theorem fxLatest_walk (bs : ByteArray) (A : Option Addr) (len cap : Nat) (L : List Rt) (fr to_ : ByteArray) (kd dy am md : Int) (w : World) (h : AskF w bs A len L fr to_ kd dy am md) :
    Calls Try.prog 5 #[.agg #[.string bs, .slice A len cap, .string fr, .string to_, .int .i64 kd, .int .i64 dy, .int .i64 am, .int .i64 md]] w fun e w' => e = .returned (.bool true) ∧ Below w.heap.size w w' := by
  obtain ⟨hbs, ⟨rfl, hR, hBd, hm⟩, hfr, hto, hkd, hdy, ham, hmd⟩ := h
  have hm' := hm
  unfold maxLen at hm'
  have HLg := Lib.hid (fun W => large_any A L.length cap W hm)
  have HLi := Lib.hid lives_any
  have HP := Lib.hid (Q8.alloc w (.string bs) (.slice A L.length cap) (.string fr) (.string to_) (.int .i64 kd) (.int .i64 dy) (.int .i64 am) (.int .i64 md) 35)
  have HB0 := Lib.hid ((Below.refl w.heap.size w).alloc (Nat.le_refl _) (Obj.cells #[.string bs, .slice A L.length cap, .string fr, .string to_, .int .i64 kd, .int .i64 dy, .int .i64 am, .int .i64 md] 35))
  have HR := Lib.hid (hR.below ((Below.refl w.heap.size w).alloc (Nat.le_refl _) (Obj.cells #[.string bs, .slice A L.length cap, .string fr, .string to_, .int .i64 kd, .int .i64 dy, .int .i64 am, .int .i64 md] 35)))
  by_cases g1 : 60 < L.length
  · rw [decide_eq_true g1] at HLg
    go_enter Try.func5, Try.ntmps5
    have xP0 := HP.out.c0
    have xP1 := HP.out.c1
    have xP2 := HP.out.c2
    have xP3 := HP.out.c3
    have xP4 := HP.out.c4
    have xP5 := HP.out.c5
    have xP6 := HP.out.c6
    have xP7 := HP.out.c7
    go_wp2_with fail
    refine (HLg.out _).mono ?_
    rintro e w_ ⟨rfl, rfl⟩
    go_wp2_with fail
    refine (HLi.out _).mono ?_
    rintro e w1 ⟨rfl, hb⟩
    clear xP0 xP1 xP2 xP3 xP4 xP5 xP6 xP7
    have HB1 := Lib.hid (HB0.out.trans ((hb).mono HB0.out.size))
    have P_1 := Lib.hid (HP.out.below hb)
    have R_1 := Lib.hid (HR.out.below hb)
    clear hb HP HR
    have xP0 := P_1.out.c0
    have xP1 := P_1.out.c1
    have xP2 := P_1.out.c2
    have xP3 := P_1.out.c3
    have xP4 := P_1.out.c4
    have xP5 := P_1.out.c5
    have xP6 := P_1.out.c6
    have xP7 := P_1.out.c7
    go_wp2
    go_ret
    exact ⟨rfl, HB1.out⟩
  rw [decide_eq_false g1] at HLg
  by_cases hc : (chk bs L).2 = 0
  · have hO := chk_ok.1 hc
    have H1 := Lib.hid (fun W hr => new_ok bs A cap L W hbs hr hBd hm hc)
    cases eb : (fr.toList == bs.toList)
    · have hfb := str_ne.1 eb
      have H3 := Lib.hid (fun N B W hT => find_any N B bs L fr kd dy W hT hO hfr hkd hdy)
      have HFc := Lib.hid (fnd_cases (L := L) (k := kd) (d := dy) hfb)
      have HW := Lib.hid hO.2.2.2
      have HRw := Lib.hid hR
      clear hc hO hBd hR hfb
      generalize fnd bs L fr kd dy = f at *
      obtain ⟨f1, f2, f3⟩ := f
      dsimp only at H3 HFc
      go_enter Try.func5, Try.ntmps5
      have xP0 := HP.out.c0
      have xP1 := HP.out.c1
      have xP2 := HP.out.c2
      have xP3 := HP.out.c3
      have xP4 := HP.out.c4
      have xP5 := HP.out.c5
      have xP6 := HP.out.c6
      have xP7 := HP.out.c7
      go_wp2_with fail
      refine (HLg.out _).mono ?_
      rintro e w_ ⟨rfl, rfl⟩
      go_wp2_with fail
      refine (H1.out _ HR.out).mono ?_
      rintro e w1 ⟨B, rfl, hT, hb⟩
      clear xP0 xP1 xP2 xP3 xP4 xP5 xP6 xP7
      have HB1 := Lib.hid (HB0.out.trans ((hb).mono HB0.out.size))
      have P_1 := Lib.hid (HP.out.below hb)
      have R_1 := Lib.hid (HR.out.below hb)
      have T_1 := Lib.hid hT
      clear hb HP HR hT
      have xP0 := P_1.out.c0
      have xP1 := P_1.out.c1
      have xP2 := P_1.out.c2
      have xP3 := P_1.out.c3
      have xP4 := P_1.out.c4
      have xP5 := P_1.out.c5
      have xP6 := P_1.out.c6
      have xP7 := P_1.out.c7
      go_wp2_with fail
      refine (H3.out _ _ _ T_1.out).mono ?_
      rintro e w2 ⟨rfl, hb⟩
      clear xP0 xP1 xP2 xP3 xP4 xP5 xP6 xP7
      have HB2 := Lib.hid (HB1.out.trans ((hb).mono HB1.out.size))
      have P_2 := Lib.hid (P_1.out.below hb)
      have R_2 := Lib.hid (R_1.out.below hb)
      have T_2 := Lib.hid (T_1.out.below hb)
      clear hb HB1 P_1 R_1 T_1
      have ha : Below w2.heap.size w2 (w2.alloc (Obj.cells #[.int .i64 f1, .int .i64 f2] 37)) := (Below.refl _ _).alloc (Nat.le_refl _) _
      have HB3 := Lib.hid (HB2.out.trans ((ha).mono HB2.out.size))
      have P_3 := Lib.hid (P_2.out.below ha)
      have R_3 := Lib.hid (R_2.out.below ha)
      have T_3 := Lib.hid (T_2.out.below ha)
      have F_3 := Lib.hid (Q2.alloc w2 (.int .i64 f1) (.int .i64 f2) 37)
      clear ha HB2 P_2 R_2 T_2
      have xP0 := P_3.out.c0
      have xP1 := P_3.out.c1
      have xP2 := P_3.out.c2
      have xP3 := P_3.out.c3
      have xP4 := P_3.out.c4
      have xP5 := P_3.out.c5
      have xP6 := P_3.out.c6
      have xP7 := P_3.out.c7
      have xF0 := F_3.out.c0
      have xF1 := F_3.out.c1
      clear xP0 xP1 xP2 xP3 xP4 xP5 xP6 xP7 xF0 xF1
      obtain ⟨bf, hbf⟩ : ∃ bf, w2.heap.size = bf := ⟨_, rfl⟩
      rw [hbf] at F_3
      have x1 := P_3.out.c1
      go_wp2
      try rw [hbf]
      have HLat0 := Lib.hid (show Lat L fr kd dy 0 0 false from .inl ⟨rfl, fun j hj => by omega⟩)
      go_loopw [8, 9, 10] (fun z y x wr => ∃ (k : Nat) (be : Int) (sm : Bool), k ≤ L.length ∧ x = .int .i64 k ∧ z = .int .i64 be ∧ y = .bool sm ∧ Hid (Lat L fr kd dy k be sm) ∧ Hid (Q8 wr w.heap.size (.string bs) (.slice A L.length cap) (.string fr) (.string to_) (.int .i64 kd) (.int .i64 dy) (.int .i64 am) (.int .i64 md)) ∧ Hid (Q2 wr bf (.int .i64 f1) (.int .i64 f2)) ∧ Hid (Below w.heap.size w wr)) (fun _ _ x _ => L.length - (intOf x).toNat)
      case atStart => exact ⟨0, 0, false, Nat.zero_le _, rfl, rfl, rfl, HLat0, P_3, F_3, HB3⟩
      case round =>
        clear HLat0 P_3 F_3 HB3 R_3 T_3 H1 H3 x1 hbf
        obtain ⟨k, be, sm, hk, rfl, rfl, rfl, HA, HP, HF, HB⟩ := hrel
        have x1 := HP.out.c1
        by_cases h : k < L.length
        · have h' : (k : Int) < (L.length : Int) := by omega
          obtain ⟨b, off, rfl, hl, hcl⟩ := (HRw.out.below HB.out) (by omega)
          obtain ⟨c0, c1, c2, c3, c4⟩ := hcl k h
          obtain ⟨r, hr⟩ : ∃ r, L[k] = r := ⟨_, rfl⟩
          have HrE := Lib.hid hr
          rw [hr] at c0 c1 c2 c3 c4
          obtain ⟨rc, rk, rd, rn, rm⟩ := r
          dsimp only at c0 c1 c2 c3 c4
          have ha : Below wr.heap.size wr (wr.alloc (Obj.cells #[.string rc, .int .i64 rk, .int .i64 rd, .int .i64 rn, .int .i64 rm] 51)) := (Below.refl _ _).alloc (Nat.le_refl _) _
          have hq := Q5.alloc wr (.string rc) (.int .i64 rk) (.int .i64 rd) (.int .i64 rn) (.int .i64 rm) 51
          have hp := HP.out.below ha
          have HPa := Lib.hid hp
          have HFa := Lib.hid (HF.out.below ha)
          have HBa := Lib.hid (HB.out.trans (ha.mono HB.out.size))
          have y0 := hq.c0
          have y1 := hq.c1
          have y2 := hq.c2
          have y3 := hq.c3
          have y4 := hq.c4
          have z0 := hp.c0
          have z2 := hp.c2
          have z4 := hp.c4
          have z5 := hp.c5
          clear hcl hr ha hq hp
          have HNo := Lib.hid (fun (q : rc ≠ fr ∨ rk ≠ kd ∨ ¬ rd ≤ dy) => lat_no HA.out h (by rw [HrE.out]; exact mt_no (r := (rc, rk, rd, rn, rm)) q))
          cases e1 : (rc.toList == fr.toList)
          · have HX := Lib.hid (HNo.out (Or.inl (str_ne.1 e1)))
            clear HNo HA
            go_wp2
            go_roundw
            case rel => exact ⟨k + 1, be, sm, by omega, by go_num, rfl, rfl, HX, HPa, HFa, HBa⟩
            case measure => simp [intOf]; omega
          have e1s := str_eq.1 e1
          by_cases e2 : rk = kd
          · have e2' : (rk == kd) = true := by simpa using e2
            by_cases e3 : rd ≤ dy
            · have hmt : mt fr kd dy L[k] = true := by rw [HrE.out]; exact mt_of e1s e2 e3
              have HYs := Lib.hid (fun (q : sm = true → be ≤ rd) => show Lat L fr kd dy (k + 1) rd true from by
                have := lat_yes HA.out h hmt (by rw [HrE.out]; exact q)
                rw [HrE.out] at this; exact this)
              cases sm
              · have HX := Lib.hid (HYs.out (fun q => by cases q))
                clear HNo HA HYs e1s e2 hmt
                go_wp2
                go_roundw
                case rel => exact ⟨k + 1, rd, true, by omega, by go_num, rfl, rfl, HX, HPa, HFa, HBa⟩
                case measure => simp [intOf]; omega
              · by_cases e4 : be ≤ rd
                · have HX := Lib.hid (HYs.out (fun _ => e4))
                  clear HNo HA HYs e1s e2 hmt
                  go_wp2
                  go_roundw
                  case rel => exact ⟨k + 1, rd, true, by omega, by go_num, rfl, rfl, HX, HPa, HFa, HBa⟩
                  case measure => simp [intOf]; omega
                · have HX := Lib.hid (lat_lt HA.out h (by rw [HrE.out]; exact e4))
                  clear HNo HA HYs e1s e2 hmt
                  go_wp2
                  go_roundw
                  case rel => exact ⟨k + 1, be, true, by omega, by go_num, rfl, rfl, HX, HPa, HFa, HBa⟩
                  case measure => simp [intOf]; omega
            · have HX := Lib.hid (HNo.out (Or.inr (Or.inr e3)))
              clear HNo HA e1s e2
              go_wp2
              go_roundw
              case rel => exact ⟨k + 1, be, sm, by omega, by go_num, rfl, rfl, HX, HPa, HFa, HBa⟩
              case measure => simp [intOf]; omega
          · have HX := Lib.hid (HNo.out (Or.inr (Or.inl e2)))
            have e2' : (rk == kd) = false := by simpa using e2
            clear HNo HA e1s e2
            go_wp2
            go_roundw
            case rel => exact ⟨k + 1, be, sm, by omega, by go_num, rfl, rfl, HX, HPa, HFa, HBa⟩
            case measure => simp [intOf]; omega
        · have h' : ¬ (k : Int) < (L.length : Int) := by omega
          have hE1 := eqFrYes
          have f0 := HF.out.c0
          have f1' := HF.out.c1
          rcases HFc.out with ⟨q1, q2, q3, q4⟩ | ⟨r, hbr, hfe⟩
          · subst q1 q2
            have q5 : (f3 != 0) = true := by simpa using q3
            have HLi2 := Lib.hid (HLi.out wr)
            rcases q4 with q4 | q4
            · have q6 : (f3 != 20) = true := by simpa using q4
              clear q3 q4 HFc HA
              go_wp2_with fail
              refine HLi2.out.mono ?_
              rintro e w9 ⟨rfl, hb⟩
              have HB9 := Lib.hid (HB.out.trans (hb.mono HB.out.size))
              clear hb
              go_wp2
              go_ret
              exact ⟨rfl, HB9.out⟩
            · obtain rfl := lat_none HA.out q4
              clear q3 q4 HFc HA
              cases q6 : (f3 != 20)
              · go_wp2_with fail
                refine HLi2.out.mono ?_
                rintro e w9 ⟨rfl, hb⟩
                have HB9 := Lib.hid (HB.out.trans (hb.mono HB.out.size))
                clear hb
                go_wp2
                go_ret
                exact ⟨rfl, HB9.out⟩
              · go_wp2_with fail
                refine HLi2.out.mono ?_
                rintro e w9 ⟨rfl, hb⟩
                have HB9 := Lib.hid (HB.out.trans (hb.mono HB.out.size))
                clear hb
                go_wp2
                go_ret
                exact ⟨rfl, HB9.out⟩
          · simp only [Prod.mk.injEq] at hfe
            obtain ⟨rfl, rfl, rfl⟩ := hfe
            obtain ⟨rfl, rfl⟩ := lat_end HA.out h hbr
            have HBr := Lib.hid hbr
            obtain ⟨bn, hbn⟩ : ∃ bn, r.2.2.2.1 = bn := ⟨_, rfl⟩
            obtain ⟨bd, hbd⟩ : ∃ bd, r.2.2.2.2 = bd := ⟨_, rfl⟩
            obtain ⟨by_, hby⟩ : ∃ by_, r.2.2.1 = by_ := ⟨_, rfl⟩
            rw [hbn, hbd] at HF
            have HEq := Lib.hid (show r.2.2.2.1 = bn ∧ r.2.2.2.2 = bd ∧ r.2.2.1 = by_ from ⟨hbn, hbd, hby⟩)
            rw [hby]
            clear HFc HA hbr f0 f1' h hbn hbd hby
            go_wp2
            go_loopw [12] (fun x wr => ∃ k : Nat, k ≤ L.length ∧ x = .int .i64 k ∧ Hid (∀ j, j < k → (hj : j < L.length) → L[j] ≠ r) ∧ Hid (Q8 wr w.heap.size (.string bs) (.slice A L.length cap) (.string fr) (.string to_) (.int .i64 kd) (.int .i64 dy) (.int .i64 am) (.int .i64 md)) ∧ Hid (Q2 wr bf (.int .i64 bn) (.int .i64 bd)) ∧ Hid (Below w.heap.size w wr)) (fun x _ => L.length - (intOf x).toNat)
            case atStart => exact ⟨0, Nat.zero_le _, rfl, Lib.hid (fun j hj => by omega), HP, HF, HB⟩
            case round =>
              clear HP HF HB x1 h' hk
              obtain ⟨k, hk, rfl, HK, HP, HF, HB⟩ := hrel
              have x1 := HP.out.c1
              by_cases h : k < L.length
              · have h' : (k : Int) < (L.length : Int) := by omega
                obtain ⟨b, off, rfl, hl, hcl⟩ := (HRw.out.below HB.out) (by omega)
                obtain ⟨c0, c1, c2, c3, c4⟩ := hcl k h
                obtain ⟨r, hr⟩ : ∃ r, L[k] = r := ⟨_, rfl⟩
                have HrE := Lib.hid hr
                rw [hr] at c0 c1 c2 c3 c4
                obtain ⟨rc, rk, rd, rn, rm⟩ := r
                dsimp only at c0 c1 c2 c3 c4
                have ha : Below wr.heap.size wr (wr.alloc (Obj.cells #[.string rc, .int .i64 rk, .int .i64 rd, .int .i64 rn, .int .i64 rm] 51)) := (Below.refl _ _).alloc (Nat.le_refl _) _
                have hq := Q5.alloc wr (.string rc) (.int .i64 rk) (.int .i64 rd) (.int .i64 rn) (.int .i64 rm) 51
                have hp := HP.out.below ha
                have HPa := Lib.hid hp
                have HFa := Lib.hid (HF.out.below ha)
                have HBa := Lib.hid (HB.out.trans (ha.mono HB.out.size))
                have y0 := hq.c0
                have y1 := hq.c1
                have y2 := hq.c2
                have y3 := hq.c3
                have y4 := hq.c4
                have z0 := hp.c0
                have z2 := hp.c2
                have z4 := hp.c4
                have z5 := hp.c5
                clear hcl hr ha hq hp
                have f0 := HFa.out.c0
                have f1' := HFa.out.c1
                have HNo := Lib.hid (fun (q : (rc, rk, rd, rn, rm) ≠ r) => show ∀ j, j < k + 1 → (hj : j < L.length) → L[j] ≠ r from fun j hj hjl => by
                  by_cases e : j = k
                  · subst e; rw [HrE.out]; exact q
                  · exact HK.out j (by omega) hjl)
                have HPl := Lib.hid (show r.1 = fr ∧ r.2.1 = kd from ⟨(mt_is HBr.out.2.1).1, (mt_is HBr.out.2.1).2.1⟩)
                cases e1 : (rc.toList == fr.toList)
                · have HX := Lib.hid (HNo.out (fun e => by rw [← e] at HPl; exact str_ne.1 e1 HPl.out.1))
                  clear HNo HK HPl
                  go_wp2
                  go_roundw
                  case rel => exact ⟨k + 1, by omega, by go_num, HX, HPa, HFa, HBa⟩
                  case measure => simp [intOf]; omega
                by_cases e2 : rk = kd
                · have e2' : (rk == kd) = true := by simpa using e2
                  by_cases e3 : rd = by_
                  · have e3' : (rd == by_) = true := by simpa using e3
                    have hrr : (rc, rk, rd, rn, rm) = r := pw_eq HW.out (by rw [← HrE.out]; exact List.getElem_mem h) HBr.out.1 (plc_eq (a := (rc, rk, rd, rn, rm)) ((str_eq.1 e1).trans HPl.out.1.symm) (e2.trans HPl.out.2.symm) (e3.trans HEq.out.2.2.symm))
                    have h1 : rn = bn := by rw [← HEq.out.1, ← hrr]
                    have h2 : rm = bd := by rw [← HEq.out.2.1, ← hrr]
                    subst h1 h2
                    clear HNo HK HPl e2 e3 hrr HrE
                    have HLi2 := Lib.hid (HLi.out (wr.alloc (Obj.cells #[.string rc, .int .i64 rk, .int .i64 rd, .int .i64 rn, .int .i64 rm] 51)))
                    go_wp2_with fail
                    refine HLi2.out.mono ?_
                    rintro e w9 ⟨rfl, hb⟩
                    have HB9 := Lib.hid (HBa.out.trans (hb.mono HBa.out.size))
                    clear hb
                    go_wp2
                    go_ret
                    exact ⟨rfl, HB9.out⟩
                  · have HX := Lib.hid (HNo.out (fun e => e3 (by rw [← HEq.out.2.2, ← e])))
                    have e3' : (rd == by_) = false := by simpa using e3
                    clear HNo HK HPl e2 e3
                    go_wp2
                    go_roundw
                    case rel => exact ⟨k + 1, by omega, by go_num, HX, HPa, HFa, HBa⟩
                    case measure => simp [intOf]; omega
                · have HX := Lib.hid (HNo.out (fun e => by rw [← e] at HPl; exact e2 HPl.out.2))
                  have e2' : (rk == kd) = false := by simpa using e2
                  clear HNo HK HPl e2
                  go_wp2
                  go_roundw
                  case rel => exact ⟨k + 1, by omega, by go_num, HX, HPa, HFa, HBa⟩
                  case measure => simp [intOf]; omega
              · exfalso
                obtain ⟨i, hi, e⟩ := List.getElem_of_mem HBr.out.1
                exact HK.out i (by omega) hi e
    · clear hc hO hBd hR
      go_enter Try.func5, Try.ntmps5
      have xP0 := HP.out.c0
      have xP1 := HP.out.c1
      have xP2 := HP.out.c2
      have xP3 := HP.out.c3
      have xP4 := HP.out.c4
      have xP5 := HP.out.c5
      have xP6 := HP.out.c6
      have xP7 := HP.out.c7
      go_wp2_with fail
      refine (HLg.out _).mono ?_
      rintro e w_ ⟨rfl, rfl⟩
      go_wp2_with fail
      refine (H1.out _ HR.out).mono ?_
      rintro e w1 ⟨B, rfl, hT, hb⟩
      clear xP0 xP1 xP2 xP3 xP4 xP5 xP6 xP7
      have HB1 := Lib.hid (HB0.out.trans ((hb).mono HB0.out.size))
      have P_1 := Lib.hid (HP.out.below hb)
      have R_1 := Lib.hid (HR.out.below hb)
      have T_1 := Lib.hid hT
      clear hb HP HR hT
      have xP0 := P_1.out.c0
      have xP1 := P_1.out.c1
      have xP2 := P_1.out.c2
      have xP3 := P_1.out.c3
      have xP4 := P_1.out.c4
      have xP5 := P_1.out.c5
      have xP6 := P_1.out.c6
      have xP7 := P_1.out.c7
      go_wp2_with fail
      refine (HLi.out _).mono ?_
      rintro e w2 ⟨rfl, hb⟩
      clear xP0 xP1 xP2 xP3 xP4 xP5 xP6 xP7
      have HB2 := Lib.hid (HB1.out.trans ((hb).mono HB1.out.size))
      have P_2 := Lib.hid (P_1.out.below hb)
      have R_2 := Lib.hid (R_1.out.below hb)
      have T_2 := Lib.hid (T_1.out.below hb)
      clear hb HB1 P_1 R_1 T_1
      have xP0 := P_2.out.c0
      have xP1 := P_2.out.c1
      have xP2 := P_2.out.c2
      have xP3 := P_2.out.c3
      have xP4 := P_2.out.c4
      have xP5 := P_2.out.c5
      have xP6 := P_2.out.c6
      have xP7 := P_2.out.c7
      go_wp2
      go_ret
      exact ⟨rfl, HB2.out⟩
  · have H1 := Lib.hid (fun W hr => new_bad bs A cap L W hbs hr hBd hm hc)
    have hne : ((chk bs L).2 != 0) = true := by simpa using hc
    clear hc hBd hR
    generalize chk bs L = ck at *
    obtain ⟨k1, k2⟩ := ck
    dsimp only at H1 hne
    go_enter Try.func5, Try.ntmps5
    have xP0 := HP.out.c0
    have xP1 := HP.out.c1
    have xP2 := HP.out.c2
    have xP3 := HP.out.c3
    have xP4 := HP.out.c4
    have xP5 := HP.out.c5
    have xP6 := HP.out.c6
    have xP7 := HP.out.c7
    go_wp2_with fail
    refine (HLg.out _).mono ?_
    rintro e w_ ⟨rfl, rfl⟩
    go_wp2_with fail
    refine (H1.out _ HR.out).mono ?_
    rintro e w1 ⟨rfl, hb⟩
    clear xP0 xP1 xP2 xP3 xP4 xP5 xP6 xP7
    have HB1 := Lib.hid (HB0.out.trans ((hb).mono HB0.out.size))
    have P_1 := Lib.hid (HP.out.below hb)
    have R_1 := Lib.hid (HR.out.below hb)
    clear hb HP HR
    have xP0 := P_1.out.c0
    have xP1 := P_1.out.c1
    have xP2 := P_1.out.c2
    have xP3 := P_1.out.c3
    have xP4 := P_1.out.c4
    have xP5 := P_1.out.c5
    have xP6 := P_1.out.c6
    have xP7 := P_1.out.c7
    go_wp2_with fail
    refine (HLi.out _).mono ?_
    rintro e w2 ⟨rfl, hb⟩
    clear xP0 xP1 xP2 xP3 xP4 xP5 xP6 xP7
    have HB2 := Lib.hid (HB1.out.trans ((hb).mono HB1.out.size))
    have P_2 := Lib.hid (P_1.out.below hb)
    have R_2 := Lib.hid (R_1.out.below hb)
    clear hb HB1 P_1 R_1
    have xP0 := P_2.out.c0
    have xP1 := P_2.out.c1
    have xP2 := P_2.out.c2
    have xP3 := P_2.out.c3
    have xP4 := P_2.out.c4
    have xP5 := P_2.out.c5
    have xP6 := P_2.out.c6
    have xP7 := P_2.out.c7
    go_wp2
    go_ret
    exact ⟨rfl, HB2.out⟩
end Go.Proofs.Ytdeoplbdgbgimaa
