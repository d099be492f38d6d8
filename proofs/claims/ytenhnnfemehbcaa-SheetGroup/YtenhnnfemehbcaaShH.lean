/- groups of package sheet, at cells and their keys. No conditions. -/
import Derived.Test.YtenhnnfemehbcaaShG
namespace Go.Proofs.Ytenhnnfemehbcaa
open Go.RowKit Go.Sort
set_option linter.unusedVariables false
set_option linter.unusedSimpArgs false

/-- the header of a group in the sorted cells: they lie from the block b on, c cells wide. -/
def hdrS (b c : Nat) (g : Nat × Nat) : Value := .slice (some ⟨b, g.1 * 7, none⟩) g.2 (c - g.1)
theorem hdrS_one (b c : Nat) (G : List (Nat × Nat)) : ∀ y ∈ G.map (hdrS b c), y.oneCell' = true := by
  intro y hy
  obtain ⟨g, _, rfl⟩ := List.mem_map.1 hy
  rfl
theorem und_grps : Try.prog.underlying 58 = some (.slice 28) := by kernel_rfl
theorem inf_grps : (Try.prog.info? 28).map (fun i => (i.zero, i.size, i.bytes)) = some (some (.slice none 0 0), 1, 24) := by kernel_rfl
theorem holds_row {w : World} {b : Nat} {L : List Cl} (h : HoldsK clC 7 w b 0 L.toArray) (hb : b < w.heap.size) : RowS w (some ⟨b, 0, none⟩) L := by
  refine fun _ => ⟨b, 0, rfl, hb, fun i hi j v hv => ?_⟩
  have e : L.toArray[i]! = L[i] := by rw [getElem!_pos L.toArray i (by simpa using hi)]; simp
  have hj : j < 7 := by rw [← clC_len L[i]]; exact (List.getElem?_eq_some_iff.1 hv).1
  have q := (HoldsK.cell (i := i) (c := j) h (by simpa using hi) hj).1
  rw [e] at q
  have hv2 : (clC L[i])[j]! = v := by rw [getElem!_pos _ _ (by rw [clC_len]; exact hj)]; exact (List.getElem?_eq_some_iff.1 hv).2
  rw [hv2] at q
  exact q
/-- the seven values of the cell i, under names. -/
theorem RowS.named {w : World} {b : Nat} {L : List Cl} (h : RowS w (some ⟨b, 0, none⟩) L) {i : Nat} (hi : i < L.length) :
    w.cell? ⟨b, i * 7, none⟩ = some (.string L[i].1.1) ∧ w.cell? ⟨b, i * 7 + 1, none⟩ = some (.string L[i].1.2.1) ∧ w.cell? ⟨b, i * 7 + 2, none⟩ = some (.string L[i].1.2.2.1) ∧ w.cell? ⟨b, i * 7 + 3, none⟩ = some (.string L[i].1.2.2.2.1) ∧ w.cell? ⟨b, i * 7 + 4, none⟩ = some (.string L[i].1.2.2.2.2) ∧ w.cell? ⟨b, i * 7 + 5, none⟩ = some (.int .i64 L[i].2.1) ∧ w.cell? ⟨b, i * 7 + 6, none⟩ = some (.int .i64 L[i].2.2) := by
  obtain ⟨b', off, e, _, h0, h1, h2, h3, h4, h5, h6⟩ := h.at hi
  cases e
  simp only [Nat.zero_add] at h0 h1 h2 h3 h4 h5 h6
  exact ⟨h0, h1, h2, h3, h4, h5, h6⟩
/-- what groups returns. -/
def GrQ (L : List Cl) (w : World) (e : Ending) (w' : World) : Prop :=
  ∃ (S : List Cl) (G : List (Nat × Nat)) (b c : Nat) (A : Option Addr) (cap : Nat), e = .returned (.slice A G.length cap) ∧ S.Perm L ∧ Runs S G S.length ∧ RowV w' A (G.map (hdrS b c)) ∧ RowS w' (some ⟨b, 0, none⟩) S ∧ S.length ≤ c ∧ Below w.heap.size w w'
set_option maxRecDepth 100000 in
set_option maxHeartbeats 1000000 in
theorem groups_none (A : Option Addr) (c : Nat) (w : World) (hR : RowS w A []) :
    Calls Try.prog 41 #[.slice A 0 c, .func (.func 42) #[] #[]] w (GrQ [] w) := by
  have HC := Lib.hid (clone_any A c [] w hR (by simp))
  have HS := Lib.hid sort_none
  go_enter Try.func41, Try.ntmps41
  go_wp2_with fail
  refine HC.out.mono ?_
  rintro e w1 ⟨v, rfl, ho, hb⟩
  obtain ⟨ao, cap, rfl, _, _, hr, _⟩ := ho.shape
  have HB := Lib.hid hb
  clear ho hb hr HC
  rw [show ([] : List Cl).length = 0 from rfl]
  go_wp2_with fail
  refine (HS.out _ _ _).mono ?_
  rintro e w2 ⟨rfl, rfl⟩
  go_wp2
  refine wp_loop_rounds 1 ?_
  rw [rounds_succ]
  go_wp2
  go_ret
  exact ⟨[], [], 0, 0, none, 0, rfl, List.Perm.refl _, Runs.nil _, RowV.nil _ _, RowS.nil _ _, Nat.le_refl _, HB.out⟩
set_option maxRecDepth 100000 in
set_option maxHeartbeats 1000000 in
theorem groups_some (A : Option Addr) (c : Nat) (L : List Cl) (w : World) (hR : RowS w A L) (hl : L.length ≤ 2000) (h0 : 0 < L.length) :
    Calls Try.prog 41 #[.slice A L.length c, .func (.func 42) #[] #[]] w (GrQ L w) := by
  have HC := Lib.hid (clone_any A c L w hR hl)
  have HS := Lib.hid (fun b c W hH hb => sort_any b c L W hH hb (by omega))
  go_enter Try.func41, Try.ntmps41
  go_wp2_with fail
  refine HC.out.mono ?_
  rintro e w1 ⟨v, rfl, ho, hb⟩
  obtain ⟨ao, cap, rfl, hcap, _, hr, hg⟩ := ho.shape
  rcases hg with ⟨_, q⟩ | ⟨b, rfl, hbb, hbl⟩
  · rw [q] at h0; simp at h0
  have hH := (own_holds (β := Cl) clC_len (by decide) (show w1.ownsRow w.heap.size 37 7 (.slice (some ⟨b, 0, none⟩) L.length cap) L.length (L.flatMap clC) from ho) rfl).1
  have HS1 := Lib.hid (HS.out b cap w1 hH hbl)
  have HB := Lib.hid hb
  clear ho hb hr HC HS hH hR
  go_wp2_with fail
  refine HS1.out.mono ?_
  rintro e w2 ⟨rfl, S, hperm, hsrt, hS, hgr⟩
  have hlen := hperm.length_eq
  have HRow := Lib.hid (holds_row hS (Nat.lt_of_lt_of_le hbl hgr.size))
  have HB2 := Lib.hid (HB.out.grown hgr HB.out.size (fun k e => by cases e; exact hbb))
  have HPerm := Lib.hid hperm
  have HSrt := Lib.hid hsrt
  have hbl2 : b < w2.heap.size := Nat.lt_of_lt_of_le hbl hgr.size
  rw [← hlen] at hl h0 hcap ⊢
  clear hlen hperm hsrt hS hgr HS1 HB
  have HE0 : Hid (∀ j, 0 ≤ j → j < 1 → ∀ q : j < S.length, ∀ q2 : 0 < S.length, S[j].1 = S[0].1) := Lib.hid (by
    intro j _ hj q q2
    have e : j = 0 := by omega
    subst e; rfl)
  go_wp2
  go_loopw [4, 6, 7] (fun v x y wr => ∃ (vo : Value) (f k : Nat) (G : List (Nat × Nat)), vo = v ∧ x = .int .i64 f ∧ y = .int .i64 k ∧ f < k ∧ k ≤ S.length + 1 ∧ f ≤ S.length ∧ Hid (S.length < k → f = S.length) ∧ Hid (OwnV wr w2.heap.size 28 vo (G.map (hdrS b cap))) ∧ Hid (Runs S G f) ∧ Hid (∀ j, f ≤ j → j < k → ∀ q : j < S.length, ∀ q2 : f < S.length, S[j].1 = S[f].1) ∧ G.length ≤ f ∧ Hid (Below w2.heap.size w2 wr)) (fun _ _ y _ => S.length + 1 - (intOf y).toNat)
  case atStart => exact ⟨_, 0, 1, [], rfl, rfl, rfl, by omega, by omega, by omega, Lib.hid (fun q => by omega), Lib.hid (OwnV.nil _ _ _), Lib.hid (Runs.nil S), HE0, Nat.zero_le _, Lib.hid (Below.refl _ _)⟩
  case round =>
    obtain ⟨vo, f, k, G, rfl, rfl, rfl, hfk, hk, hf, HF, HO, HRn, HEq, hGl, HBr⟩ := hrel
    have hsz := HBr.out.size
    by_cases h : k ≤ S.length
    · have hfS : f < S.length := by omega
      have z1 : (0 : Int) ≤ (f : Int) := by omega
      rcases Nat.lt_or_ge k S.length with hk2 | hk2
      · have z2 : (f : Int) ≤ (k : Int) := by omega
        have z3 : (k : Int) ≤ (cap : Int) := by omega
        have z4 : (0 : Int) ≤ (k : Int) := by omega
        have z5 : ((k : Int) - (f : Int)).toNat = k - f := by omega
        have z6 : (k : Int) < (S.length : Int) := by omega
        have z7 : ((k : Int) == (S.length : Int)) = false := by simp; omega
        have z8 : (f : Int) < (S.length : Int) := by omega
        have hrow := HRow.out.below HBr.out
        obtain ⟨c0, c1, c2, c3, c4, c5, c6⟩ := hrow.named hfS
        obtain ⟨d0, d1, d2, d3, d4, d5, d6⟩ := hrow.named hk2
        clear hrow
        obtain ⟨cv, hv⟩ : ∃ cv, cmpK S[f].1 S[k].1 = cv := ⟨_, rfl⟩
        have HV := Lib.hid hv
        obtain ⟨x, hx⟩ : ∃ x, S[f] = x := ⟨_, rfl⟩
        obtain ⟨y, hy⟩ : ∃ y, S[k] = y := ⟨_, rfl⟩
        rw [hx] at c0 c1 c2 c3 c4 c5 c6
        rw [hy] at d0 d1 d2 d3 d4 d5 d6
        rw [hx, hy] at hv
        have HF2 := Lib.hid (show ∀ W, Calls Try.prog 42 #[.agg #[.string x.1.1, .string x.1.2.1, .string x.1.2.2.1, .string x.1.2.2.2.1, .string x.1.2.2.2.2, .int .i64 x.2.1, .int .i64 x.2.2], .agg #[.string y.1.1, .string y.1.2.1, .string y.1.2.2.1, .string y.1.2.2.2.1, .string y.1.2.2.2.2, .int .i64 y.2.1, .int .i64 y.2.2]] W fun e w' => e = .returned (.int .i64 cv) ∧ Below W.heap.size W w' from fun W => by
          refine (byKey_any x y W).mono ?_
          rintro e w' ⟨rfl, hg⟩
          exact ⟨ret_int hv, hg.b⟩)
        subst hx
        subst hy
        clear hv
        have C1 : ∀ dd os, Calls Try.prog 42 #[.agg #[.string S[f].1.1, .string S[f].1.2.1, .string S[f].1.2.2.1, .string S[f].1.2.2.2.1, .string S[f].1.2.2.2.2, .int .i64 S[f].2.1, .int .i64 S[f].2.2], .agg #[.string S[k].1.1, .string S[k].1.2.1, .string S[k].1.2.2.1, .string S[k].1.2.2.2.1, .string S[k].1.2.2.2.2, .int .i64 S[k].2.1, .int .i64 S[k].2.2]] (grow (redrawn wr dd) os) fun e w'' => e = .returned (.int .i64 cv) ∧ ∃ p : Regrown, w'' = grow (redrawn wr p.d) p.os := fun dd os => Calls.regrown_of (HF2.out _)
        have m0 := cell_regrown c0
        have m1 := cell_regrown c1
        have m2 := cell_regrown c2
        have m3 := cell_regrown c3
        have m4 := cell_regrown c4
        have m5 := cell_regrown c5
        have m6 := cell_regrown c6
        have n0 := cell_regrown d0
        have n1 := cell_regrown d1
        have n2 := cell_regrown d2
        have n3 := cell_regrown d3
        have n4 := cell_regrown d4
        have n5 := cell_regrown d5
        have n6 := cell_regrown d6
        clear c0 c1 c2 c3 c4 c5 c6 d0 d1 d2 d3 d4 d5 d6
        go_wp2_with fail
        refine wp_region_quiet_below (l := _) (by kernel_rfl) (by kernel_rfl) ?_
        repeat (first | go_big_quiet_step (first | (go_at_call 42; exact C1 _ _)))
        refine wpQuiet_nil ?_
        intro w5 hw'
        obtain ⟨⟨dq2, osq2⟩, hw''⟩ := hw'
        have hb2 := below_regrown wr dq2 osq2
        rw [← hw''] at hb2
        clear hw''
        have HO5 := Lib.hid (HO.out.below hb2)
        have HB5 := Lib.hid (HBr.out.trans (hb2.mono hsz))
        have hs5 := Nat.le_trans hsz hb2.size
        clear hb2
        clear C1 HF2 m0 m1 m2 m3 m4 m5 m6 n0 n1 n2 n3 n4 n5 n6
        by_cases hv0 : cv = 0
        · subst hv0
          have HE2 := Lib.hid (show ∀ j, f ≤ j → j < k + 1 → ∀ q : j < S.length, ∀ q2 : f < S.length, S[j].1 = S[f].1 from fun j j1 j2 q q2 => by
            rcases Nat.lt_or_ge j k with u | u
            · exact HEq.out j j1 u q q2
            · have e : j = k := by omega
              subst e
              exact (cmpK_eq.1 HV.out).symm)
          clear HEq HO HBr
          go_wp2
          go_roundw
          case rel => exact ⟨_, f, k + 1, G, rfl, rfl, by go_num, by omega, by omega, by omega, Lib.hid (fun q => by omega), HO5, HRn, HE2, hGl, HB5⟩
          case measure => simp [intOf]; omega
        · have hv1 : (cv != 0) = true := by simpa using hv0
          have HX := Lib.hid (HRn.out.step HSrt.out hfk (Nat.le_of_lt hk2) (fun j j1 j2 q => HEq.out j j1 j2 q hfS) (fun _ q => hv0 (HV.out.symm.trans q)))
          have hA : Below w5.heap.size w5 (w5.alloc (Obj.cells #[hdrS b cap (f, k - f)] 28)) := (Below.refl _ _).alloc (Nat.le_refl _) _
          have HOa := Lib.hid (HO5.out.below hA)
          have HRa := Lib.hid (show RowV (w5.alloc (Obj.cells #[hdrS b cap (f, k - f)] 28)) (some ⟨w5.heap.size, 0, none⟩) [hdrS b cap (f, k - f)] from RowV.block (by simp) (fun i x hx => by rw [World.cell?_alloc_at _ _ _ _ rfl, Nat.zero_add]; simpa using hx))
          have HBa := Lib.hid (HB5.out.trans (hA.mono hs5))
          have hsa : w2.heap.size ≤ (w5.alloc (Obj.cells #[hdrS b cap (f, k - f)] 28)).heap.size := Nat.le_trans hs5 hA.size
          clear hA HO5 HB5 HEq HO HBr
          go_wp2_with (at_builtin; (refine wpList_vals und_grps inf_grps rfl (by decide) rfl (.tmp 36) (.tmp 41) rfl w2.heap.size vo (G.map (hdrS b cap)) [hdrS b cap (f, k - f)] rfl HOa.out (some ⟨w5.heap.size, 0, none⟩) 1 rfl (fun e => by cases e) HRa.out (hdrS_one b cap [(f, k - f)]) (by simp; omega) hsa ?_; intro v6 w6 o6 hb6))
          have HO6 := Lib.hid (show OwnV w6 w2.heap.size 28 v6 ((G ++ [(f, k - f)]).map (hdrS b cap)) from by rw [List.map_append]; exact o6)
          have HB6 := Lib.hid (HBa.out.trans hb6)
          clear o6 hb6 HOa HRa HBa hsa
          go_wp2
          go_roundw
          case rel => exact ⟨_, k, k + 1, _, rfl, rfl, by go_num, by omega, by omega, by omega, Lib.hid (fun q => by omega), HO6, HX, Lib.hid (fun j j1 j2 q q2 => by
            have e : j = k := by omega
            subst e; rfl), by simp; omega, HB6⟩
          case measure => simp [intOf]; omega
      · obtain rfl : k = S.length := by omega
        have z2 : (f : Int) ≤ (S.length : Int) := by omega
        have z3 : (S.length : Int) ≤ (cap : Int) := by omega
        have z4 : (0 : Int) ≤ (S.length : Int) := by omega
        have z5 : ((S.length : Int) - (f : Int)).toNat = S.length - f := by omega
        go_wp2_with fail
        refine wp_region_quiet_below (l := _) (by kernel_rfl) (by kernel_rfl) ?_
        repeat (first | go_big_quiet_step (fail))
        refine wpQuiet_nil ?_
        intro w5 hw'
        obtain ⟨⟨dq2, osq2⟩, hw''⟩ := hw'
        have hb2 := below_regrown wr dq2 osq2
        rw [← hw''] at hb2
        clear hw''
        have HO5 := Lib.hid (HO.out.below hb2)
        have HB5 := Lib.hid (HBr.out.trans (hb2.mono hsz))
        have hs5 := Nat.le_trans hsz hb2.size
        clear hb2
        have HX := Lib.hid (HRn.out.step HSrt.out hfk (Nat.le_refl _) (fun j j1 j2 q => HEq.out j j1 j2 q hfS) (fun q => absurd q (Nat.lt_irrefl _)))
        have hA : Below w5.heap.size w5 (w5.alloc (Obj.cells #[hdrS b cap (f, S.length - f)] 28)) := (Below.refl _ _).alloc (Nat.le_refl _) _
        have HOa := Lib.hid (HO5.out.below hA)
        have HRa := Lib.hid (show RowV (w5.alloc (Obj.cells #[hdrS b cap (f, S.length - f)] 28)) (some ⟨w5.heap.size, 0, none⟩) [hdrS b cap (f, S.length - f)] from RowV.block (by simp) (fun i x hx => by rw [World.cell?_alloc_at _ _ _ _ rfl, Nat.zero_add]; simpa using hx))
        have HBa := Lib.hid (HB5.out.trans (hA.mono hs5))
        have hsa : w2.heap.size ≤ (w5.alloc (Obj.cells #[hdrS b cap (f, S.length - f)] 28)).heap.size := Nat.le_trans hs5 hA.size
        clear hA HO5 HB5 HEq HO HBr
        go_wp2_with (at_builtin; (refine wpList_vals und_grps inf_grps rfl (by decide) rfl (.tmp 36) (.tmp 41) rfl w2.heap.size vo (G.map (hdrS b cap)) [hdrS b cap (f, S.length - f)] rfl HOa.out (some ⟨w5.heap.size, 0, none⟩) 1 rfl (fun e => by cases e) HRa.out (hdrS_one b cap [(f, S.length - f)]) (by simp; omega) hsa ?_; intro v6 w6 o6 hb6))
        have HO6 := Lib.hid (show OwnV w6 w2.heap.size 28 v6 ((G ++ [(f, S.length - f)]).map (hdrS b cap)) from by rw [List.map_append]; exact o6)
        have HB6 := Lib.hid (HBa.out.trans hb6)
        clear o6 hb6 HOa HRa HBa hsa
        go_wp2
        go_roundw
        case rel => exact ⟨_, S.length, S.length + 1, _, rfl, rfl, by go_num, by omega, by omega, by omega, Lib.hid (fun _ => rfl), HO6, HX, Lib.hid (fun j j1 j2 q q2 => absurd q2 (Nat.lt_irrefl _)), by simp; omega, HB6⟩
        case measure => simp [intOf]
    · have hfe := HF.out (by omega)
      subst hfe
      have h' : ¬ (k : Int) ≤ (S.length : Int) := by omega
      obtain ⟨ao, cp, rfl⟩ := HO.out.shape
      have HR2 := Lib.hid HO.out.row
      have HB3 := Lib.hid (HB2.out.trans (HBr.out.mono HB2.out.size))
      have HRo := Lib.hid (HRow.out.below HBr.out)
      rw [List.length_map]
      clear HO HBr
      go_wp2
      go_ret
      exact ⟨S, G, b, cap, ao, cp, rfl, HPerm.out, HRn.out, HR2.out, HRo.out, hcap, HB3.out⟩
theorem groups_any (A : Option Addr) (c : Nat) (L : List Cl) (w : World) (hR : RowS w A L) (hl : L.length ≤ 2000) :
    Calls Try.prog 41 #[.slice A L.length c, .func (.func 42) #[] #[]] w (GrQ L w) := by
  cases L with
  | nil => exact groups_none A c w hR
  | cons x r => exact groups_some A c (x :: r) w hR hl (by simp)
end Go.Proofs.Ytenhnnfemehbcaa
