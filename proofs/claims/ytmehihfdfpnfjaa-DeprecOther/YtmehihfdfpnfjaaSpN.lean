/- What divide of package split returns. -/
import Derived.Test.YtmehihfdfpnfjaaSpM
import Derived.Test.YtmehihfdfpnfjaaSpD
import Derived.Test.YtmehihfdfpnfjaaMdC
namespace Go.Proofs.Ytmehihfdfpnfjaa
open Go.RowKit Go.Sort
set_option linter.unusedVariables false
set_option linter.unusedSimpArgs false

theorem cmpI_ge {x : Int} (h : 0 ≤ x) : 0 ≤ cmpI x 0 := by unfold cmpI; repeat' split <;> omega
theorem mulN (a b : Int) (h1 : 0 ≤ a) (h2 : 0 ≤ b) : 0 ≤ cmpI a 0 * cmpI b 0 := Int.mul_nonneg (cmpI_ge h1) (cmpI_ge h2)
theorem negB_no {a b c : Int} (h1 : 0 ≤ a) (h2 : 0 ≤ b) (h3 : 0 ≤ c) : negB a b c = false := by
  unfold negB
  have := Int.mul_nonneg (mulN a b h1 h2) (cmpI_ge h3)
  exact decide_eq_false (by omega)
theorem absI_ge {x : Int} (h : 0 ≤ x) : absI x = x := absI_pos (by omega)
theorem mdV_down (a x T : Nat) (hT : 0 < T) (hx : x ≤ T) (ha : a ≤ 1000000000000000) : mdV a x T 1 = (((a * x / T : Nat) : Int), 0) := by
  unfold mdV
  rw [if_neg (by omega), if_neg (by omega), negB_no (by omega) (by omega) (by omega), absI_ge (by omega), absI_ge (by omega), absI_ge (by omega)]
  unfold mdW
  have hq : a * x / T ≤ a := by
    refine Nat.le_trans (Nat.div_le_div_right (Nat.mul_le_mul_left a hx)) ?_
    rw [Nat.mul_div_cancel _ hT]; exact Nat.le_refl _
  have e : ((a : Int) * (x : Int)) / (T : Int) = ((a * x / T : Nat) : Int) := by simp
  have e2 : ∀ o r d, upB 1 o r d false = false := fun o r d => by unfold upB; simp
  rw [e, e2]
  unfold sgV
  rw [if_neg (by omega), if_neg (by simp; omega)]
  simp
theorem moV_pos (a x T : Nat) (hT : 0 < T) : moV a x T = (((a * x % T : Nat) : Int), 0) := by
  unfold moV
  rw [if_neg (by omega), absI_ge (by omega), absI_ge (by omega), absI_ge (by omega), if_neg (by have := mulN a x (by omega) (by omega); omega)]
  simp
/-- the weights in memory. -/
structure Wts (w : World) (b off n : Nat) (W : Nat → Nat) : Prop where
  lt : b < w.heap.size
  c : ∀ k, k < n → w.cell? ⟨b, off + k, none⟩ = some (.int .i64 (W k))
theorem und_ints : Try.prog.underlying 24 = some (.slice 3) := by kernel_rfl
theorem inf_int : (Try.prog.info? 3).map (fun i => (i.zero, i.size, i.bytes)) = some (some (.int .i64 0), 1, 8) := by kernel_rfl
theorem PaV.congr {w : World} {P n : Nat} {f g : Nat → Value} (h : PaV w P n f) (e : ∀ t, t < n → f t = g t) : PaV w P n g := ⟨h.1, fun t ht => by rw [← e t ht]; exact h.2 t ht⟩
theorem PaV.far {w : World} {P Q n : Nat} {f : Nat → Value} (h : PaV w P n f) (hne : P ≠ Q) (j : Nat) (v : Value) : PaV (w.setCell ⟨Q, j, none⟩ v) P n f :=
  ⟨by simpa using h.1, fun t ht => ⟨by rw [World.cell?_setCell_other _ _ _ _ (by intro e; injection e with e _; exact hne e.symm)]; exact (h.2 t ht).1, by rw [World.frozen?_setCell]; exact (h.2 t ht).2⟩⟩
theorem PaV.same {w w' : World} {P n : Nat} {f : Nat → Value} (h : PaV w P n f) (hb : Below w.heap.size w w') : PaV w' P n f := h.below hb h.1 (Nat.lt_of_lt_of_le h.1 hb.size)
/-- the parts of which i are computed; the table of remainders of which i are. -/
def ptF (f : Nat → Nat) (i k : Nat) : Value := .int .i64 (if k < i then (f k : Int) else 0)
def rsF (r : Nat → Int) (i t : Nat) : Value := if t / 2 < i then tabC r t else .int .i64 0
theorem PaV.made2 {w : World} {base P n : Nat} {T : TypeId} (h : w.ownsRow base T 2 (.slice (some ⟨P, 0, none⟩) n n) n (madeCells #[.int .i64 0, .int .i64 0] (n * 2)).toList) : PaV w P (n * 2) (fun _ => .int .i64 0) := by
  rcases h.2 with ⟨e, _⟩ | ⟨g, cap, cur, e, _, e3, _, _, e5, e6⟩
  · exact absurd e (by simp)
  · injection e with e1 e2 e7
    injection e1 with e1
    injection e1 with e1
    subst e1 e7
    have hc : cur.toList = (madeCells #[.int .i64 0, .int .i64 0] (n * 2)).toList := by
      rw [← e6, List.take_of_length_le (by simp; omega)]
    refine ⟨lt_of_block e3, fun t ht => ⟨?_, by unfold World.frozen?; rw [e3]; simp⟩⟩
    unfold World.cell?
    rw [e3]
    have : cur = madeCells #[.int .i64 0, .int .i64 0] (n * 2) := Array.ext' hc
    rw [this]
    simp [madeCells, ht]
    rcases Nat.mod_two_eq_zero_or_one t with q | q <;> rw [q] <;> rfl
theorem Prs.far {w : World} {P Q n : Nat} {r : Nat → Int} {σ : Nat → Nat} (h : Prs w P n r σ) (hne : P ≠ Q) (j : Nat) (v : Value) : Prs (w.setCell ⟨Q, j, none⟩ v) P n r σ :=
  ⟨by simpa using h.lt, fun k hk => by rw [World.cell?_setCell_other _ _ _ _ (by intro e; injection e with e _; exact hne e.symm)]; exact h.c0 k hk, fun k hk => by rw [World.cell?_setCell_other _ _ _ _ (by intro e; injection e with e _; exact hne e.symm)]; exact h.c1 k hk, fun k hk => by rw [World.frozen?_setCell]; exact h.f0 k hk, fun k hk => by rw [World.frozen?_setCell]; exact h.f1 k hk⟩
theorem prs_rs {w : World} {R n : Nat} {r : Nat → Int} (h : PaV w R (n * 2) (rsF r n)) : Prs w R n r (fun k => k) := by
  refine ⟨h.1, fun k hk => ?_, fun k hk => ?_, fun k hk => (h.2 (k * 2) (by omega)).2, fun k hk => (h.2 (k * 2 + 1) (by omega)).2⟩
  · rw [(h.2 (k * 2) (by omega)).1]; unfold rsF tabC; rw [if_pos (by omega), if_pos (by omega), show k * 2 / 2 = k by omega]
  · rw [(h.2 (k * 2 + 1) (by omega)).1]; unfold rsF tabC; rw [if_pos (by omega), if_neg (by omega), show (k * 2 + 1) / 2 = k by omega]
theorem flo_small {a T : Nat} {W : Nat → Nat} {k : Nat} (hT : 0 < T) (h : W k ≤ T) : flo a T W k ≤ a := by
  unfold flo
  refine Nat.le_trans (Nat.div_le_div_right (Nat.mul_le_mul_left a h)) ?_
  rw [Nat.mul_div_cancel _ hT]; exact Nat.le_refl _
theorem shr_next {a T n j : Nat} {W : Nat → Nat} {σ : Nat → Nat} (hp : Prm n σ) (hj : j < n) : shr a T W σ (j + 1) (σ j) = shr a T W σ j (σ j) + 1 ∧ ∀ t, t ≠ σ j → shr a T W σ (j + 1) t = shr a T W σ j t := by
  constructor
  · unfold shr
    rw [sel_at hp (by omega) hj, sel_at hp (by omega) hj]; simp
  · intro t ht
    unfold shr
    rw [sel_succ, show (σ j == t) = false by simpa using Ne.symm ht, Bool.or_false]
set_option maxRecDepth 100000 in
set_option maxHeartbeats 8000000 in
theorem spDivide_any (a T n b off c : Nat) (W : Nat → Nat) (w : World) (ha : a ≤ 1000000000000000) (hT : 0 < T) (hTm : T ≤ 1000000000000000) (hn0 : 0 < n) (hn : n ≤ 200) (hW : ∀ k, k < n → W k ≤ T) (hs : sumN W n = T) (hw : Wts w b off n W) :
    Calls Try.prog 65 #[.int .i64 a, .int .i64 T, .slice (some ⟨b, off, none⟩) n c] w fun e w' => ∃ σ, e = .returned (.slice (some ⟨w.heap.size, 0, none⟩) n n) ∧ Srt (lakI a T W) σ 0 n ∧ Prm n σ ∧ PaV w' w.heap.size n (fun k => .int .i64 (shr a T W σ (lft a T W n) k)) ∧ Below w.heap.size w w' := by
  obtain ⟨i0, hi, hz0, hz1, hz2⟩ := info_parts inf_int
  obtain ⟨j0, hj, hy0, hy1, hy2⟩ := info_parts inf_rem
  have HW := Lib.hid hw
  have HWl := Lib.hid hW
  have HSm := Lib.hid hs
  clear hw hW hs
  have HMD := Lib.hid (fun (x : Nat) (hx : x ≤ T) (V : World) => show Calls Try.prog 45 #[.int .i64 a, .int .i64 x, .int .i64 T, .int .i64 1] V fun e w' => e = .returned (.tuple #[.int .i64 ((a * x / T : Nat) : Int), .int .i64 0]) ∧ Below V.heap.size V w' by
    have q := mulDiv_any a x T 1 V (by omega) (by omega) (by omega) (by omega) (by omega) (by omega)
    rw [mdV_down a x T hT hx ha] at q; exact q)
  have HMO := Lib.hid (fun (x : Nat) (hx : x ≤ T) (V : World) => show Calls Try.prog 70 #[.int .i64 a, .int .i64 x, .int .i64 T] V fun e w' => e = .returned (.tuple #[.int .i64 ((a * x % T : Nat) : Int), .int .i64 0]) ∧ Below V.heap.size V w' by
    have q := mod_any a x T V (by omega) (by omega) (by omega) (by omega) (by omega) (by omega)
    rw [moV_pos a x T hT] at q; exact q)
  go_enter Try.func65, Try.ntmps65
  go_wp2_with (at_make; refine wpList_make_full _ rfl _ _ 24 rfl w.heap.size 3 i0 (.int .i64 0) 1 und_ints hi hz0 hz1 _ _ _ _ n rfl rfl rfl rfl ?_ ?_ ?_ ?_)
  · rw [hz2]; omega
  · unfold maxLen; omega
  · exact Nat.le_refl _
  intro w1 hown hgr
  have HL0 := Lib.hid (PaV.made (w := w1) (base := w.heap.size) (P := w.heap.size) (n := n) (T := 3) (z := .int .i64 0) (by rw [Nat.mul_one]; exact hown))
  have HB0 := Lib.hid (show Below w.heap.size w w1 from (Below.refl _ _).grown hgr (Nat.le_refl _) (by simp))
  clear hown hgr
  go_wp2_with (at_make; refine wpList_make_full _ rfl _ _ 87 rfl w1.heap.size 90 j0 (.agg #[.int .i64 0, .int .i64 0]) 2 und_rem hj hy0 hy1 _ _ _ _ n rfl rfl rfl rfl ?_ ?_ ?_ ?_)
  · rw [hy2]; omega
  · unfold maxLen; omega
  · exact Nat.le_refl _
  intro w2 hown hgr
  have HR1 := Lib.hid (PaV.made2 hown)
  have HB1 := Lib.hid (show Below w1.heap.size w1 w2 from (Below.refl _ _).grown hgr (Nat.le_refl _) (by simp))
  clear hown hgr
  have HL1 := Lib.hid (HL0.out.below HB1.out HL0.out.1 (Nat.lt_of_lt_of_le HL0.out.1 HB1.out.size))
  have HB2 := Lib.hid (HB0.out.trans (HB1.out.mono HB0.out.size))
  have hLR : w.heap.size < w1.heap.size := HL0.out.1
  generalize w1.heap.size = R at *
  clear HL0 HB0 HB1
  have hne1 : w.heap.size ≠ R := by omega
  have hne2 : R ≠ w.heap.size := by omega
  go_wp2_with fail
  go_loopw [9, 25] (fun x y wr => ∃ i : Nat, i ≤ n ∧ y = .int .i64 i ∧ x = .int .i64 ((a - sumN (flo a T W) i : Nat) : Int) ∧ Hid (PaV wr w.heap.size n (ptF (flo a T W) i)) ∧ Hid (PaV wr R (n * 2) (rsF (lakI a T W) i)) ∧ Hid (Below w.heap.size w wr)) (fun _ y _ => n - (intOf y).toNat)
  case atStart => exact ⟨0, Nat.zero_le _, rfl, by simp [sumN], Lib.hid (HL1.out.congr fun t _ => rfl), Lib.hid (HR1.out.congr fun t _ => by unfold rsF; rw [if_neg (by omega)]), HB2⟩
  case round =>
    obtain ⟨i, hin, rfl, rfl, HL, HR, HB⟩ := hrel
    by_cases h : i < n
    · have h' : (i : Int) < (n : Int) := by omega
      have hcW : wr.cell? ⟨b, off + i, none⟩ = some (.int .i64 (W i)) := by rw [HB.out.cell HW.out.lt]; exact HW.out.c i h
      have C1 := Lib.hid (fun V => show Calls Try.prog 45 #[.int .i64 a, .int .i64 (W i), .int .i64 T, .int .i64 1] V fun e w' => e = .returned (.tuple #[.int .i64 (flo a T W i), .int .i64 0]) ∧ Below V.heap.size V w' from HMD.out (W i) (HWl.out i h) V)
      have C2 := Lib.hid (fun V => show Calls Try.prog 70 #[.int .i64 a, .int .i64 (W i), .int .i64 T] V fun e w' => e = .returned (.tuple #[.int .i64 (lakI a T W i), .int .i64 0]) ∧ Below V.heap.size V w' from HMO.out (W i) (HWl.out i h) V)
      have hfs : sumN (flo a T W) i + flo a T W i ≤ a := by
        have q1 := flo_le (a := a) hT HSm.out
        have q2 : sumN (flo a T W) (i + 1) ≤ sumN (flo a T W) n := by
          have : ∀ m, i + 1 ≤ m → sumN (flo a T W) (i + 1) ≤ sumN (flo a T W) m := by
            intro m hm
            induction m with
            | zero => omega
            | succ m ih =>
              by_cases e : i + 1 = m + 1
              · rw [e]; exact Nat.le_refl _
              · exact Nat.le_trans (ih (by omega)) (Nat.le_add_right _ _)
          exact this n (by omega)
        have : sumN (flo a T W) (i + 1) = sumN (flo a T W) i + flo a T W i := rfl
        omega
      have HSu := Lib.hid (show sumN (flo a T W) (i + 1) = sumN (flo a T W) i + flo a T W i from rfl)
      have hPt := (HL.out.2 i h)
      go_wp2_with fail
      refine (C1.out _).mono ?_
      rintro e w3 ⟨rfl, hb3⟩
      have HL3 := Lib.hid (HL.out.same hb3)
      have HR3 := Lib.hid (HR.out.same hb3)
      have HB3 := Lib.hid (HB.out.trans (hb3.mono HB.out.size))
      clear hb3 HL HR HB hPt hcW
      have x0 := (HL3.out.2 i h).1
      have x1 := (HL3.out.2 i h).2
      have HL4 := Lib.hid (show PaV (w3.setCell ⟨w.heap.size, i, none⟩ (.int .i64 (flo a T W i))) w.heap.size n (ptF (flo a T W) (i + 1)) by
        have q := HL3.out.set (g := ptF (flo a T W) (i + 1)) i h (fun t ht e => by unfold ptF; by_cases z : t < i; rw [if_pos z, if_pos (by omega)]; rw [if_neg z, if_neg (by omega)])
        rwa [show ptF (flo a T W) (i + 1) i = .int .i64 (flo a T W i) by unfold ptF; rw [if_pos (by omega)]] at q)
      have HR4 := Lib.hid (HR3.out.far hne2 i (.int .i64 (flo a T W i)))
      have HB4 := Lib.hid (HB3.out.setCell (p := ⟨w.heap.size, i, none⟩) (Nat.le_refl _) (.int .i64 (flo a T W i)))
      go_wp2_with fail
      clear x0 x1 HL3 HR3 HB3
      generalize w3.setCell ⟨w.heap.size, i, none⟩ (.int .i64 (flo a T W i)) = w4 at *
      refine (C2.out _).mono ?_
      rintro e w5 ⟨rfl, hb5⟩
      have HL5 := Lib.hid (HL4.out.same hb5)
      have HR5 := Lib.hid (HR4.out.same hb5)
      have HB5 := Lib.hid (HB4.out.trans (hb5.mono HB4.out.size))
      clear hb5 HL4 HR4 HB4
      have y0 := (HR5.out.2 (i * 2) (by omega)).1
      have y1 := (HR5.out.2 (i * 2) (by omega)).2
      have y2 := (HR5.out.2 (i * 2 + 1) (by omega)).1
      have y3 := (HR5.out.2 (i * 2 + 1) (by omega)).2
      have HL6 := Lib.hid ((HL5.out.far hne1 (i * 2) (.int .i64 i)).far hne1 (i * 2 + 1) (.int .i64 (lakI a T W i)))
      have z0 : ((w5.setCell ⟨R, i * 2, none⟩ (.int .i64 i)).setCell ⟨R, i * 2 + 1, none⟩ (.int .i64 (lakI a T W i))).cell? ⟨w.heap.size, i, none⟩ = some (.int .i64 (flo a T W i)) := by
        rw [(HL6.out.2 i h).1]; unfold ptF; rw [if_pos (by omega)]
      have HR6 := Lib.hid (show PaV ((w5.setCell ⟨R, i * 2, none⟩ (.int .i64 i)).setCell ⟨R, i * 2 + 1, none⟩ (.int .i64 (lakI a T W i))) R (n * 2) (rsF (lakI a T W) (i + 1)) by
        have q1 := HR5.out.set (g := fun t => if t = i * 2 then .int .i64 i else rsF (lakI a T W) i t) (i * 2) (by omega) (fun t ht e => by simp [e])
        have q2 := q1.set (g := rsF (lakI a T W) (i + 1)) (i * 2 + 1) (by omega) (fun t ht e => by
          unfold rsF
          by_cases z : t = i * 2
          · rw [if_pos z, if_pos (by omega), z]; unfold tabC; rw [if_pos (by omega), show i * 2 / 2 = i by omega]
          · rw [if_neg z]
            by_cases z2 : t / 2 < i
            · rw [if_pos z2, if_pos (by omega)]
            · rw [if_neg z2, if_neg (by omega)])
        rw [show rsF (lakI a T W) (i + 1) (i * 2 + 1) = .int .i64 (lakI a T W i) by unfold rsF tabC; rw [if_pos (by omega), if_neg (by omega), show (i * 2 + 1) / 2 = i by omega]] at q2
        simpa using q2)
      have HB6 := Lib.hid ((HB5.out.setCell (p := ⟨R, i * 2, none⟩) (Nat.le_of_lt hLR) (.int .i64 i)).setCell (p := ⟨R, i * 2 + 1, none⟩) (Nat.le_of_lt hLR) (.int .i64 (lakI a T W i)))
      generalize flo a T W i = f at *
      go_wp2
      go_roundw
      case rel => exact ⟨i + 1, by omega, by go_num, congrArg (Value.int .i64) (by rw [HSu.out]; omega), HL6, HR6, HB6⟩
      case measure => simp [intOf]; omega
    · have h' : ¬ (i : Int) < (n : Int) := by omega
      obtain rfl : n = i := by omega
      have HC := Lib.hid (largestFirst_any R n n (lakI a T W) wr hn0 hn (prs_rs HR.out))
      have hlf := lft_le (a := a) hT HSm.out
      have HLf := Lib.hid (show a - sumN (flo a T W) n = lft a T W n from rfl)
      rw [HLf.out]
      have HL7 := Lib.hid (show PaV wr w.heap.size n (fun k => .int .i64 (shr a T W (fun k => k) 0 k)) from HL.out.congr fun t ht => by unfold ptF shr; rw [if_pos ht, sel_zero]; simp)
      generalize hlq : lft a T W n = lf at *
      have HLq := Lib.hid hlq
      clear hlq
      go_wp2_with fail
      refine HC.out.mono ?_
      rintro e w3 ⟨P, σ, rfl, hPg, h1, h2, h3, h4⟩
      have HL8 := Lib.hid (show PaV w3 w.heap.size n (fun k => .int .i64 (shr a T W σ 0 k)) from (HL7.out.same h4).congr fun t ht => by unfold shr; rw [sel_zero, sel_zero])
      have HP8 := Lib.hid h3
      have HB8 := Lib.hid (HB.out.trans (h4.mono HB.out.size))
      have HSo := Lib.hid h1
      have HPm := Lib.hid h2
      have hPL : w.heap.size < P := by have := HR.out.1; omega
      clear h1 h2 h3 h4 HC HL HR HB HL7
      go_wp2_with fail
      go_loopw [65] (fun x wr => ∃ j : Nat, j ≤ lf ∧ x = .int .i64 j ∧ Hid (PaV wr w.heap.size n (fun k => .int .i64 (shr a T W σ j k))) ∧ Hid (Prs wr P n (lakI a T W) σ) ∧ Hid (Below w.heap.size w wr)) (fun x _ => lf - (intOf x).toNat)
      case atStart => exact ⟨0, Nat.zero_le _, rfl, HL8, HP8, HB8⟩
      case round =>
        clear HL8 HP8 HB8
        obtain ⟨j, hj, rfl, HL, HPr, HB⟩ := hrel
        by_cases hjl : j < lf
        · have hjl' : (j : Int) < (lf : Int) := by omega
          have p0 := HPr.out.c0 j (by omega)
          have p1 := HPr.out.c1 j (by omega)
          have p2 := HPr.out.lt
          have hsj := HPm.out.bd j (by omega)
          have hsj' : ((σ j : Nat) : Int) < (n : Int) := by omega
          have l0 : wr.cell? ⟨w.heap.size, σ j, none⟩ = some (.int .i64 (shr a T W σ j (σ j))) := (HL.out.2 (σ j) hsj).1
          have l1 := (HL.out.2 (σ j) hsj).2
          have l2 := HL.out.1
          have hsm : (shr a T W σ j (σ j) : Int) ≤ 1000000000000001 := by
            have := flo_small (a := a) hT (HWl.out (σ j) hsj)
            have : shr a T W σ j (σ j) ≤ flo a T W (σ j) + 1 := by unfold shr; split <;> omega
            omega
          have HNx := Lib.hid (shr_next (a := a) (T := T) (W := W) (n := n) HPm.out (show j < n by omega))
          have HL9 := Lib.hid (show PaV (wr.setCell ⟨w.heap.size, σ j, none⟩ (.int .i64 ((shr a T W σ j (σ j) : Nat) + 1))) w.heap.size n (fun k => .int .i64 (shr a T W σ (j + 1) k)) by
            have q := HL.out.set (g := fun k => .int .i64 (shr a T W σ (j + 1) k)) (σ j) hsj (fun t ht e => by rw [HNx.out.2 t e])
            rw [HNx.out.1] at q
            simpa using q)
          have HP9 := Lib.hid (HPr.out.far (Q := w.heap.size) (by omega) (σ j) (.int .i64 ((shr a T W σ j (σ j) : Nat) + 1)))
          have HB9 := Lib.hid (HB.out.setCell (p := ⟨w.heap.size, σ j, none⟩) (Nat.le_refl _) (.int .i64 ((shr a T W σ j (σ j) : Nat) + 1)))
          have hs0 : (0 : Int) ≤ (shr a T W σ j (σ j) : Int) := by omega
          generalize shr a T W σ j (σ j) = sv at *
          clear HL HPr HB HNx
          go_wp2
          go_roundw
          case rel => exact ⟨j + 1, by omega, by go_num, Lib.hid (HL9.out.same ((Below.refl _ _).alloc (Nat.le_refl _) _)), Lib.hid (HP9.out.below ((Below.refl _ _).alloc (Nat.le_refl _) _) HP9.out.lt (Nat.le_refl _)), Lib.hid (HB9.out.alloc (by have := HB9.out.size; omega) _)⟩
          case measure => simp [intOf]; omega
        · have hjl' : ¬ (j : Int) < (lf : Int) := by omega
          obtain rfl : lf = j := by omega
          go_wp2
          go_ret
          exact ⟨rfl, σ, HSo.out, HPm.out, by rw [HLq.out]; exact HL.out, HB.out⟩
end Go.Proofs.Ytmehihfdfpnfjaa
