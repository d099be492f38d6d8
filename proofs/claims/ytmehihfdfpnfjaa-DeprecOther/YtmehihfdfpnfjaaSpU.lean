/- What Shares and Even of package accountingref08 return. Written by wip/mk_spu.py. -/
import Derived.Test.YtmehihfdfpnfjaaSpT
namespace Go.Proofs.Ytmehihfdfpnfjaa
open Go.RowKit Go.Sort
set_option linter.unusedVariables false
set_option linter.unusedSimpArgs false

theorem rnk_inj {r : Nat → Int} {n : Nat} {σ : Nat → Nat} (hs : Srt r σ 0 n) (hp : Prm n σ) {i k : Nat} (hi : i < n) (hk : k < n) (h : rnk r n i = rnk r n k) : i = k := by
  obtain ⟨j, j1, rfl⟩ := hp.sur i hi
  obtain ⟨m, m1, rfl⟩ := hp.sur k hk
  rw [rnk_at hs hp j1, rnk_at hs hp m1] at h
  rw [h]
/-- the rests of which t are chosen. -/
def rsT (a T : Nat) (W : Nat → Nat) (n t k : Nat) : Int := if rnk (lakI a T W) n k < t then -1 else lakI a T W k
/-- the parts of which t have a unit more. -/
def ptT (a T : Nat) (W : Nat → Nat) (n t k : Nat) : Int := if rnk (lakI a T W) n k < t then (flo a T W k : Int) + 1 else (flo a T W k : Int)
section
variable {a T n : Nat} {W : Nat → Nat}
theorem best_rnk (ho : Ord1 a T W n) {t b : Nat} (ht : t < n) (hb : b < n) (hm : ∀ j, j < n → rsT a T W n t j ≤ rsT a T W n t b ∧ (j < b → rsT a T W n t j < rsT a T W n t b)) : rnk (lakI a T W) n b = t := by
  obtain ⟨σ, hs, hp⟩ := ho
  obtain ⟨j, j1, rfl⟩ := hp.sur b hb
  have hk := hm (σ t) (hp.bd t ht)
  have l0 : 0 ≤ lakI a T W (σ t) := by unfold lakI; omega
  unfold rsT at hk
  rw [rnk_at hs hp ht, rnk_at hs hp j1, if_neg (by omega)] at hk
  rw [rnk_at hs hp j1]
  rcases Nat.lt_trichotomy j t with q | q | q
  · rw [if_pos q] at hk; omega
  · exact q
  · rw [if_neg (by omega)] at hk
    have h2 := hs t j (Nat.zero_le _) q j1
    unfold Bef at h2; omega
theorem pt_next (ho : Ord1 a T W n) {t b : Nat} (hb : b < n) (h : rnk (lakI a T W) n b = t) : (ptT a T W n (t + 1) b = ptT a T W n t b + 1 ∧ rsT a T W n (t + 1) b = -1) ∧ ∀ k, k < n → k ≠ b → ptT a T W n (t + 1) k = ptT a T W n t k ∧ rsT a T W n (t + 1) k = rsT a T W n t k := by
  obtain ⟨σ, hs, hp⟩ := ho
  constructor
  · unfold ptT rsT; rw [h, if_pos (by omega), if_neg (by omega), if_pos (by omega)]; exact ⟨rfl, rfl⟩
  · intro k hk hne
    have : rnk (lakI a T W) n k ≠ t := fun e => hne (rnk_inj hs hp hk hb (by rw [e, h]))
    unfold ptT rsT
    by_cases q : rnk (lakI a T W) n k < t
    · rw [if_pos q, if_pos q, if_pos (by omega), if_pos (by omega)]; exact ⟨rfl, rfl⟩
    · rw [if_neg q, if_neg q, if_neg (by omega), if_neg (by omega)]; exact ⟨rfl, rfl⟩
theorem pt_end (k : Nat) : ptT a T W n (lft a T W n) k = (shN a T W n k : Int) := by
  unfold ptT shN
  by_cases q : rnk (lakI a T W) n k < lft a T W n
  · rw [if_pos q]; simp [q]
  · rw [if_neg q]; simp [q]
theorem pt_le (hT : 0 < T) (hW : ∀ k, k < n → W k ≤ T) (t : Nat) {k : Nat} (hk : k < n) : 0 ≤ ptT a T W n t k ∧ ptT a T W n t k ≤ (a : Int) + 1 := by
  have := flo_small (a := a) hT (hW k hk)
  unfold ptT; split <;> omega
end
/-- the parts of which i are negated. -/
def ngT (f : Nat → Nat) (i k : Nat) : Value := .int .i64 (if k < i then -(f k : Int) else (f k : Int))
set_option maxRecDepth 100000 in
set_option maxHeartbeats 8000000 in
theorem rShares_pos (a T n b off c : Nat) (W : Nat → Nat) (w : World) (ha : a ≤ 1000000000000000) (hT : 0 < T) (hTm : T ≤ 1000000000000000) (hn0 : 0 < n) (hn : n ≤ 200) (hW : ∀ k, k < n → W k ≤ T) (hs : sumN W n = T) (hw : Wts w b off n W) (ho : Ord1 a T W n)
    (htot : Calls Try.prog 39 #[.int .i64 (a : Int), .slice (some ⟨b, off, none⟩) n c] w fun e w' => e = .returned (.tuple #[.int .i64 (T : Int), .int .i64 0]) ∧ w = w') :
    Calls Try.prog 25 #[.int .i64 (a : Int), .slice (some ⟨b, off, none⟩) n c] w fun e w' => e = .returned (.tuple #[.slice (some ⟨w.heap.size, 0, none⟩) n n, .int .i64 0]) ∧ PaV w' w.heap.size n (fun k => .int .i64 ((shN a T W n k : Int))) ∧ Below w.heap.size w w' := by
  obtain ⟨i0, hi, hz0, hz1, hz2⟩ := info_parts inf_int
  have HW := Lib.hid hw
  have HWl := Lib.hid hW
  have HSm := Lib.hid hs
  have HO := Lib.hid ho
  have HTo := Lib.hid htot
  clear hw hW hs ho htot
  have hng : ¬ (a : Int) < 0 := by omega
  have hng' : decide ((a : Int) < 0) = false := decide_eq_false hng
  have HMD := Lib.hid (fun (x : Nat) (hx : x ≤ T) (V : World) => show Calls Try.prog 37 #[.int .i64 a, .int .i64 x, .int .i64 T, .int .i64 1] V fun e w' => e = .returned (.tuple #[.int .i64 ((a * x / T : Nat) : Int), .int .i64 0]) ∧ V = w' by
    have q := rMulDiv_any a x T 1 V (by omega) (by omega) (by omega) (by omega) (by omega) (by omega)
    rw [mdV_down a x T hT hx ha] at q; exact q)
  have HMO := Lib.hid (fun (x : Nat) (hx : x ≤ T) (V : World) => show Calls Try.prog 40 #[.int .i64 a, .int .i64 x, .int .i64 T] V fun e w' => e = .returned (.tuple #[.int .i64 ((a * x % T : Nat) : Int), .int .i64 0]) ∧ V = w' by
    have q := rMod_any a x T V (by omega) (by omega) (by omega) (by omega) (by omega) (by omega)
    rw [moV_pos a x T hT] at q; exact q)
  go_enter Try.func25, Try.ntmps25
  go_wp2_with fail
  refine HTo.out.mono ?_
  rintro e w0 ⟨rfl, rfl⟩
  go_wp2_with (at_make; refine wpList_make_full _ rfl _ _ 24 rfl w.heap.size 3 i0 (.int .i64 0) 1 und_ints hi hz0 hz1 _ _ _ _ n rfl rfl rfl rfl ?_ ?_ ?_ ?_)
  any_goals (first | (rw [hz2]; omega) | omega | (unfold maxLen; omega) | exact Nat.le_refl _)
  intro w1 hown hgr
  have HL0 := Lib.hid (PaV.made (w := w1) (base := w.heap.size) (P := w.heap.size) (n := n) (T := 3) (z := .int .i64 0) (by rw [Nat.mul_one]; exact hown))
  have HB0 := Lib.hid (show Below w.heap.size w w1 from (Below.refl _ _).grown hgr (Nat.le_refl _) (by simp))
  clear hown hgr
  go_wp2_with (at_make; refine wpList_make_full _ rfl _ _ 24 rfl w1.heap.size 3 i0 (.int .i64 0) 1 und_ints hi hz0 hz1 _ _ _ _ n rfl rfl rfl rfl ?_ ?_ ?_ ?_)
  any_goals (first | (rw [hz2]; omega) | omega | (unfold maxLen; omega) | exact Nat.le_refl _)
  intro w2 hown hgr
  have HR1 := Lib.hid (PaV.made (w := w2) (base := w1.heap.size) (P := w1.heap.size) (n := n) (T := 3) (z := .int .i64 0) (by rw [Nat.mul_one]; exact hown))
  have HB1 := Lib.hid (show Below w1.heap.size w1 w2 from (Below.refl _ _).grown hgr (Nat.le_refl _) (by simp))
  clear hown hgr
  have HL1 := Lib.hid (HL0.out.below HB1.out HL0.out.1 (Nat.lt_of_lt_of_le HL0.out.1 HB1.out.size))
  have HB2 := Lib.hid (HB0.out.trans (HB1.out.mono HB0.out.size))
  have hLR : w.heap.size < w1.heap.size := HL0.out.1
  generalize w1.heap.size = R at *
  clear HL0 HB0 HB1
  have hne1 : w.heap.size ≠ R := by omega
  have hne2 : R ≠ w.heap.size := by omega
  go_wp2_with fail
  go_loopw [11, 12] (fun x y wr => ∃ i : Nat, i ≤ n ∧ y = .int .i64 i ∧ x = .int .i64 ((a - sumN (flo a T W) i : Nat) : Int) ∧ Hid (PaV wr w.heap.size n (ptF (flo a T W) i)) ∧ Hid (PaV wr R n (ptF (lak a T W) i)) ∧ Hid (Below w.heap.size w wr)) (fun _ y _ => n - (intOf y).toNat)
  case atStart => exact ⟨0, Nat.zero_le _, rfl, by simp [sumN], Lib.hid (HL1.out.congr fun t _ => rfl), Lib.hid (HR1.out.congr fun t _ => rfl), HB2⟩
  case round =>
    obtain ⟨i, hin, rfl, rfl, HL, HR, HB⟩ := hrel
    clear HL1 HR1 HB2
    by_cases h : i < n
    · have h' : (i : Int) < (n : Int) := by omega
      have hcW : wr.cell? ⟨b, off + i, none⟩ = some (.int .i64 (W i)) := by rw [HB.out.cell HW.out.lt]; exact HW.out.c i h
      have C1 := Lib.hid (fun V => show Calls Try.prog 37 #[.int .i64 a, .int .i64 (W i), .int .i64 T, .int .i64 1] V fun e w' => e = .returned (.tuple #[.int .i64 (flo a T W i), .int .i64 0]) ∧ V = w' from HMD.out (W i) (HWl.out i h) V)
      have C2 := Lib.hid (fun V => show Calls Try.prog 40 #[.int .i64 a, .int .i64 (W i), .int .i64 T] V fun e w' => e = .returned (.tuple #[.int .i64 (lak a T W i), .int .i64 0]) ∧ V = w' from HMO.out (W i) (HWl.out i h) V)
      have hfs : sumN (flo a T W) i + flo a T W i ≤ a := by
        have q1 := flo_le (a := a) hT HSm.out
        have q2 := sumN_part (f := flo a T W) (show i + 1 ≤ n by omega)
        have : sumN (flo a T W) (i + 1) = sumN (flo a T W) i + flo a T W i := rfl
        omega
      have HSu := Lib.hid (show sumN (flo a T W) (i + 1) = sumN (flo a T W) i + flo a T W i from rfl)
      have x0 := (HL.out.2 i h).1
      have x1 := (HL.out.2 i h).2
      have y0 := (HR.out.2 i h).1
      have y1 := (HR.out.2 i h).2
      have HL4 := Lib.hid (show PaV (wr.setCell ⟨w.heap.size, i, none⟩ (.int .i64 (flo a T W i))) w.heap.size n (ptF (flo a T W) (i + 1)) by
        have q := HL.out.set (g := ptF (flo a T W) (i + 1)) i h (fun t ht e => by unfold ptF; by_cases z : t < i; rw [if_pos z, if_pos (by omega)]; rw [if_neg z, if_neg (by omega)])
        rwa [show ptF (flo a T W) (i + 1) i = .int .i64 (flo a T W i) by unfold ptF; rw [if_pos (by omega)]] at q)
      have HR4 := Lib.hid (HR.out.far hne2 i (.int .i64 (flo a T W i)))
      have HL6 := Lib.hid (HL4.out.far hne1 i (.int .i64 (lak a T W i)))
      have HR6 := Lib.hid (show PaV ((wr.setCell ⟨w.heap.size, i, none⟩ (.int .i64 (flo a T W i))).setCell ⟨R, i, none⟩ (.int .i64 (lak a T W i))) R n (ptF (lak a T W) (i + 1)) by
        have q := HR4.out.set (g := ptF (lak a T W) (i + 1)) i h (fun t ht e => by unfold ptF; by_cases z : t < i; rw [if_pos z, if_pos (by omega)]; rw [if_neg z, if_neg (by omega)])
        rwa [show ptF (lak a T W) (i + 1) i = .int .i64 (lak a T W i) by unfold ptF; rw [if_pos (by omega)]] at q)
      have z0 : ((wr.setCell ⟨w.heap.size, i, none⟩ (.int .i64 (flo a T W i))).setCell ⟨R, i, none⟩ (.int .i64 (lak a T W i))).cell? ⟨w.heap.size, i, none⟩ = some (.int .i64 (flo a T W i)) := by
        rw [(HL6.out.2 i h).1]; unfold ptF; rw [if_pos (by omega)]
      have y2 := (HR4.out.2 i h).1
      have y3 := (HR4.out.2 i h).2
      have HB6 := Lib.hid ((HB.out.setCell (p := ⟨w.heap.size, i, none⟩) (Nat.le_refl _) (.int .i64 (flo a T W i))).setCell (p := ⟨R, i, none⟩) (Nat.le_of_lt hLR) (.int .i64 (lak a T W i)))
      generalize flo a T W i = f at *
      generalize lak a T W i = g at *
      go_wp2_with fail
      refine (C1.out _).mono ?_
      rintro e w3 ⟨rfl, rfl⟩
      go_wp2_with fail
      refine (C2.out _).mono ?_
      rintro e w3 ⟨rfl, rfl⟩
      go_wp2
      go_roundw
      case rel => exact ⟨i + 1, by omega, by go_num, congrArg (Value.int .i64) (by rw [HSu.out]; omega), HL6, HR6, HB6⟩
      case measure => simp [intOf]; omega
    · have h' : ¬ (i : Int) < (n : Int) := by omega
      obtain rfl : n = i := by omega
      have hlf := lft_le (a := a) hT HSm.out
      have HLf := Lib.hid (show a - sumN (flo a T W) n = lft a T W n from rfl)
      rw [HLf.out]
      have HL7 := Lib.hid (show PaV wr w.heap.size n (fun k => .int .i64 (ptT a T W n 0 k)) from HL.out.congr fun t ht => by unfold ptF ptT; rw [if_pos ht, if_neg (by omega)])
      have HR7 := Lib.hid (show PaV wr R n (fun k => .int .i64 (rsT a T W n 0 k)) from HR.out.congr fun t ht => by unfold ptF rsT lakI; rw [if_pos ht, if_neg (by omega)])
      have HB7 := HB
      clear HL HR HB h h' hin HMD HMO
      generalize hlq : lft a T W n = lf at *
      have HLq := Lib.hid hlq
      clear hlq
      go_wp2_with fail
      go_loopw [11] (fun x wr => ∃ t : Nat, t ≤ lf ∧ x = .int .i64 ((lf - t : Nat) : Int) ∧ Hid (PaV wr w.heap.size n (fun k => .int .i64 (ptT a T W n t k))) ∧ Hid (PaV wr R n (fun k => .int .i64 (rsT a T W n t k))) ∧ Hid (Below w.heap.size w wr)) (fun x _ => (intOf x).toNat)
      case atStart => exact ⟨0, Nat.zero_le _, rfl, HL7, HR7, HB7⟩
      case round =>
        clear HL7 HR7 HB7
        obtain ⟨t, ht, rfl, HL, HR, HB⟩ := hrel
        by_cases h : t < lf
        · obtain ⟨l, hl⟩ : ∃ l, lf - t = l + 1 := ⟨lf - t - 1, by omega⟩
          rw [hl]
          have hl0 : (0 : Int) < ((l + 1 : Nat) : Int) := by omega
          go_wp2_with fail
          go_loopw [17, 18] (fun x y wq => ∃ p i : Nat, p < n ∧ p ≤ i ∧ i ≤ n ∧ x = .int .i64 p ∧ y = .int .i64 i ∧ Hid (∀ j, j < i → rsT a T W n t j ≤ rsT a T W n t p ∧ (j < p → rsT a T W n t j < rsT a T W n t p)) ∧ Hid (PaV wq w.heap.size n (fun k => .int .i64 (ptT a T W n t k))) ∧ Hid (PaV wq R n (fun k => .int .i64 (rsT a T W n t k))) ∧ Hid (Below w.heap.size w wq)) (fun _ y _ => n - (intOf y).toNat)
          case atStart => exact ⟨0, 0, hn0, Nat.le_refl _, Nat.zero_le _, rfl, rfl, Lib.hid (fun j hj => by omega), HL, HR, HB⟩
          case round =>
            clear HL HR HB
            obtain ⟨p, i, hp, hpi, hin, rfl, rfl, HM, HL, HR, HB⟩ := hrel
            by_cases hi2 : i < n
            · have hi2' : (i : Int) < (n : Int) := by omega
              have hp' : (p : Int) < (n : Int) := by omega
              have r1 : wr.cell? ⟨R, i, none⟩ = some (.int .i64 (rsT a T W n t i)) := (HR.out.2 i hi2).1
              have r2 : wr.cell? ⟨R, p, none⟩ = some (.int .i64 (rsT a T W n t p)) := (HR.out.2 p hp).1
              by_cases hc : rsT a T W n t p < rsT a T W n t i
              · have HM2 := Lib.hid (show ∀ j, j < i + 1 → rsT a T W n t j ≤ rsT a T W n t i ∧ (j < i → rsT a T W n t j < rsT a T W n t i) from fun j hj => by
                  by_cases e : j = i
                  · subst e; omega
                  · have := HM.out j (by omega); omega)
                generalize rsT a T W n t i = u at r1 r2 hc
                generalize rsT a T W n t p = v at r1 r2 hc
                go_wp2_with fail
                go_quiet (fail)
                have HB2 := Lib.hid (below_drewN HB.out nq)
                have HL2 := Lib.hid (HL.out.same (below_drewN (Below.refl _ _) nq))
                have HR2 := Lib.hid (HR.out.same (below_drewN (Below.refl _ _) nq))
                generalize wr.drewN nq = w2 at *
                go_wp2
                go_roundw
                case rel => exact ⟨i, i + 1, hi2, by omega, by omega, rfl, by go_num, HM2, HL2, HR2, HB2⟩
                case measure => simp [intOf]; omega
              · have HM2 := Lib.hid (show ∀ j, j < i + 1 → rsT a T W n t j ≤ rsT a T W n t p ∧ (j < p → rsT a T W n t j < rsT a T W n t p) from fun j hj => by
                  by_cases e : j = i
                  · subst e; omega
                  · exact HM.out j (by omega))
                generalize rsT a T W n t i = u at r1 r2 hc
                generalize rsT a T W n t p = v at r1 r2 hc
                go_wp2_with fail
                go_quiet (fail)
                have HB2 := Lib.hid (below_drewN HB.out nq)
                have HL2 := Lib.hid (HL.out.same (below_drewN (Below.refl _ _) nq))
                have HR2 := Lib.hid (HR.out.same (below_drewN (Below.refl _ _) nq))
                generalize wr.drewN nq = w2 at *
                go_wp2
                go_roundw
                case rel =>
                  (repeat apply Exists.intro)
                  refine ⟨?_, rfl⟩
                  exact ⟨p, i + 1, hp, by omega, by omega, rfl, by go_num, HM2, HL2, HR2, HB2⟩
                case measure => simp [intOf]; omega
            · have hi2' : ¬ (i : Int) < (n : Int) := by omega
              obtain rfl : n = i := by omega
              have hp' : (p : Int) < (n : Int) := by omega
              have hbr := best_rnk HO.out (show t < n by omega) hp HM.out
              have HNx := Lib.hid (pt_next HO.out hp hbr)
              have HL3 := HL
              have HR3 := HR
              have HB3 := HB
              clear HL HR HB HM hbr
              have x0 : wr.cell? ⟨w.heap.size, p, none⟩ = some (.int .i64 (ptT a T W n t p)) := (HL3.out.2 p hp).1
              have x1 := (HL3.out.2 p hp).2
              have hsm := pt_le (a := a) hT HWl.out t hp
              have HL4 := Lib.hid (show PaV (wr.setCell ⟨w.heap.size, p, none⟩ (.int .i64 (ptT a T W n t p + 1))) w.heap.size n (fun k => .int .i64 (ptT a T W n (t + 1) k)) by
                have q := HL3.out.set (g := fun k => .int .i64 (ptT a T W n (t + 1) k)) p hp (fun k hk e => by rw [(HNx.out.2 k hk e).1])
                rw [HNx.out.1.1] at q; exact q)
              have HR4 := Lib.hid (HR3.out.far hne2 p (.int .i64 (ptT a T W n t p + 1)))
              have HL6 := Lib.hid (HL4.out.far hne1 p (.int .i64 (-1)))
              have HR6 := Lib.hid (show PaV ((wr.setCell ⟨w.heap.size, p, none⟩ (.int .i64 (ptT a T W n t p + 1))).setCell ⟨R, p, none⟩ (.int .i64 (-1))) R n (fun k => .int .i64 (rsT a T W n (t + 1) k)) by
                have q := HR4.out.set (g := fun k => .int .i64 (rsT a T W n (t + 1) k)) p hp (fun k hk e => by rw [(HNx.out.2 k hk e).2])
                rw [HNx.out.1.2] at q; exact q)
              have y2 : (wr.setCell ⟨w.heap.size, p, none⟩ (.int .i64 (ptT a T W n t p + 1))).cell? ⟨R, p, none⟩ = some (.int .i64 (rsT a T W n t p)) := (HR4.out.2 p hp).1
              have y4 : wr.cell? ⟨R, p, none⟩ = some (.int .i64 (rsT a T W n t p)) := (HR3.out.2 p hp).1
              have y5 := (HR3.out.2 p hp).2
              have y3 := (HR4.out.2 p hp).2
              have HB6 := Lib.hid ((HB3.out.setCell (p := ⟨w.heap.size, p, none⟩) (Nat.le_refl _) (.int .i64 (ptT a T W n t p + 1))).setCell (p := ⟨R, p, none⟩) (Nat.le_of_lt hLR) (.int .i64 (-1)))
              generalize ptT a T W n t p = pv at *
              clear HL3 HR3 HB3 HL4 HR4 HNx
              go_wp2
              go_roundw
              case rel => exact ⟨t + 1, by omega, congrArg (Value.int .i64) (by omega), HL6, HR6, HB6⟩
              case measure => first | (simp [intOf]; done) | (simp [intOf]; omega)
        · have hz : lf - t = 0 := by omega
          rw [hz]
          have HL8 := Lib.hid (show PaV wr w.heap.size n (ngT (shN a T W n) 0) from HL.out.congr fun k hk => by
            unfold ngT; rw [if_neg (by omega), ← pt_end, HLq.out, show t = lf by omega])
          clear HL HR
          go_wp2_with fail
          go_loopw [19] (fun x wr => ∃ i : Nat, i ≤ n ∧ x = .int .i64 i ∧ i = 0 ∧ Hid (PaV wr w.heap.size n (ngT (shN a T W n) i)) ∧ Hid (Below w.heap.size w wr)) (fun x _ => n - (intOf x).toNat)
          case atStart => exact ⟨0, Nat.zero_le _, rfl, rfl, HL8, HB⟩
          case round =>
            clear HL8 HB
            obtain ⟨i, hin, rfl, hi0, HL, HB⟩ := hrel
            subst hi0
            have h2' : (0 : Int) < (n : Int) := by omega
            have h2'' : decide ((0 : Int) < (n : Int)) = true := decide_eq_true h2'
            go_wp2
            go_ret2
            exact ⟨rfl, HL.out.congr fun k hk => by unfold ngT; rw [if_neg (by omega)], HB.out⟩
set_option maxRecDepth 100000 in
set_option maxHeartbeats 8000000 in
theorem rShares_neg (a T n b off c : Nat) (W : Nat → Nat) (w : World) (ha : a ≤ 1000000000000000) (ha0 : 0 < a) (hT : 0 < T) (hTm : T ≤ 1000000000000000) (hn0 : 0 < n) (hn : n ≤ 200) (hW : ∀ k, k < n → W k ≤ T) (hs : sumN W n = T) (hw : Wts w b off n W) (ho : Ord1 a T W n)
    (htot : Calls Try.prog 39 #[.int .i64 (-(a : Int)), .slice (some ⟨b, off, none⟩) n c] w fun e w' => e = .returned (.tuple #[.int .i64 (T : Int), .int .i64 0]) ∧ w = w') :
    Calls Try.prog 25 #[.int .i64 (-(a : Int)), .slice (some ⟨b, off, none⟩) n c] w fun e w' => e = .returned (.tuple #[.slice (some ⟨w.heap.size, 0, none⟩) n n, .int .i64 0]) ∧ PaV w' w.heap.size n (fun k => .int .i64 (-(shN a T W n k : Int))) ∧ Below w.heap.size w w' := by
  obtain ⟨i0, hi, hz0, hz1, hz2⟩ := info_parts inf_int
  have HW := Lib.hid hw
  have HWl := Lib.hid hW
  have HSm := Lib.hid hs
  have HO := Lib.hid ho
  have HTo := Lib.hid htot
  clear hw hW hs ho htot
  have hng : -(a : Int) < 0 := by omega
  have hng' : decide (-(a : Int) < 0) = true := decide_eq_true hng
  have HMD := Lib.hid (fun (x : Nat) (hx : x ≤ T) (V : World) => show Calls Try.prog 37 #[.int .i64 a, .int .i64 x, .int .i64 T, .int .i64 1] V fun e w' => e = .returned (.tuple #[.int .i64 ((a * x / T : Nat) : Int), .int .i64 0]) ∧ V = w' by
    have q := rMulDiv_any a x T 1 V (by omega) (by omega) (by omega) (by omega) (by omega) (by omega)
    rw [mdV_down a x T hT hx ha] at q; exact q)
  have HMO := Lib.hid (fun (x : Nat) (hx : x ≤ T) (V : World) => show Calls Try.prog 40 #[.int .i64 a, .int .i64 x, .int .i64 T] V fun e w' => e = .returned (.tuple #[.int .i64 ((a * x % T : Nat) : Int), .int .i64 0]) ∧ V = w' by
    have q := rMod_any a x T V (by omega) (by omega) (by omega) (by omega) (by omega) (by omega)
    rw [moV_pos a x T hT] at q; exact q)
  go_enter Try.func25, Try.ntmps25
  go_wp2_with fail
  refine HTo.out.mono ?_
  rintro e w0 ⟨rfl, rfl⟩
  go_wp2_with (at_make; refine wpList_make_full _ rfl _ _ 24 rfl w.heap.size 3 i0 (.int .i64 0) 1 und_ints hi hz0 hz1 _ _ _ _ n rfl rfl rfl rfl ?_ ?_ ?_ ?_)
  any_goals (first | (rw [hz2]; omega) | omega | (unfold maxLen; omega) | exact Nat.le_refl _)
  intro w1 hown hgr
  have HL0 := Lib.hid (PaV.made (w := w1) (base := w.heap.size) (P := w.heap.size) (n := n) (T := 3) (z := .int .i64 0) (by rw [Nat.mul_one]; exact hown))
  have HB0 := Lib.hid (show Below w.heap.size w w1 from (Below.refl _ _).grown hgr (Nat.le_refl _) (by simp))
  clear hown hgr
  go_wp2_with (at_make; refine wpList_make_full _ rfl _ _ 24 rfl w1.heap.size 3 i0 (.int .i64 0) 1 und_ints hi hz0 hz1 _ _ _ _ n rfl rfl rfl rfl ?_ ?_ ?_ ?_)
  any_goals (first | (rw [hz2]; omega) | omega | (unfold maxLen; omega) | exact Nat.le_refl _)
  intro w2 hown hgr
  have HR1 := Lib.hid (PaV.made (w := w2) (base := w1.heap.size) (P := w1.heap.size) (n := n) (T := 3) (z := .int .i64 0) (by rw [Nat.mul_one]; exact hown))
  have HB1 := Lib.hid (show Below w1.heap.size w1 w2 from (Below.refl _ _).grown hgr (Nat.le_refl _) (by simp))
  clear hown hgr
  have HL1 := Lib.hid (HL0.out.below HB1.out HL0.out.1 (Nat.lt_of_lt_of_le HL0.out.1 HB1.out.size))
  have HB2 := Lib.hid (HB0.out.trans (HB1.out.mono HB0.out.size))
  have hLR : w.heap.size < w1.heap.size := HL0.out.1
  generalize w1.heap.size = R at *
  clear HL0 HB0 HB1
  have hne1 : w.heap.size ≠ R := by omega
  have hne2 : R ≠ w.heap.size := by omega
  go_wp2_with fail
  go_loopw [11, 12] (fun x y wr => ∃ i : Nat, i ≤ n ∧ y = .int .i64 i ∧ x = .int .i64 ((a - sumN (flo a T W) i : Nat) : Int) ∧ Hid (PaV wr w.heap.size n (ptF (flo a T W) i)) ∧ Hid (PaV wr R n (ptF (lak a T W) i)) ∧ Hid (Below w.heap.size w wr)) (fun _ y _ => n - (intOf y).toNat)
  case atStart => exact ⟨0, Nat.zero_le _, rfl, by simp [sumN], Lib.hid (HL1.out.congr fun t _ => rfl), Lib.hid (HR1.out.congr fun t _ => rfl), HB2⟩
  case round =>
    obtain ⟨i, hin, rfl, rfl, HL, HR, HB⟩ := hrel
    clear HL1 HR1 HB2
    by_cases h : i < n
    · have h' : (i : Int) < (n : Int) := by omega
      have hcW : wr.cell? ⟨b, off + i, none⟩ = some (.int .i64 (W i)) := by rw [HB.out.cell HW.out.lt]; exact HW.out.c i h
      have C1 := Lib.hid (fun V => show Calls Try.prog 37 #[.int .i64 a, .int .i64 (W i), .int .i64 T, .int .i64 1] V fun e w' => e = .returned (.tuple #[.int .i64 (flo a T W i), .int .i64 0]) ∧ V = w' from HMD.out (W i) (HWl.out i h) V)
      have C2 := Lib.hid (fun V => show Calls Try.prog 40 #[.int .i64 a, .int .i64 (W i), .int .i64 T] V fun e w' => e = .returned (.tuple #[.int .i64 (lak a T W i), .int .i64 0]) ∧ V = w' from HMO.out (W i) (HWl.out i h) V)
      have hfs : sumN (flo a T W) i + flo a T W i ≤ a := by
        have q1 := flo_le (a := a) hT HSm.out
        have q2 := sumN_part (f := flo a T W) (show i + 1 ≤ n by omega)
        have : sumN (flo a T W) (i + 1) = sumN (flo a T W) i + flo a T W i := rfl
        omega
      have HSu := Lib.hid (show sumN (flo a T W) (i + 1) = sumN (flo a T W) i + flo a T W i from rfl)
      have x0 := (HL.out.2 i h).1
      have x1 := (HL.out.2 i h).2
      have y0 := (HR.out.2 i h).1
      have y1 := (HR.out.2 i h).2
      have HL4 := Lib.hid (show PaV (wr.setCell ⟨w.heap.size, i, none⟩ (.int .i64 (flo a T W i))) w.heap.size n (ptF (flo a T W) (i + 1)) by
        have q := HL.out.set (g := ptF (flo a T W) (i + 1)) i h (fun t ht e => by unfold ptF; by_cases z : t < i; rw [if_pos z, if_pos (by omega)]; rw [if_neg z, if_neg (by omega)])
        rwa [show ptF (flo a T W) (i + 1) i = .int .i64 (flo a T W i) by unfold ptF; rw [if_pos (by omega)]] at q)
      have HR4 := Lib.hid (HR.out.far hne2 i (.int .i64 (flo a T W i)))
      have HL6 := Lib.hid (HL4.out.far hne1 i (.int .i64 (lak a T W i)))
      have HR6 := Lib.hid (show PaV ((wr.setCell ⟨w.heap.size, i, none⟩ (.int .i64 (flo a T W i))).setCell ⟨R, i, none⟩ (.int .i64 (lak a T W i))) R n (ptF (lak a T W) (i + 1)) by
        have q := HR4.out.set (g := ptF (lak a T W) (i + 1)) i h (fun t ht e => by unfold ptF; by_cases z : t < i; rw [if_pos z, if_pos (by omega)]; rw [if_neg z, if_neg (by omega)])
        rwa [show ptF (lak a T W) (i + 1) i = .int .i64 (lak a T W i) by unfold ptF; rw [if_pos (by omega)]] at q)
      have z0 : ((wr.setCell ⟨w.heap.size, i, none⟩ (.int .i64 (flo a T W i))).setCell ⟨R, i, none⟩ (.int .i64 (lak a T W i))).cell? ⟨w.heap.size, i, none⟩ = some (.int .i64 (flo a T W i)) := by
        rw [(HL6.out.2 i h).1]; unfold ptF; rw [if_pos (by omega)]
      have y2 := (HR4.out.2 i h).1
      have y3 := (HR4.out.2 i h).2
      have HB6 := Lib.hid ((HB.out.setCell (p := ⟨w.heap.size, i, none⟩) (Nat.le_refl _) (.int .i64 (flo a T W i))).setCell (p := ⟨R, i, none⟩) (Nat.le_of_lt hLR) (.int .i64 (lak a T W i)))
      generalize flo a T W i = f at *
      generalize lak a T W i = g at *
      go_wp2_with fail
      refine (C1.out _).mono ?_
      rintro e w3 ⟨rfl, rfl⟩
      go_wp2_with fail
      refine (C2.out _).mono ?_
      rintro e w3 ⟨rfl, rfl⟩
      go_wp2
      go_roundw
      case rel => exact ⟨i + 1, by omega, by go_num, congrArg (Value.int .i64) (by rw [HSu.out]; omega), HL6, HR6, HB6⟩
      case measure => simp [intOf]; omega
    · have h' : ¬ (i : Int) < (n : Int) := by omega
      obtain rfl : n = i := by omega
      have hlf := lft_le (a := a) hT HSm.out
      have HLf := Lib.hid (show a - sumN (flo a T W) n = lft a T W n from rfl)
      rw [HLf.out]
      have HL7 := Lib.hid (show PaV wr w.heap.size n (fun k => .int .i64 (ptT a T W n 0 k)) from HL.out.congr fun t ht => by unfold ptF ptT; rw [if_pos ht, if_neg (by omega)])
      have HR7 := Lib.hid (show PaV wr R n (fun k => .int .i64 (rsT a T W n 0 k)) from HR.out.congr fun t ht => by unfold ptF rsT lakI; rw [if_pos ht, if_neg (by omega)])
      have HB7 := HB
      clear HL HR HB h h' hin HMD HMO
      generalize hlq : lft a T W n = lf at *
      have HLq := Lib.hid hlq
      clear hlq
      go_wp2_with fail
      go_loopw [11] (fun x wr => ∃ t : Nat, t ≤ lf ∧ x = .int .i64 ((lf - t : Nat) : Int) ∧ Hid (PaV wr w.heap.size n (fun k => .int .i64 (ptT a T W n t k))) ∧ Hid (PaV wr R n (fun k => .int .i64 (rsT a T W n t k))) ∧ Hid (Below w.heap.size w wr)) (fun x _ => (intOf x).toNat)
      case atStart => exact ⟨0, Nat.zero_le _, rfl, HL7, HR7, HB7⟩
      case round =>
        clear HL7 HR7 HB7
        obtain ⟨t, ht, rfl, HL, HR, HB⟩ := hrel
        by_cases h : t < lf
        · obtain ⟨l, hl⟩ : ∃ l, lf - t = l + 1 := ⟨lf - t - 1, by omega⟩
          rw [hl]
          have hl0 : (0 : Int) < ((l + 1 : Nat) : Int) := by omega
          go_wp2_with fail
          go_loopw [17, 18] (fun x y wq => ∃ p i : Nat, p < n ∧ p ≤ i ∧ i ≤ n ∧ x = .int .i64 p ∧ y = .int .i64 i ∧ Hid (∀ j, j < i → rsT a T W n t j ≤ rsT a T W n t p ∧ (j < p → rsT a T W n t j < rsT a T W n t p)) ∧ Hid (PaV wq w.heap.size n (fun k => .int .i64 (ptT a T W n t k))) ∧ Hid (PaV wq R n (fun k => .int .i64 (rsT a T W n t k))) ∧ Hid (Below w.heap.size w wq)) (fun _ y _ => n - (intOf y).toNat)
          case atStart => exact ⟨0, 0, hn0, Nat.le_refl _, Nat.zero_le _, rfl, rfl, Lib.hid (fun j hj => by omega), HL, HR, HB⟩
          case round =>
            clear HL HR HB
            obtain ⟨p, i, hp, hpi, hin, rfl, rfl, HM, HL, HR, HB⟩ := hrel
            by_cases hi2 : i < n
            · have hi2' : (i : Int) < (n : Int) := by omega
              have hp' : (p : Int) < (n : Int) := by omega
              have r1 : wr.cell? ⟨R, i, none⟩ = some (.int .i64 (rsT a T W n t i)) := (HR.out.2 i hi2).1
              have r2 : wr.cell? ⟨R, p, none⟩ = some (.int .i64 (rsT a T W n t p)) := (HR.out.2 p hp).1
              by_cases hc : rsT a T W n t p < rsT a T W n t i
              · have HM2 := Lib.hid (show ∀ j, j < i + 1 → rsT a T W n t j ≤ rsT a T W n t i ∧ (j < i → rsT a T W n t j < rsT a T W n t i) from fun j hj => by
                  by_cases e : j = i
                  · subst e; omega
                  · have := HM.out j (by omega); omega)
                generalize rsT a T W n t i = u at r1 r2 hc
                generalize rsT a T W n t p = v at r1 r2 hc
                go_wp2_with fail
                go_quiet (fail)
                have HB2 := Lib.hid (below_drewN HB.out nq)
                have HL2 := Lib.hid (HL.out.same (below_drewN (Below.refl _ _) nq))
                have HR2 := Lib.hid (HR.out.same (below_drewN (Below.refl _ _) nq))
                generalize wr.drewN nq = w2 at *
                go_wp2
                go_roundw
                case rel => exact ⟨i, i + 1, hi2, by omega, by omega, rfl, by go_num, HM2, HL2, HR2, HB2⟩
                case measure => simp [intOf]; omega
              · have HM2 := Lib.hid (show ∀ j, j < i + 1 → rsT a T W n t j ≤ rsT a T W n t p ∧ (j < p → rsT a T W n t j < rsT a T W n t p) from fun j hj => by
                  by_cases e : j = i
                  · subst e; omega
                  · exact HM.out j (by omega))
                generalize rsT a T W n t i = u at r1 r2 hc
                generalize rsT a T W n t p = v at r1 r2 hc
                go_wp2_with fail
                go_quiet (fail)
                have HB2 := Lib.hid (below_drewN HB.out nq)
                have HL2 := Lib.hid (HL.out.same (below_drewN (Below.refl _ _) nq))
                have HR2 := Lib.hid (HR.out.same (below_drewN (Below.refl _ _) nq))
                generalize wr.drewN nq = w2 at *
                go_wp2
                go_roundw
                case rel =>
                  (repeat apply Exists.intro)
                  refine ⟨?_, rfl⟩
                  exact ⟨p, i + 1, hp, by omega, by omega, rfl, by go_num, HM2, HL2, HR2, HB2⟩
                case measure => simp [intOf]; omega
            · have hi2' : ¬ (i : Int) < (n : Int) := by omega
              obtain rfl : n = i := by omega
              have hp' : (p : Int) < (n : Int) := by omega
              have hbr := best_rnk HO.out (show t < n by omega) hp HM.out
              have HNx := Lib.hid (pt_next HO.out hp hbr)
              have HL3 := HL
              have HR3 := HR
              have HB3 := HB
              clear HL HR HB HM hbr
              have x0 : wr.cell? ⟨w.heap.size, p, none⟩ = some (.int .i64 (ptT a T W n t p)) := (HL3.out.2 p hp).1
              have x1 := (HL3.out.2 p hp).2
              have hsm := pt_le (a := a) hT HWl.out t hp
              have HL4 := Lib.hid (show PaV (wr.setCell ⟨w.heap.size, p, none⟩ (.int .i64 (ptT a T W n t p + 1))) w.heap.size n (fun k => .int .i64 (ptT a T W n (t + 1) k)) by
                have q := HL3.out.set (g := fun k => .int .i64 (ptT a T W n (t + 1) k)) p hp (fun k hk e => by rw [(HNx.out.2 k hk e).1])
                rw [HNx.out.1.1] at q; exact q)
              have HR4 := Lib.hid (HR3.out.far hne2 p (.int .i64 (ptT a T W n t p + 1)))
              have HL6 := Lib.hid (HL4.out.far hne1 p (.int .i64 (-1)))
              have HR6 := Lib.hid (show PaV ((wr.setCell ⟨w.heap.size, p, none⟩ (.int .i64 (ptT a T W n t p + 1))).setCell ⟨R, p, none⟩ (.int .i64 (-1))) R n (fun k => .int .i64 (rsT a T W n (t + 1) k)) by
                have q := HR4.out.set (g := fun k => .int .i64 (rsT a T W n (t + 1) k)) p hp (fun k hk e => by rw [(HNx.out.2 k hk e).2])
                rw [HNx.out.1.2] at q; exact q)
              have y2 : (wr.setCell ⟨w.heap.size, p, none⟩ (.int .i64 (ptT a T W n t p + 1))).cell? ⟨R, p, none⟩ = some (.int .i64 (rsT a T W n t p)) := (HR4.out.2 p hp).1
              have y4 : wr.cell? ⟨R, p, none⟩ = some (.int .i64 (rsT a T W n t p)) := (HR3.out.2 p hp).1
              have y5 := (HR3.out.2 p hp).2
              have y3 := (HR4.out.2 p hp).2
              have HB6 := Lib.hid ((HB3.out.setCell (p := ⟨w.heap.size, p, none⟩) (Nat.le_refl _) (.int .i64 (ptT a T W n t p + 1))).setCell (p := ⟨R, p, none⟩) (Nat.le_of_lt hLR) (.int .i64 (-1)))
              generalize ptT a T W n t p = pv at *
              clear HL3 HR3 HB3 HL4 HR4 HNx
              go_wp2
              go_roundw
              case rel => exact ⟨t + 1, by omega, congrArg (Value.int .i64) (by omega), HL6, HR6, HB6⟩
              case measure => first | (simp [intOf]; done) | (simp [intOf]; omega)
        · have hz : lf - t = 0 := by omega
          rw [hz]
          have HL8 := Lib.hid (show PaV wr w.heap.size n (ngT (shN a T W n) 0) from HL.out.congr fun k hk => by
            unfold ngT; rw [if_neg (by omega), ← pt_end, HLq.out, show t = lf by omega])
          clear HL HR
          go_wp2_with fail
          go_loopw [19] (fun x wr => ∃ i : Nat, i ≤ n ∧ x = .int .i64 i ∧ True ∧ Hid (PaV wr w.heap.size n (ngT (shN a T W n) i)) ∧ Hid (Below w.heap.size w wr)) (fun x _ => n - (intOf x).toNat)
          case atStart => exact ⟨0, Nat.zero_le _, rfl, trivial, HL8, HB⟩
          case round =>
            clear HL8 HB
            obtain ⟨i, hin, rfl, hi0, HL, HB⟩ := hrel
            by_cases h2 : i < n
            · have h2' : (i : Int) < (n : Int) := by omega
              have h2'' : decide ((i : Int) < (n : Int)) = true := decide_eq_true h2'
              have x0 := (HL.out.2 i h2).1
              have x1 := (HL.out.2 i h2).2
              have hsv := shN_le (a := a) hT (HWl.out i h2) n
              rw [show ngT (shN a T W n) i i = .int .i64 (shN a T W n i : Int) by unfold ngT; rw [if_neg (by omega)]] at x0
              have HL2 := Lib.hid (show PaV (wr.setCell ⟨w.heap.size, i, none⟩ (.int .i64 (-(shN a T W n i : Int)))) w.heap.size n (ngT (shN a T W n) (i + 1)) by
                have q := HL.out.set (g := ngT (shN a T W n) (i + 1)) i h2 (fun k hk e => by unfold ngT; by_cases z : k < i; rw [if_pos z, if_pos (by omega)]; rw [if_neg z, if_neg (by omega)])
                rwa [show ngT (shN a T W n) (i + 1) i = .int .i64 (-(shN a T W n i : Int)) by unfold ngT; rw [if_pos (by omega)]] at q)
              have HB2 := Lib.hid (HB.out.setCell (p := ⟨w.heap.size, i, none⟩) (Nat.le_refl _) (.int .i64 (-(shN a T W n i : Int))))
              generalize shN a T W n i = sv at *
              go_wp2
              go_roundw
              case rel => exact ⟨i + 1, by omega, by go_num, trivial, HL2, HB2⟩
              case measure => simp [intOf]; omega
            · have h2' : ¬ (i : Int) < (n : Int) := by omega
              have h2'' : decide ((i : Int) < (n : Int)) = false := decide_eq_false h2'
              obtain rfl : n = i := by omega
              go_wp2
              go_ret2
              exact ⟨rfl, HL.out.congr fun k hk => by unfold ngT; rw [if_pos hk], HB.out⟩
/-- what Shares of the reference returns. -/
def RsQ (x : Int) (zs : List Int) (w : World) (e : Ending) (w' : World) : Prop :=
  ∃ A, e = .returned (.tuple #[.slice A (shO x zs).length (shO x zs).length, .int .i64 (shE x zs)]) ∧ Row w' A (shO x zs) ∧ Below w.heap.size w w'
theorem row_sh {x : Int} {zs : List Int} {w : World} {P : Nat} (q : shE x zs = 0) (h : PaV w P zs.length (fun k => .int .i64 (shV x zs k))) : Row w (some ⟨P, 0, none⟩) (shO x zs) := by
  have hf := fine_of q
  refine ⟨fun _ => ⟨P, 0, rfl, h.1, fun k hk => ?_⟩, fun z hz => ?_⟩
  · have hk' : k < zs.length := by rw [← shO_len q]; exact hk
    rw [Nat.zero_add, (h.2 k hk').1, shO_at q]
  · obtain ⟨k, hk, rfl⟩ := List.getElem_of_mem hz
    rw [shO_at q]
    have := hf.v (k := k) (by rw [← shO_len q]; exact hk)
    omega
set_option maxHeartbeats 2000000 in
theorem rShares_any (x : Int) (A : Option Addr) (c : Nat) (zs : List Int) (w : World) (hR : Row w A zs) (hlen : (zs.length : Int) ≤ 9223372036854775807) (ho : shE x zs = 0 → Ord1 x.natAbs zs.sum.toNat (wtN zs) zs.length) :
    Calls Try.prog 25 #[.int .i64 x, .slice A zs.length c] w (RsQ x zs w) := by
  have HTo := rTotal_any x A c zs w hR hlen
  by_cases q : shE x zs = 0
  · have hf := fine_of q
    have hx1 := hf.x1
    have hx2 := hf.x2
    have e2 : zs.sum = (zs.sum.toNat : Int) := by have := hf.g.t0; omega
    rw [show rtV x zs = ((zs.sum.toNat : Int), 0) by unfold rtV; rw [if_pos q, ← e2]] at HTo
    obtain ⟨b, off, rfl, hwt⟩ := wts_of hR hf.g.pos hf.g.n0
    by_cases hneg : x < 0
    · have ex : x = -(x.natAbs : Int) := by omega
      have HT2 : Calls Try.prog 39 #[.int .i64 (-(x.natAbs : Int)), .slice (some ⟨b, off, none⟩) zs.length c] w fun e w' => e = .returned (.tuple #[.int .i64 (zs.sum.toNat : Int), .int .i64 0]) ∧ w = w' := by rw [← ex]; exact HTo
      have hm := rShares_neg x.natAbs zs.sum.toNat zs.length b off c (wtN zs) w (by omega) (by omega) hf.g.t0 hf.g.t1 hf.g.n0 hf.n2 (fun k hk => hf.w hk) hf.g.sum hwt (ho q) HT2
      rw [← ex] at hm
      refine hm.mono ?_
      rintro e w' ⟨rfl, h1, h2⟩
      refine ⟨some ⟨w.heap.size, 0, none⟩, by rw [shO_len q, q], row_sh q (h1.congr fun k hk => ?_), h2⟩
      unfold shV; rw [if_pos hneg]
    · have ex : x = (x.natAbs : Int) := by omega
      have HT2 : Calls Try.prog 39 #[.int .i64 (x.natAbs : Int), .slice (some ⟨b, off, none⟩) zs.length c] w fun e w' => e = .returned (.tuple #[.int .i64 (zs.sum.toNat : Int), .int .i64 0]) ∧ w = w' := by rw [← ex]; exact HTo
      have hm := rShares_pos x.natAbs zs.sum.toNat zs.length b off c (wtN zs) w (by omega) hf.g.t0 hf.g.t1 hf.g.n0 hf.n2 (fun k hk => hf.w hk) hf.g.sum hwt (ho q) HT2
      rw [← ex] at hm
      refine hm.mono ?_
      rintro e w' ⟨rfl, h1, h2⟩
      refine ⟨some ⟨w.heap.size, 0, none⟩, by rw [shO_len q, q], row_sh q (h1.congr fun k hk => ?_), h2⟩
      unfold shV; rw [if_neg hneg]
  · have HE := Lib.hid (shO_err q)
    have q' : (shE x zs != 0) = true := by simpa using q
    rw [show rtV x zs = (0, shE x zs) by unfold rtV; rw [if_neg q]] at HTo
    have HT2 := Lib.hid HTo
    clear HTo hR ho
    unfold RsQ
    rw [HE.out]
    generalize shE x zs = er at *
    clear q
    go_enter Try.func25, Try.ntmps25
    go_wp2_with fail
    refine HT2.out.mono ?_
    rintro e w0 ⟨rfl, rfl⟩
    go_wp2
    go_ret2
    exact ⟨none, rfl, row_nil _ _, Below.refl _ _⟩
/-! Even of the reference -/
def ReQ (x n : Int) (w : World) (e : Ending) (w' : World) : Prop :=
  ∃ A, e = .returned (.tuple #[.slice A (evO x n).length (evO x n).length, .int .i64 (evE x n)]) ∧ Row w' A (evO x n) ∧ Below w.heap.size w w'
end Go.Proofs.Ytmehihfdfpnfjaa
