/- What trim, subtract, divide and its search return for numbers of up to 20 limbs. Written by wip/mk_fuc.py. -/
import Derived.Test.YtlndomnampcnfaaFuB
namespace Go.Proofs.Ytlndomnampcnfaa
open Go.RowKit Go.Sort
set_option linter.unusedVariables false
set_option linter.unusedSimpArgs false

theorem PaV.congr2 {w : World} {P n : Nat} {f g : Nat → Value} (h : PaV w P n f) (e : ∀ t, t < n → f t = g t) : PaV w P n g := ⟨h.1, fun t ht => by rw [← e t ht]; exact h.2 t ht⟩
/-- the limbs l lie in block B. -/
def Lbs (w : World) (B : Nat) (l : List Nat) : Prop := B < w.heap.size ∧ ∀ k, (h : k < l.length) → w.cell? ⟨B, k, none⟩ = some (.int .i64 (l[k] : Nat))
theorem Lbs.below {w w' : World} {B : Nat} {l : List Nat} (h : Lbs w B l) (hb : Below w.heap.size w w') : Lbs w' B l :=
  ⟨Nat.lt_of_lt_of_le h.1 hb.size, fun k hk => by rw [hb.cell h.1]; exact h.2 k hk⟩
theorem Lbs.take {w : World} {B : Nat} {l : List Nat} (h : Lbs w B l) (n : Nat) : Lbs w B (l.take n) :=
  ⟨h.1, fun k hk => by rw [List.getElem_take]; exact h.2 k (by rw [List.length_take] at hk; omega)⟩
/-- a number: its limbs, the block of which S tells. -/
def NatW (S : Nat → Prop) (w : World) (v : Value) (l : List Nat) : Prop :=
  Lim l ∧ Nrm l ∧ l.length ≤ 20 ∧ ∃ ao c, v = .slice ao l.length c ∧ l.length ≤ c ∧ (0 < l.length → ∃ B, S B ∧ ao = some ⟨B, 0, none⟩ ∧ Lbs w B l)
theorem NatW.below {S : Nat → Prop} {w w' : World} {v : Value} {l : List Nat} (h : NatW S w v l) (hb : Below w.heap.size w w') : NatW S w' v l := by
  obtain ⟨h1, h2, h3, ao, c, h4, h5, h6⟩ := h
  refine ⟨h1, h2, h3, ao, c, h4, h5, fun h0 => ?_⟩
  obtain ⟨B, s, e, hl⟩ := h6 h0
  exact ⟨B, s, e, hl.below hb⟩
theorem NatW.imp {S S' : Nat → Prop} {w : World} {v : Value} {l : List Nat} (h : NatW S w v l) (hs : ∀ B, S B → S' B) : NatW S' w v l := by
  obtain ⟨h1, h2, h3, ao, c, h4, h5, h6⟩ := h
  refine ⟨h1, h2, h3, ao, c, h4, h5, fun h0 => ?_⟩
  obtain ⟨B, s, e, hl⟩ := h6 h0
  exact ⟨B, hs B s, e, hl⟩
theorem NatW.set {S : Nat → Prop} {w : World} {v : Value} {l : List Nat} (h : NatW S w v l) (p : Addr) (hp : ¬ S p.block) (x : Value) : NatW S (w.setCell p x) v l := by
  obtain ⟨h1, h2, h3, ao, c, h4, h5, h6⟩ := h
  refine ⟨h1, h2, h3, ao, c, h4, h5, fun h0 => ?_⟩
  obtain ⟨B, s, e, hl⟩ := h6 h0
  exact ⟨B, s, e, by simpa using hl.1, fun k hk => by rw [World.cell?_setCell_other _ _ _ _ (by intro q; subst q; exact hp s)]; exact hl.2 k hk⟩
theorem natW_nil (S : Nat → Prop) (w : World) (ao : Option Addr) (c : Nat) : NatW S w (.slice ao 0 c) [] := ⟨fun x h => by simp at h, nrm_nil, by simp, ao, c, rfl, by simp, fun h => absurd h (by simp)⟩
def slLen2 : Value → Nat
  | .slice _ n _ => n
  | _ => 0
set_option maxHeartbeats 1000000 in
theorem trim_gen (B c : Nat) (l : List Nat) (w : World) (hc : l.length ≤ c) (hl : Lbs w B l) (hn : l.length ≤ 20) :
    Calls Try.prog 34 #[.slice (some ⟨B, 0, none⟩) l.length c] w fun e w' => (∃ k, k ≤ l.length ∧ e = .returned (.slice (some ⟨B, 0, none⟩) k c) ∧ lv (l.take k) = lv l ∧ Nrm (l.take k)) ∧ w = w' := by
  have HL := Lib.hid hl
  clear hl
  go_enter Try.func34, Try.ntmps34
  go_wp2
  go_loop [0] (fun x => ∃ k : Nat, k ≤ l.length ∧ x = .slice (some ⟨B, 0, none⟩) k c ∧ Hid (lv (l.take k) = lv l)) (fun x => slLen2 x)
  case atStart => exact ⟨l.length, Nat.le_refl _, rfl, Lib.hid (by rw [List.take_length])⟩
  case round =>
    obtain ⟨k, hk, rfl, HV⟩ := hrel
    rcases Nat.eq_zero_or_pos k with h0 | h0
    · subst h0
      have HE := Lib.hid (trim_end (l := l) (Nat.zero_le _) (fun h => absurd h (by omega)))
      go_wp2
      go_ret
      exact ⟨⟨0, Nat.zero_le _, rfl, HV.out, HE.out⟩, rfl⟩
    · obtain ⟨j, hj⟩ : ∃ j, k = j + 1 := ⟨k - 1, by omega⟩
      subst hj
      have hjl : j < l.length := by omega
      have hjn : ((j + 1 : Nat) : Int) - 1 = (j : Int) := by omega
      have hjn2 : ((j : Int) + 1) - 1 = (j : Int) := by omega
      have h0' : (0 : Int) < ((j + 1 : Nat) : Int) := by omega
      have hjc : (j : Int) < ((j + 1 : Nat) : Int) := by omega
      have cj := HL.out.2 j hjl
      by_cases hz : l[j] = 0
      · have HV2 := Lib.hid (trim_step hjl hz HV.out)
        have hz' : (((l[j] : Nat) : Int) == 0) = true := by rw [hz]; rfl
        generalize ((l[j] : Nat) : Int) = z at *
        go_wp2
        go_round
        case rel => exact ⟨j, by omega, by first | rfl | (simp; done), HV2⟩
        case measure => simp [slLen2]
      · have HE := Lib.hid (trim_end (l := l) (k := j + 1) hk (fun _ => by simpa using hz))
        have hz' : (((l[j] : Nat) : Int) == 0) = false := by simp; omega
        generalize ((l[j] : Nat) : Int) = z at *
        go_wp2
        go_ret
        exact ⟨⟨j + 1, hk, rfl, HV.out, HE.out⟩, rfl⟩
theorem trim_nat (S : Nat → Prop) (B c : Nat) (l : List Nat) (w : World) (hS : S B) (hm : Lim l) (hc : l.length ≤ c) (hl : Lbs w B l) (hn : l.length ≤ 20) :
    Calls Try.prog 34 #[.slice (some ⟨B, 0, none⟩) l.length c] w fun e w' => ∃ v l', e = .returned v ∧ NatW S w' v l' ∧ lv l' = lv l ∧ w = w' := by
  refine (trim_gen B c l w hc hl hn).mono ?_
  rintro e w' ⟨⟨k, hk, rfl, h1, h2⟩, rfl⟩
  have hlen : (l.take k).length = k := by rw [List.length_take]; omega
  refine ⟨_, l.take k, rfl, ⟨hm.take k, h2, by omega, some ⟨B, 0, none⟩, c, by rw [hlen], by omega, fun _ => ⟨B, hS, rfl, hl.take k⟩⟩, h1, rfl⟩
/-- what subtract leaves of a - m: a number, or nothing. -/
def SubQ (w : World) (a m : Nat) (e : Ending) (w' : World) : Prop :=
  (∃ v, e = .returned (.tuple #[v, .bool (decide (m ≤ a))]) ∧ (m ≤ a → ∃ l, NatW (fun B => w.heap.size ≤ B) w' v l ∧ lv l = a - m)) ∧ Below w.heap.size w w'
theorem getD_snoc (r : List Nat) (v t : Nat) (h : t ≠ r.length) : (r ++ [v]).getD t 0 = r.getD t 0 := by
  rcases Nat.lt_or_ge t r.length with q | q
  · simp [List.getD, List.getElem?_append_left q]
  · have : r.length < t := by omega
    simp [List.getD, List.getElem?_eq_none (show (r ++ [v]).length ≤ t by simp; omega), List.getElem?_eq_none (show r.length ≤ t by omega)]
theorem getD_last (r : List Nat) (v : Nat) : (r ++ [v]).getD r.length 0 = v := by simp [List.getD]
theorem lbs_of {w : World} {P n : Nat} {r : List Nat} (h : PaV w P n (fun t => .int .i64 ((r.getD t 0 : Nat) : Int))) (hr : r.length = n) : Lbs w P r :=
  ⟨h.1, fun k hk => by rw [(h.2 k (by omega)).1]; simp [List.getD, hk]⟩
set_option maxRecDepth 100000 in
set_option maxHeartbeats 8000000 in
theorem subtract_gen (X Y cx cy n m : Nat) (x y : List Nat) (q : Nat) (w : World) (ex : x.length = n) (ey : y.length = m) (lx : Lim x) (ly : Lim y) (hm1 : m ≤ n) (hn1 : n ≤ 20) (hq : q ≤ 1000001) (hX : Lbs w X x) (hY : Lbs w Y y) :
    Calls Try.prog 62 #[.slice (some ⟨X, 0, none⟩) n cx, .slice (some ⟨Y, 0, none⟩) m cy, .int .i64 q] w (SubQ w (lv x) (q * lv y)) := by
  obtain ⟨i0, hi, hz0, hz1, hz2⟩ := info_parts inf_int
  have HX := Lib.hid hX
  have HY := Lib.hid hY
  have HLx := Lib.hid lx
  have HLy := Lib.hid ly
  have HEx := Lib.hid ex
  have HEy := Lib.hid ey
  clear hX hY lx ly ex ey
  go_enter Try.func62, Try.ntmps62
  go_wp2_with (at_make; refine wpList_make_full _ rfl _ _ 45 rfl w.heap.size 3 i0 (.int .i64 0) 1 und_nat hi hz0 hz1 _ _ _ _ n rfl rfl rfl rfl ?_ ?_ ?_ ?_)
  any_goals (first | (rw [hz2]; omega) | omega | (unfold maxLen; omega) | exact Nat.le_refl _)
  intro w1 hown hgr
  have HP0 := Lib.hid (PaV.made (w := w1) (base := w.heap.size) (P := w.heap.size) (n := n) (T := 3) (z := .int .i64 0) (by rw [Nat.mul_one]; exact hown))
  have HB0 := Lib.hid (show Below w.heap.size w w1 from (Below.refl _ _).grown hgr (Nat.le_refl _) (by simp))
  clear hown hgr
  go_wp2_with fail
  go_loopw [8, 16] (fun b i wr => ∃ (k : Nat) (br : Int) (r : List Nat), k ≤ n ∧ i = .int .i64 k ∧ b = .int .i64 br ∧ 0 ≤ br ∧ br ≤ 1000002 ∧ Hid (r.length = k ∧ Lim r ∧ SubI x y r q k br) ∧ Hid (PaV wr w.heap.size n (fun t => .int .i64 ((r.getD t 0 : Nat) : Int))) ∧ Hid (Below w.heap.size w wr)) (fun _ i _ => n - (intOf i).toNat)
  case atStart => exact ⟨0, 0, [], Nat.zero_le _, rfl, rfl, by omega, by omega, Lib.hid ⟨rfl, fun x h => by simp at h, sub_start x y q⟩, Lib.hid (HP0.out.congr2 fun t _ => by simp [List.getD]), HB0⟩
  case round =>
    clear HP0 HB0
    obtain ⟨k, br, r, hk, rfl, rfl, b0, b1, HS, HP, HB⟩ := hrel
    by_cases h : k < n
    · have h' : (k : Int) < (n : Int) := by omega
      have kx : k < x.length := by rw [HEx.out]; exact h
      have cx1 : wr.cell? ⟨X, k, none⟩ = some (.int .i64 ((x[k] : Nat) : Int)) := by rw [HB.out.cell HX.out.1]; exact HX.out.2 k kx
      have xk := HLx.out.at kx
      have p0 : wr.cell? ⟨w.heap.size, k, none⟩ = some (.int .i64 ((r.getD k 0 : Nat) : Int)) := (HP.out.2 k h).1
      have p1 := (HP.out.2 k h).2
      have HSt := Lib.hid (fun (v : Nat) => show PaV (wr.setCell ⟨w.heap.size, k, none⟩ (.int .i64 ((v : Nat) : Int))) w.heap.size n (fun t => .int .i64 (((r ++ [v]).getD t 0 : Nat) : Int)) by
        have hr := HS.out.1
        have q := HP.out.set (g := fun t => .int .i64 (((r ++ [v]).getD t 0 : Nat) : Int)) k h (fun t ht e => by rw [getD_snoc r v t (by omega)])
        rw [show (r ++ [v]).getD k 0 = v by rw [← hr]; exact getD_last r v] at q
        exact q)
      have HBt := Lib.hid (fun (v : Nat) => HB.out.setCell (p := ⟨w.heap.size, k, none⟩) (Nat.le_refl _) (.int .i64 ((v : Nat) : Int)))
      by_cases hy : k < m
      · have hy' : (k : Int) < (m : Int) := by omega
        have ky : k < y.length := by rw [HEy.out]; exact hy
        have cy1 : wr.cell? ⟨Y, k, none⟩ = some (.int .i64 ((y[k] : Nat) : Int)) := by rw [HB.out.cell HY.out.1]; exact HY.out.2 k ky
        have yk := HLy.out.at ky
        obtain ⟨mm, hmm⟩ : ∃ mm : Int, (q : Int) * ((y[k] : Nat) : Int) = mm := ⟨_, rfl⟩
        have mm0 : 0 ≤ mm := by rw [← hmm]; exact Int.mul_nonneg (by omega) (by omega)
        have mm1 : mm ≤ 1000001 * 999999999 := by rw [← hmm]; exact Int.mul_le_mul (by omega) (by omega) (by omega) (by omega)
        obtain ⟨l1, e1⟩ : ∃ l1 : Int, ((x[k] : Nat) : Int) - br = l1 := ⟨_, rfl⟩
        obtain ⟨l2, e2⟩ : ∃ l2 : Int, l1 - mm = l2 := ⟨_, rfl⟩
        have HI := Lib.hid (fun (v : Nat) (b2 : Int) (hv : (v : Int) = l2 + b2 * 1000000000) => sub_in HS.out.2.2 HS.out.1 kx ky (v := v) (br2 := b2) (by rw [hv, ← e2, ← e1, hmm]))
        have l2a : l2 < 1000000000 := by omega
        have l2b : -1000002000000000 ≤ l2 := by omega
        generalize ((x[k] : Nat) : Int) = xv at *
        generalize ((y[k] : Nat) : Int) = yv at *
        by_cases hlt : l2 < 0
        · obtain ⟨b2, hb2⟩ : ∃ b2 : Int, (999999999 - l2) / 1000000000 = b2 := ⟨_, rfl⟩
          have b2a : 0 ≤ b2 := by omega
          have b2b : b2 ≤ 1000002 := by omega
          obtain ⟨l3, e3⟩ : ∃ l3 : Int, 999999999 - l2 = l3 := ⟨_, rfl⟩
          have l3a : 0 ≤ l3 := by omega
          have l3b : l3 ≤ 1000003000000000 := by omega
          have d1 : l3.tdiv 1000000000 = b2 := by rw [Int.tdiv_eq_ediv_of_nonneg l3a, ← e3]; exact hb2
          have d2 : l3 / 1000000000 = b2 := by rw [← e3]; exact hb2
          obtain ⟨l4, e4⟩ : ∃ l4 : Int, b2 * 1000000000 = l4 := ⟨_, rfl⟩
          obtain ⟨v, hv⟩ : ∃ v : Nat, l2 + l4 = (v : Int) := Int.eq_ofNat_of_zero_le (by omega)
          have vb : v < 1000000000 := by omega
          have HI2 := Lib.hid (HI.out v b2 (by omega))
          have HS2 := Lib.hid (HSt.out v)
          have HB2 := Lib.hid (HBt.out v)
          have l4a : 0 ≤ l4 := by omega
          have l4b : l4 ≤ 1000002000000000 := by omega
          clear hb2 HI HSt HBt
          have HR2 := Lib.hid (show (r ++ [v]).length = k + 1 ∧ Lim (r ++ [v]) from ⟨by rw [List.length_append, HS.out.1]; rfl, HS.out.2.1.snoc vb⟩)
          go_wp2
          go_roundw
          case rel => exact ⟨k + 1, b2, r ++ [v], by omega, by go_num, rfl, by omega, by omega, Lib.hid ⟨HR2.out.1, HR2.out.2, HI2.out⟩, HS2, HB2⟩
          case measure => simp [intOf]; omega
        · obtain ⟨v, hv⟩ := Int.eq_ofNat_of_zero_le (show 0 ≤ l2 by omega)
          have vb : v < 1000000000 := by omega
          have HI2 := Lib.hid (HI.out v 0 (by omega))
          have HS2 := Lib.hid (HSt.out v)
          have HB2 := Lib.hid (HBt.out v)
          clear HI HSt HBt
          have HR2 := Lib.hid (show (r ++ [v]).length = k + 1 ∧ Lim (r ++ [v]) from ⟨by rw [List.length_append, HS.out.1]; rfl, HS.out.2.1.snoc vb⟩)
          go_wp2
          go_roundw
          case rel => exact ⟨k + 1, 0, r ++ [v], by omega, by go_num, rfl, by omega, by omega, Lib.hid ⟨HR2.out.1, HR2.out.2, HI2.out⟩, HS2, HB2⟩
          case measure => simp [intOf]; omega
      · have hy' : ¬ (k : Int) < (m : Int) := by omega
        obtain ⟨l2, e2⟩ : ∃ l2 : Int, ((x[k] : Nat) : Int) - br = l2 := ⟨_, rfl⟩
        have HI := Lib.hid (fun (v : Nat) (b2 : Int) (hv : (v : Int) = l2 + b2 * 1000000000) => sub_out HS.out.2.2 HS.out.1 kx (by rw [HEy.out]; exact hy) (v := v) (br2 := b2) (by rw [hv, ← e2]))
        have l2a : l2 < 1000000000 := by omega
        have l2b : -1000002000000000 ≤ l2 := by omega
        generalize ((x[k] : Nat) : Int) = xv at *
        by_cases hlt : l2 < 0
        · obtain ⟨b2, hb2⟩ : ∃ b2 : Int, (999999999 - l2) / 1000000000 = b2 := ⟨_, rfl⟩
          have b2a : 0 ≤ b2 := by omega
          have b2b : b2 ≤ 1000002 := by omega
          obtain ⟨l3, e3⟩ : ∃ l3 : Int, 999999999 - l2 = l3 := ⟨_, rfl⟩
          have l3a : 0 ≤ l3 := by omega
          have l3b : l3 ≤ 1000003000000000 := by omega
          have d1 : l3.tdiv 1000000000 = b2 := by rw [Int.tdiv_eq_ediv_of_nonneg l3a, ← e3]; exact hb2
          have d2 : l3 / 1000000000 = b2 := by rw [← e3]; exact hb2
          obtain ⟨l4, e4⟩ : ∃ l4 : Int, b2 * 1000000000 = l4 := ⟨_, rfl⟩
          obtain ⟨v, hv⟩ : ∃ v : Nat, l2 + l4 = (v : Int) := Int.eq_ofNat_of_zero_le (by omega)
          have vb : v < 1000000000 := by omega
          have HI2 := Lib.hid (HI.out v b2 (by omega))
          have HS2 := Lib.hid (HSt.out v)
          have HB2 := Lib.hid (HBt.out v)
          have l4a : 0 ≤ l4 := by omega
          have l4b : l4 ≤ 1000002000000000 := by omega
          clear hb2 HI HSt HBt
          have HR2 := Lib.hid (show (r ++ [v]).length = k + 1 ∧ Lim (r ++ [v]) from ⟨by rw [List.length_append, HS.out.1]; rfl, HS.out.2.1.snoc vb⟩)
          go_wp2
          go_roundw
          case rel => exact ⟨k + 1, b2, r ++ [v], by omega, by go_num, rfl, by omega, by omega, Lib.hid ⟨HR2.out.1, HR2.out.2, HI2.out⟩, HS2, HB2⟩
          case measure => simp [intOf]; omega
        · obtain ⟨v, hv⟩ := Int.eq_ofNat_of_zero_le (show 0 ≤ l2 by omega)
          have vb : v < 1000000000 := by omega
          have HI2 := Lib.hid (HI.out v 0 (by omega))
          have HS2 := Lib.hid (HSt.out v)
          have HB2 := Lib.hid (HBt.out v)
          clear HI HSt HBt
          have HR2 := Lib.hid (show (r ++ [v]).length = k + 1 ∧ Lim (r ++ [v]) from ⟨by rw [List.length_append, HS.out.1]; rfl, HS.out.2.1.snoc vb⟩)
          go_wp2
          go_roundw
          case rel => exact ⟨k + 1, 0, r ++ [v], by omega, by go_num, rfl, by omega, by omega, Lib.hid ⟨HR2.out.1, HR2.out.2, HI2.out⟩, HS2, HB2⟩
          case measure => simp [intOf]; omega
    · have h' : ¬ (k : Int) < (n : Int) := by omega
      obtain rfl : n = k := by omega
      have hrl := HS.out.1
      have hend := sub_end (x := x) (y := y) (r := r) (q := q) (br := br) (by rw [HEx.out]; exact HS.out.2.2) (by rw [HEx.out]; exact hrl) HS.out.2.1 (by rw [HEx.out, HEy.out]; exact hm1) b0
      by_cases hz : br = 0
      · obtain ⟨g1, g2⟩ := hend.1 hz
        have HD := Lib.hid (show decide (q * lv y ≤ lv x) = true from decide_eq_true g1)
        have HT := trim_nat (fun B => w.heap.size ≤ B) w.heap.size n r wr (Nat.le_refl _) HS.out.2.1 (by omega) (lbs_of HP.out hrl) (by omega)
        rw [hrl] at HT
        have HT := Lib.hid HT
        have HG := Lib.hid g2
        subst hz
        clear hend hrl HS g1 g2
        go_wp2_with fail
        refine HT.out.mono ?_
        rintro e w2 ⟨v, l', rfl, hv, hl, rfl⟩
        go_wp2
        go_ret2
        exact ⟨⟨v, by rw [HD.out]; rfl, fun _ => ⟨l', hv, by rw [hl, HG.out]⟩⟩, HB.out⟩
      · have g1 := hend.2 hz
        have HD := Lib.hid (show decide (q * lv y ≤ lv x) = false from decide_eq_false (by omega))
        have HN := Lib.hid (show ¬ q * lv y ≤ lv x by omega)
        have hz' : (br != 0) = true := by simpa using hz
        clear hend hrl HS g1 hz
        go_wp2
        go_ret2
        exact ⟨⟨.slice none 0 0, by rw [HD.out]; rfl, fun h => absurd h HN.out⟩, HB.out⟩
set_option maxHeartbeats 4000000 in
theorem divC_gen (P Q X Y cx cy n m : Nat) (x y : List Nat) (q : Nat) (w : World) (ex : x.length = n) (ey : y.length = m) (lx : Lim x) (ly : Lim y) (hm1 : m ≤ n) (hn1 : n ≤ 20) (q2 : q ≤ 1000000)
    (hp : w.cell? ⟨P, 0, none⟩ = some (.slice (some ⟨X, 0, none⟩) n cx)) (hq : w.cell? ⟨Q, 0, none⟩ = some (.slice (some ⟨Y, 0, none⟩) m cy)) (hX : Lbs w X x) (hY : Lbs w Y y) :
    Calls Try.prog 61 #[.int .i64 q, .pointer (some ⟨P, 0, none⟩), .pointer (some ⟨Q, 0, none⟩)] w fun e w' => e = .returned (.bool (decide (lv x < (q + 1) * lv y))) ∧ Below w.heap.size w w' := by
  have HC := Lib.hid (subtract_gen X Y cx cy n m x y (q + 1) w ex ey lx ly hm1 hn1 (by omega) hX hY)
  have HE := Lib.hid (show (!decide ((q + 1) * lv y ≤ lv x)) = decide (lv x < (q + 1) * lv y) by rw [← decide_not]; congr 1; apply propext; omega)
  rw [show ((q + 1 : Nat) : Int) = (q : Int) + 1 from rfl] at HC
  unfold SubQ at HC
  generalize (q + 1) * lv y = M at *
  clear hX hY
  go_enter Try.func61, Try.ntmps61
  go_wp2_with fail
  refine HC.out.mono ?_
  rintro e w2 ⟨⟨v, rfl, hv⟩, hb⟩
  go_wp2
  go_ret
  exact ⟨ret_bool HE.out, hb⟩
set_option maxHeartbeats 4000000 in
theorem search_gen (P Q X Y cx cy n m : Nat) (x y : List Nat) (w : World) (ex : x.length = n) (ey : y.length = m) (lx : Lim x) (ly : Lim y) (hm1 : m ≤ n) (hn1 : n ≤ 20) (hy0 : 0 < lv y)
    (hp : w.cell? ⟨P, 0, none⟩ = some (.slice (some ⟨X, 0, none⟩) n cx)) (hq : w.cell? ⟨Q, 0, none⟩ = some (.slice (some ⟨Y, 0, none⟩) m cy)) (hX : Lbs w X x) (hY : Lbs w Y y) (lp : P < w.heap.size) (lq : Q < w.heap.size) :
    Calls Try.prog 60 #[.int .i64 1000001, .func (.func 61) #[] #[.pointer (some ⟨P, 0, none⟩), .pointer (some ⟨Q, 0, none⟩)]] w fun e w' => e = .returned (.int .i64 (min (lv x / lv y) 1000001 : Nat)) ∧ Below w.heap.size w w' := by
  have HC := Lib.hid (fun (q : Nat) (q2 : q ≤ 1000000) (W : World) (hb : Below w.heap.size w W) => divC_gen P Q X Y cx cy n m x y q W ex ey lx ly hm1 hn1 q2 (by rw [hb.cell lp]; exact hp) (by rw [hb.cell lq]; exact hq) (hX.below hb) (hY.below hb))
  have HT := Lib.hid (fun (q : Nat) => show decide (lv x < (q + 1) * lv y) = decide (lv x / lv y ≤ q) by congr 1; apply propext; rw [← Nat.div_lt_iff_lt_mul hy0]; omega)
  clear hp hq hX hY lp lq lx ly ex ey
  generalize lv x / lv y = D at *
  go_enter Try.func60, Try.ntmps60
  go_wp2_with fail
  go_loopw [5, 6] (fun i j wr => ∃ x y : Nat, i = .int .i64 x ∧ j = .int .i64 y ∧ x ≤ D ∧ (D ≤ y ∨ y = 1000001) ∧ x ≤ y ∧ y ≤ 1000001 ∧ Hid (Below w.heap.size w wr)) (fun i j _ => (intOf j - intOf i).toNat)
  case atStart => exact ⟨0, 1000001, rfl, rfl, Nat.zero_le _, .inr rfl, by omega, Nat.le_refl _, Lib.hid (Below.refl _ _)⟩
  case round =>
    obtain ⟨x, y, rfl, rfl, hx, hy, hxy, hy2, HB⟩ := hrel
    by_cases h : x < y
    · have h' : (x : Int) < (y : Int) := by omega
      have hz : ∃ z : Nat, ((x : Int) + (y : Int)) / 2 = (z : Int) ∧ x ≤ z ∧ z < y := ⟨(x + y) / 2, by omega, by omega, by omega⟩
      obtain ⟨z, hz, z1, z2⟩ := hz
      by_cases hd : D ≤ z
      · have HCz := Lib.hid (show Calls Try.prog 61 #[.int .i64 z, .pointer (some ⟨P, 0, none⟩), .pointer (some ⟨Q, 0, none⟩)] wr fun e w' => e = .returned (.bool true) ∧ Below wr.heap.size wr w' by have q := HC.out z (by omega) wr HB.out; rw [HT.out z, decide_eq_true hd] at q; exact q)
        have HY := Lib.hid hy
        clear hy
        go_wp2_with fail
        refine HCz.out.mono ?_
        rintro e w2 ⟨rfl, hb⟩
        have HB2 := Lib.hid (HB.out.trans (hb.mono HB.out.size))
        clear hb HB HC HCz
        go_wp2
        go_roundw
        case rel => exact ⟨x, z, rfl, rfl, hx, .inl hd, z1, by omega, HB2⟩
        case measure => simp [intOf]; omega
      · have HCz := Lib.hid (show Calls Try.prog 61 #[.int .i64 z, .pointer (some ⟨P, 0, none⟩), .pointer (some ⟨Q, 0, none⟩)] wr fun e w' => e = .returned (.bool false) ∧ Below wr.heap.size wr w' by have q := HC.out z (by omega) wr HB.out; rw [HT.out z, decide_eq_false hd] at q; exact q)
        have HY := Lib.hid hy
        clear hy
        go_wp2_with fail
        refine HCz.out.mono ?_
        rintro e w2 ⟨rfl, hb⟩
        have HB2 := Lib.hid (HB.out.trans (hb.mono HB.out.size))
        clear hb HB HC HCz
        go_wp2
        go_roundw
        case rel => exact ⟨z + 1, y, by go_num, rfl, by omega, HY.out, by omega, hy2, HB2⟩
        case measure => simp [intOf]; omega
    · have h' : ¬ (x : Int) < (y : Int) := by omega
      have HE := Lib.hid (show x = min D 1000001 by rcases hy with q | q <;> omega)
      clear hy
      go_wp2
      go_ret
      exact ⟨by rw [HE.out]; rfl, HB.out⟩
end Go.Proofs.Ytlndomnampcnfaa
