/- What divide and readNatural of package frac return for numbers of any size. -/
import Derived.Test.YtlndomnampcnfaaFuC
namespace Go.Proofs.Ytlndomnampcnfaa
open Go.RowKit Go.Sort
set_option linter.unusedVariables false
set_option linter.unusedSimpArgs false

set_option maxRecDepth 100000 in
set_option maxHeartbeats 4000000 in
theorem divide_gen (S : Nat → Prop) (vx vy : Value) (x y : List Nat) (w : World) (hx : NatW S w vx x) (hy : NatW S w vy y) (hy0 : 0 < lv y) (hS : ∀ B, w.heap.size ≤ B → S B) :
    Calls Try.prog 35 #[vx, vy] w fun e w' => ∃ v l, e = .returned (.tuple #[.int .i64 (min (lv x / lv y) 1000001 : Nat), v]) ∧ NatW S w' v l ∧ (lv x / lv y ≤ 1000000 → lv l = lv x % lv y) ∧ Below w.heap.size w w' := by
  have HS := Lib.hid hS
  clear hS
  have HW := Lib.hid hx
  obtain ⟨lx, nx, h20, ax, cx, rfl, hcx, hbx⟩ := hx
  obtain ⟨ly, ny, g20, ay, cy, rfl, hcy, hby⟩ := hy
  have hyl := len_pos hy0
  by_cases hlt : x.length < y.length
  · have e0 : lv x < lv y := lv_short lx ny hlt
    have HQ := Lib.hid (show min (lv x / lv y) 1000001 = 0 by rw [Nat.div_eq_of_lt e0]; rfl)
    have HR := Lib.hid (Nat.mod_eq_of_lt e0)
    have hlt' : (x.length : Int) < (y.length : Int) := by omega
    clear e0 hbx hby lx nx ly ny hlt
    generalize x.length = n at *
    generalize y.length = m at *
    go_enter Try.func35, Try.ntmps35
    go_wp2_with fail
    have P0_1 := Lib.hid (show Cell1 ((w.alloc (Obj.cells #[(.slice ax n cx)] 45)).alloc (Obj.cells #[(.slice ay m cy)] 45)) (w.heap.size) (.slice ax n cx) from by have q := Cell1.alloc w (.slice ax n cx) 45; exact q.below (N := w.heap.size + 1) ((Below.refl _ _).alloc (by simp <;> omega) (Obj.cells #[(.slice ay m cy)] 45)) (by omega))
    have P1_1 := Lib.hid (show Cell1 ((w.alloc (Obj.cells #[(.slice ax n cx)] 45)).alloc (Obj.cells #[(.slice ay m cy)] 45)) (w.heap.size + 1) (.slice ay m cy) from by simpa using Cell1.alloc (w.alloc (Obj.cells #[(.slice ax n cx)] 45)) (.slice ay m cy) 45)
    have HB1 := Lib.hid (((Below.refl w.heap.size w).alloc (Nat.le_refl _) (Obj.cells #[(.slice ax n cx)] 45)).alloc (by simp) (Obj.cells #[(.slice ay m cy)] 45))
    generalize ((w.alloc (Obj.cells #[(.slice ax n cx)] 45)).alloc (Obj.cells #[(.slice ay m cy)] 45)) = W1 at *
    have lP0_1 := P0_1.out.lt
    have cP0_1_0 := P0_1.out.c0
    have lP1_1 := P1_1.out.lt
    have cP1_1_0 := P1_1.out.c0
    go_wp2_with fail
    go_quiet (fail)
    go_wp2
    go_ret2
    exact ⟨_, x, by rw [HQ.out]; rfl, HW.out.below (below_drewN HB1.out nq), fun _ => HR.out.symm, below_drewN HB1.out nq⟩
  · obtain ⟨X, sX, rfl, bX⟩ := hbx (by omega)
    obtain ⟨Y, sY, rfl, bY⟩ := hby (by omega)
    have hlt' : ¬ (x.length : Int) < (y.length : Int) := by omega
    have HX := Lib.hid bX
    have HY := Lib.hid bY
    have HEx := Lib.hid (show x.length = x.length from rfl)
    have HEy := Lib.hid (show y.length = y.length from rfl)
    obtain ⟨n, hn⟩ : ∃ n, x.length = n := ⟨_, rfl⟩
    obtain ⟨m, hm⟩ : ∃ m, y.length = m := ⟨_, rfl⟩
    rw [hn] at hlt' HW ⊢
    rw [hm] at hlt' ⊢
    have HN := Lib.hid hn
    have HM := Lib.hid hm
    have hmn : m ≤ n := by omega
    have hn20 : n ≤ 20 := by omega
    have HLx := Lib.hid lx
    have HLy := Lib.hid ly
    have HY0 := Lib.hid hy0
    clear bX bY hbx hby nx ny hlt hn hm h20 g20 hyl lx ly hy0 HW HEx HEy hcx hcy
    by_cases hq : lv x / lv y ≤ 1000000
    · have hmin : min (lv x / lv y) 1000001 = lv x / lv y := by omega
      have hdm := Nat.div_add_mod (lv x) (lv y)
      rw [hmin]
      have HSr := Lib.hid (fun P Q W hp hq lp lq hX hY => search_gen P Q X Y cx cy n m x y W HN.out HM.out HLx.out HLy.out hmn hn20 HY0.out hp hq hX hY lp lq)
      rw [hmin] at HSr
      have HSu := Lib.hid (fun W hX hY => subtract_gen X Y cx cy n m x y (lv x / lv y) W HN.out HM.out HLx.out HLy.out hmn hn20 (by omega) hX hY)
      unfold SubQ at HSu
      have HLe := Lib.hid (show lv x / lv y * lv y ≤ lv x by rw [Nat.mul_comm]; omega)
      have HMo := Lib.hid (show lv x - lv x / lv y * lv y = lv x % lv y by rw [Nat.mul_comm (lv x / lv y)]; omega)
      have hdt : decide (lv x / lv y * lv y ≤ lv x) = true := decide_eq_true HLe.out
      rw [hdt] at HSu
      have hnb : ¬ (1000000 : Int) < ((lv x / lv y : Nat) : Int) := by omega
      clear hmin hdm hdt
      generalize lv x / lv y = D at *
      go_enter Try.func35, Try.ntmps35
      go_wp2_with fail
      have P0_2 := Lib.hid (show Cell1 ((w.alloc (Obj.cells #[(.slice (some ⟨X, 0, none⟩) n cx)] 45)).alloc (Obj.cells #[(.slice (some ⟨Y, 0, none⟩) m cy)] 45)) (w.heap.size) (.slice (some ⟨X, 0, none⟩) n cx) from by have q := Cell1.alloc w (.slice (some ⟨X, 0, none⟩) n cx) 45; exact q.below (N := w.heap.size + 1) ((Below.refl _ _).alloc (by simp <;> omega) (Obj.cells #[(.slice (some ⟨Y, 0, none⟩) m cy)] 45)) (by omega))
      have P1_2 := Lib.hid (show Cell1 ((w.alloc (Obj.cells #[(.slice (some ⟨X, 0, none⟩) n cx)] 45)).alloc (Obj.cells #[(.slice (some ⟨Y, 0, none⟩) m cy)] 45)) (w.heap.size + 1) (.slice (some ⟨Y, 0, none⟩) m cy) from by simpa using Cell1.alloc (w.alloc (Obj.cells #[(.slice (some ⟨X, 0, none⟩) n cx)] 45)) (.slice (some ⟨Y, 0, none⟩) m cy) 45)
      have HB2 := Lib.hid (((Below.refl w.heap.size w).alloc (Nat.le_refl _) (Obj.cells #[(.slice (some ⟨X, 0, none⟩) n cx)] 45)).alloc (by simp) (Obj.cells #[(.slice (some ⟨Y, 0, none⟩) m cy)] 45))
      generalize ((w.alloc (Obj.cells #[(.slice (some ⟨X, 0, none⟩) n cx)] 45)).alloc (Obj.cells #[(.slice (some ⟨Y, 0, none⟩) m cy)] 45)) = W2 at *
      have HSe := Lib.hid (HSr.out w.heap.size (w.heap.size + 1) W2 P0_2.out.c0 P1_2.out.c0 P0_2.out.lt P1_2.out.lt (HX.out.below HB2.out) (HY.out.below HB2.out))
      refine (HSe.out).mono ?_
      rintro e W3 ⟨rfl, hb3⟩
      have HB3 := Lib.hid (HB2.out.trans ((hb3).mono HB2.out.size))
      have P0_3 := Lib.hid (P0_2.out.below (hb3) P0_2.out.lt)
      have P1_3 := Lib.hid (P1_2.out.below (hb3) P1_2.out.lt)
      clear HB2 P0_2 P1_2 hb3
      have lP0_3 := P0_3.out.lt
      have cP0_3_0 := P0_3.out.c0
      have lP1_3 := P1_3.out.lt
      have cP1_3_0 := P1_3.out.c0
      have HC := Lib.hid (HSu.out W3 (HX.out.below HB3.out) (HY.out.below HB3.out))
      go_wp2_with fail
      refine HC.out.mono ?_
      rintro e w2 ⟨⟨v, rfl, hv⟩, hb⟩
      go_wp2
      go_ret2
      obtain ⟨l, hl1, hl2⟩ := hv HLe.out
      exact ⟨v, l, rfl, hl1.imp (fun B hB => HS.out B (Nat.le_trans HB3.out.size hB)), fun _ => by rw [hl2, HMo.out], HB3.out.trans (hb.mono HB3.out.size)⟩
    · have hmin : min (lv x / lv y) 1000001 = 1000001 := by omega
      rw [hmin]
      have HSr := Lib.hid (fun P Q W hp hq lp lq hX hY => search_gen P Q X Y cx cy n m x y W HN.out HM.out HLx.out HLy.out hmn hn20 HY0.out hp hq hX hY lp lq)
      rw [hmin] at HSr
      have HNq := Lib.hid hq
      clear hmin hq
      generalize lv x / lv y = D at *
      go_enter Try.func35, Try.ntmps35
      go_wp2_with fail
      have P0_4 := Lib.hid (show Cell1 ((w.alloc (Obj.cells #[(.slice (some ⟨X, 0, none⟩) n cx)] 45)).alloc (Obj.cells #[(.slice (some ⟨Y, 0, none⟩) m cy)] 45)) (w.heap.size) (.slice (some ⟨X, 0, none⟩) n cx) from by have q := Cell1.alloc w (.slice (some ⟨X, 0, none⟩) n cx) 45; exact q.below (N := w.heap.size + 1) ((Below.refl _ _).alloc (by simp <;> omega) (Obj.cells #[(.slice (some ⟨Y, 0, none⟩) m cy)] 45)) (by omega))
      have P1_4 := Lib.hid (show Cell1 ((w.alloc (Obj.cells #[(.slice (some ⟨X, 0, none⟩) n cx)] 45)).alloc (Obj.cells #[(.slice (some ⟨Y, 0, none⟩) m cy)] 45)) (w.heap.size + 1) (.slice (some ⟨Y, 0, none⟩) m cy) from by simpa using Cell1.alloc (w.alloc (Obj.cells #[(.slice (some ⟨X, 0, none⟩) n cx)] 45)) (.slice (some ⟨Y, 0, none⟩) m cy) 45)
      have HB4 := Lib.hid (((Below.refl w.heap.size w).alloc (Nat.le_refl _) (Obj.cells #[(.slice (some ⟨X, 0, none⟩) n cx)] 45)).alloc (by simp) (Obj.cells #[(.slice (some ⟨Y, 0, none⟩) m cy)] 45))
      generalize ((w.alloc (Obj.cells #[(.slice (some ⟨X, 0, none⟩) n cx)] 45)).alloc (Obj.cells #[(.slice (some ⟨Y, 0, none⟩) m cy)] 45)) = W4 at *
      have HSe := Lib.hid (HSr.out w.heap.size (w.heap.size + 1) W4 P0_4.out.c0 P1_4.out.c0 P0_4.out.lt P1_4.out.lt (HX.out.below HB4.out) (HY.out.below HB4.out))
      refine (HSe.out).mono ?_
      rintro e W5 ⟨rfl, hb5⟩
      have HB5 := Lib.hid (HB4.out.trans ((hb5).mono HB4.out.size))
      have P0_5 := Lib.hid (P0_4.out.below (hb5) P0_4.out.lt)
      have P1_5 := Lib.hid (P1_4.out.below (hb5) P1_4.out.lt)
      clear HB4 P0_4 P1_4 hb5
      have lP0_5 := P0_5.out.lt
      have cP0_5_0 := P0_5.out.c0
      have lP1_5 := P1_5.out.lt
      have cP1_5_0 := P1_5.out.c0
      go_wp2
      go_ret2
      exact ⟨_, [], rfl, natW_nil _ _ _ _, fun h => absurd h HNq.out, HB5.out⟩
/-! readNatural -/
theorem take_more (s : ByteArray) (a k : Nat) (ha : a ≤ k) (hk : k < s.size) : (s.toList.drop a).take (k + 1 - a) = (s.toList.drop a).take (k - a) ++ [s[k]] := by
  have hl : k < s.toList.length := by rw [bytes_len]; exact hk
  rw [show k + 1 - a = (k - a) + 1 by omega, List.take_succ_eq_append_getElem (by rw [List.length_drop]; omega)]
  congr 2
  rw [List.getElem_drop]
  simp only [show a + (k - a) = k by omega]
  exact bytes_get s k hk hl
theorem all_sub {l : List UInt8} (h : l.all dig = true) (a n : Nat) : ((l.drop a).take n).all dig = true := by
  rw [List.all_eq_true] at h ⊢
  exact fun x hx => h x (List.mem_of_mem_drop (List.mem_of_mem_take hx))
theorem limb_step {s : ByteArray} {l : List Nat} {j E : Nat} (hE : E ≤ s.size) (h9 : s.size - E = 9 * j) (hl : l.length = j) (hv : lv l = dec (s.toList.drop E)) :
    lv (l ++ [dec ((s.toList.drop (E - 9)).take (E - (E - 9)))]) = dec (s.toList.drop (E - 9)) := by
  rw [lv_snoc, hl, hv, pow9]
  have e : s.toList.drop (E - 9) = (s.toList.drop (E - 9)).take (E - (E - 9)) ++ s.toList.drop E := by
    rw [← List.take_append_drop (E - (E - 9)) (s.toList.drop (E - 9)), List.drop_drop, List.take_append_of_le_length (by rw [List.length_take, List.length_drop, bytes_len]; omega), List.take_take, Nat.min_self, show E - 9 + (E - (E - 9)) = E by omega]
  rw [e, dec_append, ← e, List.length_drop, bytes_len, h9]
  omega
theorem row_lits (w : World) (T : TypeId) (x : Value) : RowV (w.alloc (.cells #[x] T)) (some ⟨w.heap.size, 0, none⟩) [x] := row_lit1 w T x
theorem own_lbs {w : World} {base : Nat} {v : Value} {l : List Nat} (h : OwnV w base 3 v (l.map (fun n => Value.int .i64 ((n : Nat) : Int)))) (h0 : 0 < l.length) : ∃ g cap, v = .slice (some ⟨g, 0, none⟩) l.length cap ∧ l.length ≤ cap ∧ base ≤ g ∧ Lbs w g l := by
  have h' := h
  rcases h.2 with ⟨_, e⟩ | ⟨g, cap, cur, e, hb, hg, hc, _⟩
  · simp at e; rw [e] at h0; simp at h0
  · subst e
    refine ⟨g, cap, by simp, by simpa using hc, hb, ?_⟩
    have hr := OwnV.row h'
    have hlt : g < w.heap.size := by
      obtain ⟨b, off, e2, e3, _⟩ := hr 0 (.int .i64 ((l[0] : Nat) : Int)) (by simp [h0])
      injection e2 with e2
      injection e2 with e5 e6
      omega
    refine ⟨hlt, fun k hk => ?_⟩
    obtain ⟨b, off, e2, _, hcell⟩ := hr k (.int .i64 ((l[k] : Nat) : Int)) (by simp [hk])
    injection e2 with e2
    injection e2 with e5 e6
    subst e5 e6
    rw [Nat.zero_add] at hcell
    exact hcell
set_option maxRecDepth 100000 in
set_option maxHeartbeats 4000000 in
theorem readNat_gen (s : ByteArray) (w : World) (h1 : 1 ≤ s.size) (h2 : s.size ≤ 100) (hd : s.toList.all dig = true) :
    Calls Try.prog 16 #[.string s] w fun e w' => ∃ v l, e = .returned v ∧ NatW (fun B => w.heap.size ≤ B) w' v l ∧ lv l = dec s.toList ∧ Below w.heap.size w w' := by
  obtain ⟨i0, hi, hz0, hz1, hz2⟩ := info_parts inf_int
  have HD := Lib.hid hd
  clear hd
  obtain ⟨c0, hc0⟩ : ∃ c0, s.size / 9 = c0 := ⟨_, rfl⟩
  have hc1 : c0 ≤ 11 := by omega
  have hq : (s.size : Int) / 9 = (c0 : Int) := by omega
  have hq2 : (s.size : Int).tdiv 9 = (c0 : Int) := by rw [Int.tdiv_eq_ediv_of_nonneg (by omega)]; exact hq
  clear hc0
  go_enter Try.func16, Try.ntmps16
  go_wp2_with (at_make; refine wpList_make_own _ rfl _ _ 45 rfl w.heap.size 3 i0 (.int .i64 0) 1 und_nat hi hz0 hz1 _ _ _ (c0 + 1) rfl rfl rfl ?_ ?_ ?_ ?_)
  any_goals (first | (rw [hz2]; omega) | omega | (unfold maxLen; omega) | exact Nat.le_refl _)
  intro w1 hown hgr
  have HO0 := Lib.hid (show OwnV w1 w.heap.size 3 (.slice (some ⟨w.heap.size, 0, none⟩) 0 (c0 + 1)) (([] : List Nat).map (fun n => Value.int .i64 ((n : Nat) : Int))) from hown)
  have HB0 := Lib.hid (show Below w.heap.size w w1 from (Below.refl _ _).grown hgr (Nat.le_refl _) (by simp))
  clear hown hgr hq hq2
  go_wp2_with fail
  go_loopw [3, 4] (fun x en wr => ∃ (j : Nat) (l : List Nat), j ≤ 12 ∧ en = .int .i64 ((s.size : Int) - 9 * (j : Int)) ∧ Hid (l.length = j ∧ Lim l ∧ lv l = dec (s.toList.drop (s.size - 9 * j))) ∧ Hid (OwnV wr w.heap.size 3 x (l.map (fun n => Value.int .i64 ((n : Nat) : Int)))) ∧ Hid (Below w.heap.size w wr)) (fun _ en _ => (intOf en).toNat)
  case atStart => exact ⟨0, [], by omega, by simp, Lib.hid ⟨rfl, fun x h => by simp at h, by rw [List.drop_eq_nil_of_le (by rw [bytes_len]; omega)]; rfl⟩, HO0, HB0⟩
  case round =>
    clear HO0 HB0
    obtain ⟨j, l, hj, rfl, HI, HO, HB⟩ := hrel
    by_cases hpos : 9 * j < s.size
    · obtain ⟨E, hE, hEj⟩ : ∃ E : Nat, (s.size : Int) - 9 * (j : Int) = (E : Int) ∧ s.size - 9 * j = E := ⟨s.size - 9 * j, by omega, rfl⟩
      rw [hE]
      have hE0 : (0 : Int) < (E : Int) := by omega
      have hEs : E ≤ s.size := by omega
      by_cases h9 : E ≤ 9
      · obtain ⟨a, ha, haN⟩ : ∃ a : Nat, a = 0 ∧ E - 9 = a := ⟨0, rfl, by omega⟩
        have hmx : max (0 : Int) ((E : Int) - 9) = 0 := by omega
        have hE9 : (E : Int) - 9 ≤ 0 := by omega
        have haE : a ≤ E := by omega
        have ha9 : E ≤ a + 9 := by omega
        have hEj9 : s.size - E = 9 * j := by omega
        have HNx := Lib.hid (show lv (l ++ [dec ((s.toList.drop a).take (E - a))]) = dec (s.toList.drop a) by
          have q := limb_step (s := s) (l := l) (j := j) (E := E) hEs hEj9 HI.out.1 (by rw [HI.out.2.2, hEj])
          rw [haN] at q; exact q)
        have HaE := Lib.hid (show s.size - 9 * (j + 1) = a by omega)
        have HEn := Lib.hid (show (E : Int) - 9 = (s.size : Int) - 9 * ((j + 1 : Nat) : Int) by omega)
        have HEm := Lib.hid (show ((s.size : Int) - 9 * ((j + 1 : Nat) : Int)).toNat < ((E : Int)).toNat by omega)
        have HSz := Lib.hid HB.out.size
        have hj12 : j + 1 ≤ 12 := by omega
        clear hE hEj haN hpos hEj9
        have HA0 := Lib.hid ha
        clear ha
        go_wp2_with fail
        go_loop [5, 6] (fun lb i => ∃ k : Nat, a ≤ k ∧ k ≤ E ∧ i = .int .i64 k ∧ lb = .int .i64 (dec ((s.toList.drop a).take (k - a)))) (fun _ i => E - (intOf i).toNat)
        case atStart => exact ⟨a, Nat.le_refl _, haE, by first | rfl | (rw [HA0.out]; rfl), by simp [dec]⟩
        case round =>
          obtain ⟨k, hak, hkE, rfl, rfl⟩ := hrel
          by_cases hlt : k < E
          · have hks : k < s.size := by omega
            have hks' : (k : Int) < (s.size : Int) := by omega
            have hlt' : (k : Int) < (E : Int) := by omega
            obtain ⟨d1, d2⟩ := all_at HD.out hks
            have HSx := Lib.hid (show (dec ((s.toList.drop a).take (k + 1 - a)) : Int) = (dec ((s.toList.drop a).take (k - a)) : Int) * 10 + ((s[k].toNat : Int) - 48) by rw [take_more s a k hak hks, dec_snoc]; omega)
            have hle : dec ((s.toList.drop a).take (k - a)) < 1000000000 := by
              refine Nat.lt_of_lt_of_le (dec_lt _ ?_) (Nat.le_trans (Nat.pow_le_pow_right (by omega) (show ((s.toList.drop a).take (k - a)).length ≤ 9 by rw [List.length_take]; omega)) (by decide))
              exact all_sub HD.out a (k - a)
            generalize dec ((s.toList.drop a).take (k - a)) = M at *
            go_wp2
            go_round
            case rel => exact ⟨k + 1, by omega, by omega, by go_num, by rw [HSx.out]⟩
            case measure => simp [intOf]; omega
          · obtain rfl : k = E := by omega
            have hlt' : ¬ (k : Int) < (k : Int) := by omega
            have hlb : dec ((s.toList.drop a).take (k - a)) < 1000000000 := by
              refine Nat.lt_of_lt_of_le (dec_lt _ ?_) (Nat.le_trans (Nat.pow_le_pow_right (by omega) (show ((s.toList.drop a).take (k - a)).length ≤ 9 by rw [List.length_take]; omega)) (by decide))
              exact all_sub HD.out a (k - a)
            have HI2 := Lib.hid (fun (M : Nat) (hM : M < 1000000000) (hv : lv (l ++ [M]) = dec (s.toList.drop a)) => show (l ++ [M]).length = j + 1 ∧ Lim (l ++ [M]) ∧ lv (l ++ [M]) = dec (s.toList.drop (s.size - 9 * (j + 1))) from ⟨by rw [List.length_append, HI.out.1]; rfl, HI.out.2.1.snoc hM, by rw [HaE.out]; exact hv⟩)
            have HI3 := Lib.hid (HI2.out _ hlb HNx.out)
            generalize dec ((s.toList.drop a).take (k - a)) = M at *
            have HR := Lib.hid (fun T => row_lit1 wr T (.int .i64 (M : Int)))
            have HMp := Lib.hid (show (l ++ [M]).map (fun n => Value.int .i64 ((n : Nat) : Int)) = l.map (fun n => Value.int .i64 ((n : Nat) : Int)) ++ [.int .i64 (M : Int)] by simp)
            clear HI2 HNx
            go_wp2_with (at_builtin; refine wpList_vals und_nat inf_int rfl (by omega) rfl (.tmp 34) (.tmp 36) rfl w.heap.size _ (l.map (fun n => Value.int .i64 ((n : Nat) : Int))) [.int .i64 (M : Int)] rfl (OwnV.below HO.out ((Below.refl _ _).alloc (Nat.le_refl _) _)) (some ⟨wr.heap.size, 0, none⟩) 1 rfl (fun e => by cases e) (HR.out _) (by intro y hy; simp at hy; subst hy; rfl) (by have := HI.out.1; simp; omega) (by have := HSz.out; simp; omega) ?_; intro v' w2 hown hbel; rw [← HMp.out] at hown; have HO2 := Lib.hid hown; have HB2 := Lib.hid (HB.out.trans (((Below.refl _ _).alloc HSz.out _).trans hbel)); clear hown hbel)
            go_roundw
            case rel => exact ⟨j + 1, l ++ [M], hj12, by first | (rw [← HEn.out]; done) | (rw [← HEn.out]; rfl) | (rw [← HEn.out]; congr 1; omega) | (congr 1; have := HEn.out; omega), HI3, HO2, HB2⟩
            case measure => have := HEm.out; simp [intOf]; omega
      · obtain ⟨a, ha, haN⟩ : ∃ a : Nat, (E : Int) - 9 = (a : Int) ∧ E - 9 = a := ⟨E - 9, by omega, rfl⟩
        have hmx : max (0 : Int) ((a : Int)) = (a : Int) := by omega
        have hE9 : (0 : Int) < (a : Int) := by omega
        have haE : a ≤ E := by omega
        have ha9 : E ≤ a + 9 := by omega
        have hEj9 : s.size - E = 9 * j := by omega
        have HNx := Lib.hid (show lv (l ++ [dec ((s.toList.drop a).take (E - a))]) = dec (s.toList.drop a) by
          have q := limb_step (s := s) (l := l) (j := j) (E := E) hEs hEj9 HI.out.1 (by rw [HI.out.2.2, hEj])
          rw [haN] at q; exact q)
        have HaE := Lib.hid (show s.size - 9 * (j + 1) = a by omega)
        have HEn := Lib.hid (show (E : Int) - 9 = (s.size : Int) - 9 * ((j + 1 : Nat) : Int) by omega)
        have HEm := Lib.hid (show ((s.size : Int) - 9 * ((j + 1 : Nat) : Int)).toNat < ((E : Int)).toNat by omega)
        have HSz := Lib.hid HB.out.size
        have hj12 : j + 1 ≤ 12 := by omega
        clear hE hEj haN hpos hEj9
        go_wp2_with fail
        go_loop [5, 6] (fun lb i => ∃ k : Nat, a ≤ k ∧ k ≤ E ∧ i = .int .i64 k ∧ lb = .int .i64 (dec ((s.toList.drop a).take (k - a)))) (fun _ i => E - (intOf i).toNat)
        case atStart => exact ⟨a, Nat.le_refl _, haE, by first | rfl | (rw [HA0.out]; rfl), by simp [dec]⟩
        case round =>
          obtain ⟨k, hak, hkE, rfl, rfl⟩ := hrel
          by_cases hlt : k < E
          · have hks : k < s.size := by omega
            have hks' : (k : Int) < (s.size : Int) := by omega
            have hlt' : (k : Int) < (E : Int) := by omega
            obtain ⟨d1, d2⟩ := all_at HD.out hks
            have HSx := Lib.hid (show (dec ((s.toList.drop a).take (k + 1 - a)) : Int) = (dec ((s.toList.drop a).take (k - a)) : Int) * 10 + ((s[k].toNat : Int) - 48) by rw [take_more s a k hak hks, dec_snoc]; omega)
            have hle : dec ((s.toList.drop a).take (k - a)) < 1000000000 := by
              refine Nat.lt_of_lt_of_le (dec_lt _ ?_) (Nat.le_trans (Nat.pow_le_pow_right (by omega) (show ((s.toList.drop a).take (k - a)).length ≤ 9 by rw [List.length_take]; omega)) (by decide))
              exact all_sub HD.out a (k - a)
            generalize dec ((s.toList.drop a).take (k - a)) = M at *
            go_wp2
            go_round
            case rel => exact ⟨k + 1, by omega, by omega, by go_num, by rw [HSx.out]⟩
            case measure => simp [intOf]; omega
          · obtain rfl : k = E := by omega
            have hlt' : ¬ (k : Int) < (k : Int) := by omega
            have hlb : dec ((s.toList.drop a).take (k - a)) < 1000000000 := by
              refine Nat.lt_of_lt_of_le (dec_lt _ ?_) (Nat.le_trans (Nat.pow_le_pow_right (by omega) (show ((s.toList.drop a).take (k - a)).length ≤ 9 by rw [List.length_take]; omega)) (by decide))
              exact all_sub HD.out a (k - a)
            have HI2 := Lib.hid (fun (M : Nat) (hM : M < 1000000000) (hv : lv (l ++ [M]) = dec (s.toList.drop a)) => show (l ++ [M]).length = j + 1 ∧ Lim (l ++ [M]) ∧ lv (l ++ [M]) = dec (s.toList.drop (s.size - 9 * (j + 1))) from ⟨by rw [List.length_append, HI.out.1]; rfl, HI.out.2.1.snoc hM, by rw [HaE.out]; exact hv⟩)
            have HI3 := Lib.hid (HI2.out _ hlb HNx.out)
            generalize dec ((s.toList.drop a).take (k - a)) = M at *
            have HR := Lib.hid (fun T => row_lit1 wr T (.int .i64 (M : Int)))
            have HMp := Lib.hid (show (l ++ [M]).map (fun n => Value.int .i64 ((n : Nat) : Int)) = l.map (fun n => Value.int .i64 ((n : Nat) : Int)) ++ [.int .i64 (M : Int)] by simp)
            clear HI2 HNx
            go_wp2_with (at_builtin; refine wpList_vals und_nat inf_int rfl (by omega) rfl (.tmp 34) (.tmp 36) rfl w.heap.size _ (l.map (fun n => Value.int .i64 ((n : Nat) : Int))) [.int .i64 (M : Int)] rfl (OwnV.below HO.out ((Below.refl _ _).alloc (Nat.le_refl _) _)) (some ⟨wr.heap.size, 0, none⟩) 1 rfl (fun e => by cases e) (HR.out _) (by intro y hy; simp at hy; subst hy; rfl) (by have := HI.out.1; simp; omega) (by have := HSz.out; simp; omega) ?_; intro v' w2 hown hbel; rw [← HMp.out] at hown; have HO2 := Lib.hid hown; have HB2 := Lib.hid (HB.out.trans (((Below.refl _ _).alloc HSz.out _).trans hbel)); clear hown hbel)
            go_roundw
            case rel => exact ⟨j + 1, l ++ [M], hj12, by first | (rw [← HEn.out]; done) | (rw [← HEn.out]; rfl) | (rw [← HEn.out]; congr 1; omega) | (congr 1; have := HEn.out; omega), HI3, HO2, HB2⟩
            case measure => have := HEm.out; simp [intOf]; omega
    · have hneg : ¬ (0 : Int) < (s.size : Int) - 9 * (j : Int) := by omega
      have hj1 : 0 < l.length := by have := HI.out.1; omega
      have hj20 : l.length ≤ 20 := by have := HI.out.1; omega
      obtain ⟨g, cap, rfl, hcap, hg, hlb⟩ := own_lbs HO.out hj1
      have HT := Lib.hid (trim_nat (fun B => w.heap.size ≤ B) g cap l wr hg HI.out.2.1 hcap hlb hj20)
      have HV := Lib.hid (show lv l = dec s.toList by rw [HI.out.2.2, show s.size - 9 * j = 0 by omega]; rfl)
      clear HO HI hlb hcap hj1 hj20
      generalize (s.size : Int) - 9 * (j : Int) = en at *
      go_wp2_with fail
      refine HT.out.mono ?_
      rintro e w2 ⟨v, l', rfl, hv, hl', rfl⟩
      go_wp2
      go_ret
      exact ⟨v, l', rfl, hv, by rw [hl', HV.out], HB.out⟩
end Go.Proofs.Ytlndomnampcnfaa
