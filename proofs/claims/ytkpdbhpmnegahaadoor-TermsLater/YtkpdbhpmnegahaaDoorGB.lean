/- What trim, subtract, divide and its search return for numbers of one limb. Slices of bytes: appended, converted, opened where they came in. No conditions. What readNatural and leadingDigits of package frac return. Plain facts on numbers in limbs of nine digits, with no Go in sight. Plain facts on continued fractions, with no Go in sight. What trim, subtract, divide and its search return for numbers of up to 20 limbs. Written by wip/mk_fuc.py. What divide and readNatural of package frac return for numbers of any size. What quotientOf, reduce and Parse of package frac return for 0.25 and -0. What leadingDigits and quotientOf of package frac return, for any text. What quotientOf of package frac returns, for any text of at most 90 bytes. Written by wip/mk_fuf.py. -/
import Derived.Test.YtkpdbhpmnegahaaDoorFrF
import Derived.Test.YtkpdbhpmnegahaaDoorRow1
import Derived.Deep.Matrix
import Derived.Test.YtkpdbhpmnegahaaDoorNumP
import Derived.Test.YtkpdbhpmnegahaaDoorShelf
namespace Go.Proofs.YtkpdbhpmnegahaaDoor
open Go.RowKit Go.Sort
set_option linter.unusedVariables false
set_option linter.unusedSimpArgs false

/-- a number of at most one limb. -/
def NatV (N : Nat) (w : World) (v : Value) (n : Nat) : Prop :=
  (n = 0 ∧ ∃ ao c, v = .slice ao 0 c) ∨ (0 < n ∧ n < 1000000000 ∧ ∃ B c, N ≤ B ∧ 1 ≤ c ∧ v = .slice (some ⟨B, 0, none⟩) 1 c ∧ B < w.heap.size ∧ w.cell? ⟨B, 0, none⟩ = some (.int .i64 n))
theorem NatV.lower {w : World} {v : Value} {n M M' : Nat} (h : NatV M w v n) (hM : M' ≤ M) : NatV M' w v n := by
  rcases h with h | ⟨h1, h2, B, c, h0, h3⟩
  · exact .inl h
  · exact .inr ⟨h1, h2, B, c, Nat.le_trans hM h0, h3⟩
theorem NatV.set {w : World} {v : Value} {n M : Nat} (h : NatV M w v n) (p : Addr) (hp : p.block < M) (x : Value) : NatV M (w.setCell p x) v n := by
  rcases h with h | ⟨h1, h2, B, c, h0, h3, h4, h5, h6⟩
  · exact .inl h
  · exact .inr ⟨h1, h2, B, c, h0, h3, h4, by simpa using h5, by rw [World.cell?_setCell_other _ _ _ _ (by intro e; subst e; simp at hp; omega)]; exact h6⟩
theorem NatV.below {w w' : World} {v : Value} {n N M : Nat} (h : NatV M w v n) (hb : Below N w w') (hN : w.heap.size ≤ N) : NatV M w' v n := by
  rcases h with h | ⟨h1, h2, B, c, h0, h3, h4, h5, h6⟩
  · exact .inl h
  · exact .inr ⟨h1, h2, B, c, h0, h3, h4, Nat.lt_of_lt_of_le h5 hb.size, by rw [hb.cell (Nat.lt_of_lt_of_le h5 hN)]; exact h6⟩
def slLen : Value → Nat
  | .slice _ n _ => n
  | _ => 0
set_option maxHeartbeats 1000000 in
theorem trim_zero (B c : Nat) (w : World) (hc : 1 ≤ c) (hcell : w.cell? ⟨B, 0, none⟩ = some (.int .i64 0)) :
    Calls Tryd.prog 87 #[.slice (some ⟨B, 0, none⟩) 1 c] w fun e w' => e = .returned (.slice (some ⟨B, 0, none⟩) 0 c) ∧ w = w' := by
  go_enter Tryd.func87, Tryd.ntmps87
  go_wp2
  go_loop [0] (fun x => ∃ k : Nat, k ≤ 1 ∧ x = .slice (some ⟨B, 0, none⟩) k c) (fun x => slLen x)
  case atStart => exact ⟨1, Nat.le_refl _, rfl⟩
  case round =>
    obtain ⟨k, hk, rfl⟩ := hrel
    rcases Nat.lt_or_ge 0 k with h | h
    · obtain rfl : k = 1 := by omega
      go_wp2
      go_round
      case rel => exact ⟨0, Nat.zero_le _, rfl⟩
      case measure => simp [slLen]
    · obtain rfl : k = 0 := by omega
      go_wp2
      go_ret
      exact ⟨rfl, rfl⟩
set_option maxHeartbeats 1000000 in
theorem trim_more (B c : Nat) (z : Int) (w : World) (hc : 1 ≤ c) (hcell : w.cell? ⟨B, 0, none⟩ = some (.int .i64 z)) (hz : (z == 0) = false) :
    Calls Tryd.prog 87 #[.slice (some ⟨B, 0, none⟩) 1 c] w fun e w' => e = .returned (.slice (some ⟨B, 0, none⟩) 1 c) ∧ w = w' := by
  go_enter Tryd.func87, Tryd.ntmps87
  go_wp2
  go_loop [0] (fun x => x = .slice (some ⟨B, 0, none⟩) 1 c) (fun x => slLen x)
  case atStart => rfl
  case round =>
    subst hrel
    go_wp2
    go_ret
    exact ⟨rfl, rfl⟩
theorem trim_one (B c : Nat) (n N : Nat) (w : World) (hN : N ≤ B) (hc : 1 ≤ c) (hcell : w.cell? ⟨B, 0, none⟩ = some (.int .i64 n)) (hB : B < w.heap.size) (hn : n < 1000000000) :
    Calls Tryd.prog 87 #[.slice (some ⟨B, 0, none⟩) 1 c] w fun e w' => ∃ v, e = .returned v ∧ NatV N w' v n ∧ w = w' := by
  rcases Nat.eq_zero_or_pos n with h | h
  · subst h
    refine (trim_zero B c w hc hcell).mono ?_
    rintro e w' ⟨rfl, rfl⟩
    exact ⟨_, rfl, .inl ⟨rfl, _, _, rfl⟩, rfl⟩
  · refine (trim_more B c n w hc hcell (by simp; omega)).mono ?_
    rintro e w' ⟨rfl, rfl⟩
    exact ⟨_, rfl, .inr ⟨h, hn, B, c, hN, hc, rfl, hB, hcell⟩, rfl⟩
theorem und_nat : Tryd.prog.underlying 112 = some (.slice 3) := by kernel_rfl
theorem inf_int : (Tryd.prog.info? 3).map (fun i => (i.zero, i.size, i.bytes)) = some (some (.int .i64 0), 1, 8) := by kernel_rfl
/-- what subtract leaves of a - m: a number, or nothing. -/
def SubP (w : World) (a m : Int) (e : Ending) (w' : World) : Prop :=
  (∃ v, e = .returned (.tuple #[v, .bool (decide (m ≤ a))]) ∧ (m ≤ a → NatV w.heap.size w' v (a - m).toNat)) ∧ Below w.heap.size w w'
set_option maxRecDepth 100000 in
set_option maxHeartbeats 4000000 in
theorem subtract_one (X Y cx cy : Nat) (a b q m : Int) (w : World) (a1 : 0 ≤ a) (a2 : a < 1000000000) (b1 : 0 ≤ b) (b2 : b < 1000000000) (q1 : 0 ≤ q) (q2 : q ≤ 1000001) (hm : q * b = m) (m1 : 0 ≤ m) (m2 : m ≤ 1000001000000000) (hcx : 1 ≤ cx) (hcy : 1 ≤ cy)
    (hx : w.cell? ⟨X, 0, none⟩ = some (.int .i64 a)) (hy : w.cell? ⟨Y, 0, none⟩ = some (.int .i64 b)) (lx : X < w.heap.size) (ly : Y < w.heap.size) :
    Calls Tryd.prog 99 #[.slice (some ⟨X, 0, none⟩) 1 cx, .slice (some ⟨Y, 0, none⟩) 1 cy, .int .i64 q] w (SubP w a m) := by
  obtain ⟨i0, hi, hz0, hz1, hz2⟩ := info_parts inf_int
  have HX := Lib.hid hx
  have HY := Lib.hid hy
  have HLX := Lib.hid lx
  have HLY := Lib.hid ly
  clear hx hy lx ly
  go_enter Tryd.func99, Tryd.ntmps99
  go_wp2_with (at_make; refine wpList_make_full _ rfl _ _ 112 rfl w.heap.size 3 i0 (.int .i64 0) 1 und_nat hi hz0 hz1 _ _ _ _ 1 rfl rfl rfl rfl ?_ ?_ ?_ ?_)
  · rw [hz2]; omega
  · unfold maxLen; omega
  · exact Nat.le_refl _
  intro w1 hown hgr
  have HP0 := Lib.hid (PaV.made hown)
  have HB0 := Lib.hid (show Below w.heap.size w w1 from (Below.refl _ _).grown hgr (Nat.le_refl _) (by simp))
  clear hown hgr
  have HM := Lib.hid hm
  by_cases hle : m ≤ a
  · have hlt : ¬ a - m < 0 := by omega
    have HD : decide (m ≤ a) = true := decide_eq_true hle
    go_wp2_with fail
    go_loopw [8, 16] (fun br i wr => (i = .int .i64 0 ∧ br = .int .i64 0 ∧ Hid (PaV wr w.heap.size 1 (fun _ => .int .i64 0)) ∧ Hid (Below w.heap.size w wr)) ∨ (i = .int .i64 1 ∧ br = .int .i64 0 ∧ Hid (PaV wr w.heap.size 1 (fun _ => .int .i64 (a - m))) ∧ Hid (Below w.heap.size w wr))) (fun _ i _ => (1 - intOf i).toNat)
    case atStart => exact .inl ⟨rfl, rfl, HP0, HB0⟩
    case round =>
      rcases hrel with ⟨rfl, rfl, HP, HB⟩ | ⟨rfl, rfl, HP, HB⟩
      · skip
        have cx1 : wr.cell? ⟨X, 0, none⟩ = some (.int .i64 a) := by rw [HB.out.cell HLX.out]; exact HX.out
        have cy1 : wr.cell? ⟨Y, 0, none⟩ = some (.int .i64 b) := by rw [HB.out.cell HLY.out]; exact HY.out
        have p0 := (HP.out.2 0 (by omega)).1
        have p1 := (HP.out.2 0 (by omega)).2
        go_wp2
        go_roundw
        case rel => exact .inr ⟨rfl, rfl, Lib.hid (HP.out.set (g := fun _ => .int .i64 (a - m)) 0 (by omega) (fun t ht e => by omega)), Lib.hid (HB.out.setCell (p := ⟨w.heap.size, 0, none⟩) (Nat.le_refl _) _)⟩
        case measure => simp [intOf]
      · have p0 := (HP.out.2 0 (by omega)).1
        have HT := Lib.hid (trim_one w.heap.size 1 (a - m).toNat w.heap.size wr (Nat.le_refl _) (Nat.le_refl _) (by rw [p0]; simp; omega) HP.out.1 (by omega))
        clear p0
        go_wp2_with fail
        refine HT.out.mono ?_
        rintro e w2 ⟨v, rfl, hv, rfl⟩
        go_wp2
        go_ret2
        exact ⟨⟨v, by rw [HD]; rfl, fun _ => hv⟩, HB.out⟩
  · have hlt : a - m < 0 := by omega
    have HD : decide (m ≤ a) = false := decide_eq_false hle
    have HBR : ∃ BR : Int, BR = (999999999 - (a - m)) / 1000000000 := ⟨_, rfl⟩
    obtain ⟨BR, hBR⟩ := HBR
    have r1 : 1 ≤ BR := by omega
    have r2 : BR ≤ 1000002 := by omega
    have r3 : (BR != 0) = true := by simp; omega
    have HBRR := Lib.hid hBR
    clear hBR
    go_wp2_with fail
    go_loopw [8, 16] (fun br i wr => (i = .int .i64 0 ∧ br = .int .i64 0 ∧ Hid (∃ R, PaV wr w.heap.size 1 (fun _ => R)) ∧ Hid (Below w.heap.size w wr)) ∨ (i = .int .i64 1 ∧ br = .int .i64 BR ∧ Hid (Below w.heap.size w wr))) (fun _ i _ => (1 - intOf i).toNat)
    case atStart => exact .inl ⟨rfl, rfl, Lib.hid ⟨_, HP0.out⟩, HB0⟩
    case round =>
      rcases hrel with ⟨rfl, rfl, HP, HB⟩ | ⟨rfl, rfl, HB⟩
      · skip
        have cx1 : wr.cell? ⟨X, 0, none⟩ = some (.int .i64 a) := by rw [HB.out.cell HLX.out]; exact HX.out
        have cy1 : wr.cell? ⟨Y, 0, none⟩ = some (.int .i64 b) := by rw [HB.out.cell HLY.out]; exact HY.out
        have p0 := (HP.out.choose_spec.2 0 (by omega)).1
        have p1 := (HP.out.choose_spec.2 0 (by omega)).2
        have z1 : (999999999 - (a - m)).tdiv 1000000000 = BR := by rw [Int.tdiv_eq_ediv_of_nonneg (by omega)]; exact HBRR.out.symm
        have z2 : (999999999 - (a - m)) / 1000000000 = BR := HBRR.out.symm
        go_wp2
        go_roundw
        case rel => exact .inr ⟨rfl, rfl, Lib.hid (HB.out.setCell (p := ⟨w.heap.size, 0, none⟩) (Nat.le_refl _) _)⟩
        case measure => simp [intOf]
      · go_wp2
        go_ret2
        exact ⟨⟨.slice none 0 0, by rw [HD]; rfl, fun h => absurd h (by omega)⟩, HB.out⟩
set_option maxHeartbeats 4000000 in
theorem divC_one (P Q X Y cx cy : Nat) (a b q : Nat) (w : World) (a2 : a < 1000000000) (b2 : b < 1000000000) (q2 : q ≤ 1000000) (hcx : 1 ≤ cx) (hcy : 1 ≤ cy)
    (hp : w.cell? ⟨P, 0, none⟩ = some (.slice (some ⟨X, 0, none⟩) 1 cx)) (hq : w.cell? ⟨Q, 0, none⟩ = some (.slice (some ⟨Y, 0, none⟩) 1 cy))
    (hx : w.cell? ⟨X, 0, none⟩ = some (.int .i64 a)) (hy : w.cell? ⟨Y, 0, none⟩ = some (.int .i64 b)) (lx : X < w.heap.size) (ly : Y < w.heap.size) :
    Calls Tryd.prog 98 #[.int .i64 q, .pointer (some ⟨P, 0, none⟩), .pointer (some ⟨Q, 0, none⟩)] w fun e w' => e = .returned (.bool (decide (a < (q + 1) * b))) ∧ Below w.heap.size w w' := by
  have m2 : (q + 1) * b ≤ 1000001 * 1000000000 := Nat.mul_le_mul (by omega) (by omega)
  have HC := Lib.hid (subtract_one X Y cx cy a b (q + 1 : Nat) ((q + 1) * b : Nat) w (by omega) (by omega) (by omega) (by omega) (by omega) (by omega) (by simp) (by omega) (by omega) hcx hcy hx hy lx ly)
  have HE := Lib.hid (show (!decide (((q + 1) * b : Nat) ≤ (a : Int))) = decide (a < (q + 1) * b) by rw [← decide_not]; congr 1; apply propext; omega)
  rw [show ((q + 1 : Nat) : Int) = (q : Int) + 1 from rfl] at HC
  generalize (((q + 1) * b : Nat) : Int) = M at *
  clear hx hy lx ly m2
  go_enter Tryd.func98, Tryd.ntmps98
  go_wp2_with fail
  refine HC.out.mono ?_
  rintro e w2 ⟨⟨v, rfl, hv⟩, hb⟩
  go_wp2
  go_ret
  exact ⟨ret_bool HE.out, hb⟩
set_option maxHeartbeats 4000000 in
theorem search_one (P Q X Y cx cy : Nat) (a b : Nat) (w : World) (a2 : a < 1000000000) (b1 : 0 < b) (b2 : b < 1000000000) (hab : a / b ≤ 1000000) (hcx : 1 ≤ cx) (hcy : 1 ≤ cy)
    (hp : w.cell? ⟨P, 0, none⟩ = some (.slice (some ⟨X, 0, none⟩) 1 cx)) (hq : w.cell? ⟨Q, 0, none⟩ = some (.slice (some ⟨Y, 0, none⟩) 1 cy))
    (hx : w.cell? ⟨X, 0, none⟩ = some (.int .i64 a)) (hy : w.cell? ⟨Y, 0, none⟩ = some (.int .i64 b)) (lx : X < w.heap.size) (ly : Y < w.heap.size) (lp : P < w.heap.size) (lq : Q < w.heap.size) :
    Calls Tryd.prog 97 #[.int .i64 1000001, .func (.func 98) #[] #[.pointer (some ⟨P, 0, none⟩), .pointer (some ⟨Q, 0, none⟩)]] w fun e w' => e = .returned (.int .i64 (a / b : Nat)) ∧ Below w.heap.size w w' := by
  have HC := Lib.hid (fun (q : Nat) (q2 : q ≤ 1000000) (W : World) (hb : Below w.heap.size w W) => divC_one P Q X Y cx cy a b q W a2 b2 q2 hcx hcy (by rw [hb.cell lp]; exact hp) (by rw [hb.cell lq]; exact hq) (by rw [hb.cell lx]; exact hx) (by rw [hb.cell ly]; exact hy) (Nat.lt_of_lt_of_le lx hb.size) (Nat.lt_of_lt_of_le ly hb.size))
  have HT := Lib.hid (fun (q : Nat) => show decide (a < (q + 1) * b) = decide (a / b ≤ q) by congr 1; apply propext; rw [← Nat.div_lt_iff_lt_mul b1]; omega)
  clear hp hq hx hy lx ly lp lq
  generalize a / b = D at *
  go_enter Tryd.func97, Tryd.ntmps97
  go_wp2_with fail
  go_loopw [5, 6] (fun i j wr => ∃ x y : Nat, i = .int .i64 x ∧ j = .int .i64 y ∧ x ≤ D ∧ D ≤ y ∧ y ≤ 1000001 ∧ Hid (Below w.heap.size w wr)) (fun i j _ => (intOf j - intOf i).toNat)
  case atStart => exact ⟨0, 1000001, rfl, rfl, Nat.zero_le _, by omega, Nat.le_refl _, Lib.hid (Below.refl _ _)⟩
  case round =>
    obtain ⟨x, y, rfl, rfl, hx, hy, hy2, HB⟩ := hrel
    by_cases h : x < y
    · have h' : (x : Int) < (y : Int) := by omega
      have hz : ∃ z : Nat, ((x : Int) + (y : Int)) / 2 = (z : Int) ∧ x ≤ z ∧ z < y := ⟨(x + y) / 2, by omega, by omega, by omega⟩
      obtain ⟨z, hz, z1, z2⟩ := hz
      by_cases hd : D ≤ z
      · have HCz := Lib.hid (show Calls Tryd.prog 98 #[.int .i64 z, .pointer (some ⟨P, 0, none⟩), .pointer (some ⟨Q, 0, none⟩)] wr fun e w' => e = .returned (.bool true) ∧ Below wr.heap.size wr w' by have q := HC.out z (by omega) wr HB.out; rw [HT.out z, decide_eq_true hd] at q; exact q)
        go_wp2_with fail
        refine HCz.out.mono ?_
        rintro e w2 ⟨rfl, hb⟩
        have HB2 := Lib.hid (HB.out.trans (hb.mono HB.out.size))
        clear hb HB HC HCz
        go_wp2
        go_roundw
        case rel => exact ⟨x, z, rfl, rfl, hx, hd, by omega, HB2⟩
        case measure => simp [intOf]; omega
      · have HCz := Lib.hid (show Calls Tryd.prog 98 #[.int .i64 z, .pointer (some ⟨P, 0, none⟩), .pointer (some ⟨Q, 0, none⟩)] wr fun e w' => e = .returned (.bool false) ∧ Below wr.heap.size wr w' by have q := HC.out z (by omega) wr HB.out; rw [HT.out z, decide_eq_false hd] at q; exact q)
        go_wp2_with fail
        refine HCz.out.mono ?_
        rintro e w2 ⟨rfl, hb⟩
        have HB2 := Lib.hid (HB.out.trans (hb.mono HB.out.size))
        clear hb HB HC HCz
        go_wp2
        go_roundw
        case rel => exact ⟨z + 1, y, by go_num, rfl, by omega, hy, hy2, HB2⟩
        case measure => simp [intOf]; omega
    · have h' : ¬ (x : Int) < (y : Int) := by omega
      go_wp2
      go_ret
      exact ⟨by rw [show x = D by omega]; rfl, HB.out⟩
set_option maxRecDepth 100000 in
set_option maxHeartbeats 4000000 in
theorem divide_one (X Y cx cy : Nat) (a b D R : Nat) (w : World) (a2 : a < 1000000000) (b1 : 0 < b) (b2 : b < 1000000000) (hD : a / b = D) (hR : a % b = R) (hab : D ≤ 1000000) (hcx : 1 ≤ cx) (hcy : 1 ≤ cy)
    (hx : w.cell? ⟨X, 0, none⟩ = some (.int .i64 a)) (hy : w.cell? ⟨Y, 0, none⟩ = some (.int .i64 b)) (lx : X < w.heap.size) (ly : Y < w.heap.size) :
    Calls Tryd.prog 88 #[.slice (some ⟨X, 0, none⟩) 1 cx, .slice (some ⟨Y, 0, none⟩) 1 cy] w fun e w' => ∃ v, e = .returned (.tuple #[.int .i64 D, v]) ∧ NatV w.heap.size w' v R ∧ Below w.heap.size w w' := by
  have HX := Lib.hid hx
  have HY := Lib.hid hy
  have HLX := Lib.hid lx
  have HLY := Lib.hid ly
  clear hx hy lx ly
  have hdm := Nat.div_add_mod a b
  have HM := Lib.hid (show D * b + R = a by rw [← hD, ← hR, Nat.mul_comm]; exact hdm)
  clear hdm hR
  have m2 : D * b ≤ a := by have := HM.out; omega
  have HDD := Lib.hid hD
  clear hD
  go_enter Tryd.func88, Tryd.ntmps88
  go_wp2_with fail
  have P0_1 := Lib.hid (show Cell1 ((w.alloc (Obj.cells #[(.slice (some ⟨X, 0, none⟩) 1 cx)] 112)).alloc (Obj.cells #[(.slice (some ⟨Y, 0, none⟩) 1 cy)] 112)) (w.heap.size) (.slice (some ⟨X, 0, none⟩) 1 cx) from by have q := Cell1.alloc w (.slice (some ⟨X, 0, none⟩) 1 cx) 112; exact q.below (N := w.heap.size + 1) ((Below.refl _ _).alloc (by simp <;> omega) (Obj.cells #[(.slice (some ⟨Y, 0, none⟩) 1 cy)] 112)) (by omega))
  have P1_1 := Lib.hid (show Cell1 ((w.alloc (Obj.cells #[(.slice (some ⟨X, 0, none⟩) 1 cx)] 112)).alloc (Obj.cells #[(.slice (some ⟨Y, 0, none⟩) 1 cy)] 112)) (w.heap.size + 1) (.slice (some ⟨Y, 0, none⟩) 1 cy) from by simpa using Cell1.alloc (w.alloc (Obj.cells #[(.slice (some ⟨X, 0, none⟩) 1 cx)] 112)) (.slice (some ⟨Y, 0, none⟩) 1 cy) 112)
  have HB1 := Lib.hid (((Below.refl w.heap.size w).alloc (Nat.le_refl _) (Obj.cells #[(.slice (some ⟨X, 0, none⟩) 1 cx)] 112)).alloc (by simp) (Obj.cells #[(.slice (some ⟨Y, 0, none⟩) 1 cy)] 112))
  generalize ((w.alloc (Obj.cells #[(.slice (some ⟨X, 0, none⟩) 1 cx)] 112)).alloc (Obj.cells #[(.slice (some ⟨Y, 0, none⟩) 1 cy)] 112)) = W1 at *
  have HS := Lib.hid (search_one w.heap.size (w.heap.size + 1) X Y cx cy a b W1 a2 b1 b2 (by rw [HDD.out]; exact hab) hcx hcy P0_1.out.c0 P1_1.out.c0 (by rw [HB1.out.cell HLX.out]; exact HX.out) (by rw [HB1.out.cell HLY.out]; exact HY.out) (Nat.lt_of_lt_of_le HLX.out HB1.out.size) (Nat.lt_of_lt_of_le HLY.out HB1.out.size) P0_1.out.lt P1_1.out.lt)
  have hnb : ¬ (1000000 : Int) < (D : Int) := by omega
  rw [HDD.out] at HS
  refine (HS.out).mono ?_
  rintro e W2 ⟨rfl, hb2⟩
  have HB2 := Lib.hid (HB1.out.trans ((hb2).mono HB1.out.size))
  have P0_2 := Lib.hid (P0_1.out.below (hb2) P0_1.out.lt)
  have P1_2 := Lib.hid (P1_1.out.below (hb2) P1_1.out.lt)
  clear HB1 P0_1 P1_1 hb2
  have lP0_2 := P0_2.out.lt
  have cP0_2_0 := P0_2.out.c0
  have lP1_2 := P1_2.out.lt
  have cP1_2_0 := P1_2.out.c0
  have hx2 : W2.cell? ⟨X, 0, none⟩ = some (.int .i64 a) := by rw [HB2.out.cell HLX.out]; exact HX.out
  have hy2 : W2.cell? ⟨Y, 0, none⟩ = some (.int .i64 b) := by rw [HB2.out.cell HLY.out]; exact HY.out
  have HC := Lib.hid (subtract_one X Y cx cy a b (D : Nat) (D * b : Nat) W2 (by omega) (by omega) (by omega) (by omega) (by omega) (by omega) (by simp) (by omega) (by omega) hcx hcy hx2 hy2 (Nat.lt_of_lt_of_le HLX.out HB2.out.size) (Nat.lt_of_lt_of_le HLY.out HB2.out.size))
  clear hx2 hy2
  go_wp2_with fail
  refine HC.out.mono ?_
  rintro e w2 ⟨⟨v, rfl, hv⟩, hb⟩
  go_wp2
  go_ret2
  have e1 : ((a : Int) - ((D * b : Nat) : Int)).toNat = R := by have := HM.out; omega
  exact ⟨v, rfl, (e1 ▸ hv (by omega)).lower HB2.out.size, HB2.out.trans (hb.mono HB2.out.size)⟩
end Go.Proofs.YtkpdbhpmnegahaaDoor
namespace Go.Proofs.YtkpdbhpmnegahaaDoor
open Go.RowKit Go.Sort Go.ChangeShapes Go.WideShapes
set_option linter.unusedVariables false
set_option linter.unusedSimpArgs false

/-- the eight bytes of a number. -/
def byI (x : Int) : UInt8 := x.toNat.toUInt8
theorem byI_val {x : Int} (h0 : 0 ≤ x) (h1 : x < 256) : ((byI x).toNat : Int) = x := by
  unfold byI
  rw [Nat.toUInt8_eq, UInt8.toNat_ofNat']; omega
/-- bytes appended. -/
theorem wpList_bytes {w : World} {ops : Array Oper} {rest : List Oper} {o : Oper} {a : Act} {Q : Exit → Act → World → Prop} (hgd : o.guard = none) (s x : Operand)
    (ho : o.op = .call { callee := .builtin .append, args := #[s, x], argTypes := #[59, 59] })
    (base : Nat) (v : Value) (l m : List UInt8) (hs : a.eval s = v) (hown : OwnB w base v l) (ao : Option Addr) (c : Nat) (hx : a.eval x = .slice ao m.length c) (hn : ao = none → c = 0) (hc : RowB w ao m)
    (hl : l.length + m.length < 1000000) (hbase : base ≤ w.heap.size)
    (h : ∀ v' w', OwnB w' base v' (l ++ m) → Below base w w' → wpList Tryd.prog ops Q rest (a.put o.dst v') w') : wpList Tryd.prog ops Q (o :: rest) a w := by
  refine wpList_vals und_bytes inf_u8 rfl (by omega) hgd s x ho base v (l.map byV) (m.map byV) hs hown ao c (by rw [List.length_map]; exact hx) hn hc ?_ (by simp; omega) hbase ?_
  · intro y hy
    obtain ⟨z, _, rfl⟩ := List.mem_map.1 hy
    rfl
  · intro v' w' h1 h2
    exact h v' w' (by unfold OwnB; rw [List.map_append]; exact h1) h2
theorem step_bytes {w : World} {ops : Array Oper} {o : Oper} {a : Act} {K : Act → World → Prop} {Q : Exit → Act → World → Prop} {E : Prop} (hgd : o.guard = none) (s x : Operand)
    (ho : o.op = .call { callee := .builtin .append, args := #[s, x], argTypes := #[59, 59] })
    (base : Nat) (v : Value) (l m : List UInt8) (hs : a.eval s = v) (hown : OwnB w base v l) (ao : Option Addr) (c : Nat) (hx : a.eval x = .slice ao m.length c) (hn : ao = none → c = 0) (hc : RowB w ao m)
    (hl : l.length + m.length < 1000000) (hbase : base ≤ w.heap.size)
    (h : ∀ v' w', OwnB w' base v' (l ++ m) → Below base w w' → K (a.put o.dst v') w') : if Region.wanted o (yielded ops a.tmps) = true then Oper.wp Tryd.prog o a w K Q else E := by
  refine step_vals und_bytes inf_u8 rfl (by omega) hgd s x ho base v (l.map byV) (m.map byV) hs hown ao c (by rw [List.length_map]; exact hx) hn hc ?_ (by simp; omega) hbase ?_
  · intro y hy
    obtain ⟨z, _, rfl⟩ := List.mem_map.1 hy
    rfl
  · intro v' w' h1 h2
    exact h v' w' (by unfold OwnB; rw [List.map_append]; exact h1) h2
theorem OwnB.shape {w : World} {base : Nat} {v : Value} {l : List UInt8} (h : OwnB w base v l) : ∃ ao cap, v = .slice ao l.length cap := by
  have := OwnV.shape h; rw [List.length_map] at this; exact this
theorem bs_app (a b : List UInt8) : bs a ++ bs b = bs (a ++ b) := by
  apply ba_ext
  rw [bs_list, ByteArray.toList_eq, ByteArray.data_append]; simp [bs]
theorem rowB_lit (w : World) (T : TypeId) (l : List UInt8) : RowB (w.alloc (.cells (l.map byV).toArray T)) (some ⟨w.heap.size, 0, none⟩) l := by
  refine RowV.block (by simp) fun i x hx => ?_
  rw [World.cell?_alloc_at _ _ _ _ rfl, Nat.zero_add]
  simpa using hx
theorem RowB.conv' {w : World} {ao : Option Addr} {l : List UInt8} (h : RowB w ao l) (c : Nat) : (convert 59 9 (.slice ao l.length c)).run Tryd.prog w = .ok (.string (bs l)) w :=
  h.conv c fun e => by
    subst e
    cases l with
    | nil => rfl
    | cons b l => obtain ⟨_, _, e, _⟩ := h 0 _ rfl; cases e
theorem OwnB.made (w : World) (base : Nat) (h : base ≤ w.heap.size) : OwnB (w.alloc (.cells #[] 5)) base (.slice (some ⟨w.heap.size, 0, none⟩) 0 0) [] :=
  ⟨rfl, .inr ⟨w.heap.size, 0, #[], rfl, h, by unfold World.alloc; simp, by simp, by unfold maxLen; omega, rfl, rfl⟩⟩
theorem OwnV.nilcap {w : World} {base : Nat} {T : TypeId} {ao : Option Addr} {n c : Nat} {L : List Value} (h : OwnV w base T (.slice ao n c) L) : ao = none → c = 0 := by
  rintro rfl
  rcases h.2 with ⟨e, _⟩ | ⟨g, cap, cur, e, _⟩
  · injection e
  · injection e with e1; cases e1
theorem OwnV.cap {w : World} {base : Nat} {T : TypeId} {ao : Option Addr} {n c : Nat} {L : List Value} (h : OwnV w base T (.slice ao n c) L) : L.length ≤ c := by
  rcases h.2 with ⟨_, e⟩ | ⟨g, cap, cur, e, _, _, h4, _⟩
  · omega
  · injection e with _ _ e3
    omega
/-- bytes, checksums and records that came in. -/
structure IsB (w : World) (a : Option Addr) (len cap : Nat) (l : List UInt8) : Prop where
  hrow : RowB w a l
  hlen : l.length = len
  hmax : len ≤ maxLen
  hnil : a = none → cap = 0
  hcap : len ≤ cap ∧ cap ≤ maxLen
theorem u8_bd {a : Int} (h : (Lit.int .u8 a).wf = true) : 0 ≤ a ∧ a < 256 := by
  simp [Lit.wf, IntKind.min, IntKind.max, IntKind.signed, IntKind.bits] at h; omega
theorem lt_of_cell' {w : World} {p : Addr} {v : Value} (h : w.cell? p = some v) : p.block < w.heap.size := by
  rcases Nat.lt_or_ge p.block w.heap.size with hl | hl
  · exact hl
  · simp [World.cell?, Array.getElem?_eq_none hl] at h
/-- values at an address that came in. -/
theorem row_at {w : World} {a : Addr} {L : List Value} (h : ∀ i x, L[i]? = some x → w.cell? (a.add i) = some x) : RowV w (some a) L := by
  intro i x hx
  have h0 := h i x hx
  obtain ⟨b, off, spot⟩ := a
  cases spot with
  | none =>
    rw [addr_is] at h0
    exact ⟨b, off, rfl, lt_of_cell' h0, h0⟩
  | some s =>
    have hl : 0 < L.length := by have := (List.getElem?_eq_some_iff.1 hx).1; omega
    have hsp := World.cell?_spot (h 0 L[0] (List.getElem?_eq_getElem hl))
    simp [Addr.add] at hsp
theorem rowB_z {w : World} {A : Option Addr} {L C : Nat} {Z : List Int} (hl : L ≤ C) (hm : C ≤ maxLen) (hz : Z.length = C) (hw : ∀ n ∈ Z, (Lit.int .u8 n).wf = true) (h0 : A = none → C = 0)
    (hc : ∀ a', A = some a' → ∀ c, c < C → w.cell? (a'.add c) = some (.int .u8 (Z.getD c 0))) : ∃ l : List UInt8, RowB w A l ∧ l.length = L := by
  refine ⟨(Z.take L).map byI, ?_, by simp; omega⟩
  cases A with
  | none =>
    obtain rfl : L = 0 := by have := h0 rfl; omega
    intro i x hx; simp at hx
  | some a =>
    refine row_at fun i x hx => ?_
    rw [List.map_map, List.getElem?_map] at hx
    obtain ⟨z, hz1, rfl⟩ := Option.map_eq_some_iff.1 hx
    have hi : i < L := by have := (List.getElem?_eq_some_iff.1 hz1).1; simp at this; omega
    have hzi : Z[i]? = some z := by rw [List.getElem?_take] at hz1; rw [if_pos hi] at hz1; exact hz1
    rw [hc a rfl i (by omega), List.getD_eq_getElem?_getD, hzi]
    have := u8_bd (hw z (List.mem_of_getElem? hzi))
    show some (Value.int .u8 z) = some (byV (byI z))
    unfold byV
    rw [byI_val this.1 this.2]
section
variable {H : Type} {enc : TypeId × Value → H} {w : World} {base : Nat}
theorem rowB_of {fuel : Nat} {c : Value} {x : DataW H × List MemPlace} (h : DataW.trod enc Tryd.prog w base (fun _ => true) true fuel 59 [c] = some x) : ∃ A len cap l, c = .slice A len cap ∧ IsB w A len cap l := by
  rcases open_ints Tryd.underlying59 Tryd.underlying5 (by kernel_rfl) h with ⟨hcs, _⟩ | ⟨a, l, cc, zs, hcs, _, hl, hm, hz, _, hcell, hwz⟩
  · simp at hcs
    exact ⟨none, 0, 0, [], hcs, ⟨RowV.nil _ _, rfl, by unfold maxLen; omega, fun _ => rfl, by unfold maxLen; omega⟩⟩
  · simp at hcs
    have hz' : zs.length = cc := by simpa using hz
    obtain ⟨m, hr, hlen⟩ := rowB_z (w := w) (A := some a) hl hm hz' hwz (fun e => by cases e) (fun a' e c hc => by injection e with e; subst e; exact hcell c (by omega))
    exact ⟨some a, l, cc, m, hcs, ⟨hr, hlen, by omega, (fun e => by cases e), ⟨hl, hm⟩⟩⟩
theorem rowB_in {A : Option Addr} {len cap : Nat} {d : DataW H} {p : List MemPlace} (h : DataW.Trod enc Tryd.prog w base (fun _ => true) true 59 (.slice A len cap) d p) : ∃ l : List UInt8, IsB w A len cap l := by
  obtain ⟨fuel, hf⟩ := h
  obtain ⟨A', len', cap', l, hv, hw⟩ := rowB_of (c := .slice A len cap) hf
  injection hv with e1 e2 e3
  subst e1 e2 e3
  exact ⟨l, hw⟩
end
end Go.Proofs.YtkpdbhpmnegahaaDoor
namespace Go.Proofs.YtkpdbhpmnegahaaDoor
open Go.RowKit Go.Sort
set_option linter.unusedVariables false
set_option linter.unusedSimpArgs false

theorem own_one {w : World} {base : Nat} {T : TypeId} {v x : Value} (h : OwnV w base T v [x]) : ∃ g cap, v = .slice (some ⟨g, 0, none⟩) 1 cap ∧ 1 ≤ cap ∧ g < w.heap.size ∧ w.cell? ⟨g, 0, none⟩ = some x := by
  have h' := h
  rcases h.2 with ⟨_, e⟩ | ⟨g, cap, cur, e, _⟩
  · simp at e
  · subst e
    obtain ⟨b, off, e2, e3, e4⟩ := OwnV.row h' 0 x rfl
    have e2 := Option.some.inj e2
    injection e2 with e5 e6
    subst e5 e6
    exact ⟨g, cap, rfl, by have := OwnV.cap h'; simpa using this, e3, by simpa using e4⟩
theorem dec_lt (l : List UInt8) (h : l.all dig = true) : dec l < 10 ^ l.length := by
  have : ∀ (l : List UInt8) (n : Nat), l.all dig = true → l.foldl (fun n c => n * 10 + (c.toNat - 48)) n < (n + 1) * 10 ^ l.length := by
    intro l
    induction l with
    | nil => intro n _; simp
    | cons c l ih =>
      intro n h
      simp only [List.all_cons, Bool.and_eq_true] at h
      obtain ⟨c1, c2⟩ := dig_iff.1 h.1
      have := ih (n * 10 + (c.toNat - 48)) h.2
      simp only [List.foldl_cons, List.length_cons]
      refine Nat.lt_of_lt_of_le this ?_
      rw [Nat.pow_succ, Nat.mul_comm (10 ^ l.length) 10, ← Nat.mul_assoc]
      exact Nat.mul_le_mul_right _ (by omega)
  simpa [dec] using this l 0 h
theorem row_lit1 (w : World) (T : TypeId) (x : Value) : RowV (w.alloc (.cells #[x] T)) (some ⟨w.heap.size, 0, none⟩) [x] := by
  refine RowV.block (by simp) fun i y hy => ?_
  rw [World.cell?_alloc_at _ _ _ _ rfl, Nat.zero_add]
  simpa using hy
set_option maxRecDepth 100000 in
set_option maxHeartbeats 4000000 in
theorem readNat_any (s : ByteArray) (N : Nat) (w : World) (hNN : dec s.toList = N) (h1 : 1 ≤ s.size) (h8 : s.size ≤ 8) (hd : s.toList.all dig = true) :
    Calls Tryd.prog 72 #[.string s] w fun e w' => ∃ v, e = .returned v ∧ NatV 0 w' v N ∧ Below w.heap.size w w' := by
  obtain ⟨i0, hi, hz0, hz1, hz2⟩ := info_parts inf_int
  have hN : N < 1000000000 := by
    rw [← hNN]
    refine Nat.lt_of_lt_of_le (dec_lt _ hd) ?_
    rw [bytes_len]
    exact Nat.le_trans (Nat.pow_le_pow_right (by omega) h8) (by decide)
  have HD := Lib.hid hd
  have HNN := Lib.hid hNN
  clear hd hNN
  have hq : (s.size : Int) / 9 = 0 := by omega
  have hq2 : (s.size : Int).tdiv 9 = 0 := by rw [Int.tdiv_eq_ediv_of_nonneg (by omega)]; exact hq
  go_enter Tryd.func72, Tryd.ntmps72
  go_wp2_with (at_make; refine wpList_make_own _ rfl _ _ 112 rfl w.heap.size 3 i0 (.int .i64 0) 1 und_nat hi hz0 hz1 _ _ _ 1 rfl rfl rfl ?_ ?_ ?_ ?_)
  · rw [hz2]; omega
  · unfold maxLen; omega
  · exact Nat.le_refl _
  intro w1 hown hgr
  have HO0 := Lib.hid (show OwnV w1 w.heap.size 3 (.slice (some ⟨w.heap.size, 0, none⟩) 0 1) [] from hown)
  have HB0 := Lib.hid (show Below w.heap.size w w1 from (Below.refl _ _).grown hgr (Nat.le_refl _) (by simp))
  clear hown hgr
  go_wp2_with fail
  go_loopw [3, 4] (fun x en wr => (x = .slice (some ⟨w.heap.size, 0, none⟩) 0 1 ∧ en = .int .i64 s.size ∧ Hid (OwnV wr w.heap.size 3 (.slice (some ⟨w.heap.size, 0, none⟩) 0 1) []) ∧ Hid (Below w.heap.size w wr)) ∨ (∃ g cap, x = .slice (some ⟨g, 0, none⟩) 1 cap ∧ en = .int .i64 ((s.size : Int) - 9) ∧ 1 ≤ cap ∧ Hid (g < wr.heap.size ∧ wr.cell? ⟨g, 0, none⟩ = some (.int .i64 N)) ∧ Hid (Below w.heap.size w wr))) (fun _ en _ => (intOf en).toNat)
  case atStart => exact .inl ⟨rfl, rfl, HO0, HB0⟩
  case round =>
    rcases hrel with ⟨rfl, rfl, HO, HB⟩ | ⟨g, cap, rfl, rfl, hcap, HG, HB⟩
    · have hmx : max (0 : Int) ((s.size : Int) - 9) = 0 := by omega
      go_wp2_with fail
      go_loop [5, 6] (fun l i => ∃ k : Nat, k ≤ s.size ∧ i = .int .i64 k ∧ l = .int .i64 (dec (s.toList.take k))) (fun _ i => s.size - (intOf i).toNat)
      case atStart => exact ⟨0, Nat.zero_le _, rfl, rfl⟩
      case round =>
        obtain ⟨k, hk, rfl, rfl⟩ := hrel
        by_cases hlt : k < s.size
        · obtain ⟨d1, d2⟩ := all_at HD.out hlt
          have HS := Lib.hid (show (dec (s.toList.take (k + 1)) : Int) = (dec (s.toList.take k) : Int) * 10 + ((s[k].toNat : Int) - 48) by rw [take_snoc s k hlt, dec_snoc]; omega)
          have hle := dec_take s.toList k
          rw [HNN.out] at hle
          generalize dec (s.toList.take k) = M at *
          go_wp2
          go_round
          case rel => exact ⟨k + 1, by omega, by go_num, by rw [HS.out]⟩
          case measure => simp [intOf]; omega
        · obtain rfl : k = s.size := by omega
          have e1 : s.toList.take s.size = s.toList := val_all (by omega)
          rw [e1, HNN.out]
          clear e1
          have HR := Lib.hid (fun T => row_lit1 wr T (.int .i64 N))
          go_wp2_with (at_builtin; refine wpList_vals und_nat inf_int rfl (by omega) rfl (.tmp 34) (.tmp 36) rfl w.heap.size _ [] [.int .i64 N] rfl (OwnV.below HO.out ((Below.refl _ _).alloc (Nat.le_refl _) _)) (some ⟨wr.heap.size, 0, none⟩) 1 rfl (fun e => by cases e) (HR.out _) (by intro y hy; simp at hy; subst hy; rfl) (by simp) (by have := HB.out.size; simp; omega) ?_; intro v' w2 hown hbel; have HV := Lib.hid (own_one hown); have HB2 := Lib.hid (HB.out.trans (((Below.refl _ _).alloc HB.out.size _).trans hbel)); clear hown hbel; obtain ⟨g, cap, rfl, hc2, hg1, hg2⟩ := HV.out; have HG2 := Lib.hid (And.intro hg1 hg2); clear hg1 hg2 HV)
          go_roundw
          case rel => exact .inr ⟨g, cap, rfl, by go_num, hc2, HG2, HB2⟩
          case measure => simp [intOf]; omega
    · have HT := Lib.hid (trim_one g cap N 0 wr (Nat.zero_le _) hcap HG.out.2 HG.out.1 hN)
      have hneg : ¬ (0 : Int) < (s.size : Int) - 9 := by omega
      go_wp2_with fail
      refine HT.out.mono ?_
      rintro e w2 ⟨v, rfl, hv, rfl⟩
      go_wp2
      go_ret
      exact ⟨v, rfl, hv, HB.out⟩
set_option maxHeartbeats 4000000 in
theorem leading_any (s : ByteArray) (k : Nat) (A B : ByteArray) (w : World) (hs : s.size ≤ 100) (hk : k ≤ s.size) (hA : s.extract 0 k = A) (hB : s.extract k s.size = B)
    (h1 : ∀ j, j < k → ∀ hj : j < s.size, dig s[j] = true) (h2 : ∀ hk : k < s.size, dig s[k] = false) :
    Calls Tryd.prog 85 #[.string s] w fun e w' => e = .returned (.tuple #[.string A, .string B]) ∧ Below w.heap.size w w' := by
  have H1 := Lib.hid h1
  have H2 := Lib.hid h2
  have HA := Lib.hid hA
  have HB := Lib.hid hB
  clear h1 h2 hA hB
  go_enter Tryd.func85, Tryd.ntmps85
  go_wp2
  go_loop [4] (fun i => ∃ j : Nat, j ≤ k ∧ i = .int .i64 j) (fun i => s.size - (intOf i).toNat)
  case atStart => exact ⟨0, Nat.zero_le _, rfl⟩
  case round =>
    obtain ⟨j, hj, rfl⟩ := hrel
    by_cases hlt : j < k
    · have hjs : j < s.size := by omega
      obtain ⟨d1, d2⟩ := dig_iff.1 (H1.out j hlt hjs)
      go_wp2
      go_round
      case rel => exact ⟨j + 1, by omega, by go_num⟩
      case measure => simp [intOf]; omega
    · obtain rfl : j = k := by omega
      by_cases he : j < s.size
      · have hd := H2.out he
        by_cases h48 : 48 ≤ (s[j].toNat : Int)
        · have h57 : ¬ (s[j].toNat : Int) ≤ 57 := fun q => by rw [dig_iff.2 ⟨h48, q⟩] at hd; cases hd
          clear hd
          go_wp2_with fail
          go_quiet (fail)
          go_wp2
          go_ret2
          exact ⟨by rw [← HA.out, ← HB.out]; rfl, below_drewN (Below.refl _ _) _⟩
        · clear hd
          go_wp2_with fail
          go_quiet (fail)
          go_wp2
          go_ret2
          exact ⟨by rw [← HA.out, ← HB.out]; rfl, below_drewN (Below.refl _ _) _⟩
      · obtain rfl : j = s.size := by omega
        have EA := Lib.hid (show A = s by rw [← HA.out]; simp)
        have EB := Lib.hid (show B = ByteArray.empty by rw [← HB.out]; simp)
        go_wp2_with fail
        go_quiet (fail)
        go_wp2
        go_ret2
        exact ⟨by rw [EA.out, EB.out]; rfl, below_drewN (Below.refl _ _) _⟩
theorem lead_a (w : World) : Calls Tryd.prog 85 #[.string ⟨#[48, 46, 50, 53]⟩] w fun e w' => e = .returned (.tuple #[.string ⟨#[48]⟩, .string ⟨#[46, 50, 53]⟩]) ∧ Below w.heap.size w w' :=
  leading_any _ 1 _ _ w (by decide) (by decide) (by decide +kernel) (by decide +kernel) (fun j h hj => by match j, h with | 0, _ => exact (by decide : dig 48 = true)) (fun _ => (by decide : dig 46 = false))
theorem lead_b (w : World) : Calls Tryd.prog 85 #[.string ⟨#[50, 53]⟩] w fun e w' => e = .returned (.tuple #[.string ⟨#[50, 53]⟩, .string ⟨#[]⟩]) ∧ Below w.heap.size w w' :=
  leading_any _ 2 _ _ w (by decide) (by decide) (by decide +kernel) (by decide +kernel) (fun j h hj => by match j, h with | 0, _ => exact (by decide : dig 50 = true) | 1, _ => exact (by decide : dig 53 = true)) (fun h => absurd h (by decide))
theorem lead_c (w : World) : Calls Tryd.prog 85 #[.string ⟨#[48]⟩] w fun e w' => e = .returned (.tuple #[.string ⟨#[48]⟩, .string ⟨#[]⟩]) ∧ Below w.heap.size w w' :=
  leading_any _ 1 _ _ w (by decide) (by decide) (by decide +kernel) (by decide +kernel) (fun j h hj => by match j, h with | 0, _ => exact (by decide : dig 48 = true)) (fun h => absurd h (by decide))
end Go.Proofs.YtkpdbhpmnegahaaDoor
namespace Go.Proofs.YtkpdbhpmnegahaaDoor
set_option linter.unusedVariables false
set_option linter.unusedSimpArgs false

def lv : List Nat → Nat
  | [] => 0
  | x :: l => x + 1000000000 * lv l
theorem lv_snoc : ∀ (l : List Nat) (x : Nat), lv (l ++ [x]) = lv l + x * 1000000000 ^ l.length
  | [], x => by simp [lv]
  | y :: l, x => by
    simp only [List.cons_append, lv, List.length_cons]
    rw [lv_snoc l x, Nat.pow_succ, Nat.mul_add]
    have : 1000000000 * (x * 1000000000 ^ l.length) = x * (1000000000 ^ l.length * 1000000000) := by
      rw [Nat.mul_comm 1000000000, Nat.mul_assoc]
    omega
def Lim (l : List Nat) : Prop := ∀ x ∈ l, x < 1000000000
theorem Lim.at {l : List Nat} (h : Lim l) {k : Nat} (hk : k < l.length) : l[k] < 1000000000 := h _ (List.getElem_mem hk)
theorem Lim.take {l : List Nat} (h : Lim l) (k : Nat) : Lim (l.take k) := fun x hx => h x (List.mem_of_mem_take hx)
theorem Lim.snoc {l : List Nat} (h : Lim l) {x : Nat} (hx : x < 1000000000) : Lim (l ++ [x]) := fun y hy => by
  rcases List.mem_append.1 hy with q | q
  · exact h y q
  · rw [List.mem_singleton.1 q]; exact hx
theorem lv_lt : ∀ {l : List Nat}, Lim l → lv l < 1000000000 ^ l.length
  | [], _ => by simp [lv]
  | y :: l, h => by
    have h1 := lv_lt (l := l) (fun x hx => h x (List.mem_cons_of_mem _ hx))
    have h2 := h y List.mem_cons_self
    simp only [lv, List.length_cons, Nat.pow_succ]
    have : 1000000000 * (lv l + 1) ≤ 1000000000 ^ l.length * 1000000000 := by rw [Nat.mul_comm _ 1000000000]; exact Nat.mul_le_mul_left _ h1
    omega
theorem lv_next {l : List Nat} {i : Nat} (h : i < l.length) : lv (l.take (i + 1)) = lv (l.take i) + l[i] * 1000000000 ^ i := by
  rw [List.take_succ_eq_append_getElem h, lv_snoc, List.length_take, Nat.min_eq_left (by omega)]
def Nrm (l : List Nat) : Prop := ∀ h : 0 < l.length, l[l.length - 1] ≠ 0
theorem nrm_nil : Nrm [] := fun h => absurd h (by simp)
theorem lv_ge {l : List Nat} (hn : Nrm l) (h : 0 < l.length) : 1000000000 ^ (l.length - 1) ≤ lv l := by
  have e := lv_next (l := l) (i := l.length - 1) (by omega)
  rw [show l.length - 1 + 1 = l.length by omega, List.take_length] at e
  have h1 := hn h
  have : 1 * 1000000000 ^ (l.length - 1) ≤ l[l.length - 1] * 1000000000 ^ (l.length - 1) := Nat.mul_le_mul_right _ (by omega)
  omega
theorem lv_pos {l : List Nat} (hn : Nrm l) (h : 0 < l.length) : 0 < lv l := Nat.lt_of_lt_of_le (Nat.pow_pos (by omega)) (lv_ge hn h)
theorem len_pos {l : List Nat} (h : 0 < lv l) : 0 < l.length := by
  cases l with
  | nil => simp [lv] at h
  | cons x l => simp
theorem lv_nil {l : List Nat} (h : l.length = 0) : lv l = 0 := by rw [List.length_eq_zero_iff.1 h]; rfl
theorem lv_short {x y : List Nat} (hx : Lim x) (hy : Nrm y) (h : x.length < y.length) : lv x < lv y := by
  have h1 := lv_lt hx
  have h2 := lv_ge hy (by omega)
  have h3 : (1000000000 : Nat) ^ x.length ≤ 1000000000 ^ (y.length - 1) := Nat.pow_le_pow_right (by omega) (by omega)
  omega
/-! trim -/
theorem trim_step {l : List Nat} {k : Nat} (hk : k < l.length) (h : l[k] = 0) (e : lv (l.take (k + 1)) = lv l) : lv (l.take k) = lv l := by
  rw [lv_next hk, h] at e; omega
theorem trim_end {l : List Nat} {k : Nat} (hk : k ≤ l.length) (h : ∀ h0 : 0 < k, l[k - 1] ≠ 0) : Nrm (l.take k) := by
  intro h0
  rw [List.length_take, Nat.min_eq_left hk] at h0
  simp only [List.length_take, Nat.min_eq_left hk, List.getElem_take]
  exact h h0
/-! subtraction -/
/-- after i limbs: what is written, and what is borrowed. -/
def SubI (x y r : List Nat) (q : Nat) (i : Nat) (br : Int) : Prop := (lv r : Int) = lv (x.take i) - q * lv (y.take i) + br * (1000000000 : Int) ^ i
theorem sub_start (x y : List Nat) (q : Nat) : SubI x y [] q 0 0 := by simp [SubI, lv]
theorem sub_in {x y r : List Nat} {q i : Nat} {br br2 : Int} {v : Nat} (h : SubI x y r q i br) (hr : r.length = i) (hx : i < x.length) (hy : i < y.length) (hv : (v : Int) = x[i] - br - q * y[i] + br2 * 1000000000) : SubI x y (r ++ [v]) q (i + 1) br2 := by
  unfold SubI at *
  rw [lv_snoc, lv_next hx, lv_next hy, hr]
  simp only [Int.natCast_add, Int.natCast_mul, Int.natCast_pow, Int.pow_succ]
  rw [h, hv]
  generalize ((1000000000 : Nat) : Int) ^ i = P
  have : (1000000000 : Int) ^ i = P ∨ True := .inr trivial
  grind
theorem sub_out {x y r : List Nat} {q i : Nat} {br br2 : Int} {v : Nat} (h : SubI x y r q i br) (hr : r.length = i) (hx : i < x.length) (hy : ¬ i < y.length) (hv : (v : Int) = x[i] - br + br2 * 1000000000) : SubI x y (r ++ [v]) q (i + 1) br2 := by
  unfold SubI at *
  rw [lv_snoc, lv_next hx, List.take_of_length_le (show y.length ≤ i + 1 by omega), hr]
  rw [List.take_of_length_le (show y.length ≤ i by omega)] at h
  simp only [Int.natCast_add, Int.natCast_mul, Int.natCast_pow, Int.pow_succ]
  rw [h, hv]
  grind
theorem sub_end {x y r : List Nat} {q : Nat} {br : Int} (h : SubI x y r q x.length br) (hr : r.length = x.length) (hl : Lim r) (hy : y.length ≤ x.length) (hb : 0 ≤ br) : (br = 0 → q * lv y ≤ lv x ∧ lv r = lv x - q * lv y) ∧ (br ≠ 0 → lv x < q * lv y) := by
  unfold SubI at h
  rw [List.take_length, List.take_of_length_le hy] at h
  have h1 := lv_lt hl
  rw [hr] at h1
  have h2 : ((lv r : Nat) : Int) < (1000000000 : Int) ^ x.length := by
    have q := Int.ofNat_lt.2 h1
    rw [Int.natCast_pow] at q
    exact q
  have e : ((q * lv y : Nat) : Int) = (q : Int) * lv y := by simp
  constructor
  · intro h0
    subst h0
    rw [Int.zero_mul] at h
    omega
  · intro h0
    have h3 : (1000000000 : Int) ^ x.length ≤ br * (1000000000 : Int) ^ x.length := by
      have h4 : 0 ≤ (1000000000 : Int) ^ x.length := Int.le_of_lt (Int.pow_pos (by omega))
      have := Int.mul_le_mul_of_nonneg_right (show 1 ≤ br by omega) h4
      omega
    omega
/-! digits in limbs -/
theorem dec_append (a b : List UInt8) : dec (a ++ b) = dec a * 10 ^ b.length + dec b := by
  have : ∀ (b : List UInt8) (n : Nat), b.foldl (fun n c => n * 10 + (c.toNat - 48)) n = n * 10 ^ b.length + b.foldl (fun n c => n * 10 + (c.toNat - 48)) 0 := by
    intro b
    induction b with
    | nil => intro n; simp
    | cons c b ih =>
      intro n
      simp only [List.foldl_cons, List.length_cons]
      rw [ih (n * 10 + (c.toNat - 48)), ih (0 * 10 + (c.toNat - 48)), Nat.zero_mul, Nat.zero_add, Nat.pow_succ, Nat.add_mul]
      have : n * 10 * 10 ^ b.length = n * (10 ^ b.length * 10) := by rw [Nat.mul_assoc, Nat.mul_comm 10]
      omega
  unfold dec
  rw [List.foldl_append, this]
theorem pow9 (j : Nat) : (1000000000 : Nat) ^ j = 10 ^ (9 * j) := by rw [Nat.pow_mul]
end Go.Proofs.YtkpdbhpmnegahaaDoor
namespace Go.Proofs.YtkpdbhpmnegahaaDoor
set_option linter.unusedVariables false
set_option linter.unusedSimpArgs false

/-- n/d in lowest terms, if both parts are small. -/
def rdO (n d : Nat) : Option (Nat × Nat) := if n / Nat.gcd n d ≤ 1000000 ∧ d / Nat.gcd n d ≤ 1000000 then some (n / Nat.gcd n d, d / Nat.gcd n d) else none
structure CfI (n d a b p q r t : Nat) : Prop where
  hn : n = r * a + p * b
  hd : d = t * a + q * b
  det : (r : Int) * q - p * t = 1 ∨ (r : Int) * q - p * t = -1
theorem cf_start (n d : Nat) : CfI n d n d 0 1 1 0 := ⟨by omega, by omega, by left; simp⟩
theorem cf_step {n d a b p q r t : Nat} (h : CfI n d a b p q r t) : CfI n d b (a % b) r t (a / b * r + p) (a / b * t + q) := by
  have e := Nat.div_add_mod a b
  generalize a / b = D at *
  generalize a % b = R at *
  obtain ⟨h1, h2, h3⟩ := h
  subst e
  refine ⟨?_, ?_, ?_⟩
  · rw [h1]; grind
  · rw [h2]; grind
  · rcases h3 with h3 | h3
    · right; simp only [Int.natCast_add, Int.natCast_mul]; grind
    · left; simp only [Int.natCast_add, Int.natCast_mul]; grind
theorem gcd_dvd {n d a b p q r t : Nat} (h : CfI n d a b p q r t) : Nat.gcd n d ∣ a ∧ Nat.gcd n d ∣ b := by
  obtain ⟨h1, h2, h3⟩ := h
  have g1 : ((Nat.gcd n d : Nat) : Int) ∣ (n : Int) := Int.natCast_dvd_natCast.2 (Nat.gcd_dvd_left n d)
  have g2 : ((Nat.gcd n d : Nat) : Int) ∣ (d : Int) := Int.natCast_dvd_natCast.2 (Nat.gcd_dvd_right n d)
  generalize Nat.gcd n d = g at *
  have e1 : (n : Int) = r * a + p * b := by rw [h1]; simp
  have e2 : (d : Int) = t * a + q * b := by rw [h2]; simp
  have c1 : (n : Int) * q - d * p = (r * q - p * t) * a := by rw [e1, e2]; grind
  have c2 : (d : Int) * r - n * t = (r * q - p * t) * b := by rw [e1, e2]; grind
  have d1 : (g : Int) ∣ (n : Int) * q - d * p := Int.dvd_sub (Int.dvd_trans g1 (Int.dvd_mul_right _ _)) (Int.dvd_trans g2 (Int.dvd_mul_right _ _))
  have d2 : (g : Int) ∣ (d : Int) * r - n * t := Int.dvd_sub (Int.dvd_trans g2 (Int.dvd_mul_right _ _)) (Int.dvd_trans g1 (Int.dvd_mul_right _ _))
  rw [c1] at d1
  rw [c2] at d2
  rcases h3 with h3 | h3
  · rw [h3, Int.one_mul] at d1 d2
    exact ⟨Int.natCast_dvd_natCast.1 d1, Int.natCast_dvd_natCast.1 d2⟩
  · rw [h3, show (-1 : Int) * a = -a by omega] at d1
    rw [h3, show (-1 : Int) * b = -b by omega] at d2
    exact ⟨Int.natCast_dvd_natCast.1 (Int.dvd_neg.1 d1), Int.natCast_dvd_natCast.1 (Int.dvd_neg.1 d2)⟩
theorem cf_end {n d a p q r t : Nat} (h : CfI n d a 0 p q r t) (hd : 0 < d) : n / Nat.gcd n d = r ∧ d / Nat.gcd n d = t := by
  have hg := (gcd_dvd h).1
  have h1 : n = r * a := by have := h.hn; omega
  have h2 : d = t * a := by have := h.hd; omega
  have ha : 0 < a := by
    rcases Nat.eq_zero_or_pos a with z | z
    · rw [z] at h2; omega
    · exact z
  have e : Nat.gcd n d = a := Nat.dvd_antisymm hg (Nat.dvd_gcd (by rw [h1]; exact Nat.dvd_mul_left _ _) (by rw [h2]; exact Nat.dvd_mul_left _ _))
  rw [e]
  refine ⟨?_, ?_⟩
  · rw [h1]; exact Nat.mul_div_cancel _ ha
  · rw [h2]; exact Nat.mul_div_cancel _ ha
theorem cf_done {n d a p q r t : Nat} (h : CfI n d a 0 p q r t) (hd : 0 < d) (h1 : r ≤ 1000000) (h2 : t ≤ 1000000) : rdO n d = some (r, t) := by
  obtain ⟨e1, e2⟩ := cf_end h hd
  unfold rdO
  rw [e1, e2, if_pos ⟨h1, h2⟩]
theorem cf_big {n d a b p q r t D : Nat} (h : CfI n d a b p q r t) (hb : 0 < b) (hD : D ≤ a / b) (hm : 1000000 < D * r + p ∨ 1000000 < D * t + q) : rdO n d = none := by
  have h' := cf_step h
  have hg := (gcd_dvd h').1
  have hle := Nat.le_of_dvd hb hg
  have hn := h'.hn
  have hd := h'.hd
  have m1 : D * r ≤ a / b * r := Nat.mul_le_mul_right _ hD
  have m2 : D * t ≤ a / b * t := Nat.mul_le_mul_right _ hD
  have m3 : D * r + p ≤ a / b * r + p := by omega
  have m4 : D * t + q ≤ a / b * t + q := by omega
  clear m1 m2
  generalize a / b * r + p = R at *
  generalize a / b * t + q = T at *
  generalize a % b = c at *
  generalize hge : Nat.gcd n d = g at *
  unfold rdO
  rw [hge]
  have hgp : 0 < g := by
    rcases Nat.eq_zero_or_pos g with z | z
    · subst z
      have := Nat.zero_dvd.1 hg
      omega
    · exact z
  have k1 : R ≤ n / g := by
    rw [Nat.le_div_iff_mul_le hgp]
    have : R * g ≤ R * b := Nat.mul_le_mul_left _ hle
    omega
  have k2 : T ≤ d / g := by
    rw [Nat.le_div_iff_mul_le hgp]
    have : T * g ≤ T * b := Nat.mul_le_mul_left _ hle
    omega
  rw [if_neg (by omega)]
theorem cf_one {n d a b p q r t : Nat} (h : CfI n d a b p q r t) : 1 ≤ r ∨ 1 ≤ t := by
  rcases Nat.eq_zero_or_pos r with z | z
  · rcases Nat.eq_zero_or_pos t with y | y
    · have := h.det; rw [z, y] at this; simp at this
    · exact .inr y
  · exact .inl z
theorem cf_cap {n d a b p q r t : Nat} (h : CfI n d a b p q r t) : 1000000 < 1000001 * r + p ∨ 1000000 < 1000001 * t + q := by
  rcases cf_one h with z | z
  · left; omega
  · right; omega
theorem rdO_copr {n d x y : Nat} (hd : 0 < d) (h : rdO n d = some (x, y)) : Nat.gcd x y = 1 ∧ x ≤ 1000000 ∧ 1 ≤ y ∧ y ≤ 1000000 ∧ n * y = d * x := by
  unfold rdO at h
  by_cases hc : n / Nat.gcd n d ≤ 1000000 ∧ d / Nat.gcd n d ≤ 1000000
  · rw [if_pos hc] at h
    have h := Option.some.inj h
    have e1 : n / Nat.gcd n d = x := congrArg Prod.fst h
    have e2 : d / Nat.gcd n d = y := congrArg Prod.snd h
    have hg : 0 < Nat.gcd n d := Nat.gcd_pos_of_pos_right _ hd
    have c : Nat.gcd (n / Nat.gcd n d) (d / Nat.gcd n d) = 1 := by rw [Nat.gcd_div (Nat.gcd_dvd_left n d) (Nat.gcd_dvd_right n d)]; exact Nat.div_self hg
    rw [e1, e2] at c
    have q1 : x * Nat.gcd n d = n := by rw [← e1]; exact Nat.div_mul_cancel (Nat.gcd_dvd_left n d)
    have q2 : y * Nat.gcd n d = d := by rw [← e2]; exact Nat.div_mul_cancel (Nat.gcd_dvd_right n d)
    refine ⟨c, by omega, ?_, by omega, ?_⟩
    · rcases Nat.eq_zero_or_pos y with z | z
      · rw [z] at q2; omega
      · exact z
    · generalize Nat.gcd n d = g at *
      subst q1 q2
      grind
  · rw [if_neg hc] at h; cases h
end Go.Proofs.YtkpdbhpmnegahaaDoor
namespace Go.Proofs.YtkpdbhpmnegahaaDoor
open Go.RowKit Go.Sort
set_option linter.unusedVariables false
set_option linter.unusedSimpArgs false

theorem PaV.congr2 {w : World} {P n : Nat} {f g : Nat → Value} (h : PaV w P n f) (e : ∀ t, t < n → f t = g t) : PaV w P n g := ⟨h.1, fun t ht => by rw [← e t ht]; exact h.2 t ht⟩
/-- the limbs l lie in block B. -/
def Lbs (w : World) (B : Nat) (l : List Nat) : Prop := B < w.heap.size ∧ ∀ k, (h : k < l.length) → w.cell? ⟨B, k, none⟩ = some (.int .i64 (l[k] : Nat))
theorem Lbs.below {w w' : World} {B : Nat} {l : List Nat} (h : Lbs w B l) (hb : Below w.heap.size w w') : Lbs w' B l :=
  ⟨Nat.lt_of_lt_of_le h.1 hb.size, fun k hk => by rw [hb.cell h.1]; exact h.2 k hk⟩
theorem Lbs.take {w : World} {B : Nat} {l : List Nat} (h : Lbs w B l) (n : Nat) : Lbs w B (l.take n) :=
  ⟨h.1, fun k hk => by rw [List.getElem_take]; exact h.2 k (by rw [List.length_take] at hk; omega)⟩
/-- a number: its limbs, the block of which S tells. -/
def NatW (S : Nat → Prop) (w : World) (v : Value) (l : List Nat) : Prop :=
  Lim l ∧ Nrm l ∧ l.length ≤ 20 ∧ ∃ ao c, v = .slice ao l.length c ∧ l.length ≤ c ∧ (0 < l.length → ∃ B, S B ∧ ao = some ⟨B, 0, none⟩ ∧ Lbs w B l)
theorem NatW.below {S : Nat → Prop} {w w' : World} {v : Value} {l : List Nat} (h : NatW S w v l) (hb : Below w.heap.size w w') : NatW S w' v l := by
  obtain ⟨h1, h2, h3, ao, c, h4, h5, h6⟩ := h
  refine ⟨h1, h2, h3, ao, c, h4, h5, fun h0 => ?_⟩
  obtain ⟨B, s, e, hl⟩ := h6 h0
  exact ⟨B, s, e, hl.below hb⟩
theorem NatW.imp {S S' : Nat → Prop} {w : World} {v : Value} {l : List Nat} (h : NatW S w v l) (hs : ∀ B, S B → S' B) : NatW S' w v l := by
  obtain ⟨h1, h2, h3, ao, c, h4, h5, h6⟩ := h
  refine ⟨h1, h2, h3, ao, c, h4, h5, fun h0 => ?_⟩
  obtain ⟨B, s, e, hl⟩ := h6 h0
  exact ⟨B, hs B s, e, hl⟩
theorem NatW.set {S : Nat → Prop} {w : World} {v : Value} {l : List Nat} (h : NatW S w v l) (p : Addr) (hp : ¬ S p.block) (x : Value) : NatW S (w.setCell p x) v l := by
  obtain ⟨h1, h2, h3, ao, c, h4, h5, h6⟩ := h
  refine ⟨h1, h2, h3, ao, c, h4, h5, fun h0 => ?_⟩
  obtain ⟨B, s, e, hl⟩ := h6 h0
  exact ⟨B, s, e, by simpa using hl.1, fun k hk => by rw [World.cell?_setCell_other _ _ _ _ (by intro q; subst q; exact hp s)]; exact hl.2 k hk⟩
theorem natW_nil (S : Nat → Prop) (w : World) (ao : Option Addr) (c : Nat) : NatW S w (.slice ao 0 c) [] := ⟨fun x h => by simp at h, nrm_nil, by simp, ao, c, rfl, by simp, fun h => absurd h (by simp)⟩
def slLen2 : Value → Nat
  | .slice _ n _ => n
  | _ => 0
set_option maxHeartbeats 1000000 in
theorem trim_gen (B c : Nat) (l : List Nat) (w : World) (hc : l.length ≤ c) (hl : Lbs w B l) (hn : l.length ≤ 20) :
    Calls Tryd.prog 87 #[.slice (some ⟨B, 0, none⟩) l.length c] w fun e w' => (∃ k, k ≤ l.length ∧ e = .returned (.slice (some ⟨B, 0, none⟩) k c) ∧ lv (l.take k) = lv l ∧ Nrm (l.take k)) ∧ w = w' := by
  have HL := Lib.hid hl
  clear hl
  go_enter Tryd.func87, Tryd.ntmps87
  go_wp2
  go_loop [0] (fun x => ∃ k : Nat, k ≤ l.length ∧ x = .slice (some ⟨B, 0, none⟩) k c ∧ Hid (lv (l.take k) = lv l)) (fun x => slLen2 x)
  case atStart => exact ⟨l.length, Nat.le_refl _, rfl, Lib.hid (by rw [List.take_length])⟩
  case round =>
    obtain ⟨k, hk, rfl, HV⟩ := hrel
    rcases Nat.eq_zero_or_pos k with h0 | h0
    · subst h0
      have HE := Lib.hid (trim_end (l := l) (Nat.zero_le _) (fun h => absurd h (by omega)))
      go_wp2
      go_ret
      exact ⟨⟨0, Nat.zero_le _, rfl, HV.out, HE.out⟩, rfl⟩
    · obtain ⟨j, hj⟩ : ∃ j, k = j + 1 := ⟨k - 1, by omega⟩
      subst hj
      have hjl : j < l.length := by omega
      have hjn : ((j + 1 : Nat) : Int) - 1 = (j : Int) := by omega
      have hjn2 : ((j : Int) + 1) - 1 = (j : Int) := by omega
      have h0' : (0 : Int) < ((j + 1 : Nat) : Int) := by omega
      have hjc : (j : Int) < ((j + 1 : Nat) : Int) := by omega
      have cj := HL.out.2 j hjl
      by_cases hz : l[j] = 0
      · have HV2 := Lib.hid (trim_step hjl hz HV.out)
        have hz' : (((l[j] : Nat) : Int) == 0) = true := by rw [hz]; rfl
        generalize ((l[j] : Nat) : Int) = z at *
        go_wp2
        go_round
        case rel => exact ⟨j, by omega, by first | rfl | (simp; done), HV2⟩
        case measure => simp [slLen2]
      · have HE := Lib.hid (trim_end (l := l) (k := j + 1) hk (fun _ => by simpa using hz))
        have hz' : (((l[j] : Nat) : Int) == 0) = false := by simp; omega
        generalize ((l[j] : Nat) : Int) = z at *
        go_wp2
        go_ret
        exact ⟨⟨j + 1, hk, rfl, HV.out, HE.out⟩, rfl⟩
theorem trim_nat (S : Nat → Prop) (B c : Nat) (l : List Nat) (w : World) (hS : S B) (hm : Lim l) (hc : l.length ≤ c) (hl : Lbs w B l) (hn : l.length ≤ 20) :
    Calls Tryd.prog 87 #[.slice (some ⟨B, 0, none⟩) l.length c] w fun e w' => ∃ v l', e = .returned v ∧ NatW S w' v l' ∧ lv l' = lv l ∧ w = w' := by
  refine (trim_gen B c l w hc hl hn).mono ?_
  rintro e w' ⟨⟨k, hk, rfl, h1, h2⟩, rfl⟩
  have hlen : (l.take k).length = k := by rw [List.length_take]; omega
  refine ⟨_, l.take k, rfl, ⟨hm.take k, h2, by omega, some ⟨B, 0, none⟩, c, by rw [hlen], by omega, fun _ => ⟨B, hS, rfl, hl.take k⟩⟩, h1, rfl⟩
/-- what subtract leaves of a - m: a number, or nothing. -/
def SubQ (w : World) (a m : Nat) (e : Ending) (w' : World) : Prop :=
  (∃ v, e = .returned (.tuple #[v, .bool (decide (m ≤ a))]) ∧ (m ≤ a → ∃ l, NatW (fun B => w.heap.size ≤ B) w' v l ∧ lv l = a - m)) ∧ Below w.heap.size w w'
theorem getD_snoc (r : List Nat) (v t : Nat) (h : t ≠ r.length) : (r ++ [v]).getD t 0 = r.getD t 0 := by
  rcases Nat.lt_or_ge t r.length with q | q
  · simp [List.getD, List.getElem?_append_left q]
  · have : r.length < t := by omega
    simp [List.getD, List.getElem?_eq_none (show (r ++ [v]).length ≤ t by simp; omega), List.getElem?_eq_none (show r.length ≤ t by omega)]
theorem getD_last (r : List Nat) (v : Nat) : (r ++ [v]).getD r.length 0 = v := by simp [List.getD]
theorem lbs_of {w : World} {P n : Nat} {r : List Nat} (h : PaV w P n (fun t => .int .i64 ((r.getD t 0 : Nat) : Int))) (hr : r.length = n) : Lbs w P r :=
  ⟨h.1, fun k hk => by rw [(h.2 k (by omega)).1]; simp [List.getD, hk]⟩
set_option maxRecDepth 100000 in
set_option maxHeartbeats 8000000 in
theorem subtract_gen (X Y cx cy n m : Nat) (x y : List Nat) (q : Nat) (w : World) (ex : x.length = n) (ey : y.length = m) (lx : Lim x) (ly : Lim y) (hm1 : m ≤ n) (hn1 : n ≤ 20) (hq : q ≤ 1000001) (hX : Lbs w X x) (hY : Lbs w Y y) :
    Calls Tryd.prog 99 #[.slice (some ⟨X, 0, none⟩) n cx, .slice (some ⟨Y, 0, none⟩) m cy, .int .i64 q] w (SubQ w (lv x) (q * lv y)) := by
  obtain ⟨i0, hi, hz0, hz1, hz2⟩ := info_parts inf_int
  have HX := Lib.hid hX
  have HY := Lib.hid hY
  have HLx := Lib.hid lx
  have HLy := Lib.hid ly
  have HEx := Lib.hid ex
  have HEy := Lib.hid ey
  clear hX hY lx ly ex ey
  go_enter Tryd.func99, Tryd.ntmps99
  go_wp2_with (at_make; refine wpList_make_full _ rfl _ _ 112 rfl w.heap.size 3 i0 (.int .i64 0) 1 und_nat hi hz0 hz1 _ _ _ _ n rfl rfl rfl rfl ?_ ?_ ?_ ?_)
  any_goals (first | (rw [hz2]; omega) | omega | (unfold maxLen; omega) | exact Nat.le_refl _)
  intro w1 hown hgr
  have HP0 := Lib.hid (PaV.made (w := w1) (base := w.heap.size) (P := w.heap.size) (n := n) (T := 3) (z := .int .i64 0) (by rw [Nat.mul_one]; exact hown))
  have HB0 := Lib.hid (show Below w.heap.size w w1 from (Below.refl _ _).grown hgr (Nat.le_refl _) (by simp))
  clear hown hgr
  go_wp2_with fail
  go_loopw [8, 16] (fun b i wr => ∃ (k : Nat) (br : Int) (r : List Nat), k ≤ n ∧ i = .int .i64 k ∧ b = .int .i64 br ∧ 0 ≤ br ∧ br ≤ 1000002 ∧ Hid (r.length = k ∧ Lim r ∧ SubI x y r q k br) ∧ Hid (PaV wr w.heap.size n (fun t => .int .i64 ((r.getD t 0 : Nat) : Int))) ∧ Hid (Below w.heap.size w wr)) (fun _ i _ => n - (intOf i).toNat)
  case atStart => exact ⟨0, 0, [], Nat.zero_le _, rfl, rfl, by omega, by omega, Lib.hid ⟨rfl, fun x h => by simp at h, sub_start x y q⟩, Lib.hid (HP0.out.congr2 fun t _ => by simp [List.getD]), HB0⟩
  case round =>
    clear HP0 HB0
    obtain ⟨k, br, r, hk, rfl, rfl, b0, b1, HS, HP, HB⟩ := hrel
    by_cases h : k < n
    · have h' : (k : Int) < (n : Int) := by omega
      have kx : k < x.length := by rw [HEx.out]; exact h
      have cx1 : wr.cell? ⟨X, k, none⟩ = some (.int .i64 ((x[k] : Nat) : Int)) := by rw [HB.out.cell HX.out.1]; exact HX.out.2 k kx
      have xk := HLx.out.at kx
      have p0 : wr.cell? ⟨w.heap.size, k, none⟩ = some (.int .i64 ((r.getD k 0 : Nat) : Int)) := (HP.out.2 k h).1
      have p1 := (HP.out.2 k h).2
      have HSt := Lib.hid (fun (v : Nat) => show PaV (wr.setCell ⟨w.heap.size, k, none⟩ (.int .i64 ((v : Nat) : Int))) w.heap.size n (fun t => .int .i64 (((r ++ [v]).getD t 0 : Nat) : Int)) by
        have hr := HS.out.1
        have q := HP.out.set (g := fun t => .int .i64 (((r ++ [v]).getD t 0 : Nat) : Int)) k h (fun t ht e => by rw [getD_snoc r v t (by omega)])
        rw [show (r ++ [v]).getD k 0 = v by rw [← hr]; exact getD_last r v] at q
        exact q)
      have HBt := Lib.hid (fun (v : Nat) => HB.out.setCell (p := ⟨w.heap.size, k, none⟩) (Nat.le_refl _) (.int .i64 ((v : Nat) : Int)))
      by_cases hy : k < m
      · have hy' : (k : Int) < (m : Int) := by omega
        have ky : k < y.length := by rw [HEy.out]; exact hy
        have cy1 : wr.cell? ⟨Y, k, none⟩ = some (.int .i64 ((y[k] : Nat) : Int)) := by rw [HB.out.cell HY.out.1]; exact HY.out.2 k ky
        have yk := HLy.out.at ky
        obtain ⟨mm, hmm⟩ : ∃ mm : Int, (q : Int) * ((y[k] : Nat) : Int) = mm := ⟨_, rfl⟩
        have mm0 : 0 ≤ mm := by rw [← hmm]; exact Int.mul_nonneg (by omega) (by omega)
        have mm1 : mm ≤ 1000001 * 999999999 := by rw [← hmm]; exact Int.mul_le_mul (by omega) (by omega) (by omega) (by omega)
        obtain ⟨l1, e1⟩ : ∃ l1 : Int, ((x[k] : Nat) : Int) - br = l1 := ⟨_, rfl⟩
        obtain ⟨l2, e2⟩ : ∃ l2 : Int, l1 - mm = l2 := ⟨_, rfl⟩
        have HI := Lib.hid (fun (v : Nat) (b2 : Int) (hv : (v : Int) = l2 + b2 * 1000000000) => sub_in HS.out.2.2 HS.out.1 kx ky (v := v) (br2 := b2) (by rw [hv, ← e2, ← e1, hmm]))
        have l2a : l2 < 1000000000 := by omega
        have l2b : -1000002000000000 ≤ l2 := by omega
        generalize ((x[k] : Nat) : Int) = xv at *
        generalize ((y[k] : Nat) : Int) = yv at *
        by_cases hlt : l2 < 0
        · obtain ⟨b2, hb2⟩ : ∃ b2 : Int, (999999999 - l2) / 1000000000 = b2 := ⟨_, rfl⟩
          have b2a : 0 ≤ b2 := by omega
          have b2b : b2 ≤ 1000002 := by omega
          obtain ⟨l3, e3⟩ : ∃ l3 : Int, 999999999 - l2 = l3 := ⟨_, rfl⟩
          have l3a : 0 ≤ l3 := by omega
          have l3b : l3 ≤ 1000003000000000 := by omega
          have d1 : l3.tdiv 1000000000 = b2 := by rw [Int.tdiv_eq_ediv_of_nonneg l3a, ← e3]; exact hb2
          have d2 : l3 / 1000000000 = b2 := by rw [← e3]; exact hb2
          obtain ⟨l4, e4⟩ : ∃ l4 : Int, b2 * 1000000000 = l4 := ⟨_, rfl⟩
          obtain ⟨v, hv⟩ : ∃ v : Nat, l2 + l4 = (v : Int) := Int.eq_ofNat_of_zero_le (by omega)
          have vb : v < 1000000000 := by omega
          have HI2 := Lib.hid (HI.out v b2 (by omega))
          have HS2 := Lib.hid (HSt.out v)
          have HB2 := Lib.hid (HBt.out v)
          have l4a : 0 ≤ l4 := by omega
          have l4b : l4 ≤ 1000002000000000 := by omega
          clear hb2 HI HSt HBt
          have HR2 := Lib.hid (show (r ++ [v]).length = k + 1 ∧ Lim (r ++ [v]) from ⟨by rw [List.length_append, HS.out.1]; rfl, HS.out.2.1.snoc vb⟩)
          go_wp2
          go_roundw
          case rel => exact ⟨k + 1, b2, r ++ [v], by omega, by go_num, rfl, by omega, by omega, Lib.hid ⟨HR2.out.1, HR2.out.2, HI2.out⟩, HS2, HB2⟩
          case measure => simp [intOf]; omega
        · obtain ⟨v, hv⟩ := Int.eq_ofNat_of_zero_le (show 0 ≤ l2 by omega)
          have vb : v < 1000000000 := by omega
          have HI2 := Lib.hid (HI.out v 0 (by omega))
          have HS2 := Lib.hid (HSt.out v)
          have HB2 := Lib.hid (HBt.out v)
          clear HI HSt HBt
          have HR2 := Lib.hid (show (r ++ [v]).length = k + 1 ∧ Lim (r ++ [v]) from ⟨by rw [List.length_append, HS.out.1]; rfl, HS.out.2.1.snoc vb⟩)
          go_wp2
          go_roundw
          case rel => exact ⟨k + 1, 0, r ++ [v], by omega, by go_num, rfl, by omega, by omega, Lib.hid ⟨HR2.out.1, HR2.out.2, HI2.out⟩, HS2, HB2⟩
          case measure => simp [intOf]; omega
      · have hy' : ¬ (k : Int) < (m : Int) := by omega
        obtain ⟨l2, e2⟩ : ∃ l2 : Int, ((x[k] : Nat) : Int) - br = l2 := ⟨_, rfl⟩
        have HI := Lib.hid (fun (v : Nat) (b2 : Int) (hv : (v : Int) = l2 + b2 * 1000000000) => sub_out HS.out.2.2 HS.out.1 kx (by rw [HEy.out]; exact hy) (v := v) (br2 := b2) (by rw [hv, ← e2]))
        have l2a : l2 < 1000000000 := by omega
        have l2b : -1000002000000000 ≤ l2 := by omega
        generalize ((x[k] : Nat) : Int) = xv at *
        by_cases hlt : l2 < 0
        · obtain ⟨b2, hb2⟩ : ∃ b2 : Int, (999999999 - l2) / 1000000000 = b2 := ⟨_, rfl⟩
          have b2a : 0 ≤ b2 := by omega
          have b2b : b2 ≤ 1000002 := by omega
          obtain ⟨l3, e3⟩ : ∃ l3 : Int, 999999999 - l2 = l3 := ⟨_, rfl⟩
          have l3a : 0 ≤ l3 := by omega
          have l3b : l3 ≤ 1000003000000000 := by omega
          have d1 : l3.tdiv 1000000000 = b2 := by rw [Int.tdiv_eq_ediv_of_nonneg l3a, ← e3]; exact hb2
          have d2 : l3 / 1000000000 = b2 := by rw [← e3]; exact hb2
          obtain ⟨l4, e4⟩ : ∃ l4 : Int, b2 * 1000000000 = l4 := ⟨_, rfl⟩
          obtain ⟨v, hv⟩ : ∃ v : Nat, l2 + l4 = (v : Int) := Int.eq_ofNat_of_zero_le (by omega)
          have vb : v < 1000000000 := by omega
          have HI2 := Lib.hid (HI.out v b2 (by omega))
          have HS2 := Lib.hid (HSt.out v)
          have HB2 := Lib.hid (HBt.out v)
          have l4a : 0 ≤ l4 := by omega
          have l4b : l4 ≤ 1000002000000000 := by omega
          clear hb2 HI HSt HBt
          have HR2 := Lib.hid (show (r ++ [v]).length = k + 1 ∧ Lim (r ++ [v]) from ⟨by rw [List.length_append, HS.out.1]; rfl, HS.out.2.1.snoc vb⟩)
          go_wp2
          go_roundw
          case rel => exact ⟨k + 1, b2, r ++ [v], by omega, by go_num, rfl, by omega, by omega, Lib.hid ⟨HR2.out.1, HR2.out.2, HI2.out⟩, HS2, HB2⟩
          case measure => simp [intOf]; omega
        · obtain ⟨v, hv⟩ := Int.eq_ofNat_of_zero_le (show 0 ≤ l2 by omega)
          have vb : v < 1000000000 := by omega
          have HI2 := Lib.hid (HI.out v 0 (by omega))
          have HS2 := Lib.hid (HSt.out v)
          have HB2 := Lib.hid (HBt.out v)
          clear HI HSt HBt
          have HR2 := Lib.hid (show (r ++ [v]).length = k + 1 ∧ Lim (r ++ [v]) from ⟨by rw [List.length_append, HS.out.1]; rfl, HS.out.2.1.snoc vb⟩)
          go_wp2
          go_roundw
          case rel => exact ⟨k + 1, 0, r ++ [v], by omega, by go_num, rfl, by omega, by omega, Lib.hid ⟨HR2.out.1, HR2.out.2, HI2.out⟩, HS2, HB2⟩
          case measure => simp [intOf]; omega
    · have h' : ¬ (k : Int) < (n : Int) := by omega
      obtain rfl : n = k := by omega
      have hrl := HS.out.1
      have hend := sub_end (x := x) (y := y) (r := r) (q := q) (br := br) (by rw [HEx.out]; exact HS.out.2.2) (by rw [HEx.out]; exact hrl) HS.out.2.1 (by rw [HEx.out, HEy.out]; exact hm1) b0
      by_cases hz : br = 0
      · obtain ⟨g1, g2⟩ := hend.1 hz
        have HD := Lib.hid (show decide (q * lv y ≤ lv x) = true from decide_eq_true g1)
        have HT := trim_nat (fun B => w.heap.size ≤ B) w.heap.size n r wr (Nat.le_refl _) HS.out.2.1 (by omega) (lbs_of HP.out hrl) (by omega)
        rw [hrl] at HT
        have HT := Lib.hid HT
        have HG := Lib.hid g2
        subst hz
        clear hend hrl HS g1 g2
        go_wp2_with fail
        refine HT.out.mono ?_
        rintro e w2 ⟨v, l', rfl, hv, hl, rfl⟩
        go_wp2
        go_ret2
        exact ⟨⟨v, by rw [HD.out]; rfl, fun _ => ⟨l', hv, by rw [hl, HG.out]⟩⟩, HB.out⟩
      · have g1 := hend.2 hz
        have HD := Lib.hid (show decide (q * lv y ≤ lv x) = false from decide_eq_false (by omega))
        have HN := Lib.hid (show ¬ q * lv y ≤ lv x by omega)
        have hz' : (br != 0) = true := by simpa using hz
        clear hend hrl HS g1 hz
        go_wp2
        go_ret2
        exact ⟨⟨.slice none 0 0, by rw [HD.out]; rfl, fun h => absurd h HN.out⟩, HB.out⟩
set_option maxHeartbeats 4000000 in
theorem divC_gen (P Q X Y cx cy n m : Nat) (x y : List Nat) (q : Nat) (w : World) (ex : x.length = n) (ey : y.length = m) (lx : Lim x) (ly : Lim y) (hm1 : m ≤ n) (hn1 : n ≤ 20) (q2 : q ≤ 1000000)
    (hp : w.cell? ⟨P, 0, none⟩ = some (.slice (some ⟨X, 0, none⟩) n cx)) (hq : w.cell? ⟨Q, 0, none⟩ = some (.slice (some ⟨Y, 0, none⟩) m cy)) (hX : Lbs w X x) (hY : Lbs w Y y) :
    Calls Tryd.prog 98 #[.int .i64 q, .pointer (some ⟨P, 0, none⟩), .pointer (some ⟨Q, 0, none⟩)] w fun e w' => e = .returned (.bool (decide (lv x < (q + 1) * lv y))) ∧ Below w.heap.size w w' := by
  have HC := Lib.hid (subtract_gen X Y cx cy n m x y (q + 1) w ex ey lx ly hm1 hn1 (by omega) hX hY)
  have HE := Lib.hid (show (!decide ((q + 1) * lv y ≤ lv x)) = decide (lv x < (q + 1) * lv y) by rw [← decide_not]; congr 1; apply propext; omega)
  rw [show ((q + 1 : Nat) : Int) = (q : Int) + 1 from rfl] at HC
  unfold SubQ at HC
  generalize (q + 1) * lv y = M at *
  clear hX hY
  go_enter Tryd.func98, Tryd.ntmps98
  go_wp2_with fail
  refine HC.out.mono ?_
  rintro e w2 ⟨⟨v, rfl, hv⟩, hb⟩
  go_wp2
  go_ret
  exact ⟨ret_bool HE.out, hb⟩
set_option maxHeartbeats 4000000 in
theorem search_gen (P Q X Y cx cy n m : Nat) (x y : List Nat) (w : World) (ex : x.length = n) (ey : y.length = m) (lx : Lim x) (ly : Lim y) (hm1 : m ≤ n) (hn1 : n ≤ 20) (hy0 : 0 < lv y)
    (hp : w.cell? ⟨P, 0, none⟩ = some (.slice (some ⟨X, 0, none⟩) n cx)) (hq : w.cell? ⟨Q, 0, none⟩ = some (.slice (some ⟨Y, 0, none⟩) m cy)) (hX : Lbs w X x) (hY : Lbs w Y y) (lp : P < w.heap.size) (lq : Q < w.heap.size) :
    Calls Tryd.prog 97 #[.int .i64 1000001, .func (.func 98) #[] #[.pointer (some ⟨P, 0, none⟩), .pointer (some ⟨Q, 0, none⟩)]] w fun e w' => e = .returned (.int .i64 (min (lv x / lv y) 1000001 : Nat)) ∧ Below w.heap.size w w' := by
  have HC := Lib.hid (fun (q : Nat) (q2 : q ≤ 1000000) (W : World) (hb : Below w.heap.size w W) => divC_gen P Q X Y cx cy n m x y q W ex ey lx ly hm1 hn1 q2 (by rw [hb.cell lp]; exact hp) (by rw [hb.cell lq]; exact hq) (hX.below hb) (hY.below hb))
  have HT := Lib.hid (fun (q : Nat) => show decide (lv x < (q + 1) * lv y) = decide (lv x / lv y ≤ q) by congr 1; apply propext; rw [← Nat.div_lt_iff_lt_mul hy0]; omega)
  clear hp hq hX hY lp lq lx ly ex ey
  generalize lv x / lv y = D at *
  go_enter Tryd.func97, Tryd.ntmps97
  go_wp2_with fail
  go_loopw [5, 6] (fun i j wr => ∃ x y : Nat, i = .int .i64 x ∧ j = .int .i64 y ∧ x ≤ D ∧ (D ≤ y ∨ y = 1000001) ∧ x ≤ y ∧ y ≤ 1000001 ∧ Hid (Below w.heap.size w wr)) (fun i j _ => (intOf j - intOf i).toNat)
  case atStart => exact ⟨0, 1000001, rfl, rfl, Nat.zero_le _, .inr rfl, by omega, Nat.le_refl _, Lib.hid (Below.refl _ _)⟩
  case round =>
    obtain ⟨x, y, rfl, rfl, hx, hy, hxy, hy2, HB⟩ := hrel
    by_cases h : x < y
    · have h' : (x : Int) < (y : Int) := by omega
      have hz : ∃ z : Nat, ((x : Int) + (y : Int)) / 2 = (z : Int) ∧ x ≤ z ∧ z < y := ⟨(x + y) / 2, by omega, by omega, by omega⟩
      obtain ⟨z, hz, z1, z2⟩ := hz
      by_cases hd : D ≤ z
      · have HCz := Lib.hid (show Calls Tryd.prog 98 #[.int .i64 z, .pointer (some ⟨P, 0, none⟩), .pointer (some ⟨Q, 0, none⟩)] wr fun e w' => e = .returned (.bool true) ∧ Below wr.heap.size wr w' by have q := HC.out z (by omega) wr HB.out; rw [HT.out z, decide_eq_true hd] at q; exact q)
        have HY := Lib.hid hy
        clear hy
        go_wp2_with fail
        refine HCz.out.mono ?_
        rintro e w2 ⟨rfl, hb⟩
        have HB2 := Lib.hid (HB.out.trans (hb.mono HB.out.size))
        clear hb HB HC HCz
        go_wp2
        go_roundw
        case rel => exact ⟨x, z, rfl, rfl, hx, .inl hd, z1, by omega, HB2⟩
        case measure => simp [intOf]; omega
      · have HCz := Lib.hid (show Calls Tryd.prog 98 #[.int .i64 z, .pointer (some ⟨P, 0, none⟩), .pointer (some ⟨Q, 0, none⟩)] wr fun e w' => e = .returned (.bool false) ∧ Below wr.heap.size wr w' by have q := HC.out z (by omega) wr HB.out; rw [HT.out z, decide_eq_false hd] at q; exact q)
        have HY := Lib.hid hy
        clear hy
        go_wp2_with fail
        refine HCz.out.mono ?_
        rintro e w2 ⟨rfl, hb⟩
        have HB2 := Lib.hid (HB.out.trans (hb.mono HB.out.size))
        clear hb HB HC HCz
        go_wp2
        go_roundw
        case rel => exact ⟨z + 1, y, by go_num, rfl, by omega, HY.out, by omega, hy2, HB2⟩
        case measure => simp [intOf]; omega
    · have h' : ¬ (x : Int) < (y : Int) := by omega
      have HE := Lib.hid (show x = min D 1000001 by rcases hy with q | q <;> omega)
      clear hy
      go_wp2
      go_ret
      exact ⟨by rw [HE.out]; rfl, HB.out⟩
end Go.Proofs.YtkpdbhpmnegahaaDoor
namespace Go.Proofs.YtkpdbhpmnegahaaDoor
open Go.RowKit Go.Sort
set_option linter.unusedVariables false
set_option linter.unusedSimpArgs false

set_option maxRecDepth 100000 in
set_option maxHeartbeats 4000000 in
theorem divide_gen (S : Nat → Prop) (vx vy : Value) (x y : List Nat) (w : World) (hx : NatW S w vx x) (hy : NatW S w vy y) (hy0 : 0 < lv y) (hS : ∀ B, w.heap.size ≤ B → S B) :
    Calls Tryd.prog 88 #[vx, vy] w fun e w' => ∃ v l, e = .returned (.tuple #[.int .i64 (min (lv x / lv y) 1000001 : Nat), v]) ∧ NatW S w' v l ∧ (lv x / lv y ≤ 1000000 → lv l = lv x % lv y) ∧ Below w.heap.size w w' := by
  have HS := Lib.hid hS
  clear hS
  have HW := Lib.hid hx
  obtain ⟨lx, nx, h20, ax, cx, rfl, hcx, hbx⟩ := hx
  obtain ⟨ly, ny, g20, ay, cy, rfl, hcy, hby⟩ := hy
  have hyl := len_pos hy0
  by_cases hlt : x.length < y.length
  · have e0 : lv x < lv y := lv_short lx ny hlt
    have HQ := Lib.hid (show min (lv x / lv y) 1000001 = 0 by rw [Nat.div_eq_of_lt e0]; rfl)
    have HR := Lib.hid (Nat.mod_eq_of_lt e0)
    have hlt' : (x.length : Int) < (y.length : Int) := by omega
    clear e0 hbx hby lx nx ly ny hlt
    generalize x.length = n at *
    generalize y.length = m at *
    go_enter Tryd.func88, Tryd.ntmps88
    go_wp2_with fail
    have P0_1 := Lib.hid (show Cell1 ((w.alloc (Obj.cells #[(.slice ax n cx)] 112)).alloc (Obj.cells #[(.slice ay m cy)] 112)) (w.heap.size) (.slice ax n cx) from by have q := Cell1.alloc w (.slice ax n cx) 112; exact q.below (N := w.heap.size + 1) ((Below.refl _ _).alloc (by simp <;> omega) (Obj.cells #[(.slice ay m cy)] 112)) (by omega))
    have P1_1 := Lib.hid (show Cell1 ((w.alloc (Obj.cells #[(.slice ax n cx)] 112)).alloc (Obj.cells #[(.slice ay m cy)] 112)) (w.heap.size + 1) (.slice ay m cy) from by simpa using Cell1.alloc (w.alloc (Obj.cells #[(.slice ax n cx)] 112)) (.slice ay m cy) 112)
    have HB1 := Lib.hid (((Below.refl w.heap.size w).alloc (Nat.le_refl _) (Obj.cells #[(.slice ax n cx)] 112)).alloc (by simp) (Obj.cells #[(.slice ay m cy)] 112))
    generalize ((w.alloc (Obj.cells #[(.slice ax n cx)] 112)).alloc (Obj.cells #[(.slice ay m cy)] 112)) = W1 at *
    have lP0_1 := P0_1.out.lt
    have cP0_1_0 := P0_1.out.c0
    have lP1_1 := P1_1.out.lt
    have cP1_1_0 := P1_1.out.c0
    go_wp2_with fail
    go_quiet (fail)
    go_wp2
    go_ret2
    exact ⟨_, x, by rw [HQ.out]; rfl, HW.out.below (below_drewN HB1.out nq), fun _ => HR.out.symm, below_drewN HB1.out nq⟩
  · obtain ⟨X, sX, rfl, bX⟩ := hbx (by omega)
    obtain ⟨Y, sY, rfl, bY⟩ := hby (by omega)
    have hlt' : ¬ (x.length : Int) < (y.length : Int) := by omega
    have HX := Lib.hid bX
    have HY := Lib.hid bY
    have HEx := Lib.hid (show x.length = x.length from rfl)
    have HEy := Lib.hid (show y.length = y.length from rfl)
    obtain ⟨n, hn⟩ : ∃ n, x.length = n := ⟨_, rfl⟩
    obtain ⟨m, hm⟩ : ∃ m, y.length = m := ⟨_, rfl⟩
    rw [hn] at hlt' HW ⊢
    rw [hm] at hlt' ⊢
    have HN := Lib.hid hn
    have HM := Lib.hid hm
    have hmn : m ≤ n := by omega
    have hn20 : n ≤ 20 := by omega
    have HLx := Lib.hid lx
    have HLy := Lib.hid ly
    have HY0 := Lib.hid hy0
    clear bX bY hbx hby nx ny hlt hn hm h20 g20 hyl lx ly hy0 HW HEx HEy hcx hcy
    by_cases hq : lv x / lv y ≤ 1000000
    · have hmin : min (lv x / lv y) 1000001 = lv x / lv y := by omega
      have hdm := Nat.div_add_mod (lv x) (lv y)
      rw [hmin]
      have HSr := Lib.hid (fun P Q W hp hq lp lq hX hY => search_gen P Q X Y cx cy n m x y W HN.out HM.out HLx.out HLy.out hmn hn20 HY0.out hp hq hX hY lp lq)
      rw [hmin] at HSr
      have HSu := Lib.hid (fun W hX hY => subtract_gen X Y cx cy n m x y (lv x / lv y) W HN.out HM.out HLx.out HLy.out hmn hn20 (by omega) hX hY)
      unfold SubQ at HSu
      have HLe := Lib.hid (show lv x / lv y * lv y ≤ lv x by rw [Nat.mul_comm]; omega)
      have HMo := Lib.hid (show lv x - lv x / lv y * lv y = lv x % lv y by rw [Nat.mul_comm (lv x / lv y)]; omega)
      have hdt : decide (lv x / lv y * lv y ≤ lv x) = true := decide_eq_true HLe.out
      rw [hdt] at HSu
      have hnb : ¬ (1000000 : Int) < ((lv x / lv y : Nat) : Int) := by omega
      clear hmin hdm hdt
      generalize lv x / lv y = D at *
      go_enter Tryd.func88, Tryd.ntmps88
      go_wp2_with fail
      have P0_2 := Lib.hid (show Cell1 ((w.alloc (Obj.cells #[(.slice (some ⟨X, 0, none⟩) n cx)] 112)).alloc (Obj.cells #[(.slice (some ⟨Y, 0, none⟩) m cy)] 112)) (w.heap.size) (.slice (some ⟨X, 0, none⟩) n cx) from by have q := Cell1.alloc w (.slice (some ⟨X, 0, none⟩) n cx) 112; exact q.below (N := w.heap.size + 1) ((Below.refl _ _).alloc (by simp <;> omega) (Obj.cells #[(.slice (some ⟨Y, 0, none⟩) m cy)] 112)) (by omega))
      have P1_2 := Lib.hid (show Cell1 ((w.alloc (Obj.cells #[(.slice (some ⟨X, 0, none⟩) n cx)] 112)).alloc (Obj.cells #[(.slice (some ⟨Y, 0, none⟩) m cy)] 112)) (w.heap.size + 1) (.slice (some ⟨Y, 0, none⟩) m cy) from by simpa using Cell1.alloc (w.alloc (Obj.cells #[(.slice (some ⟨X, 0, none⟩) n cx)] 112)) (.slice (some ⟨Y, 0, none⟩) m cy) 112)
      have HB2 := Lib.hid (((Below.refl w.heap.size w).alloc (Nat.le_refl _) (Obj.cells #[(.slice (some ⟨X, 0, none⟩) n cx)] 112)).alloc (by simp) (Obj.cells #[(.slice (some ⟨Y, 0, none⟩) m cy)] 112))
      generalize ((w.alloc (Obj.cells #[(.slice (some ⟨X, 0, none⟩) n cx)] 112)).alloc (Obj.cells #[(.slice (some ⟨Y, 0, none⟩) m cy)] 112)) = W2 at *
      have HSe := Lib.hid (HSr.out w.heap.size (w.heap.size + 1) W2 P0_2.out.c0 P1_2.out.c0 P0_2.out.lt P1_2.out.lt (HX.out.below HB2.out) (HY.out.below HB2.out))
      refine (HSe.out).mono ?_
      rintro e W3 ⟨rfl, hb3⟩
      have HB3 := Lib.hid (HB2.out.trans ((hb3).mono HB2.out.size))
      have P0_3 := Lib.hid (P0_2.out.below (hb3) P0_2.out.lt)
      have P1_3 := Lib.hid (P1_2.out.below (hb3) P1_2.out.lt)
      clear HB2 P0_2 P1_2 hb3
      have lP0_3 := P0_3.out.lt
      have cP0_3_0 := P0_3.out.c0
      have lP1_3 := P1_3.out.lt
      have cP1_3_0 := P1_3.out.c0
      have HC := Lib.hid (HSu.out W3 (HX.out.below HB3.out) (HY.out.below HB3.out))
      go_wp2_with fail
      refine HC.out.mono ?_
      rintro e w2 ⟨⟨v, rfl, hv⟩, hb⟩
      go_wp2
      go_ret2
      obtain ⟨l, hl1, hl2⟩ := hv HLe.out
      exact ⟨v, l, rfl, hl1.imp (fun B hB => HS.out B (Nat.le_trans HB3.out.size hB)), fun _ => by rw [hl2, HMo.out], HB3.out.trans (hb.mono HB3.out.size)⟩
    · have hmin : min (lv x / lv y) 1000001 = 1000001 := by omega
      rw [hmin]
      have HSr := Lib.hid (fun P Q W hp hq lp lq hX hY => search_gen P Q X Y cx cy n m x y W HN.out HM.out HLx.out HLy.out hmn hn20 HY0.out hp hq hX hY lp lq)
      rw [hmin] at HSr
      have HNq := Lib.hid hq
      clear hmin hq
      generalize lv x / lv y = D at *
      go_enter Tryd.func88, Tryd.ntmps88
      go_wp2_with fail
      have P0_4 := Lib.hid (show Cell1 ((w.alloc (Obj.cells #[(.slice (some ⟨X, 0, none⟩) n cx)] 112)).alloc (Obj.cells #[(.slice (some ⟨Y, 0, none⟩) m cy)] 112)) (w.heap.size) (.slice (some ⟨X, 0, none⟩) n cx) from by have q := Cell1.alloc w (.slice (some ⟨X, 0, none⟩) n cx) 112; exact q.below (N := w.heap.size + 1) ((Below.refl _ _).alloc (by simp <;> omega) (Obj.cells #[(.slice (some ⟨Y, 0, none⟩) m cy)] 112)) (by omega))
      have P1_4 := Lib.hid (show Cell1 ((w.alloc (Obj.cells #[(.slice (some ⟨X, 0, none⟩) n cx)] 112)).alloc (Obj.cells #[(.slice (some ⟨Y, 0, none⟩) m cy)] 112)) (w.heap.size + 1) (.slice (some ⟨Y, 0, none⟩) m cy) from by simpa using Cell1.alloc (w.alloc (Obj.cells #[(.slice (some ⟨X, 0, none⟩) n cx)] 112)) (.slice (some ⟨Y, 0, none⟩) m cy) 112)
      have HB4 := Lib.hid (((Below.refl w.heap.size w).alloc (Nat.le_refl _) (Obj.cells #[(.slice (some ⟨X, 0, none⟩) n cx)] 112)).alloc (by simp) (Obj.cells #[(.slice (some ⟨Y, 0, none⟩) m cy)] 112))
      generalize ((w.alloc (Obj.cells #[(.slice (some ⟨X, 0, none⟩) n cx)] 112)).alloc (Obj.cells #[(.slice (some ⟨Y, 0, none⟩) m cy)] 112)) = W4 at *
      have HSe := Lib.hid (HSr.out w.heap.size (w.heap.size + 1) W4 P0_4.out.c0 P1_4.out.c0 P0_4.out.lt P1_4.out.lt (HX.out.below HB4.out) (HY.out.below HB4.out))
      refine (HSe.out).mono ?_
      rintro e W5 ⟨rfl, hb5⟩
      have HB5 := Lib.hid (HB4.out.trans ((hb5).mono HB4.out.size))
      have P0_5 := Lib.hid (P0_4.out.below (hb5) P0_4.out.lt)
      have P1_5 := Lib.hid (P1_4.out.below (hb5) P1_4.out.lt)
      clear HB4 P0_4 P1_4 hb5
      have lP0_5 := P0_5.out.lt
      have cP0_5_0 := P0_5.out.c0
      have lP1_5 := P1_5.out.lt
      have cP1_5_0 := P1_5.out.c0
      go_wp2
      go_ret2
      exact ⟨_, [], rfl, natW_nil _ _ _ _, fun h => absurd h HNq.out, HB5.out⟩
/-! readNatural -/
theorem take_more (s : ByteArray) (a k : Nat) (ha : a ≤ k) (hk : k < s.size) : (s.toList.drop a).take (k + 1 - a) = (s.toList.drop a).take (k - a) ++ [s[k]] := by
  have hl : k < s.toList.length := by rw [bytes_len]; exact hk
  rw [show k + 1 - a = (k - a) + 1 by omega, List.take_succ_eq_append_getElem (by rw [List.length_drop]; omega)]
  congr 2
  rw [List.getElem_drop]
  simp only [show a + (k - a) = k by omega]
  exact bytes_get s k hk hl
theorem all_sub {l : List UInt8} (h : l.all dig = true) (a n : Nat) : ((l.drop a).take n).all dig = true := by
  rw [List.all_eq_true] at h ⊢
  exact fun x hx => h x (List.mem_of_mem_drop (List.mem_of_mem_take hx))
theorem limb_step {s : ByteArray} {l : List Nat} {j E : Nat} (hE : E ≤ s.size) (h9 : s.size - E = 9 * j) (hl : l.length = j) (hv : lv l = dec (s.toList.drop E)) :
    lv (l ++ [dec ((s.toList.drop (E - 9)).take (E - (E - 9)))]) = dec (s.toList.drop (E - 9)) := by
  rw [lv_snoc, hl, hv, pow9]
  have e : s.toList.drop (E - 9) = (s.toList.drop (E - 9)).take (E - (E - 9)) ++ s.toList.drop E := by
    rw [← List.take_append_drop (E - (E - 9)) (s.toList.drop (E - 9)), List.drop_drop, List.take_append_of_le_length (by rw [List.length_take, List.length_drop, bytes_len]; omega), List.take_take, Nat.min_self, show E - 9 + (E - (E - 9)) = E by omega]
  rw [e, dec_append, ← e, List.length_drop, bytes_len, h9]
  omega
theorem row_lits (w : World) (T : TypeId) (x : Value) : RowV (w.alloc (.cells #[x] T)) (some ⟨w.heap.size, 0, none⟩) [x] := row_lit1 w T x
theorem own_lbs {w : World} {base : Nat} {v : Value} {l : List Nat} (h : OwnV w base 3 v (l.map (fun n => Value.int .i64 ((n : Nat) : Int)))) (h0 : 0 < l.length) : ∃ g cap, v = .slice (some ⟨g, 0, none⟩) l.length cap ∧ l.length ≤ cap ∧ base ≤ g ∧ Lbs w g l := by
  have h' := h
  rcases h.2 with ⟨_, e⟩ | ⟨g, cap, cur, e, hb, hg, hc, _⟩
  · simp at e; rw [e] at h0; simp at h0
  · subst e
    refine ⟨g, cap, by simp, by simpa using hc, hb, ?_⟩
    have hr := OwnV.row h'
    have hlt : g < w.heap.size := by
      obtain ⟨b, off, e2, e3, _⟩ := hr 0 (.int .i64 ((l[0] : Nat) : Int)) (by simp [h0])
      injection e2 with e2
      injection e2 with e5 e6
      omega
    refine ⟨hlt, fun k hk => ?_⟩
    obtain ⟨b, off, e2, _, hcell⟩ := hr k (.int .i64 ((l[k] : Nat) : Int)) (by simp [hk])
    injection e2 with e2
    injection e2 with e5 e6
    subst e5 e6
    rw [Nat.zero_add] at hcell
    exact hcell
set_option maxRecDepth 100000 in
set_option maxHeartbeats 4000000 in
theorem readNat_gen (s : ByteArray) (w : World) (h1 : 1 ≤ s.size) (h2 : s.size ≤ 100) (hd : s.toList.all dig = true) :
    Calls Tryd.prog 72 #[.string s] w fun e w' => ∃ v l, e = .returned v ∧ NatW (fun B => w.heap.size ≤ B) w' v l ∧ lv l = dec s.toList ∧ Below w.heap.size w w' := by
  obtain ⟨i0, hi, hz0, hz1, hz2⟩ := info_parts inf_int
  have HD := Lib.hid hd
  clear hd
  obtain ⟨c0, hc0⟩ : ∃ c0, s.size / 9 = c0 := ⟨_, rfl⟩
  have hc1 : c0 ≤ 11 := by omega
  have hq : (s.size : Int) / 9 = (c0 : Int) := by omega
  have hq2 : (s.size : Int).tdiv 9 = (c0 : Int) := by rw [Int.tdiv_eq_ediv_of_nonneg (by omega)]; exact hq
  clear hc0
  go_enter Tryd.func72, Tryd.ntmps72
  go_wp2_with (at_make; refine wpList_make_own _ rfl _ _ 112 rfl w.heap.size 3 i0 (.int .i64 0) 1 und_nat hi hz0 hz1 _ _ _ (c0 + 1) rfl rfl rfl ?_ ?_ ?_ ?_)
  any_goals (first | (rw [hz2]; omega) | omega | (unfold maxLen; omega) | exact Nat.le_refl _)
  intro w1 hown hgr
  have HO0 := Lib.hid (show OwnV w1 w.heap.size 3 (.slice (some ⟨w.heap.size, 0, none⟩) 0 (c0 + 1)) (([] : List Nat).map (fun n => Value.int .i64 ((n : Nat) : Int))) from hown)
  have HB0 := Lib.hid (show Below w.heap.size w w1 from (Below.refl _ _).grown hgr (Nat.le_refl _) (by simp))
  clear hown hgr hq hq2
  go_wp2_with fail
  go_loopw [3, 4] (fun x en wr => ∃ (j : Nat) (l : List Nat), j ≤ 12 ∧ en = .int .i64 ((s.size : Int) - 9 * (j : Int)) ∧ Hid (l.length = j ∧ Lim l ∧ lv l = dec (s.toList.drop (s.size - 9 * j))) ∧ Hid (OwnV wr w.heap.size 3 x (l.map (fun n => Value.int .i64 ((n : Nat) : Int)))) ∧ Hid (Below w.heap.size w wr)) (fun _ en _ => (intOf en).toNat)
  case atStart => exact ⟨0, [], by omega, by simp, Lib.hid ⟨rfl, fun x h => by simp at h, by rw [List.drop_eq_nil_of_le (by rw [bytes_len]; omega)]; rfl⟩, HO0, HB0⟩
  case round =>
    clear HO0 HB0
    obtain ⟨j, l, hj, rfl, HI, HO, HB⟩ := hrel
    by_cases hpos : 9 * j < s.size
    · obtain ⟨E, hE, hEj⟩ : ∃ E : Nat, (s.size : Int) - 9 * (j : Int) = (E : Int) ∧ s.size - 9 * j = E := ⟨s.size - 9 * j, by omega, rfl⟩
      rw [hE]
      have hE0 : (0 : Int) < (E : Int) := by omega
      have hEs : E ≤ s.size := by omega
      by_cases h9 : E ≤ 9
      · obtain ⟨a, ha, haN⟩ : ∃ a : Nat, a = 0 ∧ E - 9 = a := ⟨0, rfl, by omega⟩
        have hmx : max (0 : Int) ((E : Int) - 9) = 0 := by omega
        have hE9 : (E : Int) - 9 ≤ 0 := by omega
        have haE : a ≤ E := by omega
        have ha9 : E ≤ a + 9 := by omega
        have hEj9 : s.size - E = 9 * j := by omega
        have HNx := Lib.hid (show lv (l ++ [dec ((s.toList.drop a).take (E - a))]) = dec (s.toList.drop a) by
          have q := limb_step (s := s) (l := l) (j := j) (E := E) hEs hEj9 HI.out.1 (by rw [HI.out.2.2, hEj])
          rw [haN] at q; exact q)
        have HaE := Lib.hid (show s.size - 9 * (j + 1) = a by omega)
        have HEn := Lib.hid (show (E : Int) - 9 = (s.size : Int) - 9 * ((j + 1 : Nat) : Int) by omega)
        have HEm := Lib.hid (show ((s.size : Int) - 9 * ((j + 1 : Nat) : Int)).toNat < ((E : Int)).toNat by omega)
        have HSz := Lib.hid HB.out.size
        have hj12 : j + 1 ≤ 12 := by omega
        clear hE hEj haN hpos hEj9
        have HA0 := Lib.hid ha
        clear ha
        go_wp2_with fail
        go_loop [5, 6] (fun lb i => ∃ k : Nat, a ≤ k ∧ k ≤ E ∧ i = .int .i64 k ∧ lb = .int .i64 (dec ((s.toList.drop a).take (k - a)))) (fun _ i => E - (intOf i).toNat)
        case atStart => exact ⟨a, Nat.le_refl _, haE, by first | rfl | (rw [HA0.out]; rfl), by simp [dec]⟩
        case round =>
          obtain ⟨k, hak, hkE, rfl, rfl⟩ := hrel
          by_cases hlt : k < E
          · have hks : k < s.size := by omega
            have hks' : (k : Int) < (s.size : Int) := by omega
            have hlt' : (k : Int) < (E : Int) := by omega
            obtain ⟨d1, d2⟩ := all_at HD.out hks
            have HSx := Lib.hid (show (dec ((s.toList.drop a).take (k + 1 - a)) : Int) = (dec ((s.toList.drop a).take (k - a)) : Int) * 10 + ((s[k].toNat : Int) - 48) by rw [take_more s a k hak hks, dec_snoc]; omega)
            have hle : dec ((s.toList.drop a).take (k - a)) < 1000000000 := by
              refine Nat.lt_of_lt_of_le (dec_lt _ ?_) (Nat.le_trans (Nat.pow_le_pow_right (by omega) (show ((s.toList.drop a).take (k - a)).length ≤ 9 by rw [List.length_take]; omega)) (by decide))
              exact all_sub HD.out a (k - a)
            generalize dec ((s.toList.drop a).take (k - a)) = M at *
            go_wp2
            go_round
            case rel => exact ⟨k + 1, by omega, by omega, by go_num, by rw [HSx.out]⟩
            case measure => simp [intOf]; omega
          · obtain rfl : k = E := by omega
            have hlt' : ¬ (k : Int) < (k : Int) := by omega
            have hlb : dec ((s.toList.drop a).take (k - a)) < 1000000000 := by
              refine Nat.lt_of_lt_of_le (dec_lt _ ?_) (Nat.le_trans (Nat.pow_le_pow_right (by omega) (show ((s.toList.drop a).take (k - a)).length ≤ 9 by rw [List.length_take]; omega)) (by decide))
              exact all_sub HD.out a (k - a)
            have HI2 := Lib.hid (fun (M : Nat) (hM : M < 1000000000) (hv : lv (l ++ [M]) = dec (s.toList.drop a)) => show (l ++ [M]).length = j + 1 ∧ Lim (l ++ [M]) ∧ lv (l ++ [M]) = dec (s.toList.drop (s.size - 9 * (j + 1))) from ⟨by rw [List.length_append, HI.out.1]; rfl, HI.out.2.1.snoc hM, by rw [HaE.out]; exact hv⟩)
            have HI3 := Lib.hid (HI2.out _ hlb HNx.out)
            generalize dec ((s.toList.drop a).take (k - a)) = M at *
            have HR := Lib.hid (fun T => row_lit1 wr T (.int .i64 (M : Int)))
            have HMp := Lib.hid (show (l ++ [M]).map (fun n => Value.int .i64 ((n : Nat) : Int)) = l.map (fun n => Value.int .i64 ((n : Nat) : Int)) ++ [.int .i64 (M : Int)] by simp)
            clear HI2 HNx
            go_wp2_with (at_builtin; refine wpList_vals und_nat inf_int rfl (by omega) rfl (.tmp 34) (.tmp 36) rfl w.heap.size _ (l.map (fun n => Value.int .i64 ((n : Nat) : Int))) [.int .i64 (M : Int)] rfl (OwnV.below HO.out ((Below.refl _ _).alloc (Nat.le_refl _) _)) (some ⟨wr.heap.size, 0, none⟩) 1 rfl (fun e => by cases e) (HR.out _) (by intro y hy; simp at hy; subst hy; rfl) (by have := HI.out.1; simp; omega) (by have := HSz.out; simp; omega) ?_; intro v' w2 hown hbel; rw [← HMp.out] at hown; have HO2 := Lib.hid hown; have HB2 := Lib.hid (HB.out.trans (((Below.refl _ _).alloc HSz.out _).trans hbel)); clear hown hbel)
            go_roundw
            case rel => exact ⟨j + 1, l ++ [M], hj12, by first | (rw [← HEn.out]; done) | (rw [← HEn.out]; rfl) | (rw [← HEn.out]; congr 1; omega) | (congr 1; have := HEn.out; omega), HI3, HO2, HB2⟩
            case measure => have := HEm.out; simp [intOf]; omega
      · obtain ⟨a, ha, haN⟩ : ∃ a : Nat, (E : Int) - 9 = (a : Int) ∧ E - 9 = a := ⟨E - 9, by omega, rfl⟩
        have hmx : max (0 : Int) ((a : Int)) = (a : Int) := by omega
        have hE9 : (0 : Int) < (a : Int) := by omega
        have haE : a ≤ E := by omega
        have ha9 : E ≤ a + 9 := by omega
        have hEj9 : s.size - E = 9 * j := by omega
        have HNx := Lib.hid (show lv (l ++ [dec ((s.toList.drop a).take (E - a))]) = dec (s.toList.drop a) by
          have q := limb_step (s := s) (l := l) (j := j) (E := E) hEs hEj9 HI.out.1 (by rw [HI.out.2.2, hEj])
          rw [haN] at q; exact q)
        have HaE := Lib.hid (show s.size - 9 * (j + 1) = a by omega)
        have HEn := Lib.hid (show (E : Int) - 9 = (s.size : Int) - 9 * ((j + 1 : Nat) : Int) by omega)
        have HEm := Lib.hid (show ((s.size : Int) - 9 * ((j + 1 : Nat) : Int)).toNat < ((E : Int)).toNat by omega)
        have HSz := Lib.hid HB.out.size
        have hj12 : j + 1 ≤ 12 := by omega
        clear hE hEj haN hpos hEj9
        go_wp2_with fail
        go_loop [5, 6] (fun lb i => ∃ k : Nat, a ≤ k ∧ k ≤ E ∧ i = .int .i64 k ∧ lb = .int .i64 (dec ((s.toList.drop a).take (k - a)))) (fun _ i => E - (intOf i).toNat)
        case atStart => exact ⟨a, Nat.le_refl _, haE, by first | rfl | (rw [HA0.out]; rfl), by simp [dec]⟩
        case round =>
          obtain ⟨k, hak, hkE, rfl, rfl⟩ := hrel
          by_cases hlt : k < E
          · have hks : k < s.size := by omega
            have hks' : (k : Int) < (s.size : Int) := by omega
            have hlt' : (k : Int) < (E : Int) := by omega
            obtain ⟨d1, d2⟩ := all_at HD.out hks
            have HSx := Lib.hid (show (dec ((s.toList.drop a).take (k + 1 - a)) : Int) = (dec ((s.toList.drop a).take (k - a)) : Int) * 10 + ((s[k].toNat : Int) - 48) by rw [take_more s a k hak hks, dec_snoc]; omega)
            have hle : dec ((s.toList.drop a).take (k - a)) < 1000000000 := by
              refine Nat.lt_of_lt_of_le (dec_lt _ ?_) (Nat.le_trans (Nat.pow_le_pow_right (by omega) (show ((s.toList.drop a).take (k - a)).length ≤ 9 by rw [List.length_take]; omega)) (by decide))
              exact all_sub HD.out a (k - a)
            generalize dec ((s.toList.drop a).take (k - a)) = M at *
            go_wp2
            go_round
            case rel => exact ⟨k + 1, by omega, by omega, by go_num, by rw [HSx.out]⟩
            case measure => simp [intOf]; omega
          · obtain rfl : k = E := by omega
            have hlt' : ¬ (k : Int) < (k : Int) := by omega
            have hlb : dec ((s.toList.drop a).take (k - a)) < 1000000000 := by
              refine Nat.lt_of_lt_of_le (dec_lt _ ?_) (Nat.le_trans (Nat.pow_le_pow_right (by omega) (show ((s.toList.drop a).take (k - a)).length ≤ 9 by rw [List.length_take]; omega)) (by decide))
              exact all_sub HD.out a (k - a)
            have HI2 := Lib.hid (fun (M : Nat) (hM : M < 1000000000) (hv : lv (l ++ [M]) = dec (s.toList.drop a)) => show (l ++ [M]).length = j + 1 ∧ Lim (l ++ [M]) ∧ lv (l ++ [M]) = dec (s.toList.drop (s.size - 9 * (j + 1))) from ⟨by rw [List.length_append, HI.out.1]; rfl, HI.out.2.1.snoc hM, by rw [HaE.out]; exact hv⟩)
            have HI3 := Lib.hid (HI2.out _ hlb HNx.out)
            generalize dec ((s.toList.drop a).take (k - a)) = M at *
            have HR := Lib.hid (fun T => row_lit1 wr T (.int .i64 (M : Int)))
            have HMp := Lib.hid (show (l ++ [M]).map (fun n => Value.int .i64 ((n : Nat) : Int)) = l.map (fun n => Value.int .i64 ((n : Nat) : Int)) ++ [.int .i64 (M : Int)] by simp)
            clear HI2 HNx
            go_wp2_with (at_builtin; refine wpList_vals und_nat inf_int rfl (by omega) rfl (.tmp 34) (.tmp 36) rfl w.heap.size _ (l.map (fun n => Value.int .i64 ((n : Nat) : Int))) [.int .i64 (M : Int)] rfl (OwnV.below HO.out ((Below.refl _ _).alloc (Nat.le_refl _) _)) (some ⟨wr.heap.size, 0, none⟩) 1 rfl (fun e => by cases e) (HR.out _) (by intro y hy; simp at hy; subst hy; rfl) (by have := HI.out.1; simp; omega) (by have := HSz.out; simp; omega) ?_; intro v' w2 hown hbel; rw [← HMp.out] at hown; have HO2 := Lib.hid hown; have HB2 := Lib.hid (HB.out.trans (((Below.refl _ _).alloc HSz.out _).trans hbel)); clear hown hbel)
            go_roundw
            case rel => exact ⟨j + 1, l ++ [M], hj12, by first | (rw [← HEn.out]; done) | (rw [← HEn.out]; rfl) | (rw [← HEn.out]; congr 1; omega) | (congr 1; have := HEn.out; omega), HI3, HO2, HB2⟩
            case measure => have := HEm.out; simp [intOf]; omega
    · have hneg : ¬ (0 : Int) < (s.size : Int) - 9 * (j : Int) := by omega
      have hj1 : 0 < l.length := by have := HI.out.1; omega
      have hj20 : l.length ≤ 20 := by have := HI.out.1; omega
      obtain ⟨g, cap, rfl, hcap, hg, hlb⟩ := own_lbs HO.out hj1
      have HT := Lib.hid (trim_nat (fun B => w.heap.size ≤ B) g cap l wr hg HI.out.2.1 hcap hlb hj20)
      have HV := Lib.hid (show lv l = dec s.toList by rw [HI.out.2.2, show s.size - 9 * j = 0 by omega]; rfl)
      clear HO HI hlb hcap hj1 hj20
      generalize (s.size : Int) - 9 * (j : Int) = en at *
      go_wp2_with fail
      refine HT.out.mono ?_
      rintro e w2 ⟨v, l', rfl, hv, hl', rfl⟩
      go_wp2
      go_ret
      exact ⟨v, l', rfl, hv, by rw [hl', HV.out], HB.out⟩
end Go.Proofs.YtkpdbhpmnegahaaDoor
namespace Go.Proofs.YtkpdbhpmnegahaaDoor
open Go.RowKit Go.Sort
set_option linter.unusedVariables false
set_option linter.unusedSimpArgs false

theorem results_tmp3 {fn : Func} {a b c : Tmp} (h : fn.results = #[.tmp a, .tmp b, .tmp c]) (tmps : Array Value) (P : Program) (w : World) :
    (results fn tmps).run P w = .ok (.tuple #[tmps.getD a undef, tmps.getD b undef, tmps.getD c undef]) w := by
  simp only [results, h]
  simp [Sem.run_bind, Result.andThen]
theorem repeat_two (w : World) : Calls Tryd.prog 86 #[.string ⟨#[48]⟩, .int .i64 2] w fun e w' => e = .returned (.string ⟨#[48, 48]⟩) ∧ Below w.heap.size w w' := by
  have q := Tryd.strings_Repeat ⟨#[48]⟩ 2 w (by omega) (by decide)
  have e : (⟨(Lib.repeatL (⟨#[48]⟩ : ByteArray).data.toList 2).toArray⟩ : ByteArray) = ⟨#[48, 48]⟩ := by decide +kernel
  rw [e] at q
  exact q
set_option maxHeartbeats 4000000 in
theorem quotient_a (w : World) : Calls Tryd.prog 71 #[.string ⟨#[48, 46, 50, 53]⟩] w fun e w' => e = .returned (.tuple #[.string ⟨#[48, 50, 53]⟩, .string ⟨#[49, 48, 48]⟩, .bool true]) ∧ Below w.heap.size w w' := by
  have HA := Lib.hid lead_a
  have HL := Lib.hid lead_b
  have HR := Lib.hid repeat_two
  have e1 : (⟨#[46, 50, 53]⟩ : ByteArray).extract 1 3 = ⟨#[50, 53]⟩ := by decide +kernel
  have e2 : (⟨#[48]⟩ : ByteArray) ++ ⟨#[50, 53]⟩ = ⟨#[48, 50, 53]⟩ := by decide +kernel
  have e3 : (⟨#[49]⟩ : ByteArray) ++ ⟨#[48, 48]⟩ = ⟨#[49, 48, 48]⟩ := by decide +kernel
  go_enter Tryd.func71, Tryd.ntmps71
  go_wp2_with fail
  refine (HA.out _).mono ?_
  rintro e w1 ⟨rfl, hb1⟩
  have HB1 := Lib.hid hb1
  clear hb1
  go_wp2_with fail
  refine (HL.out _).mono ?_
  rintro e w2 ⟨rfl, hb2⟩
  have HB2 := Lib.hid (HB1.out.trans (hb2.mono HB1.out.size))
  clear hb2 HB1
  go_wp2_with fail
  refine (HR.out _).mono ?_
  rintro e w3 ⟨rfl, hb3⟩
  have HB3 := Lib.hid (HB2.out.trans (hb3.mono HB2.out.size))
  clear hb3 HB2
  go_wp2
  refine bodyPost_ret (v := .tuple #[.string ⟨#[48, 50, 53]⟩, .string ⟨#[49, 48, 48]⟩, .bool true]) ?_ rfl ⟨rfl, HB3.out⟩
  rw [results_tmp3 rfl]
  rfl
set_option maxHeartbeats 4000000 in
theorem quotient_b (w : World) : Calls Tryd.prog 71 #[.string ⟨#[48]⟩] w fun e w' => e = .returned (.tuple #[.string ⟨#[48]⟩, .string ⟨#[49]⟩, .bool true]) ∧ Below w.heap.size w w' := by
  have HA := Lib.hid lead_c
  go_enter Tryd.func71, Tryd.ntmps71
  go_wp2_with fail
  refine (HA.out _).mono ?_
  rintro e w1 ⟨rfl, hb1⟩
  have HB1 := Lib.hid hb1
  clear hb1
  go_wp2
  refine bodyPost_ret (v := .tuple #[.string ⟨#[48]⟩, .string ⟨#[49]⟩, .bool true]) ?_ rfl ⟨rfl, HB1.out⟩
  rw [results_tmp3 rfl]
  rfl
end Go.Proofs.YtkpdbhpmnegahaaDoor
namespace Go.Proofs.YtkpdbhpmnegahaaDoor
open Go.RowKit Go.Sort
set_option linter.unusedVariables false
set_option linter.unusedSimpArgs false

/-- how many digits a text begins with. -/
def ldN : List UInt8 → Nat
  | [] => 0
  | c :: l => if dig c then ldN l + 1 else 0
theorem ldN_le : ∀ l : List UInt8, ldN l ≤ l.length
  | [] => Nat.le_refl _
  | c :: l => by have := ldN_le l; simp only [ldN, List.length_cons]; split <;> omega
theorem ldN_dig : ∀ (l : List UInt8) (j : Nat) (h : j < ldN l) (hj : j < l.length), dig l[j] = true
  | [], j, h, hj => by simp at hj
  | c :: l, j, h, hj => by
    simp only [ldN] at h
    by_cases hc : dig c = true
    · rw [if_pos hc] at h
      cases j with
      | zero => exact hc
      | succ j => exact ldN_dig l j (by omega) (by simpa using hj)
    · rw [if_neg hc] at h; omega
theorem ldN_stop : ∀ (l : List UInt8) (h : ldN l < l.length), dig l[ldN l] = false
  | [], h => by simp at h
  | c :: l, h => by
    by_cases hc : dig c = true
    · have e : ldN (c :: l) = ldN l + 1 := by simp only [ldN]; rw [if_pos hc]
      have h2 : ldN l < l.length := by rw [e] at h; simpa using h
      simp only [e, List.getElem_cons_succ]
      exact ldN_stop l h2
    · have e : ldN (c :: l) = 0 := by simp only [ldN]; rw [if_neg hc]
      simp only [e, List.getElem_cons_zero]
      simpa using hc
theorem ldN_all (l : List UInt8) : (l.take (ldN l)).all dig = true := by
  rw [List.all_eq_true]
  intro x hx
  obtain ⟨j, hj, rfl⟩ := List.getElem_of_mem hx
  rw [List.getElem_take]
  rw [List.length_take] at hj
  exact ldN_dig l j (by omega) (by omega)
theorem ldN_of_all : ∀ (l : List UInt8), l.all dig = true → ldN l = l.length
  | [], _ => rfl
  | c :: l, h => by
    simp only [List.all_cons, Bool.and_eq_true] at h
    simp only [ldN, List.length_cons]; rw [if_pos h.1, ldN_of_all l h.2]
theorem ldN_app : ∀ (l : List UInt8) (c : UInt8) (r : List UInt8), l.all dig = true → dig c = false → ldN (l ++ c :: r) = l.length
  | [], c, r, _, hc => by simp only [List.nil_append, ldN]; rw [if_neg (by rw [hc]; simp)]; rfl
  | d :: l, c, r, h, hc => by
    simp only [List.all_cons, Bool.and_eq_true] at h
    simp only [List.cons_append, ldN, List.length_cons]; rw [if_pos h.1, ldN_app l c r h.2 hc]
theorem bs_get (l : List UInt8) (j : Nat) (h : j < (bs l).size) (h' : j < l.length) : (bs l)[j] = l[j] := by
  have := bytes_get (bs l) j h (by rw [bs_list]; exact h')
  simp only [bs_list] at this
  exact this.symm
theorem bs_extract (l : List UInt8) (a b : Nat) (h : a ≤ b) (hb : b ≤ l.length) : (bs l).extract a b = bs ((l.drop a).take (b - a)) := by
  refine ba_ext ?_
  rw [bs_list]
  have := ByteArray.toList_eq ((bs l).extract a b)
  rw [this]
  simp [bs, ByteArray.data_extract]
theorem leading_gen (l : List UInt8) (w : World) (hs : l.length ≤ 100) :
    Calls Tryd.prog 85 #[.string (bs l)] w fun e w' => e = .returned (.tuple #[.string (bs (l.take (ldN l))), .string (bs (l.drop (ldN l)))]) ∧ Below w.heap.size w w' :=
  leading_any (bs l) (ldN l) _ _ w (by rw [bs_size]; exact hs) (by rw [bs_size]; exact ldN_le l) (by rw [bs_extract l 0 (ldN l) (Nat.zero_le _) (ldN_le l)]; simp) (by rw [bs_size, bs_extract l (ldN l) l.length (ldN_le l) (Nat.le_refl _), List.take_of_length_le (by rw [List.length_drop]; omega)])
    (fun j h hj => (congrArg dig (bs_get l j hj (by rw [bs_size] at hj; exact hj))).trans (ldN_dig l j h (by rw [bs_size] at hj; exact hj))) (fun h => (congrArg dig (bs_get l (ldN l) h (by rw [bs_size] at h; exact h))).trans (ldN_stop l (by rw [bs_size] at h; exact h)))
/-- the digits above and below the line. -/
def qoO (l : List UInt8) : Option (List UInt8 × List UInt8) :=
  if l.take (ldN l) = [] ∨ ((l.take (ldN l)).head? = some 48 ∧ l.take (ldN l) ≠ [48]) then none else
  match l.drop (ldN l) with
  | [] => some (l.take (ldN l), [49])
  | c :: r => if r.take (ldN r) = [] ∨ r.drop (ldN r) ≠ [] then none
    else if c = 47 ∧ (r.take (ldN r)).head? ≠ some 48 then some (l.take (ldN l), r.take (ldN r))
    else if c = 46 ∧ (r.take (ldN r)).length ≤ 6 then some (l.take (ldN l) ++ r.take (ldN r), 49 :: List.replicate (r.take (ldN r)).length 48)
    else none
theorem repeat_gen (n : Nat) (w : World) (hn : n ≤ 6) : Calls Tryd.prog 86 #[.string ⟨#[48]⟩, .int .i64 n] w fun e w' => e = .returned (.string (bs (List.replicate n 48))) ∧ Below w.heap.size w w' := by
  have q := Tryd.strings_Repeat ⟨#[48]⟩ n w (by omega) (by have e1 : (⟨#[48]⟩ : ByteArray).size = 1 := rfl; first | (rw [e1]; omega) | (simp only [e1]; omega))
  have e : (⟨(Lib.repeatL (⟨#[48]⟩ : ByteArray).data.toList n).toArray⟩ : ByteArray) = bs (List.replicate n 48) := by
    match n, hn with
    | 0, _ => decide +kernel
    | 1, _ => decide +kernel
    | 2, _ => decide +kernel
    | 3, _ => decide +kernel
    | 4, _ => decide +kernel
    | 5, _ => decide +kernel
    | 6, _ => decide +kernel
  rw [e] at q
  exact q
def QoP (l : List UInt8) (w : World) (e : Ending) (w' : World) : Prop :=
  ((qoO l = none ∧ e = .returned (.tuple #[.string (bs []), .string (bs []), .bool false])) ∨ ∃ A B, qoO l = some (A, B) ∧ e = .returned (.tuple #[.string (bs A), .string (bs B), .bool true])) ∧ Below w.heap.size w w'
theorem bs_eql (a b : List UInt8) : ((bs a).toList == (bs b).toList) = decide (a = b) := by rw [bs_list, bs_list]; by_cases h : a = b <;> simp [h]
end Go.Proofs.YtkpdbhpmnegahaaDoor
namespace Go.Proofs.YtkpdbhpmnegahaaDoor
open Go.RowKit Go.Sort
set_option linter.unusedVariables false
set_option linter.unusedSimpArgs false

theorem byte_int {c : UInt8} {n : Nat} (hn : n < 256) : ((c.toNat : Int) == (n : Int)) = decide (c = UInt8.ofNat n) := by
  by_cases h : c = UInt8.ofNat n
  · subst h; simp [UInt8.toNat_ofNat', Nat.mod_eq_of_lt hn]
  · have : c.toNat ≠ n := fun e => h (by rw [← e]; exact (UInt8.ofNat_toNat).symm)
    simp [h]; omega
theorem head_at {A : List UInt8} (h : 0 < A.length) : A.head? = some A[0] := by cases A with
  | nil => simp at h
  | cons x A => rfl
/-- a text's list of bytes. -/
structure Tx (T : ByteArray) (l : List UInt8) : Prop where
  list : T.toList = l
  size : T.size = l.length
theorem tx_bs (l : List UInt8) : Tx (bs l) l := ⟨bs_list l, bs_size l⟩
theorem Tx.is {T : ByteArray} {l : List UInt8} (h : Tx T l) : T = bs l := ba_ext (by rw [h.list, bs_list])
theorem Tx.emp {T : ByteArray} {l : List UInt8} (h : Tx T l) {b : Bool} (e : decide (l = []) = b) : T.toList.isEmpty = b := by
  rw [h.list, ← e]; cases l <;> simp
theorem Tx.at {T : ByteArray} {l : List UInt8} (h : Tx T l) {j : Nat} (hj : j < T.size) (hl : j < l.length) : T[j] = l[j] := by
  have := bytes_get T j hj (by rw [h.list]; exact hl)
  rw [← this]
  simp only [h.list]
set_option maxRecDepth 100000 in
set_option maxHeartbeats 8000000 in
theorem quotient_gen (l : List UInt8) (w : World) (hs : l.length ≤ 90) : Calls Tryd.prog 71 #[.string (bs l)] w (QoP l w) := by
  have H1 := Lib.hid (leading_gen l w (by omega))
  obtain ⟨o, ho⟩ : ∃ o, o = qoO l := ⟨_, rfl⟩
  have HO := Lib.hid ho.symm
  unfold qoO at ho
  have HU := Lib.hid ho
  clear ho
  have hlA : (l.take (ldN l)).length ≤ 90 := by rw [List.length_take]; omega
  have hlR : (l.drop (ldN l)).length ≤ 90 := by rw [List.length_drop]; omega
  generalize l.take (ldN l) = A at *
  generalize l.drop (ldN l) = R at *
  obtain ⟨SL, hSL⟩ : ∃ T, bs l = T := ⟨_, rfl⟩
  obtain ⟨SA, hSA⟩ : ∃ T, bs A = T := ⟨_, rfl⟩
  obtain ⟨SR, hSR⟩ : ∃ T, bs R = T := ⟨_, rfl⟩
  have tA : Tx SA A := hSA ▸ tx_bs A
  have tR : Tx SR R := hSR ▸ tx_bs R
  rw [hSL, hSA, hSR] at H1
  rw [hSL]
  clear hSL hSR
  have HSA := Lib.hid hSA
  clear hSA
  by_cases a0 : A = []
  · rw [if_pos (.inl a0)] at HU
    have HQ := HU
    have f1 := tA.emp (decide_eq_true a0)
    clear tA tR HU
    go_enter Tryd.func71, Tryd.ntmps71
    go_wp2_with fail
    refine H1.out.mono ?_
    rintro e w1 ⟨rfl, hb1⟩
    have HB := Lib.hid hb1
    clear hb1 H1
    go_wp2
    refine bodyPost_ret (v := .tuple #[.string ⟨#[]⟩, .string ⟨#[]⟩, .bool false]) ?_ rfl ⟨.inl ⟨HO.out.trans HQ.out, rfl⟩, HB.out⟩
    rw [results_tmp3 rfl]
    rfl
  have f1 := tA.emp (decide_eq_false a0)
  have zA : 0 < A.length := List.length_pos_iff.2 a0
  have zS : 0 < SA.size := by rw [tA.size]; exact zA
  have hA0 : SA[0] = A[0] := tA.at zS zA
  have hhd := head_at zA
  have f2 : ((SA[0].toNat : Int) == 48) = decide (A[0] = 48) := by rw [hA0]; exact byte_int (n := 48) (by omega)
  have f3 : (SA.toList == [48]) = decide (A = [48]) := by rw [tA.list]; by_cases h : A = [48] <;> simp [h]
  by_cases a1 : A[0] = 48 ∧ A ≠ [48]
  · rw [if_pos (.inr ⟨by rw [hhd, a1.1], a1.2⟩)] at HU
    have HQ := HU
    rw [decide_eq_true a1.1] at f2
    rw [decide_eq_false a1.2] at f3
    clear tA tR HU hhd hA0 a1 a0
    go_enter Tryd.func71, Tryd.ntmps71
    go_wp2_with fail
    refine H1.out.mono ?_
    rintro e w1 ⟨rfl, hb1⟩
    have HB := Lib.hid hb1
    clear hb1 H1
    go_wp2
    refine bodyPost_ret (v := .tuple #[.string ⟨#[]⟩, .string ⟨#[]⟩, .bool false]) ?_ rfl ⟨.inl ⟨HO.out.trans HQ.out, rfl⟩, HB.out⟩
    rw [results_tmp3 rfl]
    rfl
  rw [if_neg (by rintro (h | ⟨h, h'⟩); exact a0 h; exact a1 ⟨by rw [hhd] at h; exact Option.some.inj h, h'⟩)] at HU
  have hcase : (((SA[0].toNat : Int) == 48) = true ∧ (SA.toList == [48]) = true) ∨ ((SA[0].toNat : Int) == 48) = false := by
    by_cases h : A[0] = 48
    · left
      have : A = [48] := Classical.byContradiction fun q => a1 ⟨h, q⟩
      rw [f2, f3]; simp [h, this]
    · right; rw [f2]; simp [h]
  have HSz := Lib.hid (show SA.size ≤ 90 by rw [tA.size]; exact hlA)
  clear f2 f3 a1 a0 hhd hA0 zA tA
  by_cases r0 : R = []
  · subst r0
    have HQ := HU
    have g1 := tR.emp (decide_eq_true rfl)
    have HR := Lib.hid (show Ending.returned (.tuple #[.string SA, .string ⟨#[49]⟩, .bool true]) = .returned (.tuple #[.string (bs A), .string (bs [49]), .bool true]) by rw [HSA.out]; rfl)
    clear tR HU
    rcases hcase with ⟨f2, f3⟩ | f2
    all_goals
      go_enter Tryd.func71, Tryd.ntmps71
      go_wp2_with fail
      refine H1.out.mono ?_
      rintro e w1 ⟨rfl, hb1⟩
      have HB := Lib.hid hb1
      clear hb1 H1
      go_wp2
      refine bodyPost_ret (v := .tuple #[.string SA, .string ⟨#[49]⟩, .bool true]) ?_ rfl ⟨.inr ⟨_, _, HO.out.trans HQ.out, by exact HR.out⟩, HB.out⟩
      rw [results_tmp3 rfl]
      rfl
  obtain ⟨c, r, rfl⟩ : ∃ c r, R = c :: r := by cases R with
    | nil => exact absurd rfl r0
    | cons c r => exact ⟨c, r, rfl⟩
  have g1 := tR.emp (decide_eq_false r0)
  have zR : 0 < SR.size := by rw [tR.size]; simp
  have zR1 : (1 : Int) ≤ (SR.size : Int) := by omega
  have hR0 : SR[0] = c := tR.at zR (by simp)
  have hex : SR.extract 1 SR.size = bs r := by
    refine ba_ext ?_
    rw [tR.is, bs_size, bs_extract (c :: r) 1 (c :: r).length (by simp) (Nat.le_refl _)]
    simp [bs_list]
  have hszR : SR.size ≤ 90 := by rw [tR.size]; exact hlR
  have H2 := Lib.hid (fun W => leading_gen r W (by simp at hlR; omega))
  have HPd := Lib.hid (show (r.take (ldN r)).length ≤ 90 by rw [List.length_take]; simp at hlR; omega)
  simp only at HU
  generalize r.take (ldN r) = P at *
  generalize r.drop (ldN r) = Q at *
  obtain ⟨Sr, hSr⟩ : ∃ T, bs r = T := ⟨_, rfl⟩
  obtain ⟨SP, hSP⟩ : ∃ T, bs P = T := ⟨_, rfl⟩
  obtain ⟨SQ, hSQ⟩ : ∃ T, bs Q = T := ⟨_, rfl⟩
  have tP : Tx SP P := hSP ▸ tx_bs P
  have tQ : Tx SQ Q := hSQ ▸ tx_bs Q
  rw [hSr, hSP, hSQ] at H2
  rw [hSr] at hex
  have HSP := Lib.hid hSP
  clear hSr hSP hSQ tR r0 hlR
  have e47 : ((SR[0].toNat : Int) == 47) = decide (c = 47) := by rw [hR0]; exact byte_int (n := 47) (by omega)
  have e46 : ((SR[0].toNat : Int) == 46) = decide (c = 46) := by rw [hR0]; exact byte_int (n := 46) (by omega)
  clear hR0
  by_cases p0 : P = []
  · rw [if_pos (.inl p0)] at HU
    have HQ := HU
    have q1 := tP.emp (decide_eq_true p0)
    clear tP tQ HU e47 e46
    rcases hcase with ⟨f2, f3⟩ | f2
    all_goals
      go_enter Tryd.func71, Tryd.ntmps71
      go_wp2_with fail
      refine H1.out.mono ?_
      rintro e w1 ⟨rfl, hb1⟩
      have HB := Lib.hid hb1
      clear hb1 H1
      go_wp2_with fail
      refine (H2.out _).mono ?_
      rintro e w2 ⟨rfl, hb2⟩
      have HB := Lib.hid (HB.out.trans (hb2.mono HB.out.size))
      clear hb2 H2
      go_wp2
      refine bodyPost_ret (v := .tuple #[.string ⟨#[]⟩, .string ⟨#[]⟩, .bool false]) ?_ rfl ⟨.inl ⟨HO.out.trans HQ.out, rfl⟩, HB.out⟩
      rw [results_tmp3 rfl]
      rfl
  have q1 := tP.emp (decide_eq_false p0)
  by_cases p1 : Q = []
  rotate_left
  · rw [if_pos (.inr p1)] at HU
    have HQ := HU
    have q2 := tQ.emp (decide_eq_false p1)
    clear tP tQ HU e47 e46
    rcases hcase with ⟨f2, f3⟩ | f2
    all_goals
      go_enter Tryd.func71, Tryd.ntmps71
      go_wp2_with fail
      refine H1.out.mono ?_
      rintro e w1 ⟨rfl, hb1⟩
      have HB := Lib.hid hb1
      clear hb1 H1
      go_wp2_with fail
      refine (H2.out _).mono ?_
      rintro e w2 ⟨rfl, hb2⟩
      have HB := Lib.hid (HB.out.trans (hb2.mono HB.out.size))
      clear hb2 H2
      go_wp2
      refine bodyPost_ret (v := .tuple #[.string ⟨#[]⟩, .string ⟨#[]⟩, .bool false]) ?_ rfl ⟨.inl ⟨HO.out.trans HQ.out, rfl⟩, HB.out⟩
      rw [results_tmp3 rfl]
      rfl
  have q2 := tQ.emp (decide_eq_true p1)
  rw [if_neg (by rintro (h | h); exact p0 h; exact h p1)] at HU
  have zP : 0 < P.length := List.length_pos_iff.2 p0
  have zSP : 0 < SP.size := by rw [tP.size]; exact zP
  have hP0 : SP[0] = P[0] := tP.at zSP zP
  have hhp := head_at zP
  have q3 : ((SP[0].toNat : Int) == 48) = decide (P[0] = 48) := by rw [hP0]; exact byte_int (n := 48) (by omega)
  have q3' : ((SP[0].toNat : Int) != 48) = decide (P[0] ≠ 48) := by
    have : ((SP[0].toNat : Int) != 48) = !((SP[0].toNat : Int) == 48) := rfl
    rw [this, q3]; by_cases h : P[0] = 48 <;> simp [h]
  have HSP2 := Lib.hid (show SP.size = P.length from tP.size)
  clear tQ p1
  by_cases c47 : c = 47
  · rw [decide_eq_true c47] at e47
    rw [decide_eq_false (show ¬ c = 46 by subst c47; decide)] at e46
    by_cases p48 : P[0] = 48
    · rw [if_neg (by rintro ⟨_, h⟩; exact h (by rw [hhp, p48])), if_neg (by rintro ⟨h, _⟩; subst c47; exact absurd h (by decide))] at HU
      have HQ := HU
      rw [decide_eq_true p48] at q3
      rw [decide_eq_false (fun h => h p48)] at q3'
      clear HU tP hhp hP0 p48 p0 zP
      rcases hcase with ⟨f2, f3⟩ | f2
      all_goals
        go_enter Tryd.func71, Tryd.ntmps71
        go_wp2_with fail
        refine H1.out.mono ?_
        rintro e w1 ⟨rfl, hb1⟩
        have HB := Lib.hid hb1
        clear hb1 H1
        go_wp2_with fail
        refine (H2.out _).mono ?_
        rintro e w2 ⟨rfl, hb2⟩
        have HB := Lib.hid (HB.out.trans (hb2.mono HB.out.size))
        clear hb2 H2
        go_wp2
        refine bodyPost_ret (v := .tuple #[.string ⟨#[]⟩, .string ⟨#[]⟩, .bool false]) ?_ rfl ⟨.inl ⟨HO.out.trans HQ.out, rfl⟩, HB.out⟩
        rw [results_tmp3 rfl]
        rfl
    · rw [if_pos ⟨c47, by rw [hhp]; intro h; exact p48 (Option.some.inj h)⟩] at HU
      have HQ := HU
      rw [decide_eq_false p48] at q3
      rw [decide_eq_true p48] at q3'
      have HR := Lib.hid (show Ending.returned (.tuple #[.string SA, .string SP, .bool true]) = .returned (.tuple #[.string (bs A), .string (bs P), .bool true]) by rw [HSA.out, HSP.out])
      clear HU tP hhp hP0 p48 p0 zP
      rcases hcase with ⟨f2, f3⟩ | f2
      all_goals
        go_enter Tryd.func71, Tryd.ntmps71
        go_wp2_with fail
        refine H1.out.mono ?_
        rintro e w1 ⟨rfl, hb1⟩
        have HB := Lib.hid hb1
        clear hb1 H1
        go_wp2_with fail
        refine (H2.out _).mono ?_
        rintro e w2 ⟨rfl, hb2⟩
        have HB := Lib.hid (HB.out.trans (hb2.mono HB.out.size))
        clear hb2 H2
        go_wp2
        refine bodyPost_ret (v := .tuple #[.string SA, .string SP, .bool true]) ?_ rfl ⟨.inr ⟨_, _, HO.out.trans HQ.out, by exact HR.out⟩, HB.out⟩
        rw [results_tmp3 rfl]
        rfl
  rw [decide_eq_false c47] at e47
  rw [if_neg (by rintro ⟨h, _⟩; exact c47 h)] at HU
  by_cases c46 : c = 46
  · rw [decide_eq_true c46] at e46
    by_cases p6 : P.length ≤ 6
    · rw [if_pos ⟨c46, p6⟩] at HU
      have HQ := HU
      have hp6 : (SP.size : Int) ≤ 6 := by rw [HSP2.out]; omega
      have hp6' : decide ((SP.size : Int) ≤ 6) = true := decide_eq_true hp6
      have H3 := Lib.hid (fun W => repeat_gen P.length W p6)
      have hpl := HSP2.out
      rw [← hpl] at H3
      obtain ⟨SZ, hSZ⟩ : ∃ T, bs (List.replicate SP.size 48) = T := ⟨_, rfl⟩
      have hzs : SZ.size = SP.size := by rw [← hSZ, bs_size, List.length_replicate]
      rw [hSZ] at H3
      have HR := Lib.hid (show Ending.returned (.tuple #[.string (SA ++ SP), .string (⟨#[49]⟩ ++ SZ), .bool true]) = .returned (.tuple #[.string (bs (A ++ P)), .string (bs (49 :: List.replicate P.length 48)), .bool true]) by
        rw [← HSA.out, ← HSP.out, bs_app, ← hSZ, show (⟨#[49]⟩ : ByteArray) = bs [49] from rfl, bs_app, hpl]; rfl)
      have hsa := HSz.out
      clear HU tP hhp hP0 p0 zP hSZ hpl p6 q3 q3'
      rcases hcase with ⟨f2, f3⟩ | f2
      all_goals
        go_enter Tryd.func71, Tryd.ntmps71
        go_wp2_with fail
        refine H1.out.mono ?_
        rintro e w1 ⟨rfl, hb1⟩
        have HB := Lib.hid hb1
        clear hb1 H1
        go_wp2_with fail
        refine (H2.out _).mono ?_
        rintro e w2 ⟨rfl, hb2⟩
        have HB := Lib.hid (HB.out.trans (hb2.mono HB.out.size))
        clear hb2 H2
        go_wp2_with fail
        refine (H3.out _).mono ?_
        rintro e w3 ⟨rfl, hb3⟩
        have HB := Lib.hid (HB.out.trans (hb3.mono HB.out.size))
        clear hb3 H3
        go_wp2
        refine bodyPost_ret (v := .tuple #[.string (SA ++ SP), .string (⟨#[49]⟩ ++ SZ), .bool true]) ?_ rfl ⟨.inr ⟨_, _, HO.out.trans HQ.out, by exact HR.out⟩, HB.out⟩
        rw [results_tmp3 rfl]
        rfl
    · rw [if_neg (by rintro ⟨_, h⟩; exact p6 h)] at HU
      have HQ := HU
      have hp6 : ¬ (SP.size : Int) ≤ 6 := by rw [HSP2.out]; omega
      have hp6' : decide ((SP.size : Int) ≤ 6) = false := decide_eq_false hp6
      clear HU tP hhp hP0 p0 zP q3 q3'
      rcases hcase with ⟨f2, f3⟩ | f2
      all_goals
        go_enter Tryd.func71, Tryd.ntmps71
        go_wp2_with fail
        refine H1.out.mono ?_
        rintro e w1 ⟨rfl, hb1⟩
        have HB := Lib.hid hb1
        clear hb1 H1
        go_wp2_with fail
        refine (H2.out _).mono ?_
        rintro e w2 ⟨rfl, hb2⟩
        have HB := Lib.hid (HB.out.trans (hb2.mono HB.out.size))
        clear hb2 H2
        go_wp2
        refine bodyPost_ret (v := .tuple #[.string ⟨#[]⟩, .string ⟨#[]⟩, .bool false]) ?_ rfl ⟨.inl ⟨HO.out.trans HQ.out, rfl⟩, HB.out⟩
        rw [results_tmp3 rfl]
        rfl
  · rw [decide_eq_false c46] at e46
    rw [if_neg (by rintro ⟨h, _⟩; exact c46 h)] at HU
    have HQ := HU
    clear HU tP hhp hP0 p0 zP q3 q3'
    rcases hcase with ⟨f2, f3⟩ | f2
    all_goals
      go_enter Tryd.func71, Tryd.ntmps71
      go_wp2_with fail
      refine H1.out.mono ?_
      rintro e w1 ⟨rfl, hb1⟩
      have HB := Lib.hid hb1
      clear hb1 H1
      go_wp2_with fail
      refine (H2.out _).mono ?_
      rintro e w2 ⟨rfl, hb2⟩
      have HB := Lib.hid (HB.out.trans (hb2.mono HB.out.size))
      clear hb2 H2
      go_wp2
      refine bodyPost_ret (v := .tuple #[.string ⟨#[]⟩, .string ⟨#[]⟩, .bool false]) ?_ rfl ⟨.inl ⟨HO.out.trans HQ.out, rfl⟩, HB.out⟩
      rw [results_tmp3 rfl]
      rfl
end Go.Proofs.YtkpdbhpmnegahaaDoor
