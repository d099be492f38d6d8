/- What trim, subtract, divide and its search return for numbers of one limb. -/
import Derived.Test.YtlndomnampcnfaaFrF
import Derived.Test.YtlndomnampcnfaaRow1
namespace Go.Proofs.Ytlndomnampcnfaa
open Go.RowKit Go.Sort
set_option linter.unusedVariables false
set_option linter.unusedSimpArgs false

/-- a number of at most one limb. -/
def NatV (N : Nat) (w : World) (v : Value) (n : Nat) : Prop :=
  (n = 0 ∧ ∃ ao c, v = .slice ao 0 c) ∨ (0 < n ∧ n < 1000000000 ∧ ∃ B c, N ≤ B ∧ 1 ≤ c ∧ v = .slice (some ⟨B, 0, none⟩) 1 c ∧ B < w.heap.size ∧ w.cell? ⟨B, 0, none⟩ = some (.int .i64 n))
theorem NatV.lower {w : World} {v : Value} {n M M' : Nat} (h : NatV M w v n) (hM : M' ≤ M) : NatV M' w v n := by
  rcases h with h | ⟨h1, h2, B, c, h0, h3⟩
  · exact .inl h
  · exact .inr ⟨h1, h2, B, c, Nat.le_trans hM h0, h3⟩
theorem NatV.set {w : World} {v : Value} {n M : Nat} (h : NatV M w v n) (p : Addr) (hp : p.block < M) (x : Value) : NatV M (w.setCell p x) v n := by
  rcases h with h | ⟨h1, h2, B, c, h0, h3, h4, h5, h6⟩
  · exact .inl h
  · exact .inr ⟨h1, h2, B, c, h0, h3, h4, by simpa using h5, by rw [World.cell?_setCell_other _ _ _ _ (by intro e; subst e; simp at hp; omega)]; exact h6⟩
theorem NatV.below {w w' : World} {v : Value} {n N M : Nat} (h : NatV M w v n) (hb : Below N w w') (hN : w.heap.size ≤ N) : NatV M w' v n := by
  rcases h with h | ⟨h1, h2, B, c, h0, h3, h4, h5, h6⟩
  · exact .inl h
  · exact .inr ⟨h1, h2, B, c, h0, h3, h4, Nat.lt_of_lt_of_le h5 hb.size, by rw [hb.cell (Nat.lt_of_lt_of_le h5 hN)]; exact h6⟩
def slLen : Value → Nat
  | .slice _ n _ => n
  | _ => 0
set_option maxHeartbeats 1000000 in
theorem trim_zero (B c : Nat) (w : World) (hc : 1 ≤ c) (hcell : w.cell? ⟨B, 0, none⟩ = some (.int .i64 0)) :
    Calls Try.prog 34 #[.slice (some ⟨B, 0, none⟩) 1 c] w fun e w' => e = .returned (.slice (some ⟨B, 0, none⟩) 0 c) ∧ w = w' := by
  go_enter Try.func34, Try.ntmps34
  go_wp2
  go_loop [0] (fun x => ∃ k : Nat, k ≤ 1 ∧ x = .slice (some ⟨B, 0, none⟩) k c) (fun x => slLen x)
  case atStart => exact ⟨1, Nat.le_refl _, rfl⟩
  case round =>
    obtain ⟨k, hk, rfl⟩ := hrel
    rcases Nat.lt_or_ge 0 k with h | h
    · obtain rfl : k = 1 := by omega
      go_wp2
      go_round
      case rel => exact ⟨0, Nat.zero_le _, rfl⟩
      case measure => simp [slLen]
    · obtain rfl : k = 0 := by omega
      go_wp2
      go_ret
      exact ⟨rfl, rfl⟩
set_option maxHeartbeats 1000000 in
theorem trim_more (B c : Nat) (z : Int) (w : World) (hc : 1 ≤ c) (hcell : w.cell? ⟨B, 0, none⟩ = some (.int .i64 z)) (hz : (z == 0) = false) :
    Calls Try.prog 34 #[.slice (some ⟨B, 0, none⟩) 1 c] w fun e w' => e = .returned (.slice (some ⟨B, 0, none⟩) 1 c) ∧ w = w' := by
  go_enter Try.func34, Try.ntmps34
  go_wp2
  go_loop [0] (fun x => x = .slice (some ⟨B, 0, none⟩) 1 c) (fun x => slLen x)
  case atStart => rfl
  case round =>
    subst hrel
    go_wp2
    go_ret
    exact ⟨rfl, rfl⟩
theorem trim_one (B c : Nat) (n N : Nat) (w : World) (hN : N ≤ B) (hc : 1 ≤ c) (hcell : w.cell? ⟨B, 0, none⟩ = some (.int .i64 n)) (hB : B < w.heap.size) (hn : n < 1000000000) :
    Calls Try.prog 34 #[.slice (some ⟨B, 0, none⟩) 1 c] w fun e w' => ∃ v, e = .returned v ∧ NatV N w' v n ∧ w = w' := by
  rcases Nat.eq_zero_or_pos n with h | h
  · subst h
    refine (trim_zero B c w hc hcell).mono ?_
    rintro e w' ⟨rfl, rfl⟩
    exact ⟨_, rfl, .inl ⟨rfl, _, _, rfl⟩, rfl⟩
  · refine (trim_more B c n w hc hcell (by simp; omega)).mono ?_
    rintro e w' ⟨rfl, rfl⟩
    exact ⟨_, rfl, .inr ⟨h, hn, B, c, hN, hc, rfl, hB, hcell⟩, rfl⟩
theorem und_nat : Try.prog.underlying 45 = some (.slice 3) := by kernel_rfl
theorem inf_int : (Try.prog.info? 3).map (fun i => (i.zero, i.size, i.bytes)) = some (some (.int .i64 0), 1, 8) := by kernel_rfl
/-- what subtract leaves of a - m: a number, or nothing. -/
def SubP (w : World) (a m : Int) (e : Ending) (w' : World) : Prop :=
  (∃ v, e = .returned (.tuple #[v, .bool (decide (m ≤ a))]) ∧ (m ≤ a → NatV w.heap.size w' v (a - m).toNat)) ∧ Below w.heap.size w w'
set_option maxRecDepth 100000 in
set_option maxHeartbeats 4000000 in
theorem subtract_one (X Y cx cy : Nat) (a b q m : Int) (w : World) (a1 : 0 ≤ a) (a2 : a < 1000000000) (b1 : 0 ≤ b) (b2 : b < 1000000000) (q1 : 0 ≤ q) (q2 : q ≤ 1000001) (hm : q * b = m) (m1 : 0 ≤ m) (m2 : m ≤ 1000001000000000) (hcx : 1 ≤ cx) (hcy : 1 ≤ cy)
    (hx : w.cell? ⟨X, 0, none⟩ = some (.int .i64 a)) (hy : w.cell? ⟨Y, 0, none⟩ = some (.int .i64 b)) (lx : X < w.heap.size) (ly : Y < w.heap.size) :
    Calls Try.prog 62 #[.slice (some ⟨X, 0, none⟩) 1 cx, .slice (some ⟨Y, 0, none⟩) 1 cy, .int .i64 q] w (SubP w a m) := by
  obtain ⟨i0, hi, hz0, hz1, hz2⟩ := info_parts inf_int
  have HX := Lib.hid hx
  have HY := Lib.hid hy
  have HLX := Lib.hid lx
  have HLY := Lib.hid ly
  clear hx hy lx ly
  go_enter Try.func62, Try.ntmps62
  go_wp2_with (at_make; refine wpList_make_full _ rfl _ _ 45 rfl w.heap.size 3 i0 (.int .i64 0) 1 und_nat hi hz0 hz1 _ _ _ _ 1 rfl rfl rfl rfl ?_ ?_ ?_ ?_)
  · rw [hz2]; omega
  · unfold maxLen; omega
  · exact Nat.le_refl _
  intro w1 hown hgr
  have HP0 := Lib.hid (PaV.made hown)
  have HB0 := Lib.hid (show Below w.heap.size w w1 from (Below.refl _ _).grown hgr (Nat.le_refl _) (by simp))
  clear hown hgr
  have HM := Lib.hid hm
  by_cases hle : m ≤ a
  · have hlt : ¬ a - m < 0 := by omega
    have HD : decide (m ≤ a) = true := decide_eq_true hle
    go_wp2_with fail
    go_loopw [8, 16] (fun br i wr => (i = .int .i64 0 ∧ br = .int .i64 0 ∧ Hid (PaV wr w.heap.size 1 (fun _ => .int .i64 0)) ∧ Hid (Below w.heap.size w wr)) ∨ (i = .int .i64 1 ∧ br = .int .i64 0 ∧ Hid (PaV wr w.heap.size 1 (fun _ => .int .i64 (a - m))) ∧ Hid (Below w.heap.size w wr))) (fun _ i _ => (1 - intOf i).toNat)
    case atStart => exact .inl ⟨rfl, rfl, HP0, HB0⟩
    case round =>
      rcases hrel with ⟨rfl, rfl, HP, HB⟩ | ⟨rfl, rfl, HP, HB⟩
      · skip
        have cx1 : wr.cell? ⟨X, 0, none⟩ = some (.int .i64 a) := by rw [HB.out.cell HLX.out]; exact HX.out
        have cy1 : wr.cell? ⟨Y, 0, none⟩ = some (.int .i64 b) := by rw [HB.out.cell HLY.out]; exact HY.out
        have p0 := (HP.out.2 0 (by omega)).1
        have p1 := (HP.out.2 0 (by omega)).2
        go_wp2
        go_roundw
        case rel => exact .inr ⟨rfl, rfl, Lib.hid (HP.out.set (g := fun _ => .int .i64 (a - m)) 0 (by omega) (fun t ht e => by omega)), Lib.hid (HB.out.setCell (p := ⟨w.heap.size, 0, none⟩) (Nat.le_refl _) _)⟩
        case measure => simp [intOf]
      · have p0 := (HP.out.2 0 (by omega)).1
        have HT := Lib.hid (trim_one w.heap.size 1 (a - m).toNat w.heap.size wr (Nat.le_refl _) (Nat.le_refl _) (by rw [p0]; simp; omega) HP.out.1 (by omega))
        clear p0
        go_wp2_with fail
        refine HT.out.mono ?_
        rintro e w2 ⟨v, rfl, hv, rfl⟩
        go_wp2
        go_ret2
        exact ⟨⟨v, by rw [HD]; rfl, fun _ => hv⟩, HB.out⟩
  · have hlt : a - m < 0 := by omega
    have HD : decide (m ≤ a) = false := decide_eq_false hle
    have HBR : ∃ BR : Int, BR = (999999999 - (a - m)) / 1000000000 := ⟨_, rfl⟩
    obtain ⟨BR, hBR⟩ := HBR
    have r1 : 1 ≤ BR := by omega
    have r2 : BR ≤ 1000002 := by omega
    have r3 : (BR != 0) = true := by simp; omega
    have HBRR := Lib.hid hBR
    clear hBR
    go_wp2_with fail
    go_loopw [8, 16] (fun br i wr => (i = .int .i64 0 ∧ br = .int .i64 0 ∧ Hid (∃ R, PaV wr w.heap.size 1 (fun _ => R)) ∧ Hid (Below w.heap.size w wr)) ∨ (i = .int .i64 1 ∧ br = .int .i64 BR ∧ Hid (Below w.heap.size w wr))) (fun _ i _ => (1 - intOf i).toNat)
    case atStart => exact .inl ⟨rfl, rfl, Lib.hid ⟨_, HP0.out⟩, HB0⟩
    case round =>
      rcases hrel with ⟨rfl, rfl, HP, HB⟩ | ⟨rfl, rfl, HB⟩
      · skip
        have cx1 : wr.cell? ⟨X, 0, none⟩ = some (.int .i64 a) := by rw [HB.out.cell HLX.out]; exact HX.out
        have cy1 : wr.cell? ⟨Y, 0, none⟩ = some (.int .i64 b) := by rw [HB.out.cell HLY.out]; exact HY.out
        have p0 := (HP.out.choose_spec.2 0 (by omega)).1
        have p1 := (HP.out.choose_spec.2 0 (by omega)).2
        have z1 : (999999999 - (a - m)).tdiv 1000000000 = BR := by rw [Int.tdiv_eq_ediv_of_nonneg (by omega)]; exact HBRR.out.symm
        have z2 : (999999999 - (a - m)) / 1000000000 = BR := HBRR.out.symm
        go_wp2
        go_roundw
        case rel => exact .inr ⟨rfl, rfl, Lib.hid (HB.out.setCell (p := ⟨w.heap.size, 0, none⟩) (Nat.le_refl _) _)⟩
        case measure => simp [intOf]
      · go_wp2
        go_ret2
        exact ⟨⟨.slice none 0 0, by rw [HD]; rfl, fun h => absurd h (by omega)⟩, HB.out⟩
set_option maxHeartbeats 4000000 in
theorem divC_one (P Q X Y cx cy : Nat) (a b q : Nat) (w : World) (a2 : a < 1000000000) (b2 : b < 1000000000) (q2 : q ≤ 1000000) (hcx : 1 ≤ cx) (hcy : 1 ≤ cy)
    (hp : w.cell? ⟨P, 0, none⟩ = some (.slice (some ⟨X, 0, none⟩) 1 cx)) (hq : w.cell? ⟨Q, 0, none⟩ = some (.slice (some ⟨Y, 0, none⟩) 1 cy))
    (hx : w.cell? ⟨X, 0, none⟩ = some (.int .i64 a)) (hy : w.cell? ⟨Y, 0, none⟩ = some (.int .i64 b)) (lx : X < w.heap.size) (ly : Y < w.heap.size) :
    Calls Try.prog 61 #[.int .i64 q, .pointer (some ⟨P, 0, none⟩), .pointer (some ⟨Q, 0, none⟩)] w fun e w' => e = .returned (.bool (decide (a < (q + 1) * b))) ∧ Below w.heap.size w w' := by
  have m2 : (q + 1) * b ≤ 1000001 * 1000000000 := Nat.mul_le_mul (by omega) (by omega)
  have HC := Lib.hid (subtract_one X Y cx cy a b (q + 1 : Nat) ((q + 1) * b : Nat) w (by omega) (by omega) (by omega) (by omega) (by omega) (by omega) (by simp) (by omega) (by omega) hcx hcy hx hy lx ly)
  have HE := Lib.hid (show (!decide (((q + 1) * b : Nat) ≤ (a : Int))) = decide (a < (q + 1) * b) by rw [← decide_not]; congr 1; apply propext; omega)
  rw [show ((q + 1 : Nat) : Int) = (q : Int) + 1 from rfl] at HC
  generalize (((q + 1) * b : Nat) : Int) = M at *
  clear hx hy lx ly m2
  go_enter Try.func61, Try.ntmps61
  go_wp2_with fail
  refine HC.out.mono ?_
  rintro e w2 ⟨⟨v, rfl, hv⟩, hb⟩
  go_wp2
  go_ret
  exact ⟨ret_bool HE.out, hb⟩
set_option maxHeartbeats 4000000 in
theorem search_one (P Q X Y cx cy : Nat) (a b : Nat) (w : World) (a2 : a < 1000000000) (b1 : 0 < b) (b2 : b < 1000000000) (hab : a / b ≤ 1000000) (hcx : 1 ≤ cx) (hcy : 1 ≤ cy)
    (hp : w.cell? ⟨P, 0, none⟩ = some (.slice (some ⟨X, 0, none⟩) 1 cx)) (hq : w.cell? ⟨Q, 0, none⟩ = some (.slice (some ⟨Y, 0, none⟩) 1 cy))
    (hx : w.cell? ⟨X, 0, none⟩ = some (.int .i64 a)) (hy : w.cell? ⟨Y, 0, none⟩ = some (.int .i64 b)) (lx : X < w.heap.size) (ly : Y < w.heap.size) (lp : P < w.heap.size) (lq : Q < w.heap.size) :
    Calls Try.prog 60 #[.int .i64 1000001, .func (.func 61) #[] #[.pointer (some ⟨P, 0, none⟩), .pointer (some ⟨Q, 0, none⟩)]] w fun e w' => e = .returned (.int .i64 (a / b : Nat)) ∧ Below w.heap.size w w' := by
  have HC := Lib.hid (fun (q : Nat) (q2 : q ≤ 1000000) (W : World) (hb : Below w.heap.size w W) => divC_one P Q X Y cx cy a b q W a2 b2 q2 hcx hcy (by rw [hb.cell lp]; exact hp) (by rw [hb.cell lq]; exact hq) (by rw [hb.cell lx]; exact hx) (by rw [hb.cell ly]; exact hy) (Nat.lt_of_lt_of_le lx hb.size) (Nat.lt_of_lt_of_le ly hb.size))
  have HT := Lib.hid (fun (q : Nat) => show decide (a < (q + 1) * b) = decide (a / b ≤ q) by congr 1; apply propext; rw [← Nat.div_lt_iff_lt_mul b1]; omega)
  clear hp hq hx hy lx ly lp lq
  generalize a / b = D at *
  go_enter Try.func60, Try.ntmps60
  go_wp2_with fail
  go_loopw [5, 6] (fun i j wr => ∃ x y : Nat, i = .int .i64 x ∧ j = .int .i64 y ∧ x ≤ D ∧ D ≤ y ∧ y ≤ 1000001 ∧ Hid (Below w.heap.size w wr)) (fun i j _ => (intOf j - intOf i).toNat)
  case atStart => exact ⟨0, 1000001, rfl, rfl, Nat.zero_le _, by omega, Nat.le_refl _, Lib.hid (Below.refl _ _)⟩
  case round =>
    obtain ⟨x, y, rfl, rfl, hx, hy, hy2, HB⟩ := hrel
    by_cases h : x < y
    · have h' : (x : Int) < (y : Int) := by omega
      have hz : ∃ z : Nat, ((x : Int) + (y : Int)) / 2 = (z : Int) ∧ x ≤ z ∧ z < y := ⟨(x + y) / 2, by omega, by omega, by omega⟩
      obtain ⟨z, hz, z1, z2⟩ := hz
      by_cases hd : D ≤ z
      · have HCz := Lib.hid (show Calls Try.prog 61 #[.int .i64 z, .pointer (some ⟨P, 0, none⟩), .pointer (some ⟨Q, 0, none⟩)] wr fun e w' => e = .returned (.bool true) ∧ Below wr.heap.size wr w' by have q := HC.out z (by omega) wr HB.out; rw [HT.out z, decide_eq_true hd] at q; exact q)
        go_wp2_with fail
        refine HCz.out.mono ?_
        rintro e w2 ⟨rfl, hb⟩
        have HB2 := Lib.hid (HB.out.trans (hb.mono HB.out.size))
        clear hb HB HC HCz
        go_wp2
        go_roundw
        case rel => exact ⟨x, z, rfl, rfl, hx, hd, by omega, HB2⟩
        case measure => simp [intOf]; omega
      · have HCz := Lib.hid (show Calls Try.prog 61 #[.int .i64 z, .pointer (some ⟨P, 0, none⟩), .pointer (some ⟨Q, 0, none⟩)] wr fun e w' => e = .returned (.bool false) ∧ Below wr.heap.size wr w' by have q := HC.out z (by omega) wr HB.out; rw [HT.out z, decide_eq_false hd] at q; exact q)
        go_wp2_with fail
        refine HCz.out.mono ?_
        rintro e w2 ⟨rfl, hb⟩
        have HB2 := Lib.hid (HB.out.trans (hb.mono HB.out.size))
        clear hb HB HC HCz
        go_wp2
        go_roundw
        case rel => exact ⟨z + 1, y, by go_num, rfl, by omega, hy, hy2, HB2⟩
        case measure => simp [intOf]; omega
    · have h' : ¬ (x : Int) < (y : Int) := by omega
      go_wp2
      go_ret
      exact ⟨by rw [show x = D by omega]; rfl, HB.out⟩
set_option maxRecDepth 100000 in
set_option maxHeartbeats 4000000 in
theorem divide_one (X Y cx cy : Nat) (a b D R : Nat) (w : World) (a2 : a < 1000000000) (b1 : 0 < b) (b2 : b < 1000000000) (hD : a / b = D) (hR : a % b = R) (hab : D ≤ 1000000) (hcx : 1 ≤ cx) (hcy : 1 ≤ cy)
    (hx : w.cell? ⟨X, 0, none⟩ = some (.int .i64 a)) (hy : w.cell? ⟨Y, 0, none⟩ = some (.int .i64 b)) (lx : X < w.heap.size) (ly : Y < w.heap.size) :
    Calls Try.prog 35 #[.slice (some ⟨X, 0, none⟩) 1 cx, .slice (some ⟨Y, 0, none⟩) 1 cy] w fun e w' => ∃ v, e = .returned (.tuple #[.int .i64 D, v]) ∧ NatV w.heap.size w' v R ∧ Below w.heap.size w w' := by
  have HX := Lib.hid hx
  have HY := Lib.hid hy
  have HLX := Lib.hid lx
  have HLY := Lib.hid ly
  clear hx hy lx ly
  have hdm := Nat.div_add_mod a b
  have HM := Lib.hid (show D * b + R = a by rw [← hD, ← hR, Nat.mul_comm]; exact hdm)
  clear hdm hR
  have m2 : D * b ≤ a := by have := HM.out; omega
  have HDD := Lib.hid hD
  clear hD
  go_enter Try.func35, Try.ntmps35
  go_wp2_with fail
  have P0_1 := Lib.hid (show Cell1 ((w.alloc (Obj.cells #[(.slice (some ⟨X, 0, none⟩) 1 cx)] 45)).alloc (Obj.cells #[(.slice (some ⟨Y, 0, none⟩) 1 cy)] 45)) (w.heap.size) (.slice (some ⟨X, 0, none⟩) 1 cx) from by have q := Cell1.alloc w (.slice (some ⟨X, 0, none⟩) 1 cx) 45; exact q.below (N := w.heap.size + 1) ((Below.refl _ _).alloc (by simp <;> omega) (Obj.cells #[(.slice (some ⟨Y, 0, none⟩) 1 cy)] 45)) (by omega))
  have P1_1 := Lib.hid (show Cell1 ((w.alloc (Obj.cells #[(.slice (some ⟨X, 0, none⟩) 1 cx)] 45)).alloc (Obj.cells #[(.slice (some ⟨Y, 0, none⟩) 1 cy)] 45)) (w.heap.size + 1) (.slice (some ⟨Y, 0, none⟩) 1 cy) from by simpa using Cell1.alloc (w.alloc (Obj.cells #[(.slice (some ⟨X, 0, none⟩) 1 cx)] 45)) (.slice (some ⟨Y, 0, none⟩) 1 cy) 45)
  have HB1 := Lib.hid (((Below.refl w.heap.size w).alloc (Nat.le_refl _) (Obj.cells #[(.slice (some ⟨X, 0, none⟩) 1 cx)] 45)).alloc (by simp) (Obj.cells #[(.slice (some ⟨Y, 0, none⟩) 1 cy)] 45))
  generalize ((w.alloc (Obj.cells #[(.slice (some ⟨X, 0, none⟩) 1 cx)] 45)).alloc (Obj.cells #[(.slice (some ⟨Y, 0, none⟩) 1 cy)] 45)) = W1 at *
  have HS := Lib.hid (search_one w.heap.size (w.heap.size + 1) X Y cx cy a b W1 a2 b1 b2 (by rw [HDD.out]; exact hab) hcx hcy P0_1.out.c0 P1_1.out.c0 (by rw [HB1.out.cell HLX.out]; exact HX.out) (by rw [HB1.out.cell HLY.out]; exact HY.out) (Nat.lt_of_lt_of_le HLX.out HB1.out.size) (Nat.lt_of_lt_of_le HLY.out HB1.out.size) P0_1.out.lt P1_1.out.lt)
  have hnb : ¬ (1000000 : Int) < (D : Int) := by omega
  rw [HDD.out] at HS
  refine (HS.out).mono ?_
  rintro e W2 ⟨rfl, hb2⟩
  have HB2 := Lib.hid (HB1.out.trans ((hb2).mono HB1.out.size))
  have P0_2 := Lib.hid (P0_1.out.below (hb2) P0_1.out.lt)
  have P1_2 := Lib.hid (P1_1.out.below (hb2) P1_1.out.lt)
  clear HB1 P0_1 P1_1 hb2
  have lP0_2 := P0_2.out.lt
  have cP0_2_0 := P0_2.out.c0
  have lP1_2 := P1_2.out.lt
  have cP1_2_0 := P1_2.out.c0
  have hx2 : W2.cell? ⟨X, 0, none⟩ = some (.int .i64 a) := by rw [HB2.out.cell HLX.out]; exact HX.out
  have hy2 : W2.cell? ⟨Y, 0, none⟩ = some (.int .i64 b) := by rw [HB2.out.cell HLY.out]; exact HY.out
  have HC := Lib.hid (subtract_one X Y cx cy a b (D : Nat) (D * b : Nat) W2 (by omega) (by omega) (by omega) (by omega) (by omega) (by omega) (by simp) (by omega) (by omega) hcx hcy hx2 hy2 (Nat.lt_of_lt_of_le HLX.out HB2.out.size) (Nat.lt_of_lt_of_le HLY.out HB2.out.size))
  clear hx2 hy2
  go_wp2_with fail
  refine HC.out.mono ?_
  rintro e w2 ⟨⟨v, rfl, hv⟩, hb⟩
  go_wp2
  go_ret2
  have e1 : ((a : Int) - ((D * b : Nat) : Int)).toNat = R := by have := HM.out; omega
  exact ⟨v, rfl, (e1 ▸ hv (by omega)).lower HB2.out.size, HB2.out.trans (hb.mono HB2.out.size)⟩
end Go.Proofs.Ytlndomnampcnfaa
