/- Words in memory; what Join of packages words and accountingref06 returns. -/
import Derived.Test.YtfccpkjjbbmmaaaWdL
namespace Go.Proofs.Ytfccpkjjbbmmaaa
open Go.RowKit
set_option linter.unusedVariables false
set_option linter.unusedSimpArgs false

theorem add_is (b off k : Nat) : (⟨b, off, none⟩ : Addr).add k = ⟨b, off + k, none⟩ := by
  unfold Addr.add; split
  · rename_i e; subst e; rfl
  · rfl
/-- a slice of words in memory: kinds, texts, offsets. -/
def RowW (w : World) (ao : Option Addr) (L : List (Int × List UInt8 × Int)) : Prop :=
  ∀ i x, L[i]? = some x → ∃ b off, ao = some ⟨b, off, none⟩ ∧ b < w.heap.size ∧ w.cell? ⟨b, off + i * 3, none⟩ = some (.int .i64 x.1) ∧ w.cell? ⟨b, off + i * 3 + 1, none⟩ = some (.string (bs x.2.1)) ∧ w.cell? ⟨b, off + i * 3 + 2, none⟩ = some (.int .i64 x.2.2)
theorem RowW.below {w w' : World} {ao : Option Addr} {L : List (Int × List UInt8 × Int)} (h : RowW w ao L) (hb : Below w.heap.size w w') : RowW w' ao L := by
  intro i x hx
  obtain ⟨b, off, e, hl, c0, c1, c2⟩ := h i x hx
  exact ⟨b, off, e, Nat.lt_of_lt_of_le hl hb.size, by rw [hb.cell hl]; exact c0, by rw [hb.cell hl]; exact c1, by rw [hb.cell hl]; exact c2⟩
def toI (l : List (Int × List UInt8 × Nat)) : List (Int × List UInt8 × Int) := l.map fun x => (x.1, x.2.1, (x.2.2 : Int))
theorem wdCs_get : ∀ (l : List (Int × List UInt8 × Nat)) (i : Nat) (x : Int × List UInt8 × Nat), l[i]? = some x → (wdCs l)[i * 3]? = some (.int .i64 x.1) ∧ (wdCs l)[i * 3 + 1]? = some (.string (bs x.2.1)) ∧ (wdCs l)[i * 3 + 2]? = some (.int .i64 (x.2.2 : Int))
  | [], i, x, h => by simp at h
  | y :: l, 0, x, h => by simp at h; subst h; simp [wdCs, wdC]
  | y :: l, i + 1, x, h => by
    have ih := wdCs_get l i x (by simpa using h)
    have e : wdCs (y :: l) = wdC y ++ wdCs l := rfl
    rw [e]
    have g : ∀ k, (wdC y ++ wdCs l)[(i + 1) * 3 + k]? = (wdCs l)[i * 3 + k]? := fun k => by
      rw [List.getElem?_append_right (by simp [wdC]; omega)]
      congr 1
      simp [wdC]; omega
    exact ⟨by rw [show (i + 1) * 3 = (i + 1) * 3 + 0 by omega, g]; exact ih.1, by rw [g]; exact ih.2.1, by rw [g]; exact ih.2.2⟩
theorem OwnW.row {w : World} {base : Nat} {ao : Option Addr} {n cap : Nat} {l : List (Int × List UInt8 × Nat)} (h : OwnW w base (.slice ao n cap) l) : RowW w ao (toI l) := by
  intro i x hx
  unfold toI at hx
  rw [List.getElem?_map] at hx
  obtain ⟨y, hy, rfl⟩ := Option.map_eq_some_iff.1 hx
  rcases h.2 with ⟨e, n⟩ | ⟨g, cap, cur, e, _, e3, _⟩
  · have : l = [] := List.length_eq_zero_iff.1 n
    subst this; simp at hy
  · injection e with e1 e2 e4
    subst e1
    have c := h.cells (g := g) rfl
    obtain ⟨q0, q1, q2⟩ := wdCs_get l i y hy
    refine ⟨g, 0, rfl, lt_of_block e3, ?_, ?_, ?_⟩
    · have := c _ _ q0; rw [add_is] at this; exact this
    · have := c _ _ q1; rw [add_is] at this; exact this
    · have := c _ _ q2; rw [add_is] at this; exact this
/-- the words without their offsets. -/
def zW (L : List (Int × List UInt8 × Int)) : List (Int × List UInt8 × Nat) := L.map fun x => (x.1, x.2.1, 0)
def allG (L : List (Int × List UInt8 × Int)) : Prop := ∀ x ∈ L, goodW x.1 x.2.1
instance (L : List (Int × List UInt8 × Int)) : Decidable (allG L) := by unfold allG; infer_instance
/-- what Join returns. -/
def jnE (L : List (Int × List UInt8 × Int)) : Int := if allG L then (if 400 < (joL (zW L)).length then 9 else 0) else 5
def jnV (L : List (Int × List UInt8 × Int)) : List UInt8 := if jnE L = 0 then joL (zW L) else []
theorem jn_bad {L : List (Int × List UInt8 × Int)} {x : Int × List UInt8 × Int} (hx : x ∈ L) (h : ¬ goodW x.1 x.2.1) : jnE L = 5 ∧ jnV L = [] := by
  have e : jnE L = 5 := if_neg (fun y => h (y x hx))
  exact ⟨e, by unfold jnV; rw [e]; rfl⟩
theorem jn_long {L : List (Int × List UInt8 × Int)} (h : allG L) (hl : 400 < (joL (zW L)).length) : jnE L = 9 ∧ jnV L = [] := by
  have e : jnE L = 9 := by unfold jnE; rw [if_pos h, if_pos hl]
  exact ⟨e, by unfold jnV; rw [e]; rfl⟩
theorem jn_ok {L : List (Int × List UInt8 × Int)} (h : allG L) (hl : ¬ 400 < (joL (zW L)).length) : jnE L = 0 ∧ jnV L = joL (zW L) := by
  have e : jnE L = 0 := by unfold jnE; rw [if_pos h, if_neg hl]
  exact ⟨e, by unfold jnV; rw [e]; rfl⟩
/-- the notations. -/
def noX (x : Int × List UInt8 × Int) : ByteArray := bs (noL x.1 x.2.1)
theorem noX_list (x : Int × List UInt8 × Int) : (noX x).data.toList = noL x.1 x.2.1 := by rw [← ByteArray.toList_eq]; exact bs_list _
theorem inter_join : ∀ (L : List (Int × List UInt8 × Int)), Lib.join ((L.map noX).map (·.data.toList)) [32] = joL (zW L)
  | [] => rfl
  | [x] => by simp [Lib.join, List.intercalate, noX_list, joL, zW]
  | x :: y :: L => by
    have ih := inter_join (y :: L)
    unfold Lib.join at ih ⊢
    simp only [List.map_cons] at ih ⊢
    rw [List.intercalate_cons_cons, ih, noX_list]
    show _ = noL x.1 x.2.1 ++ 32 :: joL (zW (y :: L))
    simp
theorem joL_len : ∀ (L : List (Int × List UInt8 × Int)), allG L → (joL (zW L)).length ≤ 123 * L.length
  | [], _ => by simp [zW, joL]
  | [x], h => by
    have := good_len (h x (by simp))
    simp [zW, joL]; omega
  | x :: y :: L, h => by
    have h1 := good_len (h x (by simp))
    have ih := joL_len (y :: L) (fun z hz => h z (by simp at hz ⊢; right; exact hz))
    show (noL x.1 x.2.1 ++ 32 :: joL (zW (y :: L))).length ≤ _
    simp at ih ⊢; omega
/-- strings in the block P. -/
def PaI (w : World) (P n : Nat) (f : Nat → ByteArray) : Prop := P < w.heap.size ∧ ∀ t, t < n → w.cell? ⟨P, t, none⟩ = some (.string (f t)) ∧ w.frozen? ⟨P, t, none⟩ = false
theorem PaI.below {w w' : World} {P n N : Nat} {f : Nat → ByteArray} (h : PaI w P n f) (hb : Below N w w') (hP : P < N) (hs : P < w'.heap.size) : PaI w' P n f :=
  ⟨hs, fun t ht => ⟨by rw [hb.cell hP]; exact (h.2 t ht).1, by rw [hb.frozen hP]; exact (h.2 t ht).2⟩⟩
theorem PaI.set {w : World} {P n : Nat} {f g : Nat → ByteArray} (h : PaI w P n f) (j : Nat) (hj : j < n) (hg : ∀ t, t < n → t ≠ j → g t = f t) : PaI (w.setCell ⟨P, j, none⟩ (.string (g j))) P n g := by
  refine ⟨by simpa using h.1, fun t ht => ⟨?_, by rw [World.frozen?_setCell]; exact (h.2 t ht).2⟩⟩
  by_cases e : t = j
  · subst e; exact World.cell?_setCell_same _ _ _ (h.2 t hj).1
  · rw [World.cell?_setCell_other _ _ _ _ (by intro x; injection x with _ y; exact e y.symm), hg t ht e]; exact (h.2 t ht).1
theorem PaI.made {w : World} {base P n : Nat} (h : w.ownsRow base 9 1 (.slice (some ⟨P, 0, none⟩) n n) n (madeCells #[.string ⟨#[]⟩] (n * 1)).toList) : PaI w P n (fun _ => ⟨#[]⟩) := by
  rcases h.2 with ⟨e, _⟩ | ⟨g, cap, cur, e, _, e3, e4⟩
  · exact absurd e (by simp)
  · injection e with e1 e2 e5
    injection e1 with e1
    injection e1 with e1
    subst e1
    refine ⟨lt_of_block e3, fun t ht => ⟨?_, ?_⟩⟩
    · have := h.cells (g := P) rfl t (.string ⟨#[]⟩) (by rw [Nat.mul_one, toList_madeCells_one, List.getElem?_replicate]; simp [ht])
      rw [add_is, Nat.zero_add] at this; exact this
    · unfold World.frozen?; rw [e3]; simp
theorem inf_str : (Try.prog.info? 9).map (fun i => (i.zero, i.size, i.bytes)) = some (some (.string ⟨#[]⟩), 1, 16) := by kernel_rfl
def fJ (L : List (Int × List UInt8 × Int)) (j t : Nat) : ByteArray := if t < j then (L[t]?.map noX).getD ⟨#[]⟩ else ⟨#[]⟩
theorem fJ_old {L : List (Int × List UInt8 × Int)} {j t : Nat} (h : t ≠ j) : fJ L (j + 1) t = fJ L j t := by
  unfold fJ
  by_cases k : t < j
  · rw [if_pos k, if_pos (by omega)]
  · rw [if_neg k, if_neg (by omega)]
theorem fJ_new {L : List (Int × List UInt8 × Int)} {j : Nat} {x : Int × List UInt8 × Int} (h : L[j]? = some x) : fJ L (j + 1) j = noX x := by
  unfold fJ; rw [if_pos (by omega), h]; rfl
set_option maxHeartbeats 4000000 in
theorem join_any (ao : Option Addr) (c : Nat) (L : List (Int × List UInt8 × Int)) (w : World) (hR : RowW w ao L) (hn : L.length ≤ 400) (hS : ∀ x ∈ L, x.2.1.length ≤ 1000) :
    Calls Try.prog 21 #[.slice ao L.length c] w fun e w' => e = .returned (.tuple #[.string (bs (jnV L)), .int .i64 (jnE L)]) ∧ Below w.heap.size w w' := by
  have HR := Lib.hid hR
  have HS := Lib.hid hS
  clear hR hS
  obtain ⟨i0, hi, hz0, hz1, hz2⟩ := info_parts inf_str
  have HI := Lib.hid (⟨hi, hz0, hz1, hz2⟩ : _ ∧ _ ∧ _ ∧ _)
  clear hi hz0 hz1 hz2
  go_enter Try.func21, Try.ntmps21
  go_wp2_with (at_make; refine wpList_make_full _ rfl _ _ 48 rfl w.heap.size 9 i0 (.string ⟨#[]⟩) 1 und_strs HI.out.1 HI.out.2.1 HI.out.2.2.1 .i64 .i64 _ _ L.length rfl rfl rfl rfl (by rw [HI.out.2.2.2]; omega) (by unfold maxLen; omega) (Nat.le_refl _) ?_; intro W0 hown hgrow; have HP0 := Lib.hid (PaI.made hown); have HB0 := Lib.hid ((Below.refl w.heap.size w).grown hgrow (Nat.le_refl _) (fun k hk => by cases hk)); clear hown hgrow)
  go_loopw [14] (fun i wr => ∃ (j : Nat), j ≤ L.length ∧ i = .int .i64 (j : Int) ∧ Hid (PaI wr w.heap.size L.length (fJ L j)) ∧ Hid (Below w.heap.size w wr) ∧ Hid (∀ t x, t < j → L[t]? = some x → goodW x.1 x.2.1)) (fun i _ => L.length - (intOf i).toNat)
  case atStart => exact ⟨0, by omega, by go_num, Lib.hid (by have := HP0.out; exact ⟨this.1, fun t ht => by rw [show fJ L 0 t = ⟨#[]⟩ from if_neg (by omega)]; exact this.2 t ht⟩), HB0, Lib.hid (fun t x h => by omega)⟩
  case round =>
    obtain ⟨j, hj, rfl, HP, HB, HG⟩ := hrel
    have hHP := HP.out.1
    by_cases h : j < L.length
    · have hij : (j : Int) < (L.length : Int) := by omega
      obtain ⟨x, hx⟩ : ∃ x, L[j]? = some x := ⟨_, List.getElem?_eq_getElem h⟩
      have hxm : x ∈ L := List.mem_of_getElem? hx
      obtain ⟨b, off, rfl, hlb, c0, c1, c2⟩ := (HR.out.below HB.out) j x hx
      have H1 := Lib.hid (fun w => notation_any x.1 x.2.2 (bs x.2.1) w (by rw [bs_size]; exact HS.out x hxm))
      have HPn := Lib.hid (fun v => PaI.set (w := v) (P := w.heap.size) (n := L.length) (f := fJ L j) (g := fJ L (j + 1)))
      by_cases hg : goodW x.1 x.2.1
      · have e1 : ntB x.1 (bs x.2.1) = true := by unfold ntB; rw [bs_list]; exact decide_eq_true hg
        have e2 : ntV x.1 (bs x.2.1) = noL x.1 x.2.1 := by unfold ntV; rw [bs_list]; exact if_pos hg
        unfold NtP at H1
        rw [e1, e2] at H1
        have HG2 := Lib.hid (show ∀ t y, t < j + 1 → L[t]? = some y → goodW y.1 y.2.1 from fun t y ht hy => by
          rcases Nat.lt_or_ge t j with k | k
          · exact HG.out t y k hy
          · obtain rfl : t = j := by omega
            rw [hx] at hy; injection hy with hy; subst hy; exact hg)
        have HN := Lib.hid (fJ_new hx)
        clear e1 e2 hg hxm hx
        go_wp2_with fail
        refine (H1.out _).mono ?_
        rintro e W1 ⟨rfl, hb1⟩
        have HB1 := Lib.hid (HB.out.trans ((((Below.refl _ _).alloc (Nat.le_refl _) (Obj.cells #[.int .i64 x.1, .string (bs x.2.1), .int .i64 x.2.2] 39)).trans (hb1.mono (by simp))).mono HB.out.size))
        have HP1 := Lib.hid (HP.out.below (((Below.refl wr.heap.size wr).alloc (Nat.le_refl _) (Obj.cells #[.int .i64 x.1, .string (bs x.2.1), .int .i64 x.2.2] 39)).trans (hb1.mono (by simp))) hHP (by have h1 := hb1.size; simp at h1; omega))
        clear hb1
        have p0 := (HP1.out.2 j h).1
        have p1 := (HP1.out.2 j h).2
        have HP2 := Lib.hid (HP1.out.set (g := fJ L (j + 1)) j h (fun t _ ht => fJ_old ht))
        have HB2 := Lib.hid (HB1.out.setCell (p := ⟨w.heap.size, j, none⟩) (by simp) (.string (bs (noL x.1 x.2.1))))
        have HN2 := Lib.hid (show fJ L (j + 1) j = bs (noL x.1 x.2.1) from HN.out)
        rw [HN2.out] at HP2
        clear HN HN2
        go_wp2
        go_roundw
        case rel => exact ⟨j + 1, by omega, by go_num, HP2, HB2, HG2⟩
        case measure => simp [intOf]; omega
      · have e1 : ntB x.1 (bs x.2.1) = false := by unfold ntB; rw [bs_list]; exact decide_eq_false hg
        unfold NtP at H1
        rw [e1] at H1
        have HJ := Lib.hid (jn_bad hxm hg)
        clear e1 hg hxm hx
        generalize ntV x.1 (bs x.2.1) = V at *
        go_wp2_with fail
        refine (H1.out _).mono ?_
        rintro e W1 ⟨rfl, hb1⟩
        have HB1 := Lib.hid (HB.out.trans ((((Below.refl _ _).alloc (Nat.le_refl _) (Obj.cells #[.int .i64 x.1, .string (bs x.2.1), .int .i64 x.2.2] 39)).trans (hb1.mono (by simp))).mono HB.out.size))
        clear hb1
        go_wp2
        go_ret2
        exact ⟨by rw [HJ.out.1, HJ.out.2]; rfl, HB1.out⟩
    · have hij : ¬ (j : Int) < (L.length : Int) := by omega
      obtain rfl : j = L.length := by omega
      have HA := Lib.hid (show allG L from fun x hx => by
        obtain ⟨t, ht, e⟩ := List.mem_iff_getElem.1 hx
        exact HG.out t x ht (by rw [List.getElem?_eq_getElem ht, e]))
      have hlen := joL_len L HA.out
      have HJN := Lib.hid (show ∀ w' : World, PaI w' w.heap.size L.length (fJ L L.length) → Calls Try.prog 30 #[.slice (some ⟨w.heap.size, 0, none⟩) L.length L.length, .string ⟨#[32]⟩] w' fun e w'' => e = .returned (.string (bs (joL (zW L)))) ∧ Below w'.heap.size w' w'' from fun w' hp => by
        have := Try.strings_Join w.heap.size 0 L.length (L.map noX) ⟨#[32]⟩ w' (fun j x hx => by
          rw [List.getElem?_map] at hx
          obtain ⟨y, hy, rfl⟩ := Option.map_eq_some_iff.1 hx
          have hj : j < L.length := (List.getElem?_eq_some_iff.1 hy).1
          have := (hp.2 j hj).1
          rw [show fJ L L.length j = noX y by unfold fJ; rw [if_pos hj, hy]; rfl] at this
          simpa using this) hp.1 (by simp; omega) (by simp) (by rw [show (⟨#[32]⟩ : ByteArray).data.toList = [32] from rfl, inter_join]; omega)
        rw [show (⟨#[32]⟩ : ByteArray).data.toList = [32] from rfl, inter_join, List.length_map] at this
        exact this)
      have HL := Lib.hid (bs_size (joL (zW L)))
      by_cases h4 : 400 < (joL (zW L)).length
      · have q : (400 : Int) < ((bs (joL (zW L))).size : Int) := by rw [HL.out]; omega
        have HJ := Lib.hid (jn_long HA.out h4)
        clear h4 hlen
        generalize bs (joL (zW L)) = T at *
        go_wp2_with fail
        refine (HJN.out _ HP.out).mono ?_
        rintro e W1 ⟨rfl, hb1⟩
        have HB1 := Lib.hid (HB.out.trans (hb1.mono HB.out.size))
        clear hb1
        go_wp2
        go_ret2
        exact ⟨by rw [HJ.out.1, HJ.out.2]; rfl, HB1.out⟩
      · have q : ¬ (400 : Int) < ((bs (joL (zW L))).size : Int) := by rw [HL.out]; omega
        have HJ := Lib.hid (jn_ok HA.out h4)
        clear h4 hlen
        have HJ2 := Lib.hid (show bs (jnV L) = bs (joL (zW L)) by rw [HJ.out.2])
        generalize bs (joL (zW L)) = T at *
        go_wp2_with fail
        refine (HJN.out _ HP.out).mono ?_
        rintro e W1 ⟨rfl, hb1⟩
        have HB1 := Lib.hid (HB.out.trans (hb1.mono HB.out.size))
        clear hb1
        go_wp2
        go_ret2
        exact ⟨by rw [HJ.out.1, HJ2.out]; rfl, HB1.out⟩
end Go.Proofs.Ytfccpkjjbbmmaaa
