/- What Join and Same of package accountingref06 return. -/
import Derived.Test.YtfccpkjjbbmmaaaWdO
namespace Go.Proofs.Ytfccpkjjbbmmaaa
open Go.RowKit
set_option linter.unusedVariables false
set_option linter.unusedSimpArgs false

theorem bs_app (a b : List UInt8) : bs a ++ bs b = bs (a ++ b) := ByteArray.mk_append_mk a b
theorem zW_take {L : List (Int × List UInt8 × Int)} {j : Nat} {x : Int × List UInt8 × Int} (h : L[j]? = some x) : zW (L.take (j + 1)) = zW (L.take j) ++ [(x.1, x.2.1, 0)] := by
  have hj : j < L.length := (List.getElem?_eq_some_iff.1 h).1
  have e : L[j] = x := (List.getElem?_eq_some_iff.1 h).2
  unfold zW; rw [List.take_succ_eq_append_getElem hj, List.map_append, e]; rfl
theorem jo_first {L : List (Int × List UInt8 × Int)} {x : Int × List UInt8 × Int} (h : L[0]? = some x) : joL (zW (L.take (0 + 1))) = noL x.1 x.2.1 := by
  rw [zW_take h]; simp [zW, joL]
theorem jo_next {L : List (Int × List UInt8 × Int)} {j : Nat} {x : Int × List UInt8 × Int} (h : L[j]? = some x) (hj : 0 < j) : joL (zW (L.take (j + 1))) = joL (zW (L.take j)) ++ 32 :: noL x.1 x.2.1 := by
  rw [zW_take h, joL_snoc]
  have hjl : j < L.length := (List.getElem?_eq_some_iff.1 h).1
  intro e
  have := congrArg List.length e
  unfold zW at this
  rw [List.length_map, List.length_take, List.length_nil] at this
  omega
set_option maxHeartbeats 4000000 in
theorem rJoin_any (ao : Option Addr) (c : Nat) (L : List (Int × List UInt8 × Int)) (w : World) (hR : RowW w ao L) (hn : L.length ≤ 400) (hS : ∀ x ∈ L, x.2.1.length ≤ 1000) :
    Calls Try.prog 22 #[.slice ao L.length c] w fun e w' => e = .returned (.tuple #[.string (bs (jnV L)), .int .i64 (jnE L)]) ∧ Below w.heap.size w w' := by
  have HR := Lib.hid hR
  have HS := Lib.hid hS
  clear hR hS
  go_enter Try.func22, Try.ntmps22
  go_wp2
  go_loopw [4, 5] (fun l i wr => ∃ (j : Nat), j ≤ L.length ∧ i = .int .i64 (j : Int) ∧ l = .string (bs (joL (zW (L.take j)))) ∧ Hid (Below w.heap.size w wr) ∧ Hid (∀ t x, t < j → L[t]? = some x → goodW x.1 x.2.1)) (fun _ i _ => L.length - (intOf i).toNat)
  case atStart => exact ⟨0, by omega, by go_num, rfl, Lib.hid (Below.refl _ _), Lib.hid (fun t x h => by omega)⟩
  case round =>
    obtain ⟨j, hj, rfl, rfl, HB, HG⟩ := hrel
    have HA1 := Lib.hid (show allG (L.take j) from fun x hx => by
      obtain ⟨t, ht, e⟩ := List.mem_iff_getElem.1 hx
      rw [List.length_take] at ht
      refine HG.out t x (by omega) ?_
      rw [List.getElem_take] at e
      rw [List.getElem?_eq_getElem (by omega), e])
    have hlen0 : (joL (zW (L.take j))).length ≤ 123 * 400 := Nat.le_trans (joL_len _ HA1.out) (by rw [List.length_take]; omega)
    by_cases h : j < L.length
    · have hij : (j : Int) < (L.length : Int) := by omega
      obtain ⟨x, hx⟩ : ∃ x, L[j]? = some x := ⟨_, List.getElem?_eq_getElem h⟩
      have hxm : x ∈ L := List.mem_of_getElem? hx
      obtain ⟨b, off, rfl, hlb, c0, c1, c2⟩ := (HR.out.below HB.out) j x hx
      have H1 := Lib.hid (fun w => rNotation_any x.1 x.2.2 (bs x.2.1) w (by rw [bs_size]; exact HS.out x hxm))
      by_cases hg : goodW x.1 x.2.1
      · have e1 : ntB x.1 (bs x.2.1) = true := by unfold ntB; rw [bs_list]; exact decide_eq_true hg
        unfold RnP at H1
        rw [e1, bs_list] at H1
        have HG2 := Lib.hid (show ∀ t y, t < j + 1 → L[t]? = some y → goodW y.1 y.2.1 from fun t y ht hy => by
          rcases Nat.lt_or_ge t j with k | k
          · exact HG.out t y k hy
          · obtain rfl : t = j := by omega
            rw [hx] at hy; injection hy with hy; subst hy; exact hg)
        have hgl := good_len hg
        have z1 : (bs (noL x.1 x.2.1)).size ≤ 122 := by rw [bs_size]; exact hgl
        have z0 : (bs (joL (zW (L.take j)))).size ≤ 123 * 400 := by rw [bs_size]; exact hlen0
        by_cases k0 : 0 < j
        · have k1 : (0 : Int) < (j : Int) := by omega
          have HN := Lib.hid (show bs (joL (zW (L.take j))) ++ ⟨#[32]⟩ ++ bs (noL x.1 x.2.1) = bs (joL (zW (L.take (j + 1)))) by
            rw [jo_next hx k0, show (⟨#[32]⟩ : ByteArray) = bs [32] from rfl, bs_app, bs_app]; simp)
          clear e1 hg hxm hx hgl hlen0
          generalize bs (joL (zW (L.take j))) = T0 at *
          generalize bs (noL x.1 x.2.1) = T1 at *
          go_wp2_with fail
          refine (H1.out _).mono ?_
          rintro e W1 ⟨⟨T, he, hT⟩, hb1⟩
          have hT := hT (by trivial)
          subst hT
          subst he
          have HB1 := Lib.hid (HB.out.trans (hb1.mono HB.out.size))
          clear hb1
          go_wp2
          go_roundw
          case rel => exact ⟨j + 1, by omega, by go_num, by rw [← HN.out], HB1, HG2⟩
          case measure => simp [intOf]; omega
        · obtain rfl : j = 0 := by omega
          simp only [Nat.zero_mul, Nat.add_zero] at c0 c1 c2
          have HN := Lib.hid (show bs (joL (zW (L.take 0))) ++ bs (noL x.1 x.2.1) = bs (joL (zW (L.take (0 + 1)))) by
            rw [jo_first hx, bs_app]; simp [zW, joL])
          clear e1 hg hxm hx hgl hlen0
          generalize bs (joL (zW (L.take 0))) = T0 at *
          generalize bs (noL x.1 x.2.1) = T1 at *
          go_wp2_with fail
          refine (H1.out _).mono ?_
          rintro e W1 ⟨⟨T, he, hT⟩, hb1⟩
          have hT := hT (by trivial)
          subst hT
          subst he
          have HB1 := Lib.hid (HB.out.trans (hb1.mono HB.out.size))
          clear hb1
          go_wp2
          go_roundw
          case rel => exact ⟨0 + 1, by omega, by go_num, by rw [← HN.out], HB1, HG2⟩
          case measure => simp [intOf]; omega
      · have e1 : ntB x.1 (bs x.2.1) = false := by unfold ntB; rw [bs_list]; exact decide_eq_false hg
        unfold RnP at H1
        rw [e1] at H1
        have HJ := Lib.hid (jn_bad hxm hg)
        clear e1 hg hxm hx
        go_wp2_with fail
        refine (H1.out _).mono ?_
        rintro e W1 ⟨⟨T, he, _⟩, hb1⟩
        subst he
        have HB1 := Lib.hid (HB.out.trans (hb1.mono HB.out.size))
        clear hb1
        go_wp2
        go_ret2
        exact ⟨by rw [HJ.out.1, HJ.out.2]; rfl, HB1.out⟩
    · have hij : ¬ (j : Int) < (L.length : Int) := by omega
      obtain rfl : j = L.length := by omega
      have HA := Lib.hid (show allG L by have := HA1.out; rwa [List.take_length] at this)
      rw [List.take_length] at *
      have HL := Lib.hid (bs_size (joL (zW L)))
      by_cases h4 : 400 < (joL (zW L)).length
      · have q : (400 : Int) < ((bs (joL (zW L))).size : Int) := by rw [HL.out]; omega
        have HJ := Lib.hid (jn_long HA.out h4)
        clear h4 hlen0
        generalize bs (joL (zW L)) = T at *
        go_wp2
        go_ret2
        exact ⟨by rw [HJ.out.1, HJ.out.2]; rfl, HB.out⟩
      · have q : ¬ (400 : Int) < ((bs (joL (zW L))).size : Int) := by rw [HL.out]; omega
        have HJ := Lib.hid (jn_ok HA.out h4)
        clear h4 hlen0
        have HJ2 := Lib.hid (show bs (jnV L) = bs (joL (zW L)) by rw [HJ.out.2])
        generalize bs (joL (zW L)) = T at *
        go_wp2
        go_ret2
        exact ⟨by rw [HJ.out.1, HJ2.out]; rfl, HB.out⟩

theorem neqWd (x y : Int × List UInt8 × Int) (b : Bool) (h : (x == y) = b) (w : World) : (Op.equalIn 10000 39 (.agg #[.int .i64 x.1, .string (bs x.2.1), .int .i64 x.2.2]) (.agg #[.int .i64 y.1, .string (bs y.2.1), .int .i64 y.2.2])).run Try.prog w = .ok b w := by
  rw [eqWd, bs_list, bs_list, ← h]
  rfl
theorem take_eq {L1 L2 : List (Int × List UInt8 × Int)} {j : Nat} {x y : Int × List UInt8 × Int} (hx : L1[j]? = some x) (hy : L2[j]? = some y) (h : L1.take j = L2.take j) (e : (x == y) = true) : L1.take (j + 1) = L2.take (j + 1) := by
  have h1 : j < L1.length := (List.getElem?_eq_some_iff.1 hx).1
  have h2 : j < L2.length := (List.getElem?_eq_some_iff.1 hy).1
  rw [List.take_succ_eq_append_getElem h1, List.take_succ_eq_append_getElem h2, h, (List.getElem?_eq_some_iff.1 hx).2, (List.getElem?_eq_some_iff.1 hy).2, eq_of_beq e]
set_option maxHeartbeats 4000000 in
theorem rSame_any (a1 a2 : Option Addr) (c1 c2 : Nat) (L1 L2 : List (Int × List UInt8 × Int)) (w : World) (hR1 : RowW w a1 L1) (hR2 : RowW w a2 L2) (hn : L1.length ≤ 1000) (hn2 : L2.length ≤ 1000) :
    Calls Try.prog 17 #[.slice a1 L1.length c1, .slice a2 L2.length c2] w fun e w' => e = .returned (.bool (decide (L1 = L2))) ∧ Below w.heap.size w w' := by
  have HR1 := Lib.hid hR1
  have HR2 := Lib.hid hR2
  clear hR1 hR2
  by_cases hl : L1.length = L2.length
  · have q : ((L1.length : Int) != (L2.length : Int)) = false := by simp; omega
    go_enter Try.func17, Try.ntmps17
    go_wp2
    go_loopw [5] (fun i wr => ∃ (j : Nat), j ≤ L1.length ∧ i = .int .i64 (j : Int) ∧ Hid (Below w.heap.size w wr) ∧ Hid (L1.take j = L2.take j)) (fun i _ => L1.length - (intOf i).toNat)
    case atStart => exact ⟨0, by omega, by go_num, Lib.hid (Below.refl _ _), Lib.hid rfl⟩
    case round =>
      obtain ⟨j, hj, rfl, HB, HT⟩ := hrel
      by_cases h : j < L1.length
      · have hij : (j : Int) < (L1.length : Int) := by omega
        have hij2 : (j : Int) < (L2.length : Int) := by omega
        obtain ⟨x, hx⟩ : ∃ x, L1[j]? = some x := ⟨_, List.getElem?_eq_getElem h⟩
        obtain ⟨y, hy⟩ : ∃ y, L2[j]? = some y := ⟨_, List.getElem?_eq_getElem (show j < L2.length by omega)⟩
        obtain ⟨b, off, rfl, hlb, x0, x1, x2⟩ := (HR1.out.below HB.out) j x hx
        obtain ⟨b', off', rfl, hlb', y0, y1, y2⟩ := (HR2.out.below HB.out) j y hy
        have lx0 := cell_regrown x0
        have lx1 := cell_regrown x1
        have lx2 := cell_regrown x2
        have ly0 := cell_regrown y0
        have ly1 := cell_regrown y1
        have ly2 := cell_regrown y2
        cases hxy : (x == y)
        · have hq := neqWd x y false hxy
          have HN := Lib.hid (show decide (L1 = L2) = false from decide_eq_false (fun e => by
            rw [e, hy] at hx; injection hx with hx; rw [hx] at hxy; simp at hxy))
          clear hxy hx hy x0 x1 x2 y0 y1 y2
          go_wp2_with fail
          refine wp_region_quiet_below (l := _) (by kernel_rfl) (by kernel_rfl) ?_
          repeat (first | go_big_quiet_step (fail))
          refine wpQuiet_nil ?_
          intro w2 hw'
          obtain ⟨⟨dq2, osq2⟩, hw''⟩ := hw'
          have hb2 := below_regrown wr dq2 osq2
          rw [← hw''] at hb2
          clear hw''
          go_wp2
          go_ret
          exact ⟨by rw [HN.out]; rfl, HB.out.trans (hb2.mono HB.out.size)⟩
        · have hq := neqWd x y true hxy
          have HT2 := Lib.hid (take_eq hx hy HT.out hxy)
          clear hxy hx hy x0 x1 x2 y0 y1 y2
          go_wp2_with fail
          refine wp_region_quiet_below (l := _) (by kernel_rfl) (by kernel_rfl) ?_
          repeat (first | go_big_quiet_step (fail))
          refine wpQuiet_nil ?_
          intro w2 hw'
          obtain ⟨⟨dq2, osq2⟩, hw''⟩ := hw'
          have hb2 := below_regrown wr dq2 osq2
          rw [← hw''] at hb2
          clear hw''
          have HB2 := Lib.hid (HB.out.trans (hb2.mono HB.out.size))
          clear hb2
          go_wp2
          go_roundw
          case rel => exact ⟨j + 1, by omega, by go_num, HB2, HT2⟩
          case measure => simp [intOf]; omega
      · have hij : ¬ (j : Int) < (L1.length : Int) := by omega
        have HN := Lib.hid (show decide (L1 = L2) = true from decide_eq_true (by
          have := HT.out
          rwa [List.take_of_length_le (by omega), List.take_of_length_le (by omega)] at this))
        go_wp2
        go_ret
        exact ⟨by rw [HN.out]; rfl, HB.out⟩
  · have q : ((L1.length : Int) != (L2.length : Int)) = true := by simp; omega
    have HN := Lib.hid (show decide (L1 = L2) = false from decide_eq_false (fun e => hl (by rw [e])))
    go_enter Try.func17, Try.ntmps17
    go_wp2
    go_ret
    exact ⟨by rw [HN.out]; rfl, Below.refl _ _⟩
end Go.Proofs.Ytfccpkjjbbmmaaa
