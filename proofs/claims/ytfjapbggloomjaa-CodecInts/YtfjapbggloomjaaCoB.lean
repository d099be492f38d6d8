/- What PutInt of package accountingref13 and TakeInt of packages codec and accountingref13 return. -/
import Derived.Test.YtfjapbggloomjaaCoA
import Derived.Laws.ShiftsVarLaws
namespace Go.Proofs.Ytfjapbggloomjaa
open Go.RowKit Go.Sort
set_option linter.unusedVariables false
set_option linter.unusedSimpArgs false

theorem un_is {n : Int} : (0 ≤ n → (unV n : Int) = 2 * n) ∧ (n < 0 → (unV n : Int) = -2 * n - 1) := by
  unfold unV
  constructor <;> intro h
  · rw [if_pos h]; omega
  · rw [if_neg (by omega)]; omega
set_option maxHeartbeats 1000000 in
theorem rPutInt_any (n : Int) (w : World) (n1 : -9223372036854775808 ≤ n) (n2 : n ≤ 9223372036854775807) :
    Calls Try.prog 9 #[.int .i64 n] w fun e w' => ApP w.heap.size w (grp (unV n)) e w' := by
  have HU := Lib.hid (unV_bd n1 n2)
  have HG := Lib.hid (grp_len10 HU.out)
  have HI := Lib.hid (un_is (n := n))
  have hcut : ∀ (v s : Value), True := fun _ _ => trivial
  by_cases hn : n < 0
  · generalize hu0 : unV n = u0 at *
    have HU0 := Lib.hid hu0
    clear hu0
    go_enter Try.func9, Try.ntmps9
    go_wp2
    go_loopw [4, 3] (fun v s wr => ∃ (u : Nat) (L : List UInt8), u < 18446744073709551616 ∧ s = .int .u64 (u : Int) ∧ Hid (OwnB wr w.heap.size v L) ∧ Hid (Below w.heap.size w wr) ∧ Hid (L ++ grp u = grp u0)) (fun _ s _ => (intOf s).toNat)
    case atStart =>
      refine ⟨u0, [], HU.out, ?_, Lib.hid (OwnV.nil _ _ _), Lib.hid (Below.refl _ _), Lib.hid rfl⟩
      have h1 := HI.out.2 hn
      simp only [Value.int.injEq, true_and]
      rw [h1]
      try simp only [IntKind.wrap_u64, IntKind.wrap_i64, wrap64]
      omega
    case round =>
      obtain ⟨u, L, hu, rfl, HO, HB, HE⟩ := hrel
      obtain ⟨av2, cv2, hv2⟩ := HO.out.shape
      subst hv2
      have hL : L.length < 200000 := by
        have h1 := congrArg List.length HE.out
        rw [List.length_append] at h1
        have h2 := HG.out
        omega
      have hsz := HB.out.size
      by_cases k : u < 128
      · have q : ¬ (128 : Int) ≤ (u : Int) := by omega
        have HX := Lib.hid (row1 · u.toUInt8 _ (grp_last k))
        have HR := Lib.hid (show L ++ [u.toUInt8] = grp u0 by rw [← HE.out, grp_lt k])
        go_wp2_with (at_builtin; refine wpList_bytes rfl (.tmp 27) (.tmp 30) rfl w.heap.size _ L [u.toUInt8] rfl (OwnV.below HO.out ((Below.refl _ _).alloc (Nat.le_refl _) _)) (some ⟨wr.heap.size, 0, none⟩) 1 rfl (fun e => by cases e) (HX.out _) (by simp; omega) (by simp; omega) ?_; intro v' w1 hown hbel; have HO2 := Lib.hid hown; have HB2 := Lib.hid (HB.out.trans (((Below.refl _ _).alloc (by omega) _).trans hbel)); clear hown hbel)
        go_ret
        exact ⟨_, rfl, by rw [← HR.out]; exact HO2.out, HB2.out⟩
      · have q : (128 : Int) ≤ (u : Int) := by omega
        have HX := Lib.hid (row1 · (u % 128 + 128).toUInt8 _ (grp_bit k))
        have HR := Lib.hid (show L ++ [(u % 128 + 128).toUInt8] ++ grp (u / 128) = grp u0 by rw [← HE.out, grp_ge k]; simp)
        have hw1 : IntKind.u8.wrap ((u : Int) % 128 + 128) = (u : Int) % 128 + 128 := by rw [IntKind.wrap_u8']; omega
        go_wp2_with (at_builtin; refine wpList_bytes rfl (.tmp 18) (.tmp 23) rfl w.heap.size _ L [(u % 128 + 128).toUInt8] rfl (OwnV.below HO.out ((Below.refl _ _).alloc (Nat.le_refl _) _)) (some ⟨wr.heap.size, 0, none⟩) 1 rfl (fun e => by cases e) (HX.out _) (by simp; omega) (by simp; omega) ?_; intro v' w1 hown hbel; have HO2 := Lib.hid hown; have HB2 := Lib.hid (HB.out.trans (((Below.refl _ _).alloc (by omega) _).trans hbel)); clear hown hbel)
        go_roundw
        case rel => exact ⟨u / 128, L ++ [(u % 128 + 128).toUInt8], by omega, by go_num, HO2, HB2, HR⟩
        case measure => simp [intOf]; omega
  · generalize hu0 : unV n = u0 at *
    have HU0 := Lib.hid hu0
    clear hu0
    go_enter Try.func9, Try.ntmps9
    go_wp2
    go_loopw [4, 3] (fun v s wr => ∃ (u : Nat) (L : List UInt8), u < 18446744073709551616 ∧ s = .int .u64 (u : Int) ∧ Hid (OwnB wr w.heap.size v L) ∧ Hid (Below w.heap.size w wr) ∧ Hid (L ++ grp u = grp u0)) (fun _ s _ => (intOf s).toNat)
    case atStart =>
      refine ⟨u0, [], HU.out, ?_, Lib.hid (OwnV.nil _ _ _), Lib.hid (Below.refl _ _), Lib.hid rfl⟩
      have h1 := HI.out.1 (by omega)
      simp only [Value.int.injEq, true_and]
      rw [h1]
      try simp only [IntKind.wrap_u64, IntKind.wrap_i64, wrap64]
      omega
    case round =>
      obtain ⟨u, L, hu, rfl, HO, HB, HE⟩ := hrel
      obtain ⟨av2, cv2, hv2⟩ := HO.out.shape
      subst hv2
      have hL : L.length < 200000 := by
        have h1 := congrArg List.length HE.out
        rw [List.length_append] at h1
        have h2 := HG.out
        omega
      have hsz := HB.out.size
      by_cases k : u < 128
      · have q : ¬ (128 : Int) ≤ (u : Int) := by omega
        have HX := Lib.hid (row1 · u.toUInt8 _ (grp_last k))
        have HR := Lib.hid (show L ++ [u.toUInt8] = grp u0 by rw [← HE.out, grp_lt k])
        go_wp2_with (at_builtin; refine wpList_bytes rfl (.tmp 27) (.tmp 30) rfl w.heap.size _ L [u.toUInt8] rfl (OwnV.below HO.out ((Below.refl _ _).alloc (Nat.le_refl _) _)) (some ⟨wr.heap.size, 0, none⟩) 1 rfl (fun e => by cases e) (HX.out _) (by simp; omega) (by simp; omega) ?_; intro v' w1 hown hbel; have HO2 := Lib.hid hown; have HB2 := Lib.hid (HB.out.trans (((Below.refl _ _).alloc (by omega) _).trans hbel)); clear hown hbel)
        go_ret
        exact ⟨_, rfl, by rw [← HR.out]; exact HO2.out, HB2.out⟩
      · have q : (128 : Int) ≤ (u : Int) := by omega
        have HX := Lib.hid (row1 · (u % 128 + 128).toUInt8 _ (grp_bit k))
        have HR := Lib.hid (show L ++ [(u % 128 + 128).toUInt8] ++ grp (u / 128) = grp u0 by rw [← HE.out, grp_ge k]; simp)
        have hw1 : IntKind.u8.wrap ((u : Int) % 128 + 128) = (u : Int) % 128 + 128 := by rw [IntKind.wrap_u8']; omega
        go_wp2_with (at_builtin; refine wpList_bytes rfl (.tmp 18) (.tmp 23) rfl w.heap.size _ L [(u % 128 + 128).toUInt8] rfl (OwnV.below HO.out ((Below.refl _ _).alloc (Nat.le_refl _) _)) (some ⟨wr.heap.size, 0, none⟩) 1 rfl (fun e => by cases e) (HX.out _) (by simp; omega) (by simp; omega) ?_; intro v' w1 hown hbel; have HO2 := Lib.hid hown; have HB2 := Lib.hid (HB.out.trans (((Below.refl _ _).alloc (by omega) _).trans hbel)); clear hown hbel)
        go_roundw
        case rel => exact ⟨u / 128, L ++ [(u % 128 + 128).toUInt8], by omega, by go_num, HO2, HB2, HR⟩
        case measure => simp [intOf]; omega
/-- what TakeInt returns, from the byte number i on. -/
def tkV : List UInt8 → Nat → Nat → Int × Nat × Int
  | [], _, _ => (0, 0, 6)
  | g :: r, i, acc =>
    if (0 < i ∧ g.toNat = 0) ∨ (i = 9 ∧ 1 < g.toNat) then (0, 0, 5)
    else if g.toNat < 128 then (siV (acc + g.toNat % 128 * 128 ^ i), i + 1, 0) else tkV r (i + 1) (acc + g.toNat % 128 * 128 ^ i)
def tkI (l : List UInt8) (j acc : Nat) : Prop := tkV l 0 0 = tkV (l.drop j) j acc ∧ acc < 128 ^ j
theorem tkI_end {l : List UInt8} {j acc : Nat} (h : tkI l j acc) (hj : l.length ≤ j) : tkV l 0 0 = (0, 0, 6) := by
  rw [h.1, List.drop_of_length_le hj]; rfl
theorem tkI_bad {l : List UInt8} {j acc : Nat} (h : tkI l j acc) (hj : j < l.length) (hb : (0 < j ∧ l[j].toNat = 0) ∨ (j = 9 ∧ 1 < l[j].toNat)) : tkV l 0 0 = (0, 0, 5) := by
  rw [h.1, List.drop_eq_getElem_cons hj, tkV, if_pos hb]
theorem tkI_done {l : List UInt8} {j acc : Nat} (h : tkI l j acc) (hj : j < l.length) (hb : ¬ ((0 < j ∧ l[j].toNat = 0) ∨ (j = 9 ∧ 1 < l[j].toNat))) (hg : l[j].toNat < 128) : tkV l 0 0 = (siV (acc + l[j].toNat % 128 * 128 ^ j), j + 1, 0) := by
  rw [h.1, List.drop_eq_getElem_cons hj, tkV, if_neg hb, if_pos hg]
theorem tkI_step {l : List UInt8} {j acc : Nat} (h : tkI l j acc) (hj : j < l.length) (hb : ¬ ((0 < j ∧ l[j].toNat = 0) ∨ (j = 9 ∧ 1 < l[j].toNat))) (hg : ¬ l[j].toNat < 128) : tkI l (j + 1) (acc + l[j].toNat % 128 * 128 ^ j) := by
  refine ⟨by rw [h.1, List.drop_eq_getElem_cons hj, tkV, if_neg hb, if_neg hg], ?_⟩
  have h1 := h.2
  have h2 : l[j].toNat % 128 ≤ 127 := by omega
  have h3 := Nat.mul_le_mul_right (128 ^ j) h2
  rw [Nat.pow_succ]
  generalize 128 ^ j = p at *
  generalize l[j].toNat % 128 * p = q at *
  omega
theorem or_tk (j acc g : Nat) (hj : j ≤ 9) (ha : acc < 128 ^ j) (hg : g < 128) (h9 : j = 9 → g ≤ 1) :
    bits .or .u64 (acc : Int) (IntKind.u64.wrap ((g : Int) * 2 ^ (7 * j))) = ((acc + g * 128 ^ j : Nat) : Int) ∧ acc + g * 128 ^ j < 18446744073709551616 := by
  have e : (128 : Nat) ^ j = 2 ^ (7 * j) := by rw [Nat.pow_mul]
  have hp : acc + g * 128 ^ j < 18446744073709551616 ∧ acc < 18446744073709551616 := by
    rcases (show j = 0 ∨ j = 1 ∨ j = 2 ∨ j = 3 ∨ j = 4 ∨ j = 5 ∨ j = 6 ∨ j = 7 ∨ j = 8 ∨ j = 9 by omega) with rfl | rfl | rfl | rfl | rfl | rfl | rfl | rfl | rfl | rfl <;> simp at ha h9 ⊢ <;> omega
  refine ⟨?_, hp.1⟩
  rw [e] at hp ha ⊢
  have e2 : (g : Int) * 2 ^ (7 * j) = ((g * 2 ^ (7 * j) : Nat) : Int) := by push_cast; rfl
  rw [e2]
  have hm : (g * 2 ^ (7 * j)) % 2 ^ (7 * j) = 0 := Nat.mul_mod_left _ _
  generalize hq : g * 2 ^ (7 * j) = q at *
  rw [IntKind.wrap_u64, show (q : Int) % 18446744073709551616 = (q : Int) by omega, u64_or_nat acc q hp.2 (by omega), Nat.or_comm, nat_join (7 * j) q acc hm ha, Nat.add_comm]
set_option maxRecDepth 100000 in
set_option maxHeartbeats 2000000 in
theorem takeInt_any (ao : Option Addr) (c : Nat) (l : List UInt8) (w : World) (hR : RowB w ao l) (hl : l.length ≤ maxLen) :
    Calls Try.prog 8 #[.slice ao l.length c] w fun e w' => e = .returned (.tuple #[.int .i64 (tkV l 0 0).1, .int .i64 ((tkV l 0 0).2.1 : Int), .int .i64 (tkV l 0 0).2.2]) ∧ w = w' := by
  have HR := Lib.hid hR
  clear hR
  unfold maxLen at hl
  go_enter Try.func8, Try.ntmps8
  go_wp2
  go_loop [5, 12] (fun v i => ∃ (j acc : Nat), j ≤ 9 ∧ j ≤ l.length ∧ i = .int .i64 (j : Int) ∧ v = .int .u64 (acc : Int) ∧ Hid (tkI l j acc)) (fun _ i => 10 - (intOf i).toNat)
  case atStart => exact ⟨0, 0, by omega, by omega, by go_num, by go_num, Lib.hid ⟨rfl, by simp⟩⟩
  case round =>
    obtain ⟨j, acc, hj9, hj, rfl, rfl, HI⟩ := hrel
    by_cases k : j < l.length
    · have hij : (j : Int) < (l.length : Int) := by omega
      obtain ⟨b, off, rfl, hb, hc⟩ := HR.out.at j k
      have HB := Lib.hid (tkI_bad HI.out k)
      have HD := Lib.hid (tkI_done HI.out k)
      have HS := Lib.hid (tkI_step HI.out k)
      have hg := l[j].toNat_lt
      generalize l[j] = g at *
      have HO := Lib.hid (fun h9 => or_tk j acc (g.toNat % 128) hj9 HI.out.2 (by omega) h9)
      have eg : ((g.toNat % 128 : Nat) : Int) = (g.toNat : Int) % 128 := by omega
      rw [eg] at HO
      clear eg
      by_cases hA1 : 0 < j ∧ g.toNat = 0
      · have HV := Lib.hid (HB.out (.inl hA1))
        have f1 : (0 : Int) < (j : Int) := by omega
        have f2 : ((g.toNat : Int) == 0) = true := by simp; omega
        clear hA1
        go_wp2
        all_goals
          go_ret3
          exact ⟨by rw [HV.out]; rfl, rfl⟩
      by_cases hA2 : j = 9 ∧ 1 < g.toNat
      · have HV := Lib.hid (HB.out (.inr hA2))
        have f1 : (0 : Int) < (j : Int) := by omega
        have f2 : ((g.toNat : Int) == 0) = false := by simp; omega
        have f3 : ((j : Int) == 9) = true := by simp; omega
        have f4 : (1 : Int) < (g.toNat : Int) := by omega
        clear hA1 hA2
        go_wp2
        go_ret3
        exact ⟨by rw [HV.out]; rfl, rfl⟩
      have hnb : ¬ ((0 < j ∧ g.toNat = 0) ∨ (j = 9 ∧ 1 < g.toNat)) := fun x => x.elim hA1 hA2
      have HO2 := Lib.hid (HO.out (fun h => by omega))
      have HD2 := Lib.hid (HD.out hnb)
      have HS2 := Lib.hid (HS.out hnb)
      clear HO HD HS HB hnb
      obtain ⟨N, hN⟩ : ∃ N, acc + g.toNat % 128 * 128 ^ j = N := ⟨_, rfl⟩
      rw [hN] at HO2 HD2 HS2
      have hor := HO2.out.1
      have HNb := Lib.hid HO2.out.2
      clear hN HO2
      have HSg := Lib.hid (fun w => signed_any N w HNb.out)
      generalize hX : bits .or .u64 (acc : Int) (IntKind.u64.wrap ((g.toNat : Int) % 128 * 2 ^ (7 * j))) = X at *
      subst hor
      by_cases hj0 : j = 0
      · skip
        have f1 : ¬ (0 : Int) < (j : Int) := by omega
        have f3 : ((j : Int) == 9) = false := by simp; omega
        have hj8 : j < 9 := by omega
        clear hj0
        clear hA1 hA2
        by_cases h128 : g.toNat < 128
        · have q4 : (g.toNat : Int) < 128 := by omega
          have HV := Lib.hid (HD2.out h128)
          go_wp2_with fail
          refine (HSg.out _).mono ?_
          rintro e w_ ⟨rfl, rfl⟩
          go_wp2
          go_ret3
          exact ⟨by rw [HV.out]; rfl, rfl⟩
        · have q4 : ¬ (g.toNat : Int) < 128 := by omega
          have HV := Lib.hid (HS2.out h128)
          go_wp2
          go_round
          case rel => exact ⟨j + 1, N, by omega, by omega, by go_num, by go_num, HV⟩
          case measure => simp [intOf]; omega
      by_cases hj9' : j = 9
      · have f1 : (0 : Int) < (j : Int) := by omega
        have f2 : ((g.toNat : Int) == 0) = false := by simp; omega
        have f3 : ((j : Int) == 9) = true := by simp; omega
        have f4 : ¬ (1 : Int) < (g.toNat : Int) := by omega
        have q4 : (g.toNat : Int) < 128 := by omega
        have HV := Lib.hid (HD2.out (by omega))
        clear hA1 hA2 hj0 hj9'
        go_wp2_with fail
        refine (HSg.out _).mono ?_
        rintro e w_ ⟨rfl, rfl⟩
        go_wp2
        go_ret3
        exact ⟨by rw [HV.out]; rfl, rfl⟩
      have f1 : (0 : Int) < (j : Int) := by omega
      have f2 : ((g.toNat : Int) == 0) = false := by simp; omega
      have f3 : ((j : Int) == 9) = false := by simp; omega
      have hj8 : j < 9 := by omega
      clear hj0 hj9'
      clear hA1 hA2
      by_cases h128 : g.toNat < 128
      · have q4 : (g.toNat : Int) < 128 := by omega
        have HV := Lib.hid (HD2.out h128)
        go_wp2_with fail
        refine (HSg.out _).mono ?_
        rintro e w_ ⟨rfl, rfl⟩
        go_wp2
        go_ret3
        exact ⟨by rw [HV.out]; rfl, rfl⟩
      · have q4 : ¬ (g.toNat : Int) < 128 := by omega
        have HV := Lib.hid (HS2.out h128)
        go_wp2
        go_round
        case rel => exact ⟨j + 1, N, by omega, by omega, by go_num, by go_num, HV⟩
        case measure => simp [intOf]; omega
    · have hij : ¬ (j : Int) < (l.length : Int) := by omega
      have HV := Lib.hid (tkI_end HI.out (by omega))
      go_wp2
      go_ret3
      exact ⟨by rw [HV.out]; rfl, rfl⟩
end Go.Proofs.Ytfjapbggloomjaa
