/- What Cut of package words returns. -/
import Derived.Test.YtfccpkjjbbmmaaaWdF
namespace Go.Proofs.Ytfccpkjjbbmmaaa
open Go.RowKit
set_option linter.unusedVariables false
set_option linter.unusedSimpArgs false

theorem ownsRow_below {w w' : World} {base : Nat} {e : TypeId} {size : Nat} {v : Value} {n : Nat} {xs : List Value} (h : w.ownsRow base e size v n xs) (hb : Below w.heap.size w w') : w'.ownsRow base e size v n xs := by
  refine ⟨h.1, ?_⟩
  rcases h.2 with x | ⟨g, cap, cur, e1, e2, e3, e4⟩
  · exact .inl x
  · exact .inr ⟨g, cap, cur, e1, e2, by rw [hb.block g (lt_of_block e3)]; exact e3, e4⟩
/-- the cells of a word, and of words. -/
def wdC (x : Int × List UInt8 × Nat) : List Value := [.int .i64 x.1, .string (bs x.2.1), .int .i64 (x.2.2 : Int)]
def wdCs (l : List (Int × List UInt8 × Nat)) : List Value := l.flatMap wdC
/-- the slice v owns the words l. -/
def OwnW (w : World) (base : Nat) (v : Value) (l : List (Int × List UInt8 × Nat)) : Prop := w.ownsRow base 39 3 v l.length (wdCs l)
theorem OwnW.nil (w : World) (base : Nat) : OwnW w base (.slice none 0 0) [] := World.ownsRow_nil w base _ 3
theorem OwnW.below {w w' : World} {base : Nat} {v : Value} {l : List (Int × List UInt8 × Nat)} (h : OwnW w base v l) (hb : Below w.heap.size w w') : OwnW w' base v l := ownsRow_below h hb
theorem OwnW.alloc {w : World} {base : Nat} {v : Value} {l : List (Int × List UInt8 × Nat)} (h : OwnW w base v l) (o : Obj) : OwnW (w.alloc o) base v l := World.ownsRow.alloc h o
theorem OwnW.shape {w : World} {base : Nat} {v : Value} {l : List (Int × List UInt8 × Nat)} (h : OwnW w base v l) : ∃ ao cap, v = .slice ao l.length cap := by
  rcases h.2 with ⟨e, n⟩ | ⟨g, cap, cur, e, _⟩
  · exact ⟨none, 0, by rw [e, n]⟩
  · exact ⟨_, _, e⟩
theorem und_word : Try.prog.underlying 24 = some (.slice 39) := by kernel_rfl
theorem inf_word : (Try.prog.info? 39).map (fun i => (i.zero, i.size, i.bytes)) = some (some (.agg #[.int .i64 0, .string ⟨#[]⟩, .int .i64 0]), 3, 32) := by kernel_rfl
/-- one word more. -/
theorem wpList_word {w : World} {ops : Array Oper} {rest : List Oper} {o : Oper} {a : Act} {Q : Exit → Act → World → Prop} (hgd : o.guard = none) (s x : Operand)
    (ho : o.op = .call { callee := .builtin .append, args := #[s, x], argTypes := #[24, 24] })
    (base : Nat) (v : Value) (l : List (Int × List UInt8 × Nat)) (hs : a.eval s = v) (hown : OwnW w base v l) (g c : Nat) (y : Int × List UInt8 × Nat) (hx : a.eval x = .slice (some ⟨g, 0, none⟩) 1 c)
    (hc0 : w.cell? ⟨g, 0, none⟩ = some (.int .i64 y.1)) (hc1 : w.cell? ⟨g, 1, none⟩ = some (.string (bs y.2.1))) (hc2 : w.cell? ⟨g, 2, none⟩ = some (.int .i64 (y.2.2 : Int)))
    (hl : l.length < 1000000) (hbase : base ≤ w.heap.size)
    (h : ∀ v' w', OwnW w' base v' (l ++ [y]) → Below base w w' → wpList Try.prog ops Q rest (a.put o.dst v') w') : wpList Try.prog ops Q (o :: rest) a w := by
  obtain ⟨i0, hi, hz0, hz1, hz2⟩ := info_parts inf_word
  refine wpList_append_own w hgd s x _ ho base _ i0 (.agg #[.int .i64 0, .string ⟨#[]⟩, .int .i64 0]) 3 32 und_word hi hz0 hz1 hz2 (by kernel_rfl) (by decide) v _ _ hs hown ⟨g, 0, none⟩ 1 c (wdC y) hx rfl ?_ ?_ ?_ ?_ hbase ?_
  · intro j u hj
    match j, hj with
    | 0, hj => simp [wdC] at hj; subst hj; simpa [Addr.add] using hc0
    | 1, hj => simp [wdC] at hj; subst hj; simpa [Addr.add] using hc1
    | 2, hj => simp [wdC] at hj; subst hj; simpa [Addr.add] using hc2
  · intro u hu; simp [wdC] at hu; rcases hu with rfl | rfl | rfl <;> rfl
  · unfold maxLen; omega
  · omega
  · intro v' w' h1 h2 _
    refine h v' w' (by unfold OwnW wdCs; rw [List.length_append, List.flatMap_append, List.flatMap_singleton]; exact h1) ((Below.refl base w).grown h2 hbase fun k hk => (hown.lt k hk).1)

def preL (L : List (Int × List UInt8 × Nat)) (x : Int × List (Int × List UInt8 × Nat) × Nat) : Int × List (Int × List UInt8 × Nat) × Nat := (x.1, L ++ x.2.1, x.2.2)
/-- cut up to j, L gathered. -/
def cuI (s : ByteArray) (j : Nat) (L : List (Int × List UInt8 × Nat)) : Prop := cuV s.toList 0 = preL L (cuV (s.toList.drop j) j) ∧ L.length ≤ j
/-- what Cut returns: the error, the words, the offset. -/
def cuR (s : ByteArray) : Int × List (Int × List UInt8 × Nat) × Nat :=
  if 400 < s.size then (9, [], 0) else if (cuV s.toList 0).1 = 0 then (0, (cuV s.toList 0).2.1, s.size) else ((cuV s.toList 0).1, [], (cuV s.toList 0).2.2)
theorem cuR_long {s : ByteArray} (h : 400 < s.size) : cuR s = (9, [], 0) := if_pos h
theorem cuR_ok {s : ByteArray} {L : List (Int × List UInt8 × Nat)} {p : Nat} (h : ¬ 400 < s.size) (h2 : cuV s.toList 0 = (0, L, p)) : cuR s = (0, L, s.size) := by
  unfold cuR; rw [if_neg h, h2, if_pos rfl]
theorem cuR_bad {s : ByteArray} {L : List (Int × List UInt8 × Nat)} {p : Nat} {e : Int} (h : ¬ 400 < s.size) (h2 : cuV s.toList 0 = (e, L, p)) (he : e ≠ 0) : cuR s = (e, [], p) := by
  unfold cuR; rw [if_neg h, h2, if_neg he]
theorem cuI_start (s : ByteArray) : cuI s 0 [] := ⟨rfl, by simp⟩
theorem cuI_blank {s : ByteArray} {j : Nat} {L : List (Int × List UInt8 × Nat)} (hI : cuI s j L) (h : j < s.size) (hc : (s[j].toNat : Int) = 32) : cuI s (j + 1) L :=
  ⟨by rw [hI.1, dropB s j h, cuV_blank hc], by have := hI.2; omega⟩
theorem cuI_hash {s : ByteArray} {j : Nat} {L : List (Int × List UInt8 × Nat)} (hI : cuI s j L) (h : j < s.size) (hc : (s[j].toNat : Int) = 35) : cuV s.toList 0 = (0, L, 0) := by
  rw [hI.1, dropB s j h, cuV_hash hc]; simp [preL]
theorem cuI_end {s : ByteArray} {j : Nat} {L : List (Int × List UInt8 × Nat)} (hI : cuI s j L) (h : ¬ j < s.size) : cuV s.toList 0 = (0, L, 0) := by
  rw [hI.1, dropE s j h, cuV_nil]; simp [preL]
theorem cuI_bad {s : ByteArray} {j : Nat} {L : List (Int × List UInt8 × Nat)} {X : Int × Int × List UInt8 × Nat} (hI : cuI s j L) (h : j < s.size) (h1 : (s[j].toNat : Int) ≠ 32) (h2 : (s[j].toNat : Int) ≠ 35) (hX : woL (s.toList.drop j) = X) (he : X.1 ≠ 0) : cuV s.toList 0 = (X.1, L, j + X.2.2.2) := by
  rw [hI.1, dropB s j h]
  rw [dropB s j h] at hX
  rw [cuV_bad h1 h2 (show woL (s[j] :: s.toList.drop (j + 1)) = (X.1, X.2.1, X.2.2.1, X.2.2.2) from hX) he]; simp [preL]
theorem cuI_word {s : ByteArray} {j : Nat} {L : List (Int × List UInt8 × Nat)} {X : Int × Int × List UInt8 × Nat} (hI : cuI s j L) (h : j < s.size) (hX : woL (s.toList.drop j) = X) (he : X.1 = 0) :
    cuI s (j + X.2.2.2) (L ++ [(X.2.1, X.2.2.1, j)]) ∧ j < j + X.2.2.2 ∧ j + X.2.2.2 ≤ s.size := by
  have hX2 : woL (s.toList.drop j) = (0, X.2.1, X.2.2.1, X.2.2.2) := by rw [hX, ← he]
  obtain ⟨q1, q2, _⟩ := woL_ok hX2
  rw [List.length_drop, bytes_len] at q2
  refine ⟨⟨?_, by have := hI.2; simp; omega⟩, by omega, by omega⟩
  rw [hI.1, cuV_word hX2, List.drop_drop]
  unfold preL pre; simp
/-- how Cut ends. -/
def CuP (s : ByteArray) (w : World) (e : Ending) (w' : World) : Prop :=
  ∃ v, e = .returned (.tuple #[v, .int .i64 ((cuR s).2.2 : Int), .int .i64 (cuR s).1]) ∧ OwnW w' w.heap.size v (cuR s).2.1 ∧ Below w.heap.size w w'
set_option maxHeartbeats 4000000 in
theorem cut_any (s : ByteArray) (w : World) (hs : s.size ≤ 1000) :
    Calls Try.prog 15 #[.string s] w fun e w' => CuP s w e w' := by
  by_cases h400 : 400 < s.size
  · have hi : (400 : Int) < (s.size : Int) := by omega
    have HP := Lib.hid (show CuP s w (.returned (.tuple #[.slice none 0 0, .int .i64 0, .int .i64 9])) w by
      unfold CuP; rw [cuR_long h400]; exact ⟨_, rfl, OwnW.nil _ _, Below.refl _ _⟩)
    go_enter Try.func15, Try.ntmps15
    go_wp2
    go_step3
    go_wp2
    try rw [Exit.noGoto_ret]
    go_ret3
    exact HP.out
  have hi : ¬ (400 : Int) < (s.size : Int) := by omega
  go_enter Try.func15, Try.ntmps15
  go_wp2
  go_step3
  go_wp2
  go_step3
  go_wp2
  go_loopw [2, 3] (fun v i wr => ∃ (j : Nat) (L : List (Int × List UInt8 × Nat)), j ≤ s.size ∧ i = .int .i64 (j : Int) ∧ Hid (OwnW wr w.heap.size v L) ∧ Hid (Below w.heap.size w wr) ∧ Hid (cuI s j L)) (fun _ i _ => s.size - (intOf i).toNat)
  case atStart => exact ⟨0, [], by omega, by go_num, Lib.hid (OwnW.nil _ _), Lib.hid (Below.refl _ _), Lib.hid (cuI_start s)⟩
  case round =>
    obtain ⟨j, L, hj, rfl, HO, HB, HI⟩ := hrel
    obtain ⟨ao, cap, hv⟩ := HO.out.shape
    subst hv
    have hal : L.length < 1000 := by have := HI.out.2; omega
    by_cases h : j < s.size
    · have hij : (j : Int) < (s.size : Int) := by omega
      by_cases c32 : (s[j].toNat : Int) = 32
      · have q1 : ((s[j].toNat : Int) == 32) = true := by simpa using c32
        have HI2 := Lib.hid (cuI_blank HI.out h c32)
        clear c32
        go_wp2
        go_roundw
        case rel => exact ⟨j + 1, L, by omega, by go_num, HO, HB, HI2⟩
        case measure => simp [intOf]; omega
      · have q1 : ((s[j].toNat : Int) == 32) = false := by simpa using c32
        by_cases c35 : (s[j].toNat : Int) = 35
        · have q2 : ((s[j].toNat : Int) == 35) = true := by simpa using c35
          have HP := Lib.hid (show CuP s w (.returned (.tuple #[.slice ao L.length cap, .int .i64 (s.size : Int), .int .i64 0])) wr by
            unfold CuP; rw [cuR_ok h400 (cuI_hash HI.out h c35)]; exact ⟨_, rfl, HO.out, HB.out⟩)
          clear c32 c35
          go_wp2
          try rw [Exit.noGoto_ret]
          go_ret3
          exact HP.out
        · have q2 : ((s[j].toNat : Int) == 35) = false := by simpa using c35
          have H1 := Lib.hid (fun w => next_any s j w hs h)
          obtain ⟨X, hX⟩ : ∃ X, woL (s.toList.drop j) = X := ⟨_, rfl⟩
          rw [hX] at H1
          by_cases he : X.1 = 0
          · have q3 : (X.1 != 0) = false := by simp [he]
            have HW := Lib.hid (cuI_word HI.out h hX he)
            have HA := Lib.hid (show wAt X.1 j = (j : Int) by unfold wAt; rw [if_pos he])
            have HE := Lib.hid he
            clear c32 c35 hX he
            go_wp2_with fail
            refine (H1.out _).mono ?_
            rintro e W1 ⟨he, hb1⟩
            unfold wRes at he
            subst he
            have HB1 := Lib.hid (HB.out.trans (hb1.mono HB.out.size))
            have HO1 := Lib.hid (HO.out.below hb1)
            clear hb1
            go_wp2_with (at_builtin; refine wpList_word rfl _ _ rfl w.heap.size _ L rfl ((HO1.out.alloc _).alloc _) (W1.heap.size + 1) 1 (X.2.1, X.2.2.1, j) rfl (by simp) (by simp) (by simp [HA.out]) (by omega) (by have := HB1.out.size; simp; omega) ?_; intro v' w1 hown hbel; have HO2 := Lib.hid hown; have HB2 := Lib.hid (HB1.out.trans ((((Below.refl _ _).alloc (by exact HB1.out.size) _).alloc (by have := HB1.out.size; simp; omega) _).trans hbel)); clear hown hbel)
            go_roundw
            case rel => exact ⟨j + X.2.2.2, L ++ [(X.2.1, X.2.2.1, j)], HW.out.2.2, by go_num, HO2, HB2, Lib.hid HW.out.1⟩
            case measure => have := HW.out.2; simp [intOf]; omega
          · have q3 : (X.1 != 0) = true := by simp [he]
            have HV := Lib.hid (cuR_bad h400 (cuI_bad HI.out h c32 c35 hX he) he)
            clear c32 c35 hX he
            go_wp2_with fail
            refine (H1.out _).mono ?_
            rintro e W1 ⟨he, hb1⟩
            unfold wRes at he
            subst he
            have HB1 := Lib.hid (HB.out.trans (hb1.mono HB.out.size))
            clear hb1
            go_wp2
            try rw [Exit.noGoto_ret]
            go_ret3
            unfold CuP
            rw [HV.out]
            exact ⟨_, rfl, OwnW.nil _ _, HB1.out.alloc (HB1.out.size) _⟩
    · have hij : ¬ (j : Int) < (s.size : Int) := by omega
      have HP := Lib.hid (show CuP s w (.returned (.tuple #[.slice ao L.length cap, .int .i64 (s.size : Int), .int .i64 0])) wr by
        unfold CuP; rw [cuR_ok h400 (cuI_end HI.out h)]; exact ⟨_, rfl, HO.out, HB.out⟩)
      go_wp2
      try rw [Exit.noGoto_ret]
      go_ret3
      exact HP.out
end Go.Proofs.Ytfccpkjjbbmmaaa
