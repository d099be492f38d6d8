/- What PutText and TakeText of packages codec and accountingref13 return. -/
import Derived.Test.YtfjapbggloomjaaCoC
import Derived.Test.YtfjapbggloomjaaWdB
import Derived.Lib.AppendStr
namespace Go.Proofs.Ytfjapbggloomjaa
open Go.RowKit Go.Sort
set_option linter.unusedVariables false
set_option linter.unusedSimpArgs false

theorem strC (s : ByteArray) : Lib.strCells s = s.toList.map byV := by
  rw [ByteArray.toList_eq]; rfl
/-- a string appended. -/
theorem wpList_str {w : World} {ops : Array Oper} {rest : List Oper} {o : Oper} {a : Act} {Q : Exit → Act → World → Prop} (hgd : o.guard = none) (s x : Operand)
    (ho : o.op = .call { callee := .builtin .append, args := #[s, x], argTypes := #[22, 9] })
    (base : Nat) (v : Value) (l : List UInt8) (t : ByteArray) (hs : a.eval s = v) (hown : OwnB w base v l) (hx : a.eval x = .string t)
    (hl : l.length + t.size < 1000000) (hbase : base ≤ w.heap.size)
    (h : ∀ v' w', OwnB w' base v' (l ++ t.toList) → Below base w w' → wpList Try.prog ops Q rest (a.put o.dst v') w') : wpList Try.prog ops Q (o :: rest) a w := by
  obtain ⟨i0, hi, hz0, hz1, hz2⟩ := info_parts inf_u8
  have ho2 : w.ownsRow base 5 1 v l.length (l.map byV) := by
    have := hown; unfold OwnB OwnV at this; rw [List.length_map] at this; exact this
  refine Lib.wpList_append_own_string w hgd s x _ _ ho base _ i0 und_bytes und_str hi hz0 hz1 hz2 v l.length _ hs ho2 t hx (by unfold maxLen; omega) (by omega) hbase ?_
  intro v' w' h1 h2 _
  refine h v' w' ?_ ((Below.refl base w).grown h2 hbase fun k hk => (ho2.lt k hk).1)
  unfold OwnB OwnV
  rw [List.map_append, List.length_append, List.length_map, List.length_map, bytes_len, ← strC]; exact h1
/-- the encoding of a text. -/
def txE (s : ByteArray) : List UInt8 := grp (unV (s.size : Int)) ++ s.toList
/-- how PutText ends. -/
def PtP (s : ByteArray) (w : World) (e : Ending) (w' : World) : Prop :=
  ∃ v, e = .returned (.tuple #[v, .int .i64 (if plaB s then 0 else 5)]) ∧ OwnB w' w.heap.size v (if plaB s then txE s else []) ∧ Below w.heap.size w w'
theorem ptP_ok {s : ByteArray} {w w' : World} {e : Ending} (hp : plaB s = true) (v : Value) (h1 : e = .returned (.tuple #[v, .int .i64 0])) (h2 : OwnB w' w.heap.size v (txE s)) (h3 : Below w.heap.size w w') : PtP s w e w' := by
  unfold PtP; rw [hp]; exact ⟨v, h1, h2, h3⟩
theorem ptP_bad {s : ByteArray} {w : World} {e : Ending} (hp : plaB s = false) (h1 : e = .returned (.tuple #[.slice none 0 0, .int .i64 5])) : PtP s w e w := by
  unfold PtP; rw [hp]; exact ⟨_, h1, OwnV.nil _ _ _, Below.refl _ _⟩
set_option maxHeartbeats 1000000 in
theorem appendText_any (base : Nat) (v : Value) (l : List UInt8) (s : ByteArray) (w : World) (hb : base ≤ w.heap.size) (ho : OwnB w base v l) (hl : l.length < 90000) (hs : s.size ≤ 1000) :
    Calls Try.prog 19 #[v, .string s] w fun e w' => ApP base w (l ++ txE s) e w' := by
  have H1 := Lib.hid (appendInt_any base v l (s.size : Int) w (by omega) (by omega) hb ho (by omega))
  have HG := Lib.hid (grp_len10 (unV_bd (n := (s.size : Int)) (by omega) (by omega)))
  have HT := Lib.hid (show l ++ txE s = l ++ grp (unV (s.size : Int)) ++ s.toList by unfold txE; rw [List.append_assoc])
  have HL := Lib.hid (show (l ++ grp (unV (s.size : Int))).length < 100000 by have := HG.out; rw [List.length_append]; omega)
  clear ho
  generalize l ++ grp (unV (s.size : Int)) = G at *
  generalize l ++ txE s = T at *
  go_enter Try.func19, Try.ntmps19
  go_wp2_with fail
  refine H1.out.mono ?_
  rintro e W1 ⟨v1, rfl, ho1, hb1⟩
  obtain ⟨av, cv, hv⟩ := ho1.shape
  subst hv
  have HO1 := Lib.hid ho1
  have HB1 := Lib.hid hb1
  clear ho1 hb1
  go_wp2_with (at_builtin; refine wpList_str rfl (.tmp 8) (.tmp 9) rfl base _ G s rfl HO1.out rfl (by have := HL.out; omega) (Nat.le_trans hb HB1.out.size) ?_; intro v' w1 hown hbel; have HO2 := Lib.hid hown; have HB2 := Lib.hid (HB1.out.trans hbel); clear hown hbel)
  go_ret
  exact ⟨_, rfl, by rw [HT.out]; exact HO2.out, HB2.out⟩
set_option maxHeartbeats 1000000 in
theorem putText_any (s : ByteArray) (w : World) (hs : s.size ≤ 1000) :
    Calls Try.prog 12 #[.string s] w fun e w' => PtP s w e w' := by
  have H1 := Lib.hid (fun w => plain_any s w (by unfold maxLen; omega))
  have H2 := Lib.hid (appendText_any w.heap.size (.slice none 0 0) [] s w (Nat.le_refl _) (OwnV.nil _ _ _) (by simp) hs)
  rw [List.nil_append] at H2
  cases hp : plaB s
  · rw [hp] at H1
    have HP := Lib.hid hp
    clear hp
    go_enter Try.func12, Try.ntmps12
    go_wp2_with fail
    refine (H1.out _).mono ?_
    rintro e w_ ⟨rfl, rfl⟩
    go_wp2
    go_ret2
    exact ptP_bad HP.out rfl
  · rw [hp] at H1
    have HP := Lib.hid hp
    clear hp
    go_enter Try.func12, Try.ntmps12
    go_wp2_with fail
    refine (H1.out _).mono ?_
    rintro e w_ ⟨rfl, rfl⟩
    go_wp2_with fail
    refine H2.out.mono ?_
    rintro e W1 ⟨v1, rfl, ho1, hb1⟩
    go_wp2
    go_ret2
    exact ptP_ok HP.out _ rfl ho1 hb1
theorem conv_str (w : World) (s : ByteArray) : (convert 9 22 (.string s)).run Try.prog w = .ok (.slice (some ⟨w.heap.size, 0, none⟩) s.size (grownCap w s.size 0 5))
      (w.drew.alloc (.cells (bytesRow s (grownCap w s.size 0 5)) 5 ((bytesRow s (grownCap w s.size 0 5)).size, (bytesRow s (grownCap w s.size 0 5)).size + 1))) :=
  run_bytes_of_string w 9 22 5 s und_str und_bytes und_u8
theorem row_str (w : World) (s : ByteArray) (c : Nat) (T : TypeId) (fz : Nat × Nat) : RowB (w.drew.alloc (.cells (bytesRow s c) T fz)) (some ⟨w.heap.size, 0, none⟩) s.toList := by
  refine RowV.block (by simp [World.size_alloc]) fun i x hx => ?_
  rw [List.getElem?_map] at hx
  obtain ⟨b, hb, rfl⟩ := Option.map_eq_some_iff.1 hx
  rw [ByteArray.toList_eq] at hb
  have hi : i < s.data.size := by have := (List.getElem?_eq_some_iff.1 hb).1; simpa using this
  have hr := bytesRow_at s c i hi
  have e : (w.drew.alloc (.cells (bytesRow s c) T fz)).heap = w.heap.push (.cells (bytesRow s c) T fz) := rfl
  unfold World.cell?
  rw [e]
  simp [Nat.zero_add, hr]
  have := (List.getElem?_eq_some_iff.1 hb).2
  unfold byV
  rw [← this]; simp
set_option maxHeartbeats 1000000 in
theorem rPutText_any (s : ByteArray) (w : World) (hs : s.size ≤ 1000) :
    Calls Try.prog 13 #[.string s] w fun e w' => PtP s w e w' := by
  have H1 := Lib.hid (fun w => rPlain_any s w (by unfold maxLen; omega))
  have H2 := Lib.hid (rPutInt_any (s.size : Int) w (by omega) (by omega))
  have HG := Lib.hid (grp_len10 (unV_bd (n := (s.size : Int)) (by omega) (by omega)))
  have HT := Lib.hid (show txE s = grp (unV (s.size : Int)) ++ s.toList from rfl)
  generalize grp (unV (s.size : Int)) = G at *
  cases hp : plaB s
  · rw [hp] at H1
    have HP := Lib.hid hp
    clear hp
    go_enter Try.func13, Try.ntmps13
    go_wp2_with fail
    refine (H1.out _).mono ?_
    rintro e w_ ⟨rfl, rfl⟩
    go_wp2
    go_ret2
    exact ptP_bad HP.out rfl
  · rw [hp] at H1
    have HP := Lib.hid hp
    clear hp
    go_enter Try.func13, Try.ntmps13
    go_wp2_with fail
    refine (H1.out _).mono ?_
    rintro e w_ ⟨rfl, rfl⟩
    go_wp2_with fail
    refine H2.out.mono ?_
    rintro e W1 ⟨v1, rfl, ho1, hb1⟩
    obtain ⟨av, cv, hv⟩ := ho1.shape
    subst hv
    have HO1 := Lib.hid ho1
    have HB1 := Lib.hid hb1
    clear ho1 hb1
    have hcv := conv_str W1 s
    have HRS := Lib.hid (row_str W1 s)
    generalize grownCap W1 s.size 0 5 = C at *
    have HBd := Lib.hid (show Below W1.heap.size W1 (W1.drew.alloc (.cells (bytesRow s C) 5 ((bytesRow s C).size, (bytesRow s C).size + 1))) from (Below.refl _ _).drew.alloc (Nat.le_refl _) _)
    go_wp2_with (at_builtin; refine wpList_bytes rfl (.tmp 9) (.tmp 11) rfl w.heap.size _ G s.toList rfl (OwnV.below HO1.out HBd.out) (some ⟨W1.heap.size, 0, none⟩) C (show _ = Value.slice (some ⟨W1.heap.size, 0, none⟩) s.toList.length C by rw [bytes_len]; rfl) (fun e => by cases e) (HRS.out _ _ _) (by have := HG.out; rw [bytes_len]; omega) (Nat.le_trans HB1.out.size HBd.out.size) ?_; intro v' w1 hown hbel; have HO2 := Lib.hid hown; have HB2 := Lib.hid (HB1.out.trans ((HBd.out.mono HB1.out.size).trans hbel)); clear hown hbel)
    go_ret2
    exact ptP_ok HP.out _ rfl (by rw [HT.out]; exact HO2.out) HB2.out
/-- what TakeText returns. -/
def ttV (l : List UInt8) : List UInt8 × Nat × Int :=
  if (tkV l 0 0).2.2 ≠ 0 then ([], 0, (tkV l 0 0).2.2)
  else if (tkV l 0 0).1 < 0 ∨ 60 < (tkV l 0 0).1 then ([], 0, 9)
  else if (l.length : Int) - ((tkV l 0 0).2.1 : Int) < (tkV l 0 0).1 then ([], 0, 6)
  else if plainB ((l.drop (tkV l 0 0).2.1).take (tkV l 0 0).1.toNat) then ((l.drop (tkV l 0 0).2.1).take (tkV l 0 0).1.toNat, (tkV l 0 0).2.1 + (tkV l 0 0).1.toNat, 0) else ([], 0, 5)
theorem tk_used : ∀ (l : List UInt8) (i acc : Nat), (tkV l i acc).2.2 = 0 → i + 1 ≤ (tkV l i acc).2.1 ∧ (tkV l i acc).2.1 ≤ i + l.length
  | [], i, acc, h => by simp [tkV] at h
  | g :: r, i, acc, h => by
    rw [tkV] at h ⊢
    split
    · rename_i hb; rw [if_pos hb] at h; simp at h
    · rename_i hb
      rw [if_neg hb] at h
      split
      · simp
      · rename_i hg
        rw [if_neg hg] at h
        have := tk_used r (i + 1) _ h
        simp; omega
theorem ttV_err {l : List UInt8} (h : (tkV l 0 0).2.2 ≠ 0) : ttV l = ([], 0, (tkV l 0 0).2.2) := if_pos h
theorem ttV_many {l : List UInt8} (h : (tkV l 0 0).2.2 = 0) (h2 : (tkV l 0 0).1 < 0 ∨ 60 < (tkV l 0 0).1) : ttV l = ([], 0, 9) := by
  unfold ttV; rw [if_neg (by simp [h]), if_pos h2]
theorem ttV_short {l : List UInt8} (h : (tkV l 0 0).2.2 = 0) (h2 : ¬ ((tkV l 0 0).1 < 0 ∨ 60 < (tkV l 0 0).1)) (h3 : (l.length : Int) - ((tkV l 0 0).2.1 : Int) < (tkV l 0 0).1) : ttV l = ([], 0, 6) := by
  unfold ttV; rw [if_neg (by simp [h]), if_neg h2, if_pos h3]
theorem ttV_plain {l : List UInt8} (h : (tkV l 0 0).2.2 = 0) (h2 : ¬ ((tkV l 0 0).1 < 0 ∨ 60 < (tkV l 0 0).1)) (h3 : ¬ (l.length : Int) - ((tkV l 0 0).2.1 : Int) < (tkV l 0 0).1) (h4 : plainB ((l.drop (tkV l 0 0).2.1).take (tkV l 0 0).1.toNat) = true) :
    ttV l = ((l.drop (tkV l 0 0).2.1).take (tkV l 0 0).1.toNat, (tkV l 0 0).2.1 + (tkV l 0 0).1.toNat, 0) := by
  unfold ttV; rw [if_neg (by simp [h]), if_neg h2, if_neg h3, h4]; rfl
theorem ttV_form {l : List UInt8} (h : (tkV l 0 0).2.2 = 0) (h2 : ¬ ((tkV l 0 0).1 < 0 ∨ 60 < (tkV l 0 0).1)) (h3 : ¬ (l.length : Int) - ((tkV l 0 0).2.1 : Int) < (tkV l 0 0).1) (h4 : plainB ((l.drop (tkV l 0 0).2.1).take (tkV l 0 0).1.toNat) = false) : ttV l = ([], 0, 5) := by
  unfold ttV; rw [if_neg (by simp [h]), if_neg h2, if_neg h3, h4]; rfl
theorem tk_cases (l : List UInt8) : ∃ n u e, tkV l 0 0 = (n, u, e) := ⟨_, _, _, rfl⟩
/-- a part of a slice. -/
theorem RowB.part {w : World} {b off n : Nat} {l : List UInt8} (h : RowB w (some ⟨b, off, none⟩) l) (m : Nat) : RowB w (some ⟨b, off + n, none⟩) ((l.drop n).take m) := by
  unfold RowB
  rw [List.map_take, List.map_drop]
  refine RowV.take ?_ m
  intro i x hx
  rw [List.getElem?_drop] at hx
  obtain ⟨b1, off1, e, hlt, hc⟩ := h (n + i) x hx
  injection e with e
  injection e with e1 e2
  subst e1 e2
  exact ⟨b, off + n, rfl, hlt, by rw [show off + n + i = off + (n + i) by omega]; exact hc⟩
end Go.Proofs.Ytfjapbggloomjaa
