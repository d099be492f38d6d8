/- Signs: what signEnd of package words and in, sign of package accountingref06 return. -/
import Derived.Test.YtfccpkjjbbmmaaaWdD
import Derived.Test.YtfccpkjjbbmmaaaShelf
namespace Go.Proofs.Ytfccpkjjbbmmaaa
open Go.RowKit
set_option linter.unusedVariables false
set_option linter.unusedSimpArgs false

theorem beqB (c : UInt8) (n : Nat) (h : n < 256) : decide ((c.toNat : Int) = (n : Int)) = (c == UInt8.ofNat n) := by
  rw [Bool.eq_iff_iff]; simp only [decide_eq_true_eq, beq_iff_eq]; exact byte_eq h
theorem two_eq (c d : UInt8) : two c d = (([c, d] == [60, 61]) || ([c, d] == [62, 61]) || ([c, d] == [33, 61]) || ([c, d] == [46, 46])) := by
  have e1 : decide ((c.toNat : Int) = 60) = (c == 60) := beqB c 60 (by decide)
  have e2 : decide ((c.toNat : Int) = 62) = (c == 62) := beqB c 62 (by decide)
  have e3 : decide ((c.toNat : Int) = 33) = (c == 33) := beqB c 33 (by decide)
  have e4 : decide ((c.toNat : Int) = 46) = (c == 46) := beqB c 46 (by decide)
  have e5 : decide ((d.toNat : Int) = 61) = (d == 61) := beqB d 61 (by decide)
  have e6 : decide ((d.toNat : Int) = 46) = (d == 46) := beqB d 46 (by decide)
  unfold two
  rw [e1, e2, e3, e4, e5, e6]
  have q : ∀ x y : UInt8, ([c, d] == [x, y]) = (c == x && d == y) := fun x y => by
    show (c == x && ([d] == [y])) = _
    congr 1
    show (d == y && ([] == ([] : List UInt8))) = _
    simp
  rw [q, q, q, q]
  cases (c == 60) <;> cases (c == 62) <;> cases (c == 33) <;> cases (c == 46) <;> cases (d == 61) <;> cases (d == 46) <;> rfl
theorem idx_one (l : List UInt8) (c : UInt8) : decide (0 ≤ Lib.indexByte l c) = l.contains c := by
  induction l with
  | nil => simp [Lib.indexByte]
  | cons b l ih =>
    have hg := Lib.indexByte_ge l c
    rw [List.contains_cons, ← ih]
    rw [Lib.indexByte]
    by_cases h : b = c
    · subst h; simp
    · have h1 : (b == c) = false := by simpa using h
      have h2 : (c == b) = false := by simpa using fun x => h x.symm
      rw [h1, h2]
      by_cases h3 : Lib.indexByte l c = -1
      · rw [h3]; simp
      · have h4 : (Lib.indexByte l c == -1) = false := by simpa using h3
        rw [h4]
        rw [Bool.eq_iff_iff]; simp; omega
/-- the bytes of the sign at k. -/
def sgA (s : ByteArray) (k : Nat) : Nat := sgL (s.toList.drop k)
theorem sgA_two {s : ByteArray} {k : Nat} (h : k + 1 < s.size) : sgA s k = if two s[k] s[k + 1] then 2 else if one s[k] then 1 else 0 := by
  unfold sgA; rw [dropB s k (by omega), dropB s (k + 1) h]; rfl
theorem sgA_one {s : ByteArray} {k : Nat} (hk : k < s.size) (h : ¬ k + 1 < s.size) : sgA s k = if one s[k] then 1 else 0 := by
  unfold sgA; rw [dropB s k hk, dropE s (k + 1) h]; rfl
theorem ext2 {s : ByteArray} {k : Nat} (h : k + 1 < s.size) : (s.extract k (k + 2)).toList = [s[k], s[k + 1]] := by
  rw [ext_list s k (k + 2) (by omega) (by omega), dropB s k (by omega), dropB s (k + 1) h, show k + 2 - k = 2 by omega]; rfl
theorem ext1 {s : ByteArray} {k : Nat} (h : k < s.size) : (s.extract k (k + 1)).toList = [s[k]] := by
  rw [ext_list s k (k + 1) (by omega) (by omega), dropB s k h, show k + 1 - k = 1 by omega]; rfl
set_option maxHeartbeats 1000000 in
theorem signEnd_any (s : ByteArray) (k : Nat) (w : World) (hs : s.size ≤ 1000) (hk : k < s.size) :
    Calls Try.prog 38 #[.string s, .int .i64 (k : Int)] w fun e w' => e = .returned (.int .i64 ((k + sgA s k : Nat) : Int)) ∧ w = w' := by
  have HI := Lib.hid (fun w => Try.strings_IndexByte ⟨#[40, 41, 123, 125, 91, 93, 44, 59, 58, 61, 43, 45, 42, 47, 60, 62, 124, 38, 33, 64, 37]⟩ (s[k].toNat : Int) w)
  have hz : decide (0 ≤ Lib.indexByte (ByteArray.data ⟨#[40, 41, 123, 125, 91, 93, 44, 59, 58, 61, 43, 45, 42, 47, 60, 62, 124, 38, 33, 64, 37]⟩).toList (s[k].toNat : Int).toNat.toUInt8) = one s[k] := by
    rw [idx_one, show (s[k].toNat : Int).toNat.toUInt8 = s[k] by simp]; rfl
  generalize Lib.indexByte (ByteArray.data ⟨#[40, 41, 123, 125, 91, 93, 44, 59, 58, 61, 43, 45, 42, 47, 60, 62, 124, 38, 33, 64, 37]⟩).toList (s[k].toNat : Int).toNat.toUInt8 = Z at *
  have HZ := Lib.hid hz
  clear hz
  by_cases h : k + 1 < s.size
  · have hi : (k : Int) + 1 < (s.size : Int) := by omega
    have hk2 : ((k : Int) + 2).toNat = k + 2 := by omega
    have HS := Lib.hid (sgA_two h)
    have HT := Lib.hid (two_eq s[k] s[k + 1])
    have hx : (s.extract k (k + 2)).toList = [s[k], s[k + 1]] := ext2 h
    rw [← hx] at HT
    clear hx
    obtain ⟨b1, x1⟩ : ∃ b, ((s.extract k (k + 2)).toList == [60, 61]) = b := ⟨_, rfl⟩
    obtain ⟨b2, x2⟩ : ∃ b, ((s.extract k (k + 2)).toList == [62, 61]) = b := ⟨_, rfl⟩
    obtain ⟨b3, x3⟩ : ∃ b, ((s.extract k (k + 2)).toList == [33, 61]) = b := ⟨_, rfl⟩
    obtain ⟨b4, x4⟩ : ∃ b, ((s.extract k (k + 2)).toList == [46, 46]) = b := ⟨_, rfl⟩
    rw [x1, x2, x3, x4] at HT
    go_enter Try.func38, Try.ntmps38
    go_wp2_with (go_at_call 48; refine (HI.out _).mono ?_; rintro e w_ ⟨rfl, rfl⟩)
    all_goals (go_ret; refine ⟨ret_int ?_, rfl⟩; rw [HS.out, ← HZ.out, HT.out]; clear HI HZ HT HS x1 x2 x3 x4; grind)
  · have hi : ¬ (k : Int) + 1 < (s.size : Int) := by omega
    have HS := Lib.hid (sgA_one hk h)
    go_enter Try.func38, Try.ntmps38
    go_wp2_with (go_at_call 48; refine (HI.out _).mono ?_; rintro e w_ ⟨rfl, rfl⟩)
    all_goals (go_ret; refine ⟨ret_int ?_, rfl⟩; rw [HS.out, ← HZ.out]; clear HI HZ HS; grind)
/-- the list of strings has s. -/
def inB (xs : List ByteArray) (s : ByteArray) : Bool := xs.any fun x => x.toList == s.toList
set_option maxHeartbeats 1000000 in
theorem rIn_any (b c : Nat) (xs : List ByteArray) (s : ByteArray) (w : World) (hc : ∀ (j : Nat) x, xs[j]? = some x → w.cell? ⟨b, j, none⟩ = some (.string x)) (hn : xs.length ≤ 100) :
    Calls Try.prog 49 #[.slice (some ⟨b, 0, none⟩) xs.length c, .string s] w fun e w' => e = .returned (.bool (inB xs s)) ∧ w = w' := by
  have HC := Lib.hid hc
  clear hc
  go_enter Try.func49, Try.ntmps49
  go_wp2
  go_loop [5] (fun i => ∃ j : Nat, j ≤ xs.length ∧ i = .int .i64 (j : Int) ∧ Hid (inB (xs.take j) s = false)) (fun i => xs.length - (intOf i).toNat)
  case atStart => exact ⟨0, by omega, by go_num, Lib.hid rfl⟩
  case round =>
    obtain ⟨j, hj, rfl, HE⟩ := hrel
    by_cases h : j < xs.length
    · have hi : (j : Int) < (xs.length : Int) := by omega
      have hcell := HC.out j _ (List.getElem?_eq_getElem h)
      have HX := Lib.hid (show inB (xs.take (j + 1)) s = (xs[j].toList == s.toList) by
        have := HE.out
        unfold inB at this ⊢
        rw [List.take_succ_eq_append_getElem h, List.any_append, this]; simp)
      have HY := Lib.hid (show (xs[j].toList == s.toList) = true → inB xs s = true from fun q => by
        unfold inB; rw [List.any_eq_true]; exact ⟨xs[j], List.getElem_mem h, q⟩)
      generalize xs[j] = X at *
      obtain ⟨t, ht⟩ : ∃ t, (X.toList == s.toList) = t := ⟨_, rfl⟩
      rw [ht] at HX HY
      have HY2 := Lib.hid (show t = true → inB xs s = true from HY.out)
      clear HY
      cases t
      · clear HY2
        go_wp2
        go_round
        case rel => exact ⟨j + 1, by omega, by go_num, HX⟩
        case measure => simp [intOf]; omega
      · have HY3 := Lib.hid (HY2.out rfl)
        clear HY2
        go_wp2
        go_ret
        exact ⟨by rw [HY3.out]; rfl, rfl⟩
    · have hi : ¬ (j : Int) < (xs.length : Int) := by omega
      have HX := Lib.hid (show inB xs s = false by have := HE.out; rw [List.take_of_length_le (by omega)] at this; exact this)
      go_wp2
      go_ret
      exact ⟨by rw [HX.out]; rfl, rfl⟩
def twoL : List ByteArray := [⟨#[60, 61]⟩, ⟨#[62, 61]⟩, ⟨#[33, 61]⟩, ⟨#[46, 46]⟩]
def onesL : List ByteArray := [⟨#[40]⟩, ⟨#[41]⟩, ⟨#[123]⟩, ⟨#[125]⟩, ⟨#[91]⟩, ⟨#[93]⟩, ⟨#[44]⟩, ⟨#[59]⟩, ⟨#[58]⟩, ⟨#[61]⟩, ⟨#[43]⟩, ⟨#[45]⟩, ⟨#[42]⟩, ⟨#[47]⟩, ⟨#[60]⟩, ⟨#[62]⟩, ⟨#[124]⟩, ⟨#[38]⟩, ⟨#[33]⟩, ⟨#[64]⟩, ⟨#[37]⟩]
theorem beq_comm' (a b : List UInt8) : (a == b) = (b == a) := by rw [Bool.eq_iff_iff]; simp; exact eq_comm
theorem inB_two {s : ByteArray} {c d : UInt8} (h : s.toList = [c, d]) : inB twoL s = two c d := by
  rw [two_eq]; unfold inB twoL
  rw [h]
  have t : ∀ x y : UInt8, ((⟨#[x, y]⟩ : ByteArray).toList == [c, d]) = ([c, d] == [x, y]) := fun x y => by
    rw [beq_comm']; rw [show (⟨#[x, y]⟩ : ByteArray).toList = [x, y] from bs_list [x, y]]
  simp only [List.any_cons, List.any_nil, Bool.or_false]
  rw [t, t, t, t]
  cases ([c, d] == [60, 61]) <;> cases ([c, d] == [62, 61]) <;> cases ([c, d] == [33, 61]) <;> cases ([c, d] == [46, 46]) <;> rfl
theorem inB_one {s : ByteArray} {c : UInt8} (h : s.toList = [c]) : inB onesL s = one c := by
  have e : onesL = oneL.map (fun b => bs [b]) := rfl
  unfold inB one
  rw [e, List.any_map, h]
  have : ∀ l : List UInt8, (l.any ((fun x => x.toList == [c]) ∘ fun b => bs [b])) = l.contains c := by
    intro l
    induction l with
    | nil => rfl
    | cons b l ih =>
      rw [List.any_cons, List.contains_cons, ih]
      congr 1
      show ((bs [b]).toList == [c]) = _
      rw [bs_list, Bool.eq_iff_iff]; simp; exact eq_comm
  exact this _
theorem und_strs : Try.prog.underlying 48 = some (.slice 9) := by kernel_rfl
/-- the lists of signs in memory. -/
def wTwo (w : World) : World := w.alloc (Obj.cells #[Value.string ⟨#[60, 61]⟩, Value.string ⟨#[62, 61]⟩, Value.string ⟨#[33, 61]⟩, Value.string ⟨#[46, 46]⟩] 9)
def wOne (w : World) : World := w.alloc (Obj.cells #[Value.string ⟨#[40]⟩, Value.string ⟨#[41]⟩, Value.string ⟨#[123]⟩, Value.string ⟨#[125]⟩, Value.string ⟨#[91]⟩, Value.string ⟨#[93]⟩, Value.string ⟨#[44]⟩, Value.string ⟨#[59]⟩, Value.string ⟨#[58]⟩, Value.string ⟨#[61]⟩, Value.string ⟨#[43]⟩, Value.string ⟨#[45]⟩, Value.string ⟨#[42]⟩, Value.string ⟨#[47]⟩, Value.string ⟨#[60]⟩, Value.string ⟨#[62]⟩, Value.string ⟨#[124]⟩, Value.string ⟨#[38]⟩, Value.string ⟨#[33]⟩, Value.string ⟨#[64]⟩, Value.string ⟨#[37]⟩] 9)
theorem wTwo_cell (w : World) (j : Nat) (x : ByteArray) (h : twoL[j]? = some x) : (wTwo w).cell? ⟨w.heap.size, j, none⟩ = some (.string x) := by
  show (w.alloc (Obj.cells (twoL.map Value.string).toArray 9)).cell? ⟨w.heap.size, j, none⟩ = _
  rw [World.cell?_alloc_mark]; simp [h]
theorem wOne_cell (w : World) (j : Nat) (x : ByteArray) (h : onesL[j]? = some x) : (wOne w).cell? ⟨w.heap.size, j, none⟩ = some (.string x) := by
  show (w.alloc (Obj.cells (onesL.map Value.string).toArray 9)).cell? ⟨w.heap.size, j, none⟩ = _
  rw [World.cell?_alloc_mark]; simp [h]
theorem inTwo (s : ByteArray) (k : Nat) (w : World) (h : k + 1 < s.size) :
    Calls Try.prog 49 #[.slice (some ⟨w.heap.size, 0, none⟩) 4 4, .string (s.extract k (k + 2))] (wTwo w) fun e w' => e = .returned (.bool (two s[k] s[k + 1])) ∧ wTwo w = w' := by
  rw [← inB_two (ext2 h)]
  exact rIn_any w.heap.size 4 twoL (s.extract k (k + 2)) (wTwo w) (fun j x hx => wTwo_cell w j x hx) (by decide)
theorem inOne (s : ByteArray) (k : Nat) (w : World) (h : k < s.size) :
    Calls Try.prog 49 #[.slice (some ⟨w.heap.size, 0, none⟩) 21 21, .string (s.extract k (k + 1))] (wOne w) fun e w' => e = .returned (.bool (one s[k])) ∧ wOne w = w' := by
  rw [← inB_one (ext1 h)]
  exact rIn_any w.heap.size 21 onesL (s.extract k (k + 1)) (wOne w) (fun j x hx => wOne_cell w j x hx) (by decide)
theorem wTwo_below (w : World) : Below w.heap.size w (wTwo w) := (Below.refl _ _).alloc (Nat.le_refl _) _
theorem wOne_below (w : World) : Below w.heap.size w (wOne w) := (Below.refl _ _).alloc (Nat.le_refl _) _
set_option maxHeartbeats 1000000 in
set_option maxRecDepth 100000 in
theorem rSign_any (s : ByteArray) (k : Nat) (w : World) (hs : s.size ≤ 1000) (hk : k < s.size) :
    Calls Try.prog 43 #[.string s, .int .i64 (k : Int)] w fun e w' => e = .returned (.int .i64 ((sgA s k : Nat) : Int)) ∧ Below w.heap.size w w' := by
  have hk1 : ((k : Int) + 1).toNat = k + 1 := by omega
  have K1 := Lib.hid (fun w h => inTwo s k w h)
  have K2 := Lib.hid (fun w => inOne s k w hk)
  have HB1 := Lib.hid (wTwo_below w)
  have HB2 := Lib.hid (HB1.out.trans ((wOne_below (wTwo w)).mono HB1.out.size))
  by_cases h : k + 1 < s.size
  · have hi : (k : Int) + 1 < (s.size : Int) := by omega
    have hk2 : ((k : Int) + 2).toNat = k + 2 := by omega
    have K1 := Lib.hid (fun w => inTwo s k w h)
    have HS := Lib.hid (sgA_two h)
    generalize two s[k] s[k + 1] = b1 at *
    generalize one s[k] = b2 at *
    go_enter Try.func43, Try.ntmps43
    go_wp2_with fail
    refine (K1.out w).mono ?_
    rintro e w_ ⟨rfl, rfl⟩
    generalize wTwo w = W at *
    cases b1
    · go_wp2_with fail
      refine (K2.out W).mono ?_
      rintro e w_ ⟨rfl, rfl⟩
      generalize wOne W = W2 at *
      cases b2
      · go_wp2
        go_ret
        exact ⟨by rw [HS.out]; rfl, HB2.out⟩
      · go_wp2
        go_ret
        exact ⟨by rw [HS.out]; rfl, HB2.out⟩
    · go_wp2
      go_ret
      exact ⟨by rw [HS.out]; rfl, HB1.out⟩
  · have hi : ¬ (k : Int) + 1 < (s.size : Int) := by omega
    have HS := Lib.hid (sgA_one hk h)
    generalize one s[k] = b2 at *
    go_enter Try.func43, Try.ntmps43
    go_wp2_with fail
    refine (K2.out w).mono ?_
    rintro e w_ ⟨rfl, rfl⟩
    have HB3 := Lib.hid (wOne_below w)
    generalize wOne w = W2 at *
    cases b2
    · go_wp2
      go_ret
      exact ⟨by rw [HS.out]; rfl, HB3.out⟩
    · go_wp2
      go_ret
      exact ⟨by rw [HS.out]; rfl, HB3.out⟩
end Go.Proofs.Ytfccpkjjbbmmaaa
