/- What Text of package dims returns. -/
import Derived.Test.YtjoinifjkpaapaaDoorDiD
import Derived.Test.YtjoinifjkpaapaaDoorShelf
namespace Go.Proofs.YtjoinifjkpaapaaDoor
open Go.RowKit Go.Sort
set_option linter.unusedVariables false
set_option linter.unusedSimpArgs false

theorem join_snoc (xs : List (List UInt8)) (y sep : List UInt8) (h : xs ≠ []) : Lib.join (xs ++ [y]) sep = (Lib.join xs sep ++ sep) ++ y := by
  cases xs with
  | nil => exact absurd rfl h
  | cons x r =>
    rw [List.cons_append, Lib.join_cons, Lib.join_cons]
    unfold Lib.joinTail
    simp
/-- the notation of each tag. -/
def prt (L : List Tg) : List (List UInt8) := L.map (fun t => (t.1.toList ++ [61]) ++ t.2.toList)
theorem tgU_join (L : List Tg) : ∀ k, k ≤ L.length → tgU L k = Lib.join ((prt L).take k) [44]
  | 0, _ => rfl
  | k + 1, hk => by
    have hp : k < (prt L).length := by unfold prt; rw [List.length_map]; omega
    have e : (prt L)[k] = (L[k].1.toList ++ [61]) ++ L[k].2.toList := by unfold prt; simp
    rw [List.take_succ_eq_append_getElem hp]
    show (if k = 0 then tgU L k else tgU L k ++ [44]) ++ (((L.getD k nT).1.toList ++ [61]) ++ (L.getD k nT).2.toList) = _
    rw [getD_at (show k < L.length by omega), ← e, tgU_join L k (by omega)]
    by_cases h0 : k = 0
    · subst h0; rw [if_pos rfl]; simp [Lib.join, List.intercalate]
    · rw [if_neg h0, join_snoc _ _ _ (fun q => by have := congrArg List.length q; rw [List.length_take, List.length_nil] at this; omega)]
def ptS (L : List Tg) (k : Nat) : ByteArray := ((L.getD k nT).1 ++ ⟨#[61]⟩) ++ (L.getD k nT).2
def ptX (L : List Tg) : List ByteArray := (List.range L.length).map (ptS L)
theorem ptX_list (L : List Tg) : (ptX L).map (·.data.toList) = prt L := by
  unfold ptX prt
  apply List.ext_getElem
  · simp
  · intro i h1 h2
    have hi : i < L.length := by simpa using h2
    simp only [List.getElem_map, List.getElem_range]
    unfold ptS
    rw [getD_at hi]
    simp [ByteArray.data_append, ByteArray.toList_eq]
theorem tx_join (L : List Tg) : Lib.join ((ptX L).map (·.data.toList)) [44] = txT L := by
  unfold txT
  rw [ptX_list, tgU_join L L.length (Nat.le_refl _), List.take_of_length_le (by unfold prt; simp)]
theorem und_strs : Tryd.prog.underlying 47 = some (.slice 9) := by kernel_rfl
theorem inf_str : (Tryd.prog.info? 9).map (fun i => (i.zero, i.size, i.bytes)) = some (some (.string ⟨#[]⟩), 1, 16) := by kernel_rfl
theorem PaV.congr2 {w : World} {P n : Nat} {f g : Nat → Value} (h : PaV w P n f) (e : ∀ t, t < n → f t = g t) : PaV w P n g := ⟨h.1, fun t ht => by rw [← e t ht]; exact h.2 t ht⟩
set_option maxRecDepth 100000 in
set_option maxHeartbeats 3000000 in
theorem text_any (A : Option Addr) (c : Nat) (L : List Tg) (w : World) (hR : RowT w A L) (hn : L.length ≤ 100) :
    Calls Tryd.prog 19 #[.slice A L.length c] w fun e w' => e = .returned (.tuple #[.string (bs (if rightT L = true then txT L else [])), .int .i64 (if rightT L = true then 0 else 14)]) ∧ Below w.heap.size w w' := by
  obtain ⟨i0, hi, hz0, hz1, hz2⟩ := info_parts inf_str
  have HRt := Lib.hid (fun W (hb : Below w.heap.size w W) => right_any A c L W (hR.below hb) hn)
  have HR := Lib.hid hR
  clear hR
  cases hr : rightT L
  · rw [hr] at HRt
    go_enter Tryd.func19, Tryd.ntmps19
    go_wp2_with fail
    refine (HRt.out _ (Below.refl _ _)).mono ?_
    rintro e w2 ⟨rfl, hb⟩
    have HB := Lib.hid hb
    clear hb
    go_wp2
    go_ret2
    exact ⟨rfl, HB.out⟩
  · rw [hr] at HRt
    have h6 : L.length ≤ 6 := by
      apply Classical.byContradiction
      intro q
      rw [right_long (by omega)] at hr; cases hr
    have HLen := Lib.hid (show (txT L).length ≤ 4900 by have := tgU_len (L := L) HR.out.2 L.length (Nat.le_refl _); unfold txT; omega)
    clear hr
    obtain ⟨n, hnn⟩ : ∃ n, L.length = n := ⟨_, rfl⟩
    have HNn := Lib.hid hnn
    rw [hnn] at HRt h6 hn ⊢
    clear hnn
    go_enter Tryd.func19, Tryd.ntmps19
    go_wp2_with fail
    refine (HRt.out _ (Below.refl _ _)).mono ?_
    rintro e w2 ⟨rfl, hb⟩
    have HB0 := Lib.hid hb
    clear hb HRt
    go_wp2_with (at_make; refine wpList_make_full _ rfl _ _ 47 rfl w2.heap.size 9 i0 (.string ⟨#[]⟩) 1 und_strs hi hz0 hz1 _ _ _ _ n rfl rfl rfl rfl ?_ ?_ ?_ ?_)
    any_goals (first | (rw [hz2]; omega) | omega | (unfold maxLen; omega) | exact Nat.le_refl _)
    intro w1 hown hgr
    have HL0 := Lib.hid (PaV.made (w := w1) (base := w2.heap.size) (P := w2.heap.size) (n := n) (T := 9) (z := .string ⟨#[]⟩) (by rw [Nat.mul_one]; exact hown))
    have HB1 := Lib.hid (HB0.out.trans ((show Below w2.heap.size w2 w1 from (Below.refl _ _).grown hgr (Nat.le_refl _) (by simp)).mono HB0.out.size))
    have hPw : w.heap.size ≤ w2.heap.size := HB0.out.size
    clear hown hgr HB0
    generalize w2.heap.size = P at *
    go_wp2_with fail
    go_loopw [15] (fun x wr => ∃ k : Nat, k ≤ n ∧ x = .int .i64 k ∧ Hid (PaV wr P n (fun t => .string (if t < k then ptS L t else ⟨#[]⟩))) ∧ Hid (Below w.heap.size w wr)) (fun x _ => n - (intOf x).toNat)
    case atStart => exact ⟨0, Nat.zero_le _, rfl, Lib.hid (HL0.out.congr2 fun t _ => by simp), HB1⟩
    case round =>
      clear HL0 HB1
      obtain ⟨k, hk, rfl, HL, HB⟩ := hrel
      by_cases h : k < n
      · have h' : (k : Int) < (n : Int) := by omega
        have hkL : k < L.length := by rw [HNn.out]; exact h
        obtain ⟨b, off, rfl, hl, hc⟩ := (HR.out.below HB.out).1 (by omega)
        obtain ⟨c0, c1⟩ := hc k hkL
        obtain ⟨s0, s1⟩ := HR.out.bd hkL
        have hpt : ptS L k = (L[k].1 ++ ⟨#[61]⟩) ++ L[k].2 := by unfold ptS; rw [getD_at hkL]
        obtain ⟨S, hS⟩ : ∃ S, L[k].1 = S := ⟨_, rfl⟩
        obtain ⟨T, hT⟩ : ∃ T, L[k].2 = T := ⟨_, rfl⟩
        rw [hS, hT] at hpt
        rw [hS] at c0 s0
        rw [hT] at c1 s1
        clear hS hT hc
        have l0 := (HL.out.2 k h).1
        have l1 := (HL.out.2 k h).2
        have lP := HL.out.1
        have hp := Pr2.alloc wr (.string S) (.string T) 32
        have p0 := hp.c0
        have p1 := hp.c1
        have HL2 := Lib.hid (show PaV (wr.setCell ⟨P, k, none⟩ (.string ((S ++ ⟨#[61]⟩) ++ T))) P n (fun t => .string (if t < k + 1 then ptS L t else ⟨#[]⟩)) by
          have q := HL.out.set (g := fun t => .string (if t < k + 1 then ptS L t else ⟨#[]⟩)) k h (fun t ht e => by by_cases z : t < k; simp [z, show t < k + 1 by omega]; simp [z, show ¬ t < k + 1 by omega])
          simp only [show k < k + 1 by omega, if_true, hpt] at q
          exact q)
        have HB2 := Lib.hid (HB.out.setCell (p := ⟨P, k, none⟩) hPw (.string ((S ++ ⟨#[61]⟩) ++ T)))
        clear hp hpt
        go_wp2
        go_roundw
        case rel => exact ⟨k + 1, by omega, by go_num, Lib.hid (HL2.out.below ((Below.refl _ _).alloc (Nat.le_refl _) _) HL2.out.1 (by have := HL2.out.1; simp at this ⊢; omega)), Lib.hid (HB2.out.alloc (by have := HB2.out.size; simp at this ⊢; omega) _)⟩
        case measure => simp [intOf]; omega
      · have h' : ¬ (k : Int) < (n : Int) := by omega
        obtain rfl : n = k := by omega
        by_cases n0 : n = 0
        · subst n0
          have HJ := Lib.hid (fun W => Tryd.strings_Join_none (some ⟨P, 0, none⟩) 0 ⟨#[44]⟩ W)
          have HE := Lib.hid (show bs (txT L) = ⟨#[]⟩ by rw [List.length_eq_zero_iff.1 HNn.out]; rfl)
          go_wp2_with fail
          refine (HJ.out _).mono ?_
          rintro e w3 ⟨rfl, rfl⟩
          go_wp2
          go_ret2
          exact ⟨by rw [HE.out]; rfl, HB.out⟩
        · have hxl : (ptX L).length = n := by unfold ptX; rw [List.length_map, List.length_range, HNn.out]
          have HJ := Tryd.strings_Join P 0 n (ptX L) ⟨#[44]⟩ wr (fun j x hx => by
            unfold ptX at hx
            rw [List.getElem?_map] at hx
            obtain ⟨z, hz, rfl⟩ := Option.map_eq_some_iff.1 hx
            obtain ⟨hj, rfl⟩ := List.getElem?_eq_some_iff.1 hz
            have hjn : j < n := by rw [← HNn.out]; simpa using hj
            have q := (HL.out.2 j hjn).1
            simp only [hjn, if_true] at q
            rw [Nat.zero_add]
            simpa using q) HL.out.1 (by omega) (by omega) (by rw [show (⟨#[44]⟩ : ByteArray).data.toList = [44] from rfl, tx_join]; have := HLen.out; omega)
          rw [show (⟨#[44]⟩ : ByteArray).data.toList = [44] from rfl, tx_join, hxl] at HJ
          have HJ := Lib.hid HJ
          clear hxl
          go_wp2_with fail
          refine HJ.out.mono ?_
          rintro e w3 ⟨rfl, hb3⟩
          have HB3 := Lib.hid (HB.out.trans (hb3.mono HB.out.size))
          clear hb3
          go_wp2
          go_ret2
          exact ⟨rfl, HB3.out⟩
end Go.Proofs.YtjoinifjkpaapaaDoor
