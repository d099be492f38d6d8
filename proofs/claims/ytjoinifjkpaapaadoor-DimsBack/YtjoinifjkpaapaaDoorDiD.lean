/- What Text and part of package accountingref09 return. -/
import Derived.Test.YtjoinifjkpaapaaDoorDiC
namespace Go.Proofs.YtjoinifjkpaapaaDoor
open Go.RowKit Go.Sort
set_option linter.unusedVariables false
set_option linter.unusedSimpArgs false

theorem bs_app (a b : List UInt8) : bs a ++ bs b = bs (a ++ b) := by
  apply ba_ext
  rw [bs_list, ByteArray.toList_eq, ByteArray.data_append]; simp [bs]
/-- the notation of the first k tags. -/
def tgU (L : List Tg) : Nat → List UInt8
  | 0 => []
  | k + 1 => (if k = 0 then tgU L k else tgU L k ++ [44]) ++ (((L.getD k nT).1.toList ++ [61]) ++ (L.getD k nT).2.toList)
def txT (L : List Tg) : List UInt8 := tgU L L.length
theorem tgU_len {L : List Tg} (h : ∀ t ∈ L, t.1.size ≤ 400 ∧ t.2.size ≤ 400) : ∀ k, k ≤ L.length → (tgU L k).length ≤ k * 802
  | 0, _ => by simp [tgU]
  | k + 1, hk => by
    have ih := tgU_len h k (by omega)
    have hm := h L[k] (List.getElem_mem (by omega))
    have e : L.getD k nT = L[k] := getD_at (by omega)
    simp only [tgU, e]
    have s1 : L[k].1.toList.length = L[k].1.size := bytes_len _
    have s2 : L[k].2.toList.length = L[k].2.size := bytes_len _
    split <;> simp only [List.length_append, List.length_cons, List.length_nil] <;> omega
set_option maxRecDepth 100000 in
set_option maxHeartbeats 3000000 in
theorem rText_any (A : Option Addr) (c : Nat) (L : List Tg) (w : World) (hR : RowT w A L) (hn : L.length ≤ 100) :
    Calls Tryd.prog 20 #[.slice A L.length c] w fun e w' => e = .returned (.tuple #[.string (bs (if rightT L = true then txT L else [])), .int .i64 (if rightT L = true then 0 else 14)]) ∧ Below w.heap.size w w' := by
  have HRt := Lib.hid (fun W (hb : Below w.heap.size w W) => rRight_any A c L W (hR.below hb) hn)
  have HR := Lib.hid hR
  clear hR
  cases hr : rightT L
  · rw [hr] at HRt
    go_enter Tryd.func20, Tryd.ntmps20
    go_wp2_with fail
    refine (HRt.out _ (Below.refl _ _)).mono ?_
    rintro e w2 ⟨rfl, hb⟩
    have HB := Lib.hid hb
    clear hb
    go_wp2
    go_ret2
    exact ⟨rfl, HB.out⟩
  · rw [hr] at HRt
    have h6 : L.length ≤ 6 := by
      apply Classical.byContradiction
      intro q
      rw [right_long (by omega)] at hr; cases hr
    have HLen := Lib.hid (fun k hk => tgU_len (L := L) HR.out.2 k hk)
    have HT := Lib.hid (show txT L = tgU L L.length from rfl)
    clear hr
    go_enter Tryd.func20, Tryd.ntmps20
    go_wp2_with fail
    refine (HRt.out _ (Below.refl _ _)).mono ?_
    rintro e w2 ⟨rfl, hb⟩
    have HB0 := Lib.hid hb
    clear hb HRt
    go_wp2_with fail
    go_loopw [4, 5] (fun x y wr => ∃ (k : Nat) (U : ByteArray), k ≤ L.length ∧ y = .int .i64 k ∧ x = .string U ∧ Hid (U = bs (tgU L k)) ∧ Hid (Below w.heap.size w wr)) (fun _ y _ => L.length - (intOf y).toNat)
    case atStart => exact ⟨0, ⟨#[]⟩, Nat.zero_le _, rfl, rfl, Lib.hid rfl, HB0⟩
    case round =>
      clear HB0
      obtain ⟨k, U, hk, rfl, rfl, HU, HB⟩ := hrel
      by_cases h : k < L.length
      · have h' : (k : Int) < (L.length : Int) := by omega
        obtain ⟨b, off, rfl, hl, hc⟩ := (HR.out.below HB.out).1 (by omega)
        obtain ⟨c0, c1⟩ := hc k h
        obtain ⟨s0, s1⟩ := HR.out.bd h
        have sU : U.size ≤ 4900 := by
          have := HLen.out k hk
          rw [HU.out, bs_size]; omega
        have HN := Lib.hid (show tgU L (k + 1) = (if k = 0 then tgU L k else tgU L k ++ [44]) ++ ((L[k].1.toList ++ [61]) ++ L[k].2.toList) by simp only [tgU, getD_at h])
        obtain ⟨S, hS⟩ : ∃ S, L[k].1 = S := ⟨_, rfl⟩
        obtain ⟨T, hT⟩ : ∃ T, L[k].2 = T := ⟨_, rfl⟩
        rw [hS] at c0 HN s0
        rw [hT] at c1 HN s1
        clear hS hT hc
        by_cases k0 : k = 0
        · have k0' : ¬ (0 : Int) < (k : Int) := by omega
          have HN2 := Lib.hid (show U ++ ((S ++ ⟨#[61]⟩) ++ T) = bs (tgU L (k + 1)) by rw [HN.out, if_pos k0, HU.out]; rw [show S = bs S.toList from (bs_of S).symm, show T = bs T.toList from (bs_of T).symm, show (⟨#[61]⟩ : ByteArray) = bs [61] from rfl, bs_app, bs_app, bs_app, bs_list, bs_list])
          clear k0 HN
          go_wp2_with fail
          go_quiet (fail)
          have HB2 := Lib.hid (below_drewN HB.out nq)
          generalize wr.drewN nq = w3 at *
          go_wp2
          go_roundw
          case rel => exact ⟨k + 1, _, by omega, by go_num, rfl, HN2, HB2⟩
          case measure => simp [intOf]; omega
        · have k0' : (0 : Int) < (k : Int) := by omega
          have HN2 := Lib.hid (show (U ++ ⟨#[44]⟩) ++ ((S ++ ⟨#[61]⟩) ++ T) = bs (tgU L (k + 1)) by rw [HN.out, if_neg k0, HU.out]; rw [show S = bs S.toList from (bs_of S).symm, show T = bs T.toList from (bs_of T).symm, show (⟨#[61]⟩ : ByteArray) = bs [61] from rfl, show (⟨#[44]⟩ : ByteArray) = bs [44] from rfl, bs_app, bs_app, bs_app, bs_app, bs_list, bs_list])
          clear k0 HN
          go_wp2_with fail
          go_quiet (fail)
          have HB2 := Lib.hid (below_drewN HB.out nq)
          generalize wr.drewN nq = w3 at *
          go_wp2
          go_roundw
          case rel => exact ⟨k + 1, _, by omega, by go_num, rfl, HN2, HB2⟩
          case measure => simp [intOf]; omega
      · have h' : ¬ (k : Int) < (L.length : Int) := by omega
        have HE := Lib.hid (show U = bs (txT L) by rw [HU.out, HT.out, show k = L.length by omega])
        go_wp2
        go_ret2
        exact ⟨by rw [← HE.out]; rfl, HB.out⟩
end Go.Proofs.YtjoinifjkpaapaaDoor
