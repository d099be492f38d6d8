/- The reference's Base, and large. Written by wip/mk_shr.py. -/
import Derived.Test.YtenhnnfemehbcaaShO
import Derived.Test.YtenhnnfemehbcaaNumY
namespace Go.Proofs.Ytenhnnfemehbcaa
open Go.RowKit Go.Sort
set_option linter.unusedVariables false
set_option linter.unusedSimpArgs false

theorem large_any (A : Option Addr) (n c : Nat) (w : World) (hn : n ≤ maxLen) :
    Calls Try.prog 17 #[.slice A n c] w fun e w' => e = .returned (.bool (decide (300 < (n : Int)))) ∧ w' = w := by
  unfold maxLen at hn
  go_enter Try.func17, Try.ntmps17
  go_wp2
  go_ret
  exact ⟨rfl, rfl⟩
def bsL (L : List Cl) : List Int := L.map (fun c => c.2.2)
theorem bs_take {L : List Cl} {k : Nat} (hk : k < L.length) : bsL (L.take (k + 1)) = bsL (L.take k) ++ [L[k].2.2] := by
  unfold bsL
  rw [List.take_succ_eq_append_getElem hk, List.map_append]; rfl
theorem bs_len (L : List Cl) (k : Nat) : (bsL (L.take k)).length ≤ k := by unfold bsL; rw [List.length_map, List.length_take]; omega
theorem one_ints (zs : List Int) : ∀ y ∈ zs.map (Value.int .i64), y.oneCell' = true := by
  intro y hy
  obtain ⟨z, _, rfl⟩ := List.mem_map.1 hy
  rfl
theorem row_ints {w : World} {ao : Option Addr} {zs : List Int} (h : RowV w ao (zs.map (Value.int .i64))) (hb : ∀ z ∈ zs, -9223372036854775808 ≤ z ∧ z ≤ 9223372036854775807) : Row w ao zs := by
  refine ⟨fun h0 => ?_, hb⟩
  obtain ⟨b, off, e, hl, _⟩ := h 0 (.int .i64 zs[0]) (by rw [List.getElem?_map, List.getElem?_eq_getElem h0]; rfl)
  refine ⟨b, off, e, hl, fun k hk => ?_⟩
  obtain ⟨b', off', e', _, hc⟩ := h k (.int .i64 zs[k]) (by rw [List.getElem?_map, List.getElem?_eq_getElem hk]; rfl)
  rw [e] at e'
  cases e'
  exact hc
set_option maxRecDepth 100000 in
set_option maxHeartbeats 1000000 in
theorem rBase_any (A : Option Addr) (c : Nat) (L : List Cl) (w : World) (hR : RowS w A L) (hBd : BdS L) (hl : L.length ≤ 2000) :
    Calls Try.prog 36 #[.slice A L.length c] w fun e w' => e = .returned (.tuple #[.int .i64 (suV (baS L)), .int .i64 (suE (baS L))]) ∧ Below w.heap.size w w' := by
  have HR := Lib.hid hR
  have HBd := Lib.hid hBd
  have HI := Lib.hid rFits_any
  obtain ⟨T, hT⟩ : ∃ T, baS L = T := ⟨_, rfl⟩
  rw [hT]
  have HT := Lib.hid hT
  clear hR hBd hT
  go_enter Try.func36, Try.ntmps36
  go_wp2
  go_loopw [4, 5] (fun v x wr => ∃ (vo : Value) (k : Nat), vo = v ∧ k ≤ L.length ∧ x = .int .i64 k ∧ Hid (OwnV wr w.heap.size 3 vo ((bsL (L.take k)).map (Value.int .i64))) ∧ Hid (Below w.heap.size w wr)) (fun _ x _ => L.length - (intOf x).toNat)
  case atStart => exact ⟨_, 0, rfl, Nat.zero_le _, rfl, Lib.hid (OwnV.nil _ _ _), Lib.hid (Below.refl _ _)⟩
  case round =>
    obtain ⟨vo, k, rfl, hk, rfl, HO, HB⟩ := hrel
    have hsz := HB.out.size
    by_cases h : k < L.length
    · have h' : (k : Int) < (L.length : Int) := by omega
      have h'' : (0 : Int) ≤ (k : Int) := by omega
      obtain ⟨b, off, rfl, hbl, _, _, _, _, _, _, c6⟩ := (HR.out.below HB.out).at h
      have HTk := Lib.hid (bs_take h)
      have hbl2 := bs_len L k
      obtain ⟨n, hn⟩ : ∃ n, L[k].2.2 = n := ⟨_, rfl⟩
      rw [hn] at c6 HTk
      clear hn
      have hA : Below wr.heap.size wr (wr.alloc (Obj.cells #[.int .i64 n] 3)) := (Below.refl _ _).alloc (Nat.le_refl _) _
      have HOa := Lib.hid (HO.out.below hA)
      have HRa := Lib.hid (show RowV (wr.alloc (Obj.cells #[.int .i64 n] 3)) (some ⟨wr.heap.size, 0, none⟩) ([n].map (Value.int .i64)) from RowV.block (by simp) (fun i x hx => by rw [World.cell?_alloc_at _ _ _ _ rfl, Nat.zero_add]; simpa using hx))
      have HBa := Lib.hid (HB.out.trans (hA.mono hsz))
      have hsa : w.heap.size ≤ (wr.alloc (Obj.cells #[.int .i64 n] 3)).heap.size := Nat.le_trans hsz hA.size
      clear hA HO HB
      go_wp2_with (at_builtin; (refine wpList_vals und_ints inf_int rfl (by decide) rfl (.tmp 14) (.tmp 20) rfl w.heap.size vo ((bsL (L.take k)).map (Value.int .i64)) ([n].map (Value.int .i64)) rfl HOa.out (some ⟨wr.heap.size, 0, none⟩) 1 rfl (fun e => by cases e) HRa.out (one_ints [n]) (by rw [List.length_map]; simp; omega) hsa ?_; intro v6 w6 o6 hb6))
      have HO6 := Lib.hid (show OwnV w6 w.heap.size 3 v6 ((bsL (L.take (k + 1))).map (Value.int .i64)) from by rw [HTk.out, List.map_append]; exact o6)
      have HB6 := Lib.hid (HBa.out.trans hb6)
      clear o6 hb6 HOa HRa HBa
      go_wp2
      go_roundw
      case rel => exact ⟨_, k + 1, rfl, by omega, by go_num, HO6, HB6⟩
      case measure => simp [intOf]; omega
    · have h' : ¬ (k : Int) < (L.length : Int) := by omega
      obtain rfl : k = L.length := by omega
      have ho := HO.out
      rw [List.take_length] at ho
      obtain ⟨ao, cp, rfl⟩ := ho.shape
      have hrow : Row wr ao (bsL L) := row_ints ho.row (fun z hz => by
        obtain ⟨x, hx, rfl⟩ := List.mem_map.1 hz
        exact (HBd.out x hx).2)
      have hs := rSum_any ao cp (bsL L) wr hrow (by unfold bsL; simpa using hl)
      have hln : (bsL L).length = L.length := by unfold bsL; rw [List.length_map]
      rw [show (bsL L).sum = T from HT.out, hln] at hs
      have HS := Lib.hid hs
      rw [List.length_map, hln]
      clear ho hrow hs HO hln
      cases hok : okSum T
      · have HV := Lib.hid (show suV T = 0 ∧ suE T = 4 from by unfold suV suE; rw [hok]; exact ⟨rfl, rfl⟩)
        cases hf : fits T
        · rw [hf, fit_no hf] at HS
          clear hok hf
          go_wp2_with fail
          refine HS.out.mono ?_
          rintro e w_ ⟨rfl, rfl⟩
          go_wp2
          go_ret2
          exact ⟨by (rw [HV.out.1, HV.out.2]; rfl), HB.out⟩
        · rw [hf, fit_yes hf] at HS
          have HI2 := Lib.hid (fun W => HI.out T W)
          rw [hok] at HI2
          clear hok hf
          go_wp2_with fail
          refine HS.out.mono ?_
          rintro e w_ ⟨rfl, rfl⟩
          go_wp2_with fail
          refine (HI2.out _).mono ?_
          rintro e w_ ⟨rfl, rfl⟩
          go_wp2
          go_ret2
          exact ⟨by (rw [HV.out.1, HV.out.2]; rfl), HB.out⟩
      · have HV := Lib.hid (show suV T = T ∧ suE T = 0 from by unfold suV suE; rw [hok]; exact ⟨rfl, rfl⟩)
        obtain ⟨hf, hf2⟩ := okSum_is hok
        rw [hf, hf2] at HS
        have HI2 := Lib.hid (fun W => HI.out T W)
        rw [hok] at HI2
        clear hok hf hf2
        go_wp2_with fail
        refine HS.out.mono ?_
        rintro e w_ ⟨rfl, rfl⟩
        go_wp2_with fail
        refine (HI2.out _).mono ?_
        rintro e w_ ⟨rfl, rfl⟩
        go_wp2
        go_ret2
        exact ⟨by (rw [HV.out.1, HV.out.2]; rfl), HB.out⟩
end Go.Proofs.Ytenhnnfemehbcaa
