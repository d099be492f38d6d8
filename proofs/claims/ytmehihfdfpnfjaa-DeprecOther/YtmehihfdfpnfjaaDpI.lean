/- Schedule of package accountingref30, and After of both. Written by wip/mk_dpg.py. -/
import Derived.Test.YtmehihfdfpnfjaaDpH
namespace Go.Proofs.Ytmehihfdfpnfjaa
open Go.RowKit Go.Sort
set_option linter.unusedVariables false
set_option linter.unusedSimpArgs false

def fal (p : Int) (k : Nat) : List Int := (List.range k).map (fun (i : Nat) => p - (i : Int))
theorem fal_snoc (p : Int) (k : Nat) : fal p (k + 1) = fal p k ++ [p - (k : Int)] := by unfold fal; rw [List.range_succ, List.map_append]; rfl
theorem fal_len (p : Int) (k : Nat) : (fal p k).length = k := by unfold fal; simp
theorem fal_all (n : Nat) : fal (n : Int) n = fall (n : Int) := by unfold fal fall; rw [Int.toNat_natCast]
theorem fall_bd (n : Nat) (h : n ≤ 200) : ∀ z ∈ fall (n : Int), -9223372036854775808 ≤ z ∧ z ≤ 9223372036854775807 := fun z hz => by have := fall_mem hz; omega
/-- what Schedule of the reference returns. -/
def RcQ (m c s p a b : Int) (us : List Int) (w : World) (e : Ending) (w' : World) : Prop :=
  ∃ A k, e = .returned (.tuple #[.slice A (scL m c s p a b us).length k, .int .i64 (ckE m c s p a b us)]) ∧ Row w' A (scL m c s p a b us) ∧ Below w.heap.size w w'
set_option maxRecDepth 100000 in
set_option maxHeartbeats 1000000 in
theorem rSchedule_bad (m c s p a b : Int) (A : Option Addr) (uc : Nat) (us : List Int) (w : World) (h : PlF w m c s p a b A us) (hn : us.length ≤ 250) (hk : ¬ ckE m c s p a b us = 0) :
    Calls Try.prog 13 #[.agg #[.int .i64 m, .int .i64 c, .int .i64 s, .int .i64 p, .int .i64 a, .int .i64 b, .slice A us.length uc]] w (RcQ m c s p a b us w) := by
  have HP := Lib.hid (Q7.alloc w (.int .i64 m) (.int .i64 c) (.int .i64 s) (.int .i64 p) (.int .i64 a) (.int .i64 b) (.slice A us.length uc) 26)
  have HB0 := Lib.hid ((Below.refl w.heap.size w).alloc (Nat.le_refl _) (Obj.cells #[.int .i64 m, .int .i64 c, .int .i64 s, .int .i64 p, .int .i64 a, .int .i64 b, .slice A us.length uc] 26))
  have HC := Lib.hid (rCheck_any m c s p a b A uc us _ (h.below ((Below.refl w.heap.size w).alloc (Nat.le_refl _) (Obj.cells #[.int .i64 m, .int .i64 c, .int .i64 s, .int .i64 p, .int .i64 a, .int .i64 b, .slice A us.length uc] 26))) hn)
  have HS := Lib.hid (scL_bad hk)
  clear h
  have hk' : (ckE m c s p a b us != 0) = true := by simpa using hk
  unfold RcQ
  rw [HS.out]
  generalize ckE m c s p a b us = er at *
  clear hk
  go_enter Try.func13, Try.ntmps13
  have x0 := HP.out.c0
  have x1 := HP.out.c1
  have x2 := HP.out.c2
  have x3 := HP.out.c3
  have x4 := HP.out.c4
  have x5 := HP.out.c5
  have x6 := HP.out.c6
  go_wp2_with fail
  refine HC.out.mono ?_
  rintro e w1 ⟨rfl, hb⟩
  clear x0 x1 x2 x3 x4 x5 x6
  have HB1 := Lib.hid (HB0.out.trans (hb.mono HB0.out.size))
  clear hb HP HB0 HC
  go_wp2
  go_ret2
  exact ⟨none, 0, rfl, row_nil _ _, HB1.out⟩
set_option maxRecDepth 100000 in
set_option maxHeartbeats 1000000 in
theorem rSchedule_straight (c s a b : Int) (n : Nat) (A : Option Addr) (uc : Nat) (us : List Int) (w : World) (h : PlF w 1 c s n a b A us) (hn : us.length ≤ 250) (hk : ckE 1 c s n a b us = 0) :
    Calls Try.prog 13 #[.agg #[.int .i64 1, .int .i64 c, .int .i64 s, .int .i64 (n : Int), .int .i64 a, .int .i64 b, .slice A us.length uc]] w (RcQ 1 c s n a b us w) := by
  have g := good_of hk
  have gn := g.nums
  have p1 := g.p1
  have p2 := g.p2
  have HP := Lib.hid (Q7.alloc w (.int .i64 1) (.int .i64 c) (.int .i64 s) (.int .i64 (n : Int)) (.int .i64 a) (.int .i64 b) (.slice A us.length uc) 26)
  have HB0 := Lib.hid ((Below.refl w.heap.size w).alloc (Nat.le_refl _) (Obj.cells #[.int .i64 1, .int .i64 c, .int .i64 s, .int .i64 (n : Int), .int .i64 a, .int .i64 b, .slice A us.length uc] 26))
  have HPl := Lib.hid (h.below ((Below.refl w.heap.size w).alloc (Nat.le_refl _) (Obj.cells #[.int .i64 1, .int .i64 c, .int .i64 s, .int .i64 (n : Int), .int .i64 a, .int .i64 b, .slice A us.length uc] 26)))
  have HC := Lib.hid (rCheck_any 1 c s n a b A uc us _ HPl.out hn)
  rw [hk] at HC
  have HK := Lib.hid hk
  have HL := Lib.hid (show scL 1 c s n a b us = dfL (stG c s n) n by unfold scL; rw [if_pos hk, if_pos rfl]; rfl)
  have HR := Lib.hid (fun W => rStraight_any 1 c s a b n A uc us W gn)
  clear hk g gn h
  go_enter Try.func13, Try.ntmps13
  have x0 := HP.out.c0
  have x1 := HP.out.c1
  have x2 := HP.out.c2
  have x3 := HP.out.c3
  have x4 := HP.out.c4
  have x5 := HP.out.c5
  have x6 := HP.out.c6
  go_wp2_with fail
  refine HC.out.mono ?_
  rintro e w1 ⟨rfl, hb⟩
  clear x0 x1 x2 x3 x4 x5 x6
  have HP1 := Lib.hid (HP.out.below hb)
  have HB1 := Lib.hid (HB0.out.trans (hb.mono HB0.out.size))
  have HR1 := Lib.hid (HPl.out.below hb)
  clear hb HP HB0 HC HPl
  have x0 := HP1.out.c0
  have x1 := HP1.out.c1
  have x2 := HP1.out.c2
  have x3 := HP1.out.c3
  have x4 := HP1.out.c4
  have x5 := HP1.out.c5
  have x6 := HP1.out.c6
  go_wp2_with fail
  refine (HR.out _).mono ?_
  rintro e w2 ⟨A2, k2, rfl, h1, h2⟩
  clear x0 x1 x2 x3 x4 x5 x6
  have HR2 := Lib.hid h1
  have HB2 := Lib.hid (HB1.out.trans (h2.mono HB1.out.size))
  clear h1 h2 HP1 HR1 HR HB1
  go_wp2
  go_ret2
  exact ⟨A2, k2, by rw [HL.out, HK.out]; first | done | rfl, by rw [HL.out]; exact HR2.out, HB2.out⟩
set_option maxRecDepth 100000 in
set_option maxHeartbeats 1000000 in
theorem rSchedule_declining (c s a b : Int) (n : Nat) (A : Option Addr) (uc : Nat) (us : List Int) (w : World) (h : PlF w 2 c s n a b A us) (hn : us.length ≤ 250) (hk : ckE 2 c s n a b us = 0) :
    Calls Try.prog 13 #[.agg #[.int .i64 2, .int .i64 c, .int .i64 s, .int .i64 (n : Int), .int .i64 a, .int .i64 b, .slice A us.length uc]] w (RcQ 2 c s n a b us w) := by
  have g := good_of hk
  have gn := g.nums
  have p1 := g.p1
  have p2 := g.p2
  have HP := Lib.hid (Q7.alloc w (.int .i64 2) (.int .i64 c) (.int .i64 s) (.int .i64 (n : Int)) (.int .i64 a) (.int .i64 b) (.slice A us.length uc) 26)
  have HB0 := Lib.hid ((Below.refl w.heap.size w).alloc (Nat.le_refl _) (Obj.cells #[.int .i64 2, .int .i64 c, .int .i64 s, .int .i64 (n : Int), .int .i64 a, .int .i64 b, .slice A us.length uc] 26))
  have HPl := Lib.hid (h.below ((Below.refl w.heap.size w).alloc (Nat.le_refl _) (Obj.cells #[.int .i64 2, .int .i64 c, .int .i64 s, .int .i64 (n : Int), .int .i64 a, .int .i64 b, .slice A us.length uc] 26)))
  have HC := Lib.hid (rCheck_any 2 c s n a b A uc us _ HPl.out hn)
  rw [hk] at HC
  have HK := Lib.hid hk
  have HL := Lib.hid (show scL 2 c s n a b us = dfL (dcG a b c s n) n by unfold scL; rw [if_pos hk, if_neg (by omega), if_pos rfl]; rfl)
  have HR := Lib.hid (fun W => rDeclining_any 2 c s a b n A uc us W gn h.a h.b)
  clear hk g gn h
  go_enter Try.func13, Try.ntmps13
  have x0 := HP.out.c0
  have x1 := HP.out.c1
  have x2 := HP.out.c2
  have x3 := HP.out.c3
  have x4 := HP.out.c4
  have x5 := HP.out.c5
  have x6 := HP.out.c6
  go_wp2_with fail
  refine HC.out.mono ?_
  rintro e w1 ⟨rfl, hb⟩
  clear x0 x1 x2 x3 x4 x5 x6
  have HP1 := Lib.hid (HP.out.below hb)
  have HB1 := Lib.hid (HB0.out.trans (hb.mono HB0.out.size))
  have HR1 := Lib.hid (HPl.out.below hb)
  clear hb HP HB0 HC HPl
  have x0 := HP1.out.c0
  have x1 := HP1.out.c1
  have x2 := HP1.out.c2
  have x3 := HP1.out.c3
  have x4 := HP1.out.c4
  have x5 := HP1.out.c5
  have x6 := HP1.out.c6
  go_wp2_with fail
  refine (HR.out _).mono ?_
  rintro e w2 ⟨A2, k2, rfl, h1, h2⟩
  clear x0 x1 x2 x3 x4 x5 x6
  have HR2 := Lib.hid h1
  have HB2 := Lib.hid (HB1.out.trans (h2.mono HB1.out.size))
  clear h1 h2 HP1 HR1 HR HB1
  go_wp2
  go_ret2
  exact ⟨A2, k2, by rw [HL.out, HK.out]; first | done | rfl, by rw [HL.out]; exact HR2.out, HB2.out⟩
set_option maxRecDepth 100000 in
set_option maxHeartbeats 1000000 in
theorem rSchedule_digits (c s a b : Int) (n : Nat) (A : Option Addr) (uc : Nat) (us : List Int) (w : World) (h : PlF w 3 c s n a b A us) (hn : us.length ≤ 250) (hk : ckE 3 c s n a b us = 0) (ho : OrdS 3 c s n us) :
    Calls Try.prog 13 #[.agg #[.int .i64 3, .int .i64 c, .int .i64 s, .int .i64 (n : Int), .int .i64 a, .int .i64 b, .slice A us.length uc]] w (RcQ 3 c s n a b us w) := by
  have g := good_of hk
  have gn := g.nums
  have p1 := g.p1
  have p2 := g.p2
  have HP := Lib.hid (Q7.alloc w (.int .i64 3) (.int .i64 c) (.int .i64 s) (.int .i64 (n : Int)) (.int .i64 a) (.int .i64 b) (.slice A us.length uc) 26)
  have HB0 := Lib.hid ((Below.refl w.heap.size w).alloc (Nat.le_refl _) (Obj.cells #[.int .i64 3, .int .i64 c, .int .i64 s, .int .i64 (n : Int), .int .i64 a, .int .i64 b, .slice A us.length uc] 26))
  have HPl := Lib.hid (h.below ((Below.refl w.heap.size w).alloc (Nat.le_refl _) (Obj.cells #[.int .i64 3, .int .i64 c, .int .i64 s, .int .i64 (n : Int), .int .i64 a, .int .i64 b, .slice A us.length uc] 26)))
  have HC := Lib.hid (rCheck_any 3 c s n a b A uc us _ HPl.out hn)
  rw [hk] at HC
  have HK := Lib.hid hk
  have hze : shE (c - s) (fall (n : Int)) = 0 := fall_ok p1 p2 (by have := g.sc; omega) (by have := g.c2; have := g.s0; omega)
  have HL := Lib.hid (show scL 3 c s n a b us = shO (c - s) (fall n) by unfold scL; rw [if_pos hk, if_neg (by omega), if_neg (by omega), if_pos rfl])
  have hzl : (fall (n : Int)).length = n := by rw [fall_len]; omega
  have g1 := g.sc; have g2 := g.c2; have g3 := g.s0; have g6 := g.c1
  have HSh := Lib.hid (fun W A' k' (hr : Row W A' (fall (n : Int))) => show Calls Try.prog 25 #[.int .i64 (c - s), .slice A' (fall (n : Int)).length k'] W (fun e w' => ∃ A, e = .returned (.tuple #[.slice A (shO (c - s) (fall (n : Int))).length (shO (c - s) (fall (n : Int))).length, .int .i64 0]) ∧ Row w' A (shO (c - s) (fall (n : Int))) ∧ Below W.heap.size W w') from by
    refine (rShares_any (c - s) A' k' (fall (n : Int)) W hr (by omega) (fun _ => ho.1 rfl)).mono ?_
    rintro e w' ⟨A2, rfl, h1, h2⟩
    exact ⟨A2, by rw [hze], h1, h2⟩)
  rw [hzl] at HSh
  have HFb := Lib.hid (fall_bd n (by omega))
  clear hk g gn h hze hzl ho
  go_enter Try.func13, Try.ntmps13
  have x0 := HP.out.c0
  have x1 := HP.out.c1
  have x2 := HP.out.c2
  have x3 := HP.out.c3
  have x4 := HP.out.c4
  have x5 := HP.out.c5
  have x6 := HP.out.c6
  go_wp2_with fail
  refine HC.out.mono ?_
  rintro e w1 ⟨rfl, hb⟩
  clear x0 x1 x2 x3 x4 x5 x6
  have HP1 := Lib.hid (HP.out.below hb)
  have HB1 := Lib.hid (HB0.out.trans (hb.mono HB0.out.size))
  have HR1 := Lib.hid (HPl.out.below hb)
  clear hb HP HB0 HC HPl
  have x0 := HP1.out.c0
  have x1 := HP1.out.c1
  have x2 := HP1.out.c2
  have x3 := HP1.out.c3
  have x4 := HP1.out.c4
  have x5 := HP1.out.c5
  have x6 := HP1.out.c6
  go_wp2
  go_loopw [5, 6] (fun l x wr => ∃ k : Nat, k ≤ n ∧ x = .int .i64 ((n : Int) - (k : Int)) ∧ Hid (OwnI wr w1.heap.size l (fal n k)) ∧ Hid (Below w1.heap.size w1 wr)) (fun _ x _ => (intOf x).toNat)
  case atStart => exact ⟨0, Nat.zero_le _, by simp, Lib.hid (OwnV.nil _ _ _), Lib.hid (Below.refl _ _)⟩
  case round =>
    clear x0 x1 x2 x3 x4 x5 x6
    obtain ⟨k, hk, rfl, HO, HB⟩ := hrel
    by_cases h : k < n
    · have HX := Lib.hid (fal_snoc (n : Int) k)
      have HLn := Lib.hid (show (fal (n : Int) k).length < 10000 by rw [fal_len]; omega)
      obtain ⟨r, er1⟩ : ∃ r, (n : Int) - (k : Int) = r := ⟨_, rfl⟩
      have HKn := Lib.hid (show r - 1 = (n : Int) - ((k + 1 : Nat) : Int) by omega)
      rw [er1] at HX
      rw [er1]
      have hr0 : 1 ≤ r := by omega
      have hr1 : r ≤ 200 := by omega
      clear er1
      go_wp2_with (at_builtin; refine wpList_int rfl _ _ rfl w1.heap.size _ (fal n k) r rfl (HO.out.below ((Below.refl _ _).alloc (Nat.le_refl _) _)) ⟨wr.heap.size, 0, none⟩ 1 rfl (row_int wr r _) HLn.out (by have := HB.out.size; simp; omega) ?_; intro v' w6 hown hbel)
      have hbB := ((Below.refl w1.heap.size wr).alloc HB.out.size (Obj.cells #[.int .i64 r] 3)).trans hbel
      have HO6 := Lib.hid (show OwnI w6 w1.heap.size v' (fal n (k + 1)) by rw [HX.out]; exact hown)
      have HB6 := Lib.hid (HB.out.trans hbB)
      clear hown hbel hbB HO HB
      go_wp2
      go_roundw
      case rel => exact ⟨k + 1, by omega, by have hk0 := HKn.out; go_num, HO6, HB6⟩
      case measure => (try simp [intOf]) <;> (try omega)
    · obtain rfl : n = k := by omega
      have hz : (n : Int) - (n : Int) = 0 := by omega
      rw [hz]
      rw [fal_all] at HO
      obtain ⟨A', k', rfl, hr⟩ := HO.out.end_ HFb.out
      rw [show (fall (n : Int)).length = n by rw [fall_len]; omega]
      have HR := Lib.hid hr
      have HPr := Lib.hid (HP1.out.below HB.out)
      clear hr HO
      have x0 := HPr.out.c0
      have x1 := HPr.out.c1
      have x2 := HPr.out.c2
      have x3 := HPr.out.c3
      have x4 := HPr.out.c4
      have x5 := HPr.out.c5
      have x6 := HPr.out.c6
      go_wp2_with fail
      refine (HSh.out _ A' k' HR.out).mono ?_
      rintro e w2 ⟨A2, rfl, h1, h2⟩
      clear x0 x1 x2 x3 x4 x5 x6
      have HR2 := Lib.hid h1
      have HB2 := Lib.hid (HB1.out.trans ((HB.out.trans (h2.mono HB.out.size)).mono HB1.out.size))
      clear h1 h2 HP1 HR1 HSh HB1 HPr HR HB
      go_wp2
      go_ret2
      exact ⟨A2, _, by rw [HL.out, HK.out]; first | done | rfl, by rw [HL.out]; exact HR2.out, HB2.out⟩
set_option maxRecDepth 100000 in
set_option maxHeartbeats 1000000 in
theorem rSchedule_usage (c s a b : Int) (n : Nat) (A : Option Addr) (uc : Nat) (us : List Int) (w : World) (h : PlF w 4 c s n a b A us) (hn : us.length ≤ 250) (hk : ckE 4 c s n a b us = 0) (ho : OrdS 4 c s n us) :
    Calls Try.prog 13 #[.agg #[.int .i64 4, .int .i64 c, .int .i64 s, .int .i64 (n : Int), .int .i64 a, .int .i64 b, .slice A us.length uc]] w (RcQ 4 c s n a b us w) := by
  have g := good_of hk
  have gn := g.nums
  have p1 := g.p1
  have p2 := g.p2
  have HP := Lib.hid (Q7.alloc w (.int .i64 4) (.int .i64 c) (.int .i64 s) (.int .i64 (n : Int)) (.int .i64 a) (.int .i64 b) (.slice A us.length uc) 26)
  have HB0 := Lib.hid ((Below.refl w.heap.size w).alloc (Nat.le_refl _) (Obj.cells #[.int .i64 4, .int .i64 c, .int .i64 s, .int .i64 (n : Int), .int .i64 a, .int .i64 b, .slice A us.length uc] 26))
  have HPl := Lib.hid (h.below ((Below.refl w.heap.size w).alloc (Nat.le_refl _) (Obj.cells #[.int .i64 4, .int .i64 c, .int .i64 s, .int .i64 (n : Int), .int .i64 a, .int .i64 b, .slice A us.length uc] 26)))
  have HC := Lib.hid (rCheck_any 4 c s n a b A uc us _ HPl.out hn)
  rw [hk] at HC
  have HK := Lib.hid hk
  have hu := g.un rfl
  have hzl : us.length = n := by have := (unB_parts hu).2.2; omega
  have hze : shE (c - s) us = 0 := units_ok p1 p2 (by have := g.sc; omega) (by have := g.c2; have := g.s0; omega) hu
  have HL := Lib.hid (show scL 4 c s n a b us = shO (c - s) us by unfold scL; rw [if_pos hk, if_neg (by omega), if_neg (by omega), if_neg (by omega)])
  have g1 := g.sc; have g2 := g.c2; have g3 := g.s0; have g6 := g.c1
  have HSh := Lib.hid (fun W A' k' (hr : Row W A' us) => show Calls Try.prog 25 #[.int .i64 (c - s), .slice A' us.length k'] W (fun e w' => ∃ A, e = .returned (.tuple #[.slice A (shO (c - s) us).length (shO (c - s) us).length, .int .i64 0]) ∧ Row w' A (shO (c - s) us) ∧ Below W.heap.size W w') from by
    refine (rShares_any (c - s) A' k' us W hr (by omega) (fun _ => ho.2 rfl)).mono ?_
    rintro e w' ⟨A2, rfl, h1, h2⟩
    exact ⟨A2, by rw [hze], h1, h2⟩)
  clear hk g gn h hze hzl hu ho
  go_enter Try.func13, Try.ntmps13
  have x0 := HP.out.c0
  have x1 := HP.out.c1
  have x2 := HP.out.c2
  have x3 := HP.out.c3
  have x4 := HP.out.c4
  have x5 := HP.out.c5
  have x6 := HP.out.c6
  go_wp2_with fail
  refine HC.out.mono ?_
  rintro e w1 ⟨rfl, hb⟩
  clear x0 x1 x2 x3 x4 x5 x6
  have HP1 := Lib.hid (HP.out.below hb)
  have HB1 := Lib.hid (HB0.out.trans (hb.mono HB0.out.size))
  have HR1 := Lib.hid (HPl.out.below hb)
  clear hb HP HB0 HC HPl
  have x0 := HP1.out.c0
  have x1 := HP1.out.c1
  have x2 := HP1.out.c2
  have x3 := HP1.out.c3
  have x4 := HP1.out.c4
  have x5 := HP1.out.c5
  have x6 := HP1.out.c6
  go_wp2_with fail
  refine (HSh.out _ A uc HR1.out.u).mono ?_
  rintro e w2 ⟨A2, rfl, h1, h2⟩
  clear x0 x1 x2 x3 x4 x5 x6
  have HR2 := Lib.hid h1
  have HB2 := Lib.hid (HB1.out.trans (h2.mono HB1.out.size))
  clear h1 h2 HP1 HR1 HSh HB1
  go_wp2
  go_ret2
  exact ⟨A2, _, by rw [HL.out, HK.out]; first | done | rfl, by rw [HL.out]; exact HR2.out, HB2.out⟩
theorem rSchedule_any (m c s p a b : Int) (A : Option Addr) (uc : Nat) (us : List Int) (w : World) (h : PlF w m c s p a b A us) (hn : us.length ≤ 250) (ho : ckE m c s p a b us = 0 → OrdS m c s p us) :
    Calls Try.prog 13 #[.agg #[.int .i64 m, .int .i64 c, .int .i64 s, .int .i64 p, .int .i64 a, .int .i64 b, .slice A us.length uc]] w (RcQ m c s p a b us w) := by
  by_cases hk : ckE m c s p a b us = 0
  · have g := good_of hk
    have g1 := g.m1
    have g2 := g.m4
    have g3 := g.p1
    obtain ⟨n, rfl⟩ : ∃ n : Nat, p = n := ⟨p.toNat, by omega⟩
    rcases (show (m = 1 ∨ m = 2) ∨ (m = 3 ∨ m = 4) by omega) with (rfl | rfl) | (rfl | rfl)
    · exact rSchedule_straight c s a b n A uc us w h hn hk
    · exact rSchedule_declining c s a b n A uc us w h hn hk
    · exact rSchedule_digits c s a b n A uc us w h hn hk (ho hk)
    · exact rSchedule_usage c s a b n A uc us w h hn hk (ho hk)
  · exact rSchedule_bad m c s p a b A uc us w h hn hk
end Go.Proofs.Ytmehihfdfpnfjaa
