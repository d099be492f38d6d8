/- The statements ChainNextReference, ChainAllReference, ChainCheckReference and ChainRoundTrip of package accountinglaw14. -/
import Derived.Test.YtacgjfgiikbjiaaChK
namespace Go.Proofs.Ytacgjfgiikbjiaa
open Go.RowKit Go.Sort
set_option linter.unusedVariables false
set_option linter.unusedSimpArgs false

theorem RowB.conv' {w : World} {ao : Option Addr} {l : List UInt8} (h : RowB w ao l) (c : Nat) : (convert 23 9 (.slice ao l.length c)).run Try.prog w = .ok (.string (bs l)) w :=
  h.conv c fun e => by
    subst e
    cases l with
    | nil => rfl
    | cons b l => obtain ⟨_, _, e, _⟩ := h 0 _ rfl; cases e
theorem OwnB.made (w : World) (base : Nat) (h : base ≤ w.heap.size) : OwnB (w.alloc (.cells #[] 5)) base (.slice (some ⟨w.heap.size, 0, none⟩) 0 0) [] :=
  ⟨rfl, .inr ⟨w.heap.size, 0, #[], rfl, h, by unfold World.alloc; simp, by simp, by unfold maxLen; omega, rfl, rfl⟩⟩
set_option maxHeartbeats 2000000 in
theorem chainNextReference_walk (s : Int) (a : Option Addr) (len cap : Nat) (l : List UInt8) (w : World) (w0 : (Lit.int .u64 s).wf = true) (w1 : IsB w a len cap l) :
    Calls Try.prog 3 #[.int .u64 s, .slice a len cap] w fun e w' => e = .returned (.bool true) ∧ Below w.heap.size w w' := by
  obtain rfl := w1.hlen
  have hm := w1.hmax
  unfold maxLen at hm
  by_cases h : 2000 < l.length
  · have hi : (2000 : Int) < (l.length : Int) := by omega
    have H5 := Lib.hid (live_end (Below.refl w.heap.size w))
    clear w1
    go_enter Try.func3, Try.ntmps3
    go_wp2_with fail
    refine H5.out.mono ?_
    rintro e W1 ⟨rfl, hb⟩
    go_wp2
    go_ret
    exact ⟨rfl, hb⟩
  · have hi : ¬ (2000 : Int) < (l.length : Int) := by omega
    have HR := Lib.hid w1.hrow
    have HN := Lib.hid w1.hnil
    clear w1
    have H1 := Lib.hid (fun (ao : Option Addr) c w h => next_any s ao c l w h (by omega))
    have H2 := Lib.hid (fun w h => rNext_any s a cap l w h (by omega))
    generalize nxV s l = N at *
    go_enter Try.func3, Try.ntmps3
    go_wp2_with (at_builtin; refine wpList_bytes rfl _ _ rfl w.heap.size _ [] l rfl (OwnB.made w _ (Nat.le_refl _)) a cap rfl HN.out (HR.out.below ((Below.refl _ _).alloc (Nat.le_refl _) _)) (by simp; omega) (by simp) ?_; intro v' w1 hown hbel; rw [List.nil_append] at hown; have HO := Lib.hid hown; have HB := Lib.hid (((Below.refl _ _).alloc (Nat.le_refl _) _).trans hbel); clear hown hbel; obtain ⟨av, cv, rfl⟩ := HO.out.shape)
    refine (H1.out _ _ _ (OwnV.row HO.out)).mono ?_
    rintro e W1 ⟨rfl, hb1⟩
    have HB1 := Lib.hid (HB.out.trans (hb1.mono HB.out.size))
    have HR1 := Lib.hid (RowB.below (OwnV.row HO.out) hb1)
    clear hb1
    go_wp2_with fail
    refine (H2.out _ (HR.out.below HB1.out)).mono ?_
    rintro e w_ ⟨rfl, rfl⟩
    have c1 := RowB.conv' HR1.out cv
    have c2 := RowB.conv' (HR.out.below HB1.out) cap
    go_wp2_with fail
    refine (live_end HB1.out).mono ?_
    rintro e W4 ⟨rfl, hb⟩
    go_wp2
    go_ret
    exact ⟨rfl, hb⟩
set_option maxHeartbeats 2000000 in
theorem chainAllReference_walk (a : Option Addr) (len cap : Nat) (R : List (List UInt8)) (w : World) (w0 : IsR w a len cap R) :
    Calls Try.prog 4 #[.slice a len cap] w fun e w' => e = .returned (.bool true) ∧ Below w.heap.size w w' := by
  obtain rfl := w0.hlen
  have H0 := Lib.hid (large_any a cap R w w0.hrow w0.hmax w0.heach)
  have HR := Lib.hid w0.hrow
  clear w0
  go_enter Try.func4, Try.ntmps4
  go_wp2_with fail
  refine H0.out.mono ?_
  rintro e w_ ⟨⟨b, rfl, hb⟩, rfl⟩
  cases b with
  | true =>
    clear hb
    go_wp2_with fail
    refine (live_end (Below.refl _ _)).mono ?_
    rintro e W1 ⟨rfl, hb⟩
    go_wp2
    go_ret
    exact ⟨rfl, hb⟩
  | false =>
    obtain ⟨hn, hl⟩ := hb rfl
    have H1 := Lib.hid (fun w h => all_any a cap R w h (by omega) (fun l h => Nat.le_trans (hl l h) (by omega)))
    have H2 := Lib.hid (fun w h => rAll_any a cap R w h (by omega) (fun l h => Nat.le_trans (hl l h) (by omega)))
    have hal : (alV st0 R).length ≤ 100 := by rw [alV_len]; omega
    unfold AlP at H1 H2
    clear hl hb
    generalize alV st0 R = L at *
    go_wp2_with fail
    refine (H1.out _ HR.out).mono ?_
    rintro e W1 ⟨v, rfl, ho, hb1⟩
    obtain ⟨av, cv, rfl⟩ := ho.shape
    have HR1 := Lib.hid ho.row
    have HB1 := Lib.hid hb1
    clear ho hb1
    go_wp2_with fail
    refine (H2.out _ (HR.out.below HB1.out)).mono ?_
    rintro e W2 ⟨v, rfl, ho, hb2⟩
    obtain ⟨av2, cv2, rfl⟩ := ho.shape
    have HR2 := Lib.hid ho.row
    have HR12 := Lib.hid (HR1.out.below hb2)
    have HB2 := Lib.hid (HB1.out.trans (hb2.mono HB1.out.size))
    clear ho hb2
    go_wp2_with fail
    refine (same_any av av2 cv cv2 L L _ HR12.out HR2.out (by omega) (by omega)).mono ?_
    rintro e W3 ⟨he, hb3⟩
    obtain rfl := he rfl
    have HB3 := Lib.hid (HB2.out.trans (hb3.mono HB2.out.size))
    clear hb3
    go_wp2_with fail
    refine (live_end HB3.out).mono ?_
    rintro e W4 ⟨rfl, hb⟩
    go_wp2
    go_ret
    exact ⟨rfl, hb⟩
set_option maxHeartbeats 2000000 in
theorem chainCheckReference_walk (a : Option Addr) (len cap : Nat) (R : List (List UInt8)) (a1 : Option Addr) (len1 cap1 : Nat) (S : List Int) (w : World) (w0 : IsR w a len cap R) (w1 : IsU w a1 len1 cap1 S) :
    Calls Try.prog 5 #[.slice a len cap, .slice a1 len1 cap1] w fun e w' => e = .returned (.bool true) ∧ Below w.heap.size w w' := by
  obtain rfl := w0.hlen
  obtain rfl := w1.hlen
  have H0 := Lib.hid (large_any a cap R w w0.hrow w0.hmax w0.heach)
  have HR := Lib.hid w0.hrow
  have HS := Lib.hid w1.hrow
  have hm := w1.hmax
  unfold maxLen at hm
  clear w0 w1
  go_enter Try.func5, Try.ntmps5
  go_wp2_with fail
  refine H0.out.mono ?_
  rintro e w_ ⟨⟨b, rfl, hb⟩, rfl⟩
  cases b with
  | true =>
    clear hb
    go_wp2_with fail
    refine (live_end (Below.refl _ _)).mono ?_
    rintro e W1 ⟨rfl, hb⟩
    go_wp2
    go_ret
    exact ⟨rfl, hb⟩
  | false =>
    obtain ⟨hn, hl⟩ := hb rfl
    by_cases h : 60 < S.length
    · have hi : (60 : Int) < (S.length : Int) := by omega
      clear hb hl
      go_wp2_with fail
      refine (live_end (Below.refl _ _)).mono ?_
      rintro e W1 ⟨rfl, hb⟩
      go_wp2
      go_ret
      exact ⟨rfl, hb⟩
    · have hi : ¬ (60 : Int) < (S.length : Int) := by omega
      have H1 := Lib.hid (fun w h h2 => check_any a a1 cap cap1 R S w h h2 (by omega) (by omega) (fun l h => Nat.le_trans (hl l h) (by omega)))
      have H2 := Lib.hid (fun w h h2 => rCheck_any a a1 cap cap1 R S w h h2 (by omega) (by omega) (fun l h => Nat.le_trans (hl l h) (by omega)))
      clear hl hb
      generalize chV st0 R S 0 = L at *
      go_wp2_with fail
      refine (H1.out _ HR.out HS.out).mono ?_
      rintro e W1 ⟨rfl, hb1⟩
      have HB1 := Lib.hid hb1
      clear hb1
      go_wp2_with fail
      refine (H2.out _ (HR.out.below HB1.out) (HS.out.below HB1.out)).mono ?_
      rintro e W2 ⟨rfl, hb2⟩
      have HB2 := Lib.hid (HB1.out.trans (hb2.mono HB1.out.size))
      clear hb2
      go_wp2_with fail
      refine (live_end HB2.out).mono ?_
      rintro e W4 ⟨rfl, hb⟩
      go_wp2
      go_ret
      exact ⟨rfl, hb⟩
theorem vl_sp {n : Int} (n0 : 0 ≤ n) (n1 : n < 18446744073709551616) : vlB (spL n) = n := by
  unfold spL vlB
  simp only [List.foldl_cons, List.foldl_nil]
  rw [byI_val (x := n / 72057594037927936) (by omega) (by omega), byI_val (x := n / 281474976710656 % 256) (by omega) (by omega), byI_val (x := n / 1099511627776 % 256) (by omega) (by omega), byI_val (x := n / 4294967296 % 256) (by omega) (by omega), byI_val (x := n / 16777216 % 256) (by omega) (by omega), byI_val (x := n / 65536 % 256) (by omega) (by omega), byI_val (x := n / 256 % 256) (by omega) (by omega), byI_val (x := n % 256) (by omega) (by omega)]
  omega
theorem sm_sp {n : Int} (n0 : 0 ≤ n) (n1 : n < 18446744073709551616) : smV (spL n) = n ∧ smE (spL n) = 0 :=
  ⟨by unfold smV; rw [if_pos (show (spL n).length = 8 from rfl), vl_sp n0 n1], rfl⟩
theorem hx_dig : ∀ n : Fin 256, hxI (hxD.getD (n.val / 16) 0) = (n.val / 16 : Nat) ∧ hxI (hxD.getD (n.val % 16) 0) = (n.val % 16 : Nat) := by decide +kernel
theorem hx_byte (b : UInt8) : hxI (hxD.getD (b.toNat / 16) 0) = ((b.toNat / 16 : Nat) : Int) ∧ hxI (hxD.getD (b.toNat % 16) 0) = ((b.toNat % 16 : Nat) : Int) := hx_dig ⟨b.toNat, b.toNat_lt⟩
theorem pv_tx : ∀ (l : List UInt8) (x : Int), (txL l).foldl (fun n c => n * 16 + hxI c) x = l.foldl (fun n b => n * 256 + (b.toNat : Int)) x
  | [], x => rfl
  | b :: l, x => by
    have e : txL (b :: l) = hxD.getD (b.toNat / 16) 0 :: hxD.getD (b.toNat % 16) 0 :: txL l := rfl
    rw [e, List.foldl_cons, List.foldl_cons, List.foldl_cons, (hx_byte b).1, (hx_byte b).2, pv_tx l]
    congr 1
    omega
theorem po_tx : ∀ l : List UInt8, pvO (txL l)
  | [] => fun c h => by simp [txL] at h
  | b :: l => fun c h => by
    have e : txL (b :: l) = hxD.getD (b.toNat / 16) 0 :: hxD.getD (b.toNat % 16) 0 :: txL l := rfl
    rw [e] at h
    rcases List.mem_cons.1 h with rfl | h
    · rw [(hx_byte b).1]; omega
    · rcases List.mem_cons.1 h with rfl | h
      · rw [(hx_byte b).2]; omega
      · exact po_tx l c h
theorem pa_sp {n : Int} (n0 : 0 ≤ n) (n1 : n < 18446744073709551616) : paV (bs (txL (spL n))) = n ∧ paE (bs (txL (spL n))) = 0 := by
  have hok : paOk (bs (txL (spL n))) := ⟨by rw [bs_size, txL_len]; rfl, by rw [bs_list]; exact po_tx _⟩
  refine ⟨?_, (pa_ok hok).2⟩
  rw [(pa_ok hok).1, bs_list]
  unfold pvV
  rw [pv_tx]
  have := vl_sp n0 n1
  unfold vlB at this
  rw [this, IntKind.wrap_u64]; omega
theorem bs16 (n : Int) : (bs (txL (spL n))).size = 16 := by rw [bs_size, txL_len]; rfl
set_option maxHeartbeats 2000000 in
theorem chainRoundTrip_walk (s : Int) (w : World) (w0 : (Lit.int .u64 s).wf = true) :
    Calls Try.prog 7 #[.int .u64 s] w fun e w' => e = .returned (.bool true) ∧ Below w.heap.size w w' := by
  obtain ⟨s0, s1⟩ := u64_bd w0
  clear w0
  have H1 := Lib.hid (fun w => bytes_any s w s0 s1)
  have H2 := Lib.hid (fun (ao : Option Addr) w h => sum_any ao 8 (spL s) w h (show (spL s).length ≤ 1000 by show 8 ≤ 1000; omega))
  have H3 := Lib.hid (fun w => text_any s w s0 s1)
  have H4 := Lib.hid (fun w => parse_any (bs (txL (spL s))) w (by rw [bs16]; omega))
  rw [(sm_sp s0 s1).1, (sm_sp s0 s1).2] at H2
  rw [(pa_sp s0 s1).1, (pa_sp s0 s1).2] at H4
  have HL := Lib.hid (show (spL s).length = 8 from rfl)
  unfold ByP at H1
  rw [HL.out] at H2
  generalize bs (txL (spL s)) = T at *
  generalize spL s = L at *
  go_enter Try.func7, Try.ntmps7
  go_wp2_with fail
  refine (H1.out _).mono ?_
  rintro e W1 ⟨a, rfl, hr, hb1⟩
  have HR1 := Lib.hid hr
  have HB1 := Lib.hid hb1
  clear hr hb1
  go_wp2_with fail
  refine (H2.out _ _ HR1.out).mono ?_
  rintro e w_ ⟨rfl, rfl⟩
  go_wp2_with fail
  refine (H3.out _).mono ?_
  rintro e W2 ⟨rfl, hb2⟩
  have HB2 := Lib.hid (HB1.out.trans (hb2.mono HB1.out.size))
  clear hb2
  go_wp2_with fail
  refine (H4.out _).mono ?_
  rintro e w_ ⟨rfl, rfl⟩
  go_wp2_with fail
  refine (live_end HB2.out).mono ?_
  rintro e W4 ⟨rfl, hb⟩
  go_wp2
  go_ret
  exact ⟨rfl, hb⟩
end Go.Proofs.Ytacgjfgiikbjiaa
