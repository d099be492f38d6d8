/- The statement CodecTexts of package accountinglaw13. -/
import Derived.Test.YtfjapbggloomjaaCoG
namespace Go.Proofs.Ytfjapbggloomjaa
open Go.RowKit Go.Sort
set_option linter.unusedVariables false
set_option linter.unusedSimpArgs false

theorem ptP_ok' {s : ByteArray} {w w' : World} {e : Ending} (h : PtP s w e w') (hp : plaB s = true) : ∃ v, e = .returned (.tuple #[v, .int .i64 0]) ∧ OwnB w' w.heap.size v (txE s) ∧ Below w.heap.size w w' := by
  unfold PtP at h; rw [hp] at h; exact h
theorem ptP_bad' {s : ByteArray} {w w' : World} {e : Ending} (h : PtP s w e w') (hp : plaB s = false) : ∃ v, e = .returned (.tuple #[v, .int .i64 5]) ∧ OwnB w' w.heap.size v [] ∧ Below w.heap.size w w' := by
  unfold PtP at h; rw [hp] at h; exact h
theorem txE_len {s : ByteArray} (hs : s.size ≤ 400) : (txE s).length ≤ 410 := by
  have := grp_len10 (unV_bd (n := (s.size : Int)) (by omega) (by omega))
  unfold txE; rw [List.length_append, bytes_len]; omega
theorem takeText_n (ao : Option Addr) (c n : Nat) (l : List UInt8) (w : World) (hR : RowB w ao l) (hn : l.length = n) (hc : n ≤ c) (hm : c ≤ maxLen) :
    Calls Try.prog 14 #[.slice ao n c] w fun e w' => e = .returned (.tuple #[.string (bs (ttV l).1), .int .i64 ((ttV l).2.1 : Int), .int .i64 (ttV l).2.2]) ∧ w = w' := by
  subst hn; exact takeText_any ao c l w hR hc hm
theorem OwnV.capmax {w : World} {base : Nat} {T : TypeId} {ao : Option Addr} {n c : Nat} {L : List Value} (h : OwnV w base T (.slice ao n c) L) : c ≤ maxLen := by
  rcases h.2 with ⟨e, _⟩ | ⟨g, cap, cur, e, _, _, _, h5, _⟩
  · injection e with _ _ e3; subst e3; unfold maxLen; omega
  · injection e with _ _ e3; subst e3; exact h5
set_option maxRecDepth 100000 in
set_option maxHeartbeats 4000000 in
theorem codecTexts_walk (s : ByteArray) (a : Option Addr) (len cap : Nat) (l : List UInt8) (w : World) (w0 : s.size ≤ maxLen) (w1 : IsB w a len cap l) :
    Calls Try.prog 5 #[.string s, .slice a len cap] w fun e w' => e = .returned (.bool true) ∧ Below w.heap.size w w' := by
  obtain rfl := w1.hlen
  have hm := w1.hmax
  unfold maxLen at hm w0
  by_cases h0 : 400 < s.size
  · have hi : (400 : Int) < (s.size : Int) := by omega
    clear w1
    go_enter Try.func5, Try.ntmps5
    go_wp2
    go_ret
    exact ⟨rfl, Below.refl _ _⟩
  have hi0 : ¬ (400 : Int) < (s.size : Int) := by omega
  by_cases h : 400 < l.length
  · have hi : (400 : Int) < (l.length : Int) := by omega
    clear w1
    go_enter Try.func5, Try.ntmps5
    go_wp2
    go_ret
    exact ⟨rfl, Below.refl _ _⟩
  have hi : ¬ (400 : Int) < (l.length : Int) := by omega
  have HR := Lib.hid w1.hrow
  have HN := Lib.hid w1.hnil
  clear w1
  have H1 := Lib.hid (fun w => putText_any s w (by omega))
  have H2 := Lib.hid (fun w => rPutText_any s w (by omega))
  cases hp : plaB s
  · have H1b := Lib.hid (fun w => (H1.out w).mono fun e w' h => ptP_bad' h hp)
    have H2b := Lib.hid (fun w => (H2.out w).mono fun e w' h => ptP_bad' h hp)
    clear H1 H2 hp
    go_enter Try.func5, Try.ntmps5
    go_wp2_with fail
    refine (H1b.out _).mono ?_
    rintro e W1 ⟨v, rfl, ho, hb1⟩
    obtain ⟨av, cv, hv⟩ := ho.shape
    subst hv
    have HO1 := Lib.hid (OwnV.row ho)
    have HB1 := Lib.hid hb1
    clear ho hb1
    go_wp2_with fail
    refine (H2b.out _).mono ?_
    rintro e W2 ⟨v, rfl, ho, hb2⟩
    obtain ⟨av2, cv2, hv2⟩ := ho.shape
    subst hv2
    have c1 : (convert 22 9 (.slice av 0 cv)).run Try.prog W2 = .ok (.string (bs [])) W2 := row_conv (RowB.below (l := []) HO1.out hb2) rfl cv
    have c2 : (convert 22 9 (.slice av2 0 cv2)).run Try.prog W2 = .ok (.string (bs [])) W2 := row_conv (l := []) (OwnV.row ho) rfl cv2
    have HB2 := Lib.hid (HB1.out.trans (hb2.mono HB1.out.size))
    clear ho hb2
    generalize bs [] = T at *
    go_wp2_with fail
    refine (live_end HB2.out).mono ?_
    rintro e W3 ⟨rfl, hb⟩
    go_wp2
    go_ret
    exact ⟨rfl, hb⟩
  · have H1b := Lib.hid (fun w => (H1.out w).mono fun e w' h => ptP_ok' h hp)
    have H2b := Lib.hid (fun w => (H2.out w).mono fun e w' h => ptP_ok' h hp)
    have HT := Lib.hid (tt_put hp l)
    have HL := Lib.hid (txE_len (s := s) (by omega))
    have HBS := Lib.hid (bs_of s)
    have HGl := Lib.hid (show (txE s ++ l).length = (txE s).length + l.length from List.length_append)
    have H3 := Lib.hid (fun (ao : Option Addr) c w h hc hm => takeText_n ao c ((txE s).length + l.length) (txE s ++ l) w h HGl.out hc hm)
    rw [HT.out] at H3
    simp only at H3
    rw [HBS.out] at H3
    clear H1 H2 hp HT
    generalize txE s = G at *
    go_enter Try.func5, Try.ntmps5
    go_wp2_with fail
    refine (H1b.out _).mono ?_
    rintro e W1 ⟨v, rfl, ho, hb1⟩
    obtain ⟨av, cv, hv⟩ := ho.shape
    subst hv
    have HO1 := Lib.hid (OwnV.row ho)
    have HN1 := Lib.hid (own_nil ho)
    have HB1 := Lib.hid hb1
    clear ho hb1
    go_wp2_with fail
    refine (H2b.out _).mono ?_
    rintro e W2 ⟨v, rfl, ho, hb2⟩
    obtain ⟨av2, cv2, hv2⟩ := ho.shape
    subst hv2
    have HO2 := Lib.hid (RowV.below HO1.out hb2)
    have c1 := RowB.conv' HO2.out cv
    have c2 := RowB.conv' (l := G) (OwnV.row ho) cv2
    have HB2 := Lib.hid (HB1.out.trans (hb2.mono HB1.out.size))
    clear ho hb2 HO1
    generalize bs G = T at *
    go_wp2_with fail
    refine (lives_any W2).mono ?_
    rintro e W3 ⟨rfl, hb3⟩
    have HO3 := Lib.hid (RowV.below HO2.out hb3)
    have HB3 := Lib.hid (HB2.out.trans (hb3.mono HB2.out.size))
    have HRl := Lib.hid (HR.out.below HB3.out)
    clear hb3 c1 c2
    go_wp2_with (at_builtin; first
      | (refine wpList_bytes rfl (.tmp 47) (.tmp 48) rfl W3.heap.size _ [] G rfl (OwnB.made W3 _ (Nat.le_refl _)) av cv rfl HN1.out (RowV.below HO3.out ((Below.refl _ _).alloc (Nat.le_refl _) _)) (by have := HL.out; simp; omega) (by simp) ?_; intro v' w4 hown hbel; rw [List.nil_append] at hown; have HO4 := Lib.hid hown; have HB4 := Lib.hid (((Below.refl W3.heap.size W3).alloc (Nat.le_refl _) _).trans hbel); clear hown hbel; obtain ⟨av4, cv4, hv4⟩ := HO4.out.shape; subst hv4)
      | (refine wpList_bytes rfl (.tmp 49) (.tmp 50) rfl W3.heap.size _ G l rfl HO4.out a cap rfl HN.out (HRl.out.below HB4.out) (by have := HL.out; omega) HB4.out.size ?_; intro v' w5 hown hbel; have HO5 := Lib.hid hown; have HB5 := Lib.hid (HB4.out.trans hbel); clear hown hbel; obtain ⟨av5, cv5, hv5⟩ := HO5.out.shape; rw [HGl.out] at hv5; subst hv5))
    refine (H3.out _ _ _ (OwnV.row HO5.out) (by have := OwnV.cap HO5.out; rw [List.length_map, HGl.out] at this; exact this) (OwnV.capmax HO5.out)).mono ?_
    rintro e w_ ⟨rfl, rfl⟩
    go_wp2
    go_ret
    exact ⟨rfl, HB3.out.trans (HB5.out.mono HB3.out.size)⟩
end Go.Proofs.Ytfjapbggloomjaa
