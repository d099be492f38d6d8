/- What stableCmpFunc and SortStableFunc of package slices do. -/
import Derived.Test.YtmehihfdfpnfjaaSpK
namespace Go.Proofs.Ytmehihfdfpnfjaa
open Go.RowKit Go.Sort
set_option linter.unusedVariables false
set_option linter.unusedSimpArgs false

theorem ph1_step2 {r : Nat → Int} {σ σ' : Nat → Nat} {n a B : Nat} (e : B = a + 20) (h : Ph1 r σ n a) (hb : B ≤ n) (hr : Rar a B σ σ') (hs : Srt r σ' a B) : Ph1 r σ' n B := by
  subst e; exact ph1_step h hb hr hs
theorem ph2_step2 {r : Nat → Int} {σ σ' : Nat → Nat} {n s a B : Nat} (e : B = a + 2 * s) (hs : Siz s) (h : Ph2 r σ n s a) (hb : B ≤ n) (hr : Rar a B σ σ') (ht : Srt r σ' a B) : Ph2 r σ' n s B := by
  subst e; exact ph2_step hs h hb hr ht
/-- all places come to lie in order. -/
def AllP (P N : Nat) (r : Nat → Int) (w : World) (e : Ending) (w' : World) : Prop := e = .returned (.tuple #[]) ∧ ∃ σ', Srt r σ' 0 N ∧ Prm N σ' ∧ Prs w' P N r σ' ∧ Below P w w'
set_option maxRecDepth 100000 in
set_option maxHeartbeats 8000000 in
theorem stable_any (P N c : Nat) (r : Nat → Int) (w : World) (hN : N ≤ 200) (hc : N ≤ c) (hp : Prs w P N r (fun k => k)) :
    Calls Try.prog 78 #[.slice (some ⟨P, 0, none⟩) N c, .int .i64 N, cmpV] w (AllP P N r w) := by
  have HP := Lib.hid hp
  clear hp
  have HI := Lib.hid (fun τ a b W h1 h2 h3 h4 => insertion_any P N c r τ a b W hN hc h1 h2 h3 h4)
  have HM := Lib.hid (symMerge_any P N c r hN hc 1000)
  go_enter Try.func78, Try.ntmps78
  go_wp2_with fail
  go_loopw [7, 8] (fun x y wr => ∃ (a B : Nat) (τ : Nat → Nat), x = .int .i64 a ∧ y = .int .i64 B ∧ a + 20 ≤ B ∧ B ≤ a + 20 ∧ a ≤ N ∧ Hid (Ph1 r τ N a) ∧ Hid (Prs wr P N r τ) ∧ Hid (Below P w wr)) (fun x _ _ => 400 - (intOf x).toNat)
  case atStart => exact ⟨0, 20, fun k => k, rfl, rfl, by omega, by omega, by omega, Lib.hid (ph1_start r N), HP, Lib.hid (Below.refl _ _)⟩
  case round =>
    obtain ⟨a, B, τ, rfl, rfl, h1, h2, h3, H1, HPr, HB⟩ := hrel
    by_cases h : B ≤ N
    · have h' : (B : Int) ≤ (N : Int) := by omega
      have HC := Lib.hid (HI.out τ a B wr (by omega) h (fun p q q1 q2 q3 => by rw [H1.out.idn p q1, H1.out.idn q (by omega)]; exact q2) HPr.out)
      go_wp2_with fail
      refine HC.out.mono ?_
      rintro e w2 ⟨rfl, ρ, hr, hs, hp2, hb2⟩
      have H2 := Lib.hid (ph1_step2 (show B = a + 20 by omega) H1.out h hr hs)
      have HP2 := Lib.hid hp2
      have HB2 := Lib.hid (HB.out.trans hb2)
      clear hr hs hp2 hb2 HC HPr HB H1
      go_wp2
      go_roundw
      case rel => exact ⟨B, B + 20, ρ, rfl, by go_num, by omega, by omega, h, H2, HP2, HB2⟩
      case measure => simp [intOf]; omega
    · have h' : ¬ (B : Int) ≤ (N : Int) := by omega
      have HC := Lib.hid (HI.out τ a N wr h3 (Nat.le_refl _) (fun p q q1 q2 q3 => by rw [H1.out.idn p q1, H1.out.idn q (by omega)]; exact q2) HPr.out)
      go_wp2_with fail
      refine HC.out.mono ?_
      rintro e w2 ⟨rfl, ρ, hr, hs, hp2, hb2⟩
      have H2 := Lib.hid (ph1_end H1.out (by omega) hr hs)
      have HP2 := Lib.hid hp2
      have HB2 := Lib.hid (HB.out.trans hb2)
      clear hr hs hp2 hb2 HC HPr HB H1
      go_wp2_with fail
      go_loopw [6] (fun x wr => ∃ (s : Nat) (τ : Nat → Nat), x = .int .i64 s ∧ s ≤ 320 ∧ 20 ≤ s ∧ Hid (Siz s ∨ N ≤ s) ∧ Hid (Blk r τ N s) ∧ Hid (Prs wr P N r τ) ∧ Hid (Below P w wr)) (fun x _ => 400 - (intOf x).toNat)
      case atStart => exact ⟨20, ρ, rfl, by omega, by omega, Lib.hid (.inl (.inl rfl)), H2, HP2, HB2⟩
      case round =>
        clear H2 HP2 HB2
        obtain ⟨s, ρ2, rfl, s1, s2, HZ, H3, HPr, HB⟩ := hrel
        by_cases hs : s < N
        · have hs' : (s : Int) < (N : Int) := by omega
          have HZ2 := Lib.hid (show Siz s from HZ.out.elim id (fun q => by omega))
          have H4 := Lib.hid (ph2_start HZ2.out H3.out)
          obtain ⟨S2, hS2, hS3⟩ : ∃ S2 : Nat, 2 * (s : Int) = (S2 : Int) ∧ S2 = 2 * s := ⟨2 * s, by omega, rfl⟩
          have HS3 := Lib.hid hS3
          clear hS3 HZ H3
          go_wp2_with fail
          go_loopw [7, 8] (fun x y wr => ∃ (a B : Nat) (τ : Nat → Nat), x = .int .i64 a ∧ y = .int .i64 B ∧ a + S2 ≤ B ∧ B ≤ a + S2 ∧ a ≤ N ∧ Hid (Ph2 r τ N s a) ∧ Hid (Prs wr P N r τ) ∧ Hid (Below P w wr)) (fun x _ _ => 400 - (intOf x).toNat)
          case atStart => exact ⟨0, S2, ρ2, rfl, rfl, by omega, by omega, by omega, H4, HPr, HB⟩
          case round =>
            clear H4 HPr HB
            obtain ⟨a2, B2, π, rfl, rfl, k1, k2, k3, H5, HPr, HB⟩ := hrel
            obtain ⟨M, hM, hM2⟩ : ∃ M : Nat, (a2 : Int) + (s : Int) = (M : Int) ∧ M = a2 + s := ⟨a2 + s, by omega, rfl⟩
            have HM2 := Lib.hid hM2
            clear hM2
            by_cases hb : B2 ≤ N
            · have hb' : (B2 : Int) ≤ (N : Int) := by omega
              have HTw := Lib.hid (show Twp r π a2 M B2 by rw [HM2.out]; exact ph2_two HZ2.out H5.out (by omega) hb (by omega))
              have HC := Lib.hid (HM.out π a2 M B2 wr (by omega) (by omega) (by omega) hb HTw.out HPr.out)
              go_wp2_with fail
              refine HC.out.mono ?_
              rintro e w3 ⟨rfl, π2, hr, hs3, hp2, hb2⟩
              have H6 := Lib.hid (ph2_step2 (show B2 = a2 + 2 * s by have := HS3.out; omega) HZ2.out H5.out hb hr hs3)
              have HP2 := Lib.hid hp2
              have HB3 := Lib.hid (HB.out.trans hb2)
              clear hr hs3 hp2 hb2 HC HPr HB H5 HTw
              go_wp2
              go_roundw
              case rel => exact ⟨B2, B2 + S2, π2, rfl, by go_num, by omega, by omega, hb, H6, HP2, HB3⟩
              case measure => simp [intOf]; omega
            · have hb' : ¬ (B2 : Int) ≤ (N : Int) := by omega
              by_cases hm : M < N
              · have hm' : (M : Int) < (N : Int) := by omega
                have HTw := Lib.hid (show Twp r π a2 M N by rw [HM2.out]; exact ph2_two HZ2.out H5.out (by omega) (Nat.le_refl _) (by have := HS3.out; omega))
                have HC := Lib.hid (HM.out π a2 M N wr (by omega) (by omega) hm (Nat.le_refl _) HTw.out HPr.out)
                go_wp2_with fail
                refine HC.out.mono ?_
                rintro e w3 ⟨rfl, π2, hr, hs3, hp2, hb2⟩
                have H6 := Lib.hid (ph2_tail HZ2.out H5.out (by have := HS3.out; omega) hr hs3)
                have HP2 := Lib.hid hp2
                have HB3 := Lib.hid (HB.out.trans hb2)
                clear hr hs3 hp2 hb2 HC HPr HB H5 HTw
                go_wp2
                go_roundw
                case rel => exact ⟨2 * s, π2, by congr 1; omega, by have := HZ2.out; unfold Siz at this; omega, by omega, Lib.hid (by by_cases q : 2 * s < N; exact .inl (siz_two HZ2.out hN q); exact .inr (by omega)), H6, HP2, HB3⟩
                case measure => simp [intOf]; omega
              · have hm' : ¬ (M : Int) < (N : Int) := by omega
                have H6 := Lib.hid (ph2_none HZ2.out H5.out (by have := HM2.out; omega))
                go_wp2
                go_roundw
                case rel => exact ⟨2 * s, π, by congr 1; omega, by have := HZ2.out; unfold Siz at this; omega, by omega, Lib.hid (by by_cases q : 2 * s < N; exact .inl (siz_two HZ2.out hN q); exact .inr (by omega)), H6, HPr, HB⟩
                case measure => simp [intOf]; omega
        · have hs' : ¬ (s : Int) < (N : Int) := by omega
          have HE := Lib.hid (blk_end H3.out (by omega))
          go_wp2
          go_end0
          exact ⟨rfl, ρ2, HE.out.1, HE.out.2, HPr.out, HB.out⟩
set_option maxHeartbeats 2000000 in
theorem sortStable_any (P N c : Nat) (r : Nat → Int) (w : World) (hN : N ≤ 200) (hc : N ≤ c) (hp : Prs w P N r (fun k => k)) :
    Calls Try.prog 75 #[.slice (some ⟨P, 0, none⟩) N c, cmpV] w (AllP P N r w) := by
  have H1 := Lib.hid (stable_any P N c r w hN hc hp)
  clear hp
  go_enter Try.func75, Try.ntmps75
  go_wp2_with fail
  refine H1.out.mono ?_
  rintro e w2 ⟨rfl, hq⟩
  go_wp2
  go_end0
  exact ⟨rfl, hq⟩
end Go.Proofs.Ytmehihfdfpnfjaa
