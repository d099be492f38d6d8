/- The statement MoneyRounds of package accountinglaw07. -/
import Derived.Test.YtbiicdpmilplmaaDoorMoW
namespace Go.Proofs.YtbiicdpmilplmaaDoor
open Go.RowKit Go.Sort
set_option linter.unusedVariables false

theorem rnd_near2 {a p m : Int} (hp : p = 1 ∨ p = 10 ∨ p = 100 ∨ p = 1000 ∨ p = 10000) (m1 : 1 ≤ m) (m2 : m ≤ 5) :
    (-p ≤ rndV a p m * p - a ∧ rndV a p m * p - a ≤ p) ∧
    (m = 1 → 0 ≤ a → rndV a p m * p - a ≤ 0 ∧ -p < rndV a p m * p - a) ∧ (m = 1 → a < 0 → 0 ≤ rndV a p m * p - a ∧ rndV a p m * p - a < p) ∧
    (m = 2 → 0 ≤ a → 0 ≤ rndV a p m * p - a ∧ rndV a p m * p - a < p) ∧ (m = 2 → a < 0 → rndV a p m * p - a ≤ 0 ∧ -p < rndV a p m * p - a) ∧
    (m = 5 → rndV a p m * p - a ≤ 0 ∧ -p < rndV a p m * p - a) ∧
    (m = 3 ∨ m = 4 → 2 * (rndV a p m * p - a) ≤ p ∧ -p ≤ 2 * (rndV a p m * p - a)) := by
  have e : ∀ z : Int, (a / p + z) * p - a = z * p - a % p := by
    intro z
    have := Int.emod_add_mul_ediv a p
    rw [Int.add_mul, Int.mul_comm (a / p) p]; omega
  unfold rndV
  rw [e]
  have hb : 0 ≤ a % p ∧ a % p < p := by rcases hp with rfl | rfl | rfl | rfl | rfl <;> omega
  have hz : a = 0 → a % p = 0 := by rcases hp with rfl | rfl | rfl | rfl | rfl <;> omega
  unfold rndUp
  generalize a / p = q at *
  generalize a % p = r at *
  have hm : m = 1 ∨ m = 2 ∨ m = 3 ∨ m = 4 ∨ m = 5 := by omega
  rcases hm with rfl | rfl | rfl | rfl | rfl <;> simp <;> grind

set_option maxHeartbeats 4000000 in
theorem moneyRounds_walk (a f t m : Int) (w : World) (ht : Tab w) (wa : (Lit.int .i64 a).wf = true) (wf : (Lit.int .i64 f).wf = true) (wt : (Lit.int .i64 t).wf = true) (wm : (Lit.int .i64 m).wf = true) :
    Calls Tryd.prog 6 #[.int .i64 a, .int .i64 f, .int .i64 t, .int .i64 m] w fun e w' => e = .returned (.bool true) ∧ Below w.heap.size w w' := by
  obtain ⟨a1, a2⟩ := i64_bd wa
  have H1 := Lib.hid (fun w ht => scale_any a f t m w ht a1 a2)
  have H9 := Lib.hid (fun w ht => lives_any w ht)
  rcases sc_ways a f t m with ⟨e1, e2, e3, e4⟩ | ⟨e1, m1, m2, hf, hd, hs, hs2, hv⟩
  · have e5 : ((scV a f t m).2 != 0) = true := by simpa using e2
    generalize (scV a f t m).2 = E at *
    generalize (scV a f t m).1 = N at *
    clear e1 e2
    go_enter Tryd.func6, Tryd.ntmps6
    go_wp2_with fail
    refine (H1.out _ ht).mono ?_
    rintro e W1 ⟨rfl, hb1⟩
    have HB1 := Lib.hid (hb1)
    clear hb1
    go_wp2_with fail
    refine (H9.out _ (ht.below HB1.out)).mono ?_
    rintro e W2 ⟨rfl, hb2⟩
    have HB2 := Lib.hid (HB1.out.trans ((hb2).mono HB1.out.size))
    clear HB1 hb2
    go_wp2
    go_ret
    exact ⟨rfl, HB2.out⟩
  · rw [e1] at H1
    rcases hv with ⟨k, hv⟩ | ⟨k, hv⟩
    · obtain ⟨f1, f2⟩ := hf
      obtain ⟨t1, t2⟩ := hd
      have H2 := Lib.hid (fun w => power_any (f - t) w (by omega) (by omega))
      have hp := tenP_is (k := f - t) (by omega) (by omega)
      have hn := rnd_near2 (a := a) (p := tenP (f - t)) (m := m) hp m1 m2
      rw [← hv] at hn
      have p1 : 1 ≤ tenP (f - t) := by omega
      have p2 : tenP (f - t) ≤ 10000 := by omega
      obtain ⟨s1, s2⟩ := hs
      obtain ⟨z1, z2⟩ := hs2
      clear hp hv e1
      generalize tenP (f - t) = P at *
      generalize (scV a f t m).1 = N at *
      obtain ⟨n0, n1, n2, n3, n4, n5, n6⟩ := hn
      have hk : ¬ f < t := by omega
      obtain ⟨n01, n02⟩ := n0
      have hm : m = 1 ∨ m = 2 ∨ m = 3 ∨ m = 4 ∨ m = 5 := by omega
      rcases hm with rfl | rfl | rfl | rfl | rfl
      · by_cases ha : 0 ≤ a
        · obtain ⟨g1, g2⟩ := n1 rfl ha
          clear n1 n2 n3 n4 n5 n6
          go_enter Tryd.func6, Tryd.ntmps6
          go_wp2_with fail
          refine (H1.out _ ht).mono ?_
          rintro e W3 ⟨rfl, hb3⟩
          have HB3 := Lib.hid (hb3)
          clear hb3
          go_wp2_with fail
          refine (H2.out _).mono ?_
          rintro e w_ ⟨rfl, rfl⟩
          go_wp2_with fail
          refine (H9.out _ (ht.below HB3.out)).mono ?_
          rintro e W4 ⟨rfl, hb4⟩
          have HB4 := Lib.hid (HB3.out.trans ((hb4).mono HB3.out.size))
          clear HB3 hb4
          go_wp2
          go_ret
          exact ⟨rfl, HB4.out⟩
        · obtain ⟨g1, g2⟩ := n2 rfl (by omega)
          clear n1 n2 n3 n4 n5 n6
          go_enter Tryd.func6, Tryd.ntmps6
          go_wp2_with fail
          refine (H1.out _ ht).mono ?_
          rintro e W5 ⟨rfl, hb5⟩
          have HB5 := Lib.hid (hb5)
          clear hb5
          go_wp2_with fail
          refine (H2.out _).mono ?_
          rintro e w_ ⟨rfl, rfl⟩
          go_wp2_with fail
          refine (H9.out _ (ht.below HB5.out)).mono ?_
          rintro e W6 ⟨rfl, hb6⟩
          have HB6 := Lib.hid (HB5.out.trans ((hb6).mono HB5.out.size))
          clear HB5 hb6
          go_wp2
          go_ret
          exact ⟨rfl, HB6.out⟩
      · by_cases ha : 0 ≤ a
        · obtain ⟨g1, g2⟩ := n3 rfl ha
          clear n1 n2 n3 n4 n5 n6
          go_enter Tryd.func6, Tryd.ntmps6
          go_wp2_with fail
          refine (H1.out _ ht).mono ?_
          rintro e W7 ⟨rfl, hb7⟩
          have HB7 := Lib.hid (hb7)
          clear hb7
          go_wp2_with fail
          refine (H2.out _).mono ?_
          rintro e w_ ⟨rfl, rfl⟩
          go_wp2_with fail
          refine (H9.out _ (ht.below HB7.out)).mono ?_
          rintro e W8 ⟨rfl, hb8⟩
          have HB8 := Lib.hid (HB7.out.trans ((hb8).mono HB7.out.size))
          clear HB7 hb8
          go_wp2
          go_ret
          exact ⟨rfl, HB8.out⟩
        · obtain ⟨g1, g2⟩ := n4 rfl (by omega)
          clear n1 n2 n3 n4 n5 n6
          go_enter Tryd.func6, Tryd.ntmps6
          go_wp2_with fail
          refine (H1.out _ ht).mono ?_
          rintro e W9 ⟨rfl, hb9⟩
          have HB9 := Lib.hid (hb9)
          clear hb9
          go_wp2_with fail
          refine (H2.out _).mono ?_
          rintro e w_ ⟨rfl, rfl⟩
          go_wp2_with fail
          refine (H9.out _ (ht.below HB9.out)).mono ?_
          rintro e W10 ⟨rfl, hb10⟩
          have HB10 := Lib.hid (HB9.out.trans ((hb10).mono HB9.out.size))
          clear HB9 hb10
          go_wp2
          go_ret
          exact ⟨rfl, HB10.out⟩
      · obtain ⟨g1, g2⟩ := n6 (by omega)
        clear n1 n2 n3 n4 n5 n6
        go_enter Tryd.func6, Tryd.ntmps6
        go_wp2_with fail
        refine (H1.out _ ht).mono ?_
        rintro e W11 ⟨rfl, hb11⟩
        have HB11 := Lib.hid (hb11)
        clear hb11
        go_wp2_with fail
        refine (H2.out _).mono ?_
        rintro e w_ ⟨rfl, rfl⟩
        go_wp2_with fail
        refine (H9.out _ (ht.below HB11.out)).mono ?_
        rintro e W12 ⟨rfl, hb12⟩
        have HB12 := Lib.hid (HB11.out.trans ((hb12).mono HB11.out.size))
        clear HB11 hb12
        go_wp2
        go_ret
        exact ⟨rfl, HB12.out⟩
      · obtain ⟨g1, g2⟩ := n6 (by omega)
        clear n1 n2 n3 n4 n5 n6
        go_enter Tryd.func6, Tryd.ntmps6
        go_wp2_with fail
        refine (H1.out _ ht).mono ?_
        rintro e W13 ⟨rfl, hb13⟩
        have HB13 := Lib.hid (hb13)
        clear hb13
        go_wp2_with fail
        refine (H2.out _).mono ?_
        rintro e w_ ⟨rfl, rfl⟩
        go_wp2_with fail
        refine (H9.out _ (ht.below HB13.out)).mono ?_
        rintro e W14 ⟨rfl, hb14⟩
        have HB14 := Lib.hid (HB13.out.trans ((hb14).mono HB13.out.size))
        clear HB13 hb14
        go_wp2
        go_ret
        exact ⟨rfl, HB14.out⟩
      · obtain ⟨g1, g2⟩ := n5 rfl
        clear n1 n2 n3 n4 n5 n6
        go_enter Tryd.func6, Tryd.ntmps6
        go_wp2_with fail
        refine (H1.out _ ht).mono ?_
        rintro e W15 ⟨rfl, hb15⟩
        have HB15 := Lib.hid (hb15)
        clear hb15
        go_wp2_with fail
        refine (H2.out _).mono ?_
        rintro e w_ ⟨rfl, rfl⟩
        go_wp2_with fail
        refine (H9.out _ (ht.below HB15.out)).mono ?_
        rintro e W16 ⟨rfl, hb16⟩
        have HB16 := Lib.hid (HB15.out.trans ((hb16).mono HB15.out.size))
        clear HB15 hb16
        go_wp2
        go_ret
        exact ⟨rfl, HB16.out⟩
    · generalize (scV a f t m).1 = N at *
      clear hv e1
      go_enter Tryd.func6, Tryd.ntmps6
      go_wp2_with fail
      refine (H1.out _ ht).mono ?_
      rintro e W17 ⟨rfl, hb17⟩
      have HB17 := Lib.hid (hb17)
      clear hb17
      go_wp2_with fail
      refine (H9.out _ (ht.below HB17.out)).mono ?_
      rintro e W18 ⟨rfl, hb18⟩
      have HB18 := Lib.hid (HB17.out.trans ((hb18).mono HB17.out.size))
      clear HB17 hb18
      go_wp2
      go_ret
      exact ⟨rfl, HB18.out⟩
end Go.Proofs.YtbiicdpmilplmaaDoor
