/- What Shares of package split returns. -/
import Derived.Test.YtmehihfdfpnfjaaSpO
namespace Go.Proofs.Ytmehihfdfpnfjaa
open Go.RowKit Go.Sort
set_option linter.unusedVariables false
set_option linter.unusedSimpArgs false

/-- the weights as numbers. -/
def wtN (zs : List Int) (k : Nat) : Nat := (zs.getD k 0).toNat
theorem wtN_at {zs : List Int} {k : Nat} (hk : k < zs.length) (h : 0 ≤ zs[k]) : zs[k] = (wtN zs k : Int) := by
  unfold wtN; simp [List.getD, hk]; omega
theorem wt_sum {zs : List Int} (h : ∀ k, (hk : k < zs.length) → 0 ≤ zs[k]) : ∀ k, k ≤ zs.length → (sumN (wtN zs) k : Int) = (zs.take k).sum
  | 0, _ => by simp [sumN]
  | k + 1, hk => by
    rw [sum_snoc zs (show k < zs.length by omega), wtN_at (by omega) (h k (by omega)), ← wt_sum h k (by omega)]
    simp [sumN]
theorem sumN_ge {f : Nat → Nat} : ∀ n k, k < n → f k ≤ sumN f n
  | n + 1, k, h => by
    simp only [sumN]
    by_cases e : k = n
    · subst e; omega
    · have := sumN_ge (f := f) n k (by omega); omega
structure Wgd (zs : List Int) (T : Nat) : Prop where
  pos : ∀ k, (hk : k < zs.length) → 0 ≤ zs[k]
  t0 : 0 < T
  t1 : T ≤ 1000000000000000
  sum : sumN (wtN zs) zs.length = T
  n0 : 0 < zs.length
theorem wgd_of {zs : List Int} (h : (wgV zs).2 = 0) : Wgd zs zs.sum.toNat ∧ (wgV zs).1 = (zs.sum.toNat : Int) := by
  unfold wgV at h ⊢
  by_cases h1 : zs.all (fun z => decide (0 ≤ z)) = false
  · rw [if_pos h1] at h; simp at h
  · rw [if_neg h1] at h ⊢
    have h1' : zs.all (fun z => decide (0 ≤ z)) = true := by simpa using h1
    have hp : ∀ k, (hk : k < zs.length) → 0 ≤ zs[k] := fun k hk => by
      have := List.all_eq_true.1 h1' zs[k] (List.getElem_mem hk)
      simpa using this
    have hs := sum_pos h1'
    by_cases h2 : 1000000000000000 < zs.sum
    · rw [if_pos h2] at h; simp at h
    · rw [if_neg h2] at h ⊢
      by_cases h3 : zs.sum = 0
      · rw [if_pos h3] at h; simp at h
      · rw [if_neg h3] at h ⊢
        have e := wt_sum hp zs.length (Nat.le_refl _)
        rw [List.take_length] at e
        refine ⟨⟨hp, by omega, by omega, by omega, ?_⟩, by simp; omega⟩
        cases zs with
        | nil => simp at h3
        | cons z zs => simp
theorem wts_of {w : World} {A : Option Addr} {zs : List Int} (hR : Row w A zs) (hp : ∀ k, (hk : k < zs.length) → 0 ≤ zs[k]) (hn : 0 < zs.length) : ∃ b off, A = some ⟨b, off, none⟩ ∧ Wts w b off zs.length (wtN zs) := by
  obtain ⟨b, off, e, hl, hc⟩ := hR.1 hn
  exact ⟨b, off, e, hl, fun k hk => by rw [hc k hk, wtN_at hk (hp k hk)]⟩
/-- the first error of Shares. -/
def shE (x : Int) (zs : List Int) : Int := if 200 < zs.length then 9 else if sumOk x = false then 4 else (wgV zs).2
def shF (x : Int) (zs : List Int) (σ : Nat → Nat) (k : Nat) : Int :=
  if x < 0 then -(shr x.natAbs zs.sum.toNat (wtN zs) σ (lft x.natAbs zs.sum.toNat (wtN zs) zs.length) k : Int) else (shr x.natAbs zs.sum.toNat (wtN zs) σ (lft x.natAbs zs.sum.toNat (wtN zs) zs.length) k : Int)
/-- what Shares returns. -/
def ShP (x : Int) (zs : List Int) (w : World) (e : Ending) (w' : World) : Prop :=
  ((¬ shE x zs = 0 ∧ e = .returned (.tuple #[.slice none 0 0, .int .i64 (shE x zs)])) ∨ (shE x zs = 0 ∧ ∃ P σ, e = .returned (.tuple #[.slice (some ⟨P, 0, none⟩) zs.length zs.length, .int .i64 0]) ∧ w.heap.size ≤ P ∧ Srt (lakI x.natAbs zs.sum.toNat (wtN zs)) σ 0 zs.length ∧ Prm zs.length σ ∧ PaV w' P zs.length (fun k => .int .i64 (shF x zs σ k)))) ∧ Below w.heap.size w w'
set_option maxRecDepth 100000 in
set_option maxHeartbeats 4000000 in
theorem shares_any (x : Int) (A : Option Addr) (c : Nat) (zs : List Int) (w : World) (hR : Row w A zs) (hlen : (zs.length : Int) ≤ 9223372036854775807) (x1 : -9223372036854775808 ≤ x) (x2 : x ≤ 9223372036854775807) :
    Calls Try.prog 49 #[.int .i64 x, .slice A zs.length c] w (ShP x zs w) := by
  have HR := Lib.hid hR
  clear hR
  have H1 := Lib.hid (fun W => isSum_any x W)
  by_cases hl : 200 < zs.length
  · have hl' : (200 : Int) < (zs.length : Int) := by omega
    have HE := Lib.hid (show shE x zs = 9 by unfold shE; rw [if_pos hl])
    go_enter Try.func49, Try.ntmps49
    go_wp2
    go_ret2
    exact ⟨.inl ⟨by rw [HE.out]; omega, by rw [HE.out]; rfl⟩, Below.refl _ _⟩
  have hl' : ¬ (200 : Int) < (zs.length : Int) := by omega
  by_cases hx : sumOk x = false
  · have HE := Lib.hid (show shE x zs = 4 by unfold shE; rw [if_neg hl, if_pos hx])
    rw [hx] at H1
    clear hx
    go_enter Try.func49, Try.ntmps49
    go_wp2_with fail
    refine (H1.out _).mono ?_
    rintro e w2 ⟨rfl, rfl⟩
    go_wp2
    go_ret2
    exact ⟨.inl ⟨by rw [HE.out]; omega, by rw [HE.out]; rfl⟩, Below.refl _ _⟩
  have hx' : sumOk x = true := by simpa using hx
  rw [hx'] at H1
  have hxb : -1000000000000000 ≤ x ∧ x ≤ 1000000000000000 := by unfold sumOk at hx'; simpa using hx'
  have HE := Lib.hid (show shE x zs = (wgV zs).2 by unfold shE; rw [if_neg hl, if_neg hx])
  have H2 := Lib.hid (weigh_any A c zs w HR.out (by omega))
  clear hx hx'
  by_cases hw : (wgV zs).2 = 0
  · obtain ⟨hg, hg1⟩ := wgd_of hw
    rw [hw, hg1] at H2
    obtain ⟨b, off, rfl, hwt⟩ := wts_of HR.out hg.pos hg.n0
    have HD := Lib.hid (fun W (hb : Below w.heap.size w W) => spDivide_any x.natAbs zs.sum.toNat zs.length b off c (wtN zs) W (by omega) hg.t0 hg.t1 hg.n0 (by omega) (fun k hk => by rw [← hg.sum]; exact sumN_ge _ k hk) hg.sum ⟨Nat.lt_of_lt_of_le hwt.lt hb.size, fun k hk => by rw [hb.cell hwt.lt]; exact hwt.c k hk⟩)
    have HSh := Lib.hid (fun (σ : Nat → Nat) k (hk : k < zs.length) => show shr x.natAbs zs.sum.toNat (wtN zs) σ (lft x.natAbs zs.sum.toNat (wtN zs) zs.length) k ≤ 1000000000000001 by
      have h1 := flo_small (a := x.natAbs) (T := zs.sum.toNat) (W := wtN zs) (k := k) hg.t0 (by rw [← hg.sum]; exact sumN_ge _ k hk)
      unfold shr
      split <;> omega)
    have HE0 := Lib.hid (show shE x zs = 0 by rw [HE.out, hw])
    have HFn := Lib.hid (show ∀ σ k, x < 0 → shF x zs σ k = -(shr x.natAbs zs.sum.toNat (wtN zs) σ (lft x.natAbs zs.sum.toNat (wtN zs) zs.length) k : Int) from fun σ k h => by unfold shF; rw [if_pos h])
    have HFp := Lib.hid (show ∀ σ k, ¬ x < 0 → shF x zs σ k = (shr x.natAbs zs.sum.toNat (wtN zs) σ (lft x.natAbs zs.sum.toNat (wtN zs) zs.length) k : Int) from fun σ k h => by unfold shF; rw [if_neg h])
    clear hw hg hg1 hwt HE
    by_cases hneg : x < 0
    · have HD := Lib.hid (show ∀ W, Below w.heap.size w W → Calls Try.prog 65 #[.int .i64 (-x), .int .i64 (zs.sum.toNat : Int), .slice (some ⟨b, off, none⟩) zs.length c] W _ from fun W hb => by have q := HD.out W hb; rwa [show (x.natAbs : Int) = -x by omega] at q)
      generalize hTq : zs.sum.toNat = T at *
      generalize haq : x.natAbs = a at *
      have HTq := Lib.hid hTq
      have HAq := Lib.hid haq
      clear hTq haq
      go_enter Try.func49, Try.ntmps49
      go_wp2_with fail
      refine (H1.out _).mono ?_
      rintro e w2 ⟨rfl, rfl⟩
      go_wp2_with fail
      refine H2.out.mono ?_
      rintro e w2 ⟨rfl, rfl⟩
      go_wp2_with fail
      refine (HD.out _ (Below.refl _ _)).mono ?_
      rintro e w3 ⟨σ, rfl, h1, h2, h3, h4⟩
      have HN := Lib.hid (negated_any w.heap.size zs.length zs.length _ w3 (by omega) (fun k hk => HSh.out σ k hk) h3)
      have HQ := Lib.hid (And.intro h1 h2)
      have HB := Lib.hid h4
      clear h1 h2 h3 h4
      go_wp2_with fail
      refine HN.out.mono ?_
      rintro e w4 ⟨rfl, h5, h6⟩
      go_wp2
      go_ret2
      have e1 := HTq.out
      have e2 := HAq.out
      subst e1 e2
      exact ⟨.inr ⟨HE0.out, w3.heap.size, σ, rfl, HB.out.size, HQ.out.1, HQ.out.2, h5.congr fun t ht => by rw [HFn.out σ t hneg]⟩, HB.out.trans (h6.mono HB.out.size)⟩
    · have HD := Lib.hid (show ∀ W, Below w.heap.size w W → Calls Try.prog 65 #[.int .i64 x, .int .i64 (zs.sum.toNat : Int), .slice (some ⟨b, off, none⟩) zs.length c] W _ from fun W hb => by have q := HD.out W hb; rwa [show (x.natAbs : Int) = x by omega] at q)
      generalize hTq : zs.sum.toNat = T at *
      generalize haq : x.natAbs = a at *
      have HTq := Lib.hid hTq
      have HAq := Lib.hid haq
      clear hTq haq
      go_enter Try.func49, Try.ntmps49
      go_wp2_with fail
      refine (H1.out _).mono ?_
      rintro e w2 ⟨rfl, rfl⟩
      go_wp2_with fail
      refine H2.out.mono ?_
      rintro e w2 ⟨rfl, rfl⟩
      go_wp2_with fail
      refine (HD.out _ (Below.refl _ _)).mono ?_
      rintro e w3 ⟨σ, rfl, h1, h2, h3, h4⟩
      go_wp2
      go_ret2
      have e1 := HTq.out
      have e2 := HAq.out
      subst e1 e2
      exact ⟨.inr ⟨HE0.out, w.heap.size, σ, rfl, Nat.le_refl _, h1, h2, h3.congr fun t ht => by rw [HFp.out σ t hneg]⟩, h4⟩
  · have hw' : ((wgV zs).2 != 0) = true := by simpa using hw
    have HE2 := Lib.hid (show ¬ shE x zs = 0 by rw [HE.out]; exact hw)
    generalize (wgV zs).1 = y at *
    generalize (wgV zs).2 = z at *
    clear hw
    go_enter Try.func49, Try.ntmps49
    go_wp2_with fail
    refine (H1.out _).mono ?_
    rintro e w2 ⟨rfl, rfl⟩
    go_wp2_with fail
    refine H2.out.mono ?_
    rintro e w2 ⟨rfl, rfl⟩
    go_wp2
    go_ret2
    exact ⟨.inl ⟨HE2.out, by rw [HE.out]; rfl⟩, Below.refl _ _⟩
end Go.Proofs.Ytmehihfdfpnfjaa
