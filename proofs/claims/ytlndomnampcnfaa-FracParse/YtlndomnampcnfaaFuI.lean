/- Parse at the examples; what Parse makes of the notation of a fraction. -/
import Derived.Test.YtlndomnampcnfaaFuH
import Derived.Test.YtlndomnampcnfaaFrM
import Derived.Test.YtlndomnampcnfaaFrH
import Derived.Test.YtlndomnampcnfaaTxt
namespace Go.Proofs.Ytlndomnampcnfaa
open Go.RowKit Go.Sort
set_option linter.unusedVariables false
set_option linter.unusedSimpArgs false

theorem parse_a (w : World) : Calls Try.prog 6 #[.string ⟨#[48, 46, 50, 53]⟩] w fun e w' => e = .returned (.tuple #[.agg #[.int .i64 1, .int .i64 4], .int .i64 0]) ∧ Below w.heap.size w w' := by
  have q := parse_gen [48, 46, 50, 53] w (by decide)
  rw [show paR [48, 46, 50, 53] = (1, 4, 0) by decide +kernel] at q
  exact q
theorem parse_b (w : World) : Calls Try.prog 6 #[.string ⟨#[45, 48]⟩] w fun e w' => e = .returned (.tuple #[.agg #[.int .i64 0, .int .i64 0], .int .i64 5]) ∧ Below w.heap.size w w' := by
  have q := parse_gen [45, 48] w (by decide)
  rw [show paR [45, 48] = (0, 0, 5) by decide +kernel] at q
  exact q
theorem pa_right {l : List UInt8} (h : (paR l).2.2 = 0) : rightB (paR l).1 (paR l).2.1 = true := by
  unfold paR at *
  cases hq : qoO (bdy l) with
  | none => first | (simp [hq] at h; done) | (rw [hq] at h; simp at h)
  | some p =>
    obtain ⟨X, Y⟩ := p
    try rw [hq] at h
    try rw [hq]
    simp only at h ⊢
    have hk := qo_ok hq
    by_cases c1 : isNeg l = true ∧ dec X = 0
    · rw [if_pos c1] at h; simp at h
    · rw [if_neg c1] at h ⊢
      by_cases c2 : rdB (dec X) (dec Y) = false
      · rw [if_pos c2] at h; simp at h
      · rw [if_neg c2] at h ⊢
        cases hr : rdO (dec X) (dec Y) with
        | none => exact absurd (rd_none hr).2.2 c2
        | some p =>
          obtain ⟨x, y⟩ := p
          obtain ⟨e1, e2, _⟩ := rd_some hr
          obtain ⟨g1, g2, g3, g4, _⟩ := rdO_copr hk.b3 hr
          rw [e1, e2]
          by_cases c3 : isNeg l = true
          · rw [if_pos c3]
            show rightB (-(x : Int)) y = true
            rw [right_neg]
            exact right_iff.2 ⟨by omega, by omega, by omega, by omega, by simpa using g1⟩
          · rw [if_neg c3]
            show rightB (x : Int) y = true
            exact right_iff.2 ⟨by omega, by omega, by omega, by omega, by simpa using g1⟩
theorem dg_ne (n : Nat) : dg n ≠ [] := fun e => by have := dg_pos n; rw [e] at this; simp at this
theorem dg_lead (n : Nat) : ¬ (dg n = [] ∨ ((dg n).head? = some 48 ∧ dg n ≠ [48])) := by
  rintro (h | ⟨h1, h2⟩)
  · exact dg_ne n h
  · obtain ⟨d, d1, d2, d3⟩ := dg_head n
    rw [d2] at h1
    by_cases hn : n = 0
    · subst hn
      exact h2 (by rw [dg_small (by omega)]; rfl)
    · have h1 := Option.some.inj h1
      have : (UInt8.ofNat (48 + d)).toNat = 48 := by rw [h1]; rfl
      rw [byte48add d1] at this
      have := d3 hn
      omega
theorem dg_head48 {n : Nat} (h : n ≠ 0) : (dg n).head? ≠ some 48 := by
  obtain ⟨d, d1, d2, d3⟩ := dg_head n
  rw [d2]
  intro e
  have e := Option.some.inj e
  have : (UInt8.ofNat (48 + d)).toNat = 48 := by rw [e]; rfl
  rw [byte48add d1] at this
  have := d3 h
  omega
theorem qo_int (n : Nat) : qoO (dg n) = some (dg n, [49]) := by
  have e := ldN_of_all (dg n) (dg_all n)
  unfold qoO
  rw [e, List.take_length, List.drop_length, if_neg (dg_lead n)]
theorem qo_frac (n d : Nat) (hd : d ≠ 0) : qoO (dg n ++ 47 :: dg d) = some (dg n, dg d) := by
  have e := ldN_app (dg n) 47 (dg d) (dg_all n) (by decide)
  have e2 := ldN_of_all (dg d) (dg_all d)
  unfold qoO
  rw [e, List.take_left, List.drop_left, if_neg (dg_lead n)]
  simp only
  rw [e2, List.take_length, List.drop_length, if_neg (by rintro (h | h); exact dg_ne d h; exact h rfl), if_pos (by first | exact ⟨rfl, dg_head48 hd⟩ | exact ⟨trivial, dg_head48 hd⟩)]
theorem neg_dg (n : Nat) (r : List UInt8) : isNeg (dg n ++ r) = false := by
  obtain ⟨d, d1, d2, _⟩ := dg_head n
  have hne := dg_ne n
  cases h : dg n with
  | nil => exact absurd h hne
  | cons c t =>
    rw [h] at d2
    have d2 := Option.some.inj d2
    unfold isNeg
    simp only [List.cons_append, List.head?_cons]
    rw [d2]
    have hc : UInt8.ofNat (48 + d) ≠ 45 := fun e => by
      have : (UInt8.ofNat (48 + d)).toNat = 45 := by rw [e]; rfl
      rw [byte48add d1] at this; omega
    generalize UInt8.ofNat (48 + d) = z at *
    simp [hc]
theorem rdO_one {m k : Nat} (h : Nat.gcd m k = 1) (h1 : m ≤ 1000000) (h2 : k ≤ 1000000) : rdO m k = some (m, k) := by
  unfold rdO; rw [h, Nat.div_one, Nat.div_one, if_pos ⟨h1, h2⟩]
theorem pa_of {neg : Bool} {l r : List UInt8} {m k : Nat} (hl : isNeg l = neg) (hb : bdy l = r) (hq : qoO r = some (dg m, dg k)) (hk : 1 ≤ k) (hz : neg = true → m ≠ 0) (hg : Nat.gcd m k = 1) (h1 : m ≤ 1000000) (h2 : k ≤ 1000000) : paR l = (if neg = true then -(m : Int) else (m : Int), (k : Int), 0) := by
  have hr := rdO_one hg h1 h2
  obtain ⟨e1, e2, e3⟩ := rd_some hr
  unfold paR
  rw [hb, hq, hl]
  simp only
  rw [dec_dg, dec_dg, if_neg (by rintro ⟨h, h'⟩; exact hz h h'), e3, if_neg (by simp), e1, e2]
  split <;> rfl
theorem tx_list (a b : Int) (h : rightB a b = true) : (txS a b).toList = if b = 1 then text a else text a ++ 47 :: text b := by
  unfold txS
  rw [if_pos h]
  by_cases hb : b = 1
  · rw [if_pos hb, if_pos hb, textS_list]
  · rw [if_neg hb, if_neg hb]
    rw [show textS a = bs (text a) from rfl, show textS b = bs (text b) from rfl, show (⟨#[47]⟩ : ByteArray) = bs [47] from rfl, bs_app, bs_app, bs_list]
    rfl
theorem pa_text {a b : Int} (h : rightB a b = true) : paR (txS a b).toList = (a, b, 0) ∧ (txS a b).toList.length ≤ 80 := by
  obtain ⟨b1, b2, a1, a2, hg⟩ := right_iff.1 h
  rw [tx_list a b h]
  have la : (dg a.natAbs).length ≤ 7 := dg_len_le 6 _ (by omega)
  have lb : (dg b.natAbs).length ≤ 7 := dg_len_le 6 _ (by omega)
  have tb : text b = dg b.natAbs := by unfold text; rw [if_neg (by omega)]
  have q49 : ([49] : List UInt8) = dg 1 := by rw [dg_small (by omega)]; rfl
  by_cases ha : a < 0
  · have ta : text a = 45 :: dg a.natAbs := by unfold text; rw [if_pos ha]
    rw [ta, tb]
    by_cases hb : b = 1
    · rw [if_pos hb]
      refine ⟨?_, by simp; omega⟩
      rw [pa_of (neg := true) (r := dg a.natAbs) (m := a.natAbs) (k := 1) rfl (by unfold bdy; exact if_pos rfl) (by rw [qo_int, q49]) (by omega) (fun _ => by omega) (by simp) (by omega) (by omega)]
      rw [if_pos rfl, hb, show -(a.natAbs : Int) = a by omega]; rfl
    · rw [if_neg hb]
      refine ⟨?_, by simp; omega⟩
      rw [pa_of (neg := true) (r := dg a.natAbs ++ 47 :: dg b.natAbs) (m := a.natAbs) (k := b.natAbs) rfl (by unfold bdy; exact if_pos rfl) (qo_frac _ _ (by omega)) (by omega) (fun _ => by omega) hg (by omega) (by omega)]
      rw [if_pos rfl, show -(a.natAbs : Int) = a by omega, show (b.natAbs : Int) = b by omega]
  · have ta : text a = dg a.natAbs := by unfold text; rw [if_neg ha]
    rw [ta, tb]
    by_cases hb : b = 1
    · rw [if_pos hb]
      refine ⟨?_, by omega⟩
      have hn : isNeg (dg a.natAbs) = false := by have := neg_dg a.natAbs []; rwa [List.append_nil] at this
      rw [pa_of (neg := false) (r := dg a.natAbs) (m := a.natAbs) (k := 1) hn (by unfold bdy; rw [hn]; rfl) (by rw [qo_int, q49]) (by omega) (fun h => by cases h) (by simp) (by omega) (by omega)]
      rw [if_neg (by simp), hb, show (a.natAbs : Int) = a by omega]; rfl
    · rw [if_neg hb]
      refine ⟨?_, by simp; omega⟩
      have hn := neg_dg a.natAbs (47 :: dg b.natAbs)
      rw [pa_of (neg := false) (r := dg a.natAbs ++ 47 :: dg b.natAbs) (m := a.natAbs) (k := b.natAbs) hn (by unfold bdy; rw [hn]; rfl) (qo_frac _ _ (by omega)) (by omega) (fun h => by cases h) hg (by omega) (by omega)]
      rw [if_neg (by simp), show (a.natAbs : Int) = a by omega, show (b.natAbs : Int) = b by omega]
theorem parse_str (s : ByteArray) (w : World) (hs : s.size ≤ 80) : Calls Try.prog 6 #[.string s] w fun e w' => e = .returned (.tuple #[.agg #[.int .i64 (paR s.toList).1, .int .i64 (paR s.toList).2.1], .int .i64 (paR s.toList).2.2]) ∧ Below w.heap.size w w' := by
  have q := parse_gen s.toList w (by rw [bytes_len]; exact hs)
  rwa [bs_of] at q
end Go.Proofs.Ytlndomnampcnfaa
