/- The notation of an amount, by its parts. No conditions. -/
import Derived.Test.YtbiicdpmilplmaaDoorMoU
import Derived.Test.YtbiicdpmilplmaaDoorNumS
namespace Go.Proofs.YtbiicdpmilplmaaDoor
open Go.RowKit Go.Sort
set_option linter.unusedVariables false

theorem digs_both {l : List UInt8} (h : digs l = true) : l.all dig = true ∧ 0 < l.length := by
  unfold digs at h
  cases l with
  | nil => simp at h
  | cons a t => exact ⟨by simpa using h, by simp⟩
theorem digs_of {l : List UInt8} (h : l.all dig = true) (h2 : 0 < l.length) : digs l = true := by
  unfold digs
  cases l with
  | nil => simp at h2
  | cons a t => rw [h]; rfl
/-- a part of a valid notation that has no point is made of digits. -/
theorem part_all {R : ByteArray} {W : Int} {a b : Nat} (h : okAt R W R.size) (hb : b ≤ R.size) (hW : ∀ j : Nat, a ≤ j → j < b → (j : Int) ≠ W) : (R.extract a b).toList.all dig = true := by
  rw [ext_list, List.all_eq_true]
  intro x hx
  rw [List.mem_iff_getElem?] at hx
  obtain ⟨i, hi⟩ := hx
  rw [List.getElem?_drop, List.getElem?_take] at hi
  split at hi
  · rename_i hlt
    have h3 : a + i < R.size := by omega
    rw [at_get h3] at hi
    rw [← Option.some.inj hi]
    rcases h (a + i) h3 h3 with ⟨k, _⟩ | ⟨_, k⟩
    · exact absurd k (hW (a + i) (by omega) hlt)
    · exact k
  · cases hi
theorem ext_len {R : ByteArray} {a b : Nat} (hb : b ≤ R.size) : (R.extract a b).toList.length = b - a := by
  rw [bytes_len, ByteArray.size_extract]; omega
theorem ext_head {R : ByteArray} {b : Nat} (hb : b ≤ R.size) (h0 : 0 < b) (h1 : 0 < R.size) (h2 : 0 < (R.extract 0 b).size) : (R.extract 0 b)[0] = R[0] := by
  have e1 := at_get (s := R.extract 0 b) h2
  have e2 := at_get (s := R) h1
  rw [ext_list, List.drop_zero, List.getElem?_take, if_pos h0, e2] at e1
  exact (Option.some.inj e1).symm
theorem rs_cut {R : ByteArray} {d : Int} {W : Nat} (d1 : 0 < d) (hW : (R.size : Int) - d - 1 = (W : Int)) (w1 : 1 ≤ W) (h4 : R[W]'(by omega) = 46) (hF : digs (R.extract 0 W).toList = true) (hz : ¬ (1 < W ∧ R[0]'(by omega) = 48)) (hB : digs (R.extract (W + 1) R.size).toList = true) :
    rsF R d ∧ rsV R d = capM (dec (R.extract 0 W ++ R.extract (W + 1) R.size).toList) := by
  have hs : R.toList = (R.extract 0 W).toList ++ if d = 0 then [] else 46 :: (R.extract (W + 1) R.size).toList := by
    rw [if_neg (by omega), ext_list, ext_list, List.drop_zero]
    have hl : W < R.toList.length := by rw [bytes_len]; omega
    have e := List.take_append_drop W R.toList
    rw [List.drop_eq_getElem_cons hl, bytes_get R W (by omega) hl, h4] at e
    have t : R.toList.take R.size = R.toList := List.take_of_length_le (by rw [bytes_len]; omega)
    rw [t]
    exact e.symm
  have hn : notn (R.extract 0 W).toList = true := by
    obtain ⟨a1, a2⟩ := digs_both hF
    refine notn_yes (by intro h; rw [h] at a2; simp at a2) a1 ?_
    have hsz : 0 < (R.extract 0 W).size := by rw [ByteArray.size_extract]; omega
    rw [bytes_head hsz, ext_head (by omega) (by omega) (by omega) hsz]
    by_cases k : R[0]'(by omega) = 48
    · right
      have w2 : W = 1 := by
        rcases Nat.lt_or_ge 1 W with c | c
        · exact absurd ⟨c, k⟩ hz
        · omega
      subst w2
      rw [extract1 (by omega), k]
    · left; simpa using k
  obtain ⟨hw, hf, hd⟩ := form_rs (s := R) (d := d) (by omega) hs (by rw [ext_len (by omega)]; omega) hn (digs_both hB).1
  refine ⟨hf, ?_⟩
  unfold rsV
  rw [hd, if_neg (by omega), app_list2]
theorem rs_cut_no {R : ByteArray} {d : Int} {W : Nat} (d1 : 0 < d) (hW : (R.size : Int) - d - 1 = (W : Int)) (w1 : 1 ≤ W) (h : ¬ (R[W]'(by omega) = 46 ∧ digs (R.extract 0 W).toList = true ∧ ¬ (1 < W ∧ R[0]'(by omega) = 48) ∧ digs (R.extract (W + 1) R.size).toList = true)) : ¬ rsF R d := by
  intro hf
  have hI : whI R d = (W : Int) := by unfold whI; rw [if_pos d1]; omega
  obtain ⟨_, f2, f3⟩ := hf
  rw [hI] at f2 f3
  refine h ⟨?_, ?_, ?_, ?_⟩
  · rcases f3 W (by omega) (by omega) with ⟨_, k⟩ | ⟨k, _⟩
    · exact k
    · exact absurd rfl k
  · exact digs_of (part_all f3 (by omega) (fun j _ h2 => by omega)) (by rw [ext_len (by omega)]; omega)
  · rintro ⟨k1, k2⟩
    exact f2 ⟨by omega, by rw [bytes_head (by omega), k2]⟩
  · exact digs_of (part_all f3 (by omega) (fun j h1 _ => by omega)) (by rw [ext_len (by omega)]; omega)
theorem rs_0 {R : ByteArray} (hF : digs R.toList = true) (hz : ¬ (1 < R.size ∧ R.toList.head? = some 48)) : rsF R 0 ∧ rsV R 0 = capM (dec R.toList) := by
  obtain ⟨a1, a2⟩ := digs_both hF
  rw [bytes_len] at a2
  have hn : notn R.toList = true := by
    refine notn_yes (by intro h; have := bytes_len R; rw [h] at this; simp at this; omega) a1 ?_
    by_cases k : R.toList.head? = some 48
    · right
      have w2 : R.size = 1 := by
        rcases Nat.lt_or_ge 1 R.size with c | c
        · exact absurd ⟨c, k⟩ hz
        · omega
      have hl : R.toList.length = 1 := by rw [bytes_len]; exact w2
      cases hq : R.toList with
      | nil => rw [hq] at hl; simp at hl
      | cons x t =>
        rw [hq] at hl k
        simp at hl k
        rw [hl, k]
    · exact .inl k
  obtain ⟨hw, hf, hd⟩ := form_rs (s := R) (d := 0) (F := R.toList) (B := []) (by omega) (by simp) rfl hn rfl
  refine ⟨hf, ?_⟩
  unfold rsV
  rw [hd, if_pos rfl]
theorem rs_0_no {R : ByteArray} (h : ¬ (digs R.toList = true ∧ ¬ (1 < R.size ∧ R.toList.head? = some 48))) : ¬ rsF R 0 := by
  intro hf
  have hI : whI R 0 = (R.size : Int) := by unfold whI; rw [if_neg (by omega)]
  obtain ⟨f1, f2, f3⟩ := hf
  rw [hI] at f1 f2 f3
  refine h ⟨?_, ?_⟩
  · have e : R.extract 0 R.size = R := by
      apply ByteArray.ext; rw [ByteArray.data_extract]; simp
    have := part_all (a := 0) (b := R.size) f3 (by omega) (fun j _ h2 => by omega)
    rw [e] at this
    exact digs_of this (by rw [bytes_len]; omega)
  · rintro ⟨k1, k2⟩
    exact f2 ⟨by omega, k2⟩
/-- what is left when the leading zeros are off. -/
theorem strip_step {X : ByteArray} (h1 : 1 < X.size) (h0 : X[0] = 48) (ha : X.toList.all dig = true) : (X.extract 1 X.size).toList.all dig = true ∧ dec (X.extract 1 X.size).toList = dec X.toList ∧ (X.extract 1 X.size).size = X.size - 1 := by
  have hl : X.toList = 48 :: (X.extract 1 X.size).toList := by
    rw [ext_list, List.take_of_length_le (by rw [bytes_len]; omega)]
    have hlen : 0 < X.toList.length := by rw [bytes_len]; omega
    have := List.drop_eq_getElem_cons (l := X.toList) (i := 0) hlen
    rw [List.drop_zero, bytes_get X 0 (by omega) hlen, h0] at this
    exact this
  refine ⟨?_, ?_, by rw [ByteArray.size_extract]; omega⟩
  · rw [hl] at ha
    simp only [List.all_cons, Bool.and_eq_true] at ha
    exact ha.2
  · conv => rhs; rw [hl]
    exact (dec_lead 1 _).symm
theorem strip_end {X : ByteArray} (h0 : 0 < X.size) (ha : X.toList.all dig = true) (h : ¬ (1 < X.size ∧ X[0] = 48)) : notn X.toList = true ∧ ((X.toList == [48]) = true ↔ dec X.toList = 0) ∧ isNeg X.toList = false := by
  have hne : ¬ X.toList = [] := by intro k; have := bytes_len X; rw [k] at this; simp at this; omega
  have hc := all_at ha h0
  have hd : X.toList.head? ≠ some 48 ∨ X.toList = [48] := by
    rw [bytes_head h0]
    by_cases k : X[0] = 48
    · right
      have hs : X.size = 1 := by
        rcases Nat.lt_or_ge 1 X.size with c | c
        · exact absurd ⟨c, k⟩ h
        · omega
      have hl : X.toList.length = 1 := by rw [bytes_len]; exact hs
      have hh := bytes_head h0
      cases hq : X.toList with
      | nil => exact absurd hq hne
      | cons x t =>
        rw [hq] at hl hh
        simp at hl hh
        rw [hl, hh, k]
    · left; simpa using k
  refine ⟨notn_yes hne ha hd, ?_, ?_⟩
  · constructor
    · intro k
      have : X.toList = [48] := by simpa using k
      rw [this]; rfl
    · intro k
      rcases hd with hd | hd
      · exfalso
        have hh := bytes_head h0
        cases hq : X.toList with
        | nil => exact hne hq
        | cons x t =>
          rw [hq] at hh hd k
          simp at hh
          have h3 := dec_le [x] t
          rw [show [x] ++ t = x :: t from rfl, k] at h3
          have h4 : dec [x] = x.toNat - 48 := by simp [dec]
          rw [h4, hh] at h3
          apply hd
          rw [hh]
          simp
          exact byte48.1 (by omega)
      · simpa using hd
  · rw [isNeg_head h0]
    have : X[0] ≠ 45 := by intro k; rw [k] at hc; simp at hc
    simpa using this
end Go.Proofs.YtbiicdpmilplmaaDoor
