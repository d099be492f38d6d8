/- Parse reads the notation of an amount back. No conditions but the amount's limit. -/
import Derived.Test.YtbiicdpmilplmaaDoorMoT
namespace Go.Proofs.YtbiicdpmilplmaaDoor
open Go.RowKit Go.Sort
set_option linter.unusedVariables false

theorem at_get {s : ByteArray} {k : Nat} (hk : k < s.size) : s.toList[k]? = some s[k] := by
  have h : k < s.toList.length := by rw [bytes_len]; exact hk
  rw [List.getElem?_eq_getElem h, bytes_get s k hk h]
/-- a list of digits, a point and a list of digits, or a list of digits alone. -/
theorem form_rs {s : ByteArray} {d : Int} {F B : List UInt8} (d1 : 0 ≤ d) (hl : s.toList = F ++ if d = 0 then [] else 46 :: B) (hB : B.length = d.toNat) (hF : notn F = true) (hBd : B.all dig = true) :
    whI s d = (F.length : Int) ∧ rsF s d ∧ dl s (whI s d).toNat s.size = if d = 0 then F else F ++ B := by
  have hF' := hF
  unfold notn at hF'
  simp only [Bool.and_eq_true, Bool.or_eq_true] at hF'
  obtain ⟨⟨f1, f2⟩, f3⟩ := hF'
  have fpos : 0 < F.length := by
    cases F with
    | nil => simp at f1
    | cons a t => simp
  have hz : s.size = F.length + if d = 0 then 0 else 1 + d.toNat := by
    rw [← bytes_len, hl, List.length_append]
    split
    · rfl
    · simp [hB]; omega
  have hW : whI s d = (F.length : Int) := by
    unfold whI
    split
    · rw [if_neg (by omega)] at hz; omega
    · rw [if_pos (by omega)] at hz; omega
  refine ⟨hW, ⟨by rw [hW]; omega, ?_, ?_⟩, ?_⟩
  · rw [hW, hl]
    rintro ⟨h1, h2⟩
    have e : (F ++ if d = 0 then [] else 46 :: B).head? = F.head? := by
      cases F with
      | nil => simp at fpos
      | cons a t => rfl
    rw [e] at h2
    rcases f3 with k | k
    · simp [h2] at k
    · have : F = [48] := by simpa using k
      rw [this] at h1
      simp at h1
  · intro j h _
    have hg := at_get h
    rw [hl] at hg
    rw [hW]
    rcases Nat.lt_trichotomy j F.length with c | c | c
    · right
      refine ⟨by omega, ?_⟩
      rw [List.getElem?_append_left c] at hg
      rw [List.all_eq_true] at f2
      exact f2 _ (List.mem_of_getElem? hg)
    · left
      refine ⟨by omega, ?_⟩
      rw [List.getElem?_append_right (by omega), show j - F.length = 0 by omega] at hg
      by_cases hd : d = 0
      · rw [if_pos hd] at hg; simp at hg
      · rw [if_neg hd] at hg
        simp at hg
        exact hg.symm
    · right
      refine ⟨by omega, ?_⟩
      rw [List.getElem?_append_right (by omega)] at hg
      by_cases hd : d = 0
      · rw [if_pos hd] at hg; simp at hg
      · rw [if_neg hd, show j - F.length = (j - F.length - 1) + 1 by omega, List.getElem?_cons_succ] at hg
        rw [List.all_eq_true] at hBd
        exact hBd _ (List.mem_of_getElem? hg)
  · rw [hW, Int.toNat_natCast]
    unfold dl
    by_cases hd : d = 0
    · rw [if_pos hd] at hz hl
      rw [if_pos (by omega), if_pos hd, List.take_of_length_le (by rw [bytes_len]; omega), hl, List.append_nil]
    · rw [if_neg hd] at hz hl
      rw [if_neg (by omega), if_neg hd, hl]
      congr 1
      · exact List.take_left
      · have : (F ++ 46 :: B).drop (F.length + 1) = B := by
          rw [show F ++ 46 :: B = (F ++ [46]) ++ B by simp, show F.length + 1 = (F ++ [46]).length by simp, List.drop_left]
        rw [this, List.take_of_length_le (by omega)]
end Go.Proofs.YtbiicdpmilplmaaDoor
