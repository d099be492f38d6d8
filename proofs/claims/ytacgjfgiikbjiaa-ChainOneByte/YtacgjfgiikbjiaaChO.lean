/- One changed byte changes every later checksum: with no Go in sight. No conditions. -/
import Derived.Test.YtacgjfgiikbjiaaChN
namespace Go.Proofs.Ytacgjfgiikbjiaa
open Go.RowKit Go.Sort
set_option linter.unusedVariables false
set_option linter.unusedSimpArgs false

theorem mul_inv (X : Nat) (h : X < 18446744073709551616) : (X * 1099511628211 % 18446744073709551616) * 14886173955864302971 % 18446744073709551616 = X := by
  omega
theorem grw_nat (h : Nat) (b : UInt8) (hh : h < 18446744073709551616) : grw (h : Int) b = (((h ^^^ b.toNat) * 1099511628211 % 18446744073709551616 : Nat) : Int) := by
  have hb := b.toNat_lt
  unfold grw
  rw [u64_xor_nat h b.toNat hh (by omega), IntKind.wrap_u64]
  omega
theorem grw_bd (h : Int) (b : UInt8) : 0 ≤ grw h b ∧ grw h b < 18446744073709551616 := by
  unfold grw; rw [IntKind.wrap_u64]; omega
theorem xor_bd {h : Nat} (b : UInt8) (hh : h < 18446744073709551616) : h ^^^ b.toNat < 18446744073709551616 := by
  have hb := b.toNat_lt
  exact Nat.xor_lt_two_pow (n := 64) hh (by omega)
theorem grw_eq {h h' : Nat} {b b' : UInt8} (hh : h < 18446744073709551616) (hh' : h' < 18446744073709551616) (e : grw (h : Int) b = grw (h' : Int) b') : h ^^^ b.toNat = h' ^^^ b'.toNat := by
  rw [grw_nat h b hh, grw_nat h' b' hh'] at e
  have e2 := Int.ofNat.inj e
  rw [← mul_inv _ (xor_bd b hh), ← mul_inv _ (xor_bd b' hh'), e2]
theorem xor_back (a b : Nat) : a ^^^ b ^^^ b = a := by rw [Nat.xor_assoc, Nat.xor_self, Nat.xor_zero]
def inU (h : Int) : Prop := 0 ≤ h ∧ h < 18446744073709551616
theorem inU_nat {h : Int} (hh : inU h) : ∃ n : Nat, h = (n : Int) ∧ n < 18446744073709551616 := ⟨h.toNat, by have := hh.1; omega, by have := hh.2; have := hh.1; omega⟩
theorem grw_left {h h' : Int} (b : UInt8) (hh : inU h) (hh' : inU h') (hne : h ≠ h') : grw h b ≠ grw h' b := by
  obtain ⟨n, rfl, hn⟩ := inU_nat hh
  obtain ⟨m, rfl, hm⟩ := inU_nat hh'
  intro e
  have := grw_eq hn hm e
  apply hne
  rw [← xor_back n b.toNat, this, xor_back]
theorem grw_right {h : Int} {b b' : UInt8} (hh : inU h) (hne : b ≠ b') : grw h b ≠ grw h b' := by
  obtain ⟨n, rfl, hn⟩ := inU_nat hh
  intro e
  have := grw_eq hn hn e
  apply hne
  rw [Nat.xor_comm, Nat.xor_comm n] at this
  apply UInt8.toNat.inj
  rw [← xor_back b.toNat n, this, xor_back]
theorem mixL_ne : ∀ (l : List UInt8) {h h' : Int}, inU h → inU h' → h ≠ h' → mixL h l ≠ mixL h' l
  | [], h, h', _, _, hne => hne
  | b :: l, h, h', hh, hh', hne => mixL_ne l (grw_bd h b) (grw_bd h' b) (grw_left b hh hh' hne)
theorem mixL_bd : ∀ (l : List UInt8) {h : Int}, inU h → inU (mixL h l)
  | [], h, hh => hh
  | b :: l, h, hh => mixL_bd l (grw_bd h b)
theorem mixL_set : ∀ (l : List UInt8) (k : Nat) (x : UInt8) {h : Int} (hk : k < l.length), inU h → l[k] ≠ x → mixL h l ≠ mixL h (l.set k x)
  | b :: l, 0, x, h, hk, hh, hne => mixL_ne l (grw_bd h b) (grw_bd h x) (grw_right hh hne)
  | b :: l, k + 1, x, h, hk, hh, hne => mixL_set l k x (by simpa using hk) (grw_bd h b) (by simpa using hne)
theorem nxV_bd {h : Int} (l : List UInt8) (hh : inU h) : inU (nxV h l) := mixL_bd _ (mixL_bd _ hh)
theorem nxV_ne {h h' : Int} (l : List UInt8) (hh : inU h) (hh' : inU h') (hne : h ≠ h') : nxV h l ≠ nxV h' l := mixL_ne _ (mixL_bd _ hh) (mixL_bd _ hh') (mixL_ne _ hh hh' hne)
theorem nxV_set {h : Int} {l : List UInt8} {k : Nat} {x : UInt8} (hk : k < l.length) (hh : inU h) (hne : l[k] ≠ x) : nxV h l ≠ nxV h (l.set k x) := by
  unfold nxV
  rw [List.length_set]
  exact mixL_ne _ (mixL_bd _ hh) (mixL_bd _ hh) (mixL_set l k x hk hh hne)
theorem suV_bd : ∀ (R : List (List UInt8)) {h : Int}, inU h → inU (suV h R)
  | [], h, hh => hh
  | l :: R, h, hh => suV_bd R (nxV_bd l hh)
theorem alV_ne : ∀ (R : List (List UInt8)) {h h' : Int} (j : Nat) (y z : Int), inU h → inU h' → h ≠ h' → (alV h R)[j]? = some y → (alV h' R)[j]? = some z → y ≠ z
  | [], h, h', j, y, z, _, _, _, hy, _ => by simp [alV] at hy
  | l :: R, h, h', 0, y, z, hh, hh', hne, hy, hz => by
    simp [alV] at hy hz
    subst hy hz
    exact nxV_ne l hh hh' hne
  | l :: R, h, h', j + 1, y, z, hh, hh', hne, hy, hz => alV_ne R j y z (nxV_bd l hh) (nxV_bd l hh') (nxV_ne l hh hh' hne) (by simpa [alV] using hy) (by simpa [alV] using hz)
theorem st0_in : inU st0 := by unfold inU st0; omega
/-- the records of which one has another byte. -/
def chR (R : List (List UInt8)) (i : Nat) (l : List UInt8) : List (List UInt8) := R.take i ++ ([l] ++ R.drop (i + 1))
theorem chR_len {R : List (List UInt8)} {i : Nat} {l : List UInt8} (h : i < R.length) : (chR R i l).length = R.length := by
  unfold chR; simp; omega
theorem cut_at {R : List (List UInt8)} {i : Nat} (h : i < R.length) : R = R.take i ++ ([R[i]] ++ R.drop (i + 1)) := by
  rw [List.singleton_append, ← List.drop_eq_getElem_cons h, List.take_append_drop]
theorem alV_parts (A B : List (List UInt8)) (l : List UInt8) (h : Int) : alV h (A ++ ([l] ++ B)) = alV h A ++ (nxV (suV h A) l :: alV (nxV (suV h A) l) B) := by
  rw [alV_app]; rfl
theorem al_before {R : List (List UInt8)} {i j k : Nat} {x : UInt8} (hi : i < R.length) (hj : j < i) : (alV st0 R)[j]? = (alV st0 (chR R i (R[i].set k x)))[j]? := by
  conv => lhs; rw [cut_at hi]
  unfold chR
  rw [alV_parts, alV_parts, List.getElem?_append_left (by rw [alV_len]; simp; omega), List.getElem?_append_left (by rw [alV_len]; simp; omega)]
theorem al_behind {R : List (List UInt8)} {i j k : Nat} {x : UInt8} (hi : i < R.length) (hk : k < R[i].length) (hne : R[i][k] ≠ x) (hj : i ≤ j) (y z : Int) (hy : (alV st0 R)[j]? = some y) (hz : (alV st0 (chR R i (R[i].set k x)))[j]? = some z) : y ≠ z := by
  rw [show alV st0 R = alV st0 (R.take i ++ ([R[i]] ++ R.drop (i + 1))) by rw [← cut_at hi]] at hy
  unfold chR at hz
  have hl : (alV st0 (R.take i)).length = i := by rw [alV_len]; simp; omega
  rw [alV_parts, List.getElem?_append_right (by omega), hl] at hy hz
  have hs := suV_bd (R.take i) st0_in
  have hn := nxV_set hk hs hne
  obtain ⟨d, rfl⟩ : ∃ d, j = i + d := ⟨j - i, by omega⟩
  rw [Nat.add_sub_cancel_left] at hy hz
  cases d with
  | zero =>
    simp at hy hz
    subst hy hz
    exact hn
  | succ d => exact alV_ne (R.drop (i + 1)) d y z (nxV_bd _ hs) (nxV_bd _ hs) hn (by simpa using hy) (by simpa using hz)
theorem chV_skip : ∀ (A M L : List (List UInt8)) (h : Int) (i : Nat), chV h (A ++ M) (alV h (A ++ L)) i = chV (suV h A) M (alV (suV h A) L) (i + A.length)
  | [], M, L, h, i => rfl
  | l :: A, M, L, h, i => by
    show chV h (l :: (A ++ M)) (nxV h l :: alV (nxV h l) (A ++ L)) i = chV (suV (nxV h l) A) M (alV (suV (nxV h l) A) L) (i + (A.length + 1))
    rw [chV, if_pos rfl, chV_skip A M L, show i + 1 + A.length = i + (A.length + 1) by omega]
theorem chV_chR {R : List (List UInt8)} {i k : Nat} {x : UInt8} (hi : i < R.length) (hk : k < R[i].length) (hne : R[i][k] ≠ x) : chV st0 (chR R i (R[i].set k x)) (alV st0 R) 0 = (i : Int) := by
  rw [show alV st0 R = alV st0 (R.take i ++ ([R[i]] ++ R.drop (i + 1))) by rw [← cut_at hi]]
  unfold chR
  rw [chV_skip]
  have hn := nxV_set hk (suV_bd (R.take i) st0_in) hne
  show chV _ (R[i].set k x :: R.drop (i + 1)) (nxV (suV st0 (R.take i)) R[i] :: alV (nxV (suV st0 (R.take i)) R[i]) (R.drop (i + 1))) _ = _
  rw [chV, if_neg hn, List.length_take]
  omega
end Go.Proofs.Ytacgjfgiikbjiaa
