/- Plain facts on shares by the largest remainders, with no Go in sight. -/
import Derived.Test.YtmehihfdfpnfjaaSpB
namespace Go.Proofs.Ytmehihfdfpnfjaa
set_option linter.unusedVariables false

def sumN (f : Nat → Nat) : Nat → Nat
  | 0 => 0
  | n + 1 => sumN f n + f n
theorem sumN_le {f g : Nat → Nat} : ∀ n, (∀ k, k < n → f k ≤ g k) → sumN f n ≤ sumN g n
  | 0, _ => Nat.le_refl _
  | n + 1, h => Nat.add_le_add (sumN_le n fun k hk => h k (by omega)) (h n (by omega))
theorem sumN_congr {f g : Nat → Nat} (n : Nat) (h : ∀ k, k < n → f k = g k) : sumN f n = sumN g n :=
  Nat.le_antisymm (sumN_le n fun k hk => by rw [h k hk]; exact Nat.le_refl _) (sumN_le n fun k hk => by rw [h k hk]; exact Nat.le_refl _)
theorem sumN_const (c : Nat) : ∀ n, sumN (fun _ => c) n = n * c
  | 0 => by simp [sumN]
  | n + 1 => by simp only [sumN]; rw [sumN_const c n, Nat.succ_mul]
theorem sumN_add (f g : Nat → Nat) : ∀ n, sumN (fun k => f k + g k) n = sumN f n + sumN g n
  | 0 => rfl
  | n + 1 => by simp only [sumN]; rw [sumN_add f g n]; omega
theorem sumN_list (f : Nat → Nat) : ∀ n, sumN f n = ((List.range n).map f).sum
  | 0 => rfl
  | n + 1 => by rw [List.range_succ, List.map_append, List.sum_append]; simp only [sumN, List.map_cons, List.map_nil, List.sum_cons, List.sum_nil]; rw [sumN_list f n]; omega
theorem nodup_map {σ : Nat → Nat} {n : Nat} (hp : Prm n σ) : ∀ m, m ≤ n → ((List.range m).map σ).Nodup
  | 0, _ => List.nodup_nil
  | m + 1, h => by
    rw [List.range_succ, List.map_append, List.nodup_append]
    refine ⟨nodup_map hp m (by omega), by simp, ?_⟩
    intro x hx y hy e
    simp only [List.mem_map, List.mem_range] at hx
    simp only [List.map_cons, List.map_nil, List.mem_singleton] at hy
    obtain ⟨i, i1, i2⟩ := hx
    have := hp.inj i m (by omega) (by omega) (by rw [i2, e, hy])
    omega
theorem perm_map {σ : Nat → Nat} {n : Nat} (hp : Prm n σ) : ((List.range n).map σ).Perm (List.range n) := by
  rw [List.perm_iff_count]
  intro x
  rw [(nodup_map hp n (Nat.le_refl _)).count, List.nodup_range.count]
  have : x ∈ (List.range n).map σ ↔ x ∈ List.range n := by
    simp only [List.mem_map, List.mem_range]
    constructor
    · rintro ⟨i, i1, rfl⟩; exact hp.bd i i1
    · intro h; exact hp.sur x h
  by_cases h : x ∈ List.range n
  · rw [if_pos (this.2 h), if_pos h]
  · rw [if_neg (fun q => h (this.1 q)), if_neg h]
theorem sumN_perm {σ : Nat → Nat} {n : Nat} (hp : Prm n σ) (f : Nat → Nat) : sumN (fun k => f (σ k)) n = sumN f n := by
  rw [sumN_list, sumN_list]
  have : (List.range n).map (fun k => f (σ k)) = ((List.range n).map σ).map f := by rw [List.map_map]; rfl
  rw [this]
  exact ((perm_map hp).map f).sum_nat
/-- a share rounded down, and what it lacks. -/
def flo (a T : Nat) (W : Nat → Nat) (k : Nat) : Nat := a * W k / T
def lak (a T : Nat) (W : Nat → Nat) (k : Nat) : Nat := a * W k % T
def lakI (a T : Nat) (W : Nat → Nat) (k : Nat) : Int := (lak a T W k : Int)
theorem fl_la (a T : Nat) (W : Nat → Nat) : ∀ n, T * sumN (flo a T W) n + sumN (lak a T W) n = a * sumN W n
  | 0 => by simp [sumN]
  | n + 1 => by
    simp only [sumN]
    rw [Nat.mul_add, Nat.mul_add, ← fl_la a T W n]
    have : T * flo a T W n + lak a T W n = a * W n := Nat.div_add_mod _ _
    omega
/-- the units that are left. -/
def lft (a T : Nat) (W : Nat → Nat) (n : Nat) : Nat := a - sumN (flo a T W) n
section
variable {a T n : Nat} {W : Nat → Nat} {σ : Nat → Nat}
theorem flo_le (hT : 0 < T) (hs : sumN W n = T) : sumN (flo a T W) n ≤ a := by
  have := fl_la a T W n
  rw [hs] at this
  exact Nat.le_of_mul_le_mul_left (by rw [Nat.mul_comm T a]; omega) hT
theorem lft_mul (hT : 0 < T) (hs : sumN W n = T) : T * lft a T W n = sumN (lak a T W) n := by
  have h1 := fl_la a T W n
  have h2 := flo_le (a := a) hT hs
  rw [hs] at h1
  unfold lft
  rw [Nat.mul_sub, Nat.mul_comm T a]; omega
theorem lft_le (hT : 0 < T) (hs : sumN W n = T) : lft a T W n ≤ n := by
  have h1 := lft_mul (a := a) hT hs
  have h2 : sumN (lak a T W) n ≤ sumN (fun _ => T) n := sumN_le n fun k _ => Nat.le_of_lt (Nat.mod_lt _ hT)
  rw [sumN_const, ← h1, Nat.mul_comm T] at h2
  exact Nat.le_of_mul_le_mul_right h2 hT
theorem sumN_zero {f : Nat → Nat} {j : Nat} : ∀ m, j ≤ m → (∀ k, j ≤ k → k < m → f k = 0) → sumN f m = sumN f j
  | 0, h, _ => by rw [Nat.le_zero.1 h]
  | m + 1, h, g => by
    by_cases e : j = m + 1
    · rw [e]
    · simp only [sumN]; rw [sumN_zero m (by omega) (fun k k1 k2 => g k k1 (by omega)), g m (by omega) (by omega)]; omega
/-- who gets a unit more lacked something. -/
theorem sel_pos (hT : 0 < T) (hs : sumN W n = T) (hp : Prm n σ) (hr : Srt (lakI a T W) σ 0 n) {j : Nat} (hj : j < lft a T W n) : 0 < lak a T W (σ j) := by
  rcases Nat.eq_zero_or_pos (lak a T W (σ j)) with h0 | h0
  · exfalso
    have hl := lft_le (a := a) hT hs
    have hz : ∀ k, j ≤ k → k < n → lak a T W (σ k) = 0 := fun k k1 k2 => by
      by_cases e : k = j
      · rw [e]; exact h0
      · have := hr j k (Nat.zero_le _) (by omega) k2
        unfold Bef lakI at this; omega
    have h1 := lft_mul (a := a) hT hs
    rw [← sumN_perm hp (lak a T W), sumN_zero n (by omega) hz] at h1
    have h2 : sumN (fun k => lak a T W (σ k)) j ≤ sumN (fun _ => T) j := sumN_le j fun k _ => Nat.le_of_lt (Nat.mod_lt _ hT)
    rw [sumN_const, ← h1, Nat.mul_comm T] at h2
    have := Nat.le_of_mul_le_mul_right h2 hT
    omega
  · exact h0
/-- is k among the first L of the order? -/
def sel (σ : Nat → Nat) (L k : Nat) : Bool := (List.range L).any fun i => σ i == k
theorem sel_iff {L k : Nat} : sel σ L k = true ↔ ∃ i, i < L ∧ σ i = k := by
  unfold sel; rw [List.any_eq_true]
  simp only [List.mem_range, beq_iff_eq]
theorem sel_zero (k : Nat) : sel σ 0 k = false := rfl
theorem sel_succ (L k : Nat) : sel σ (L + 1) k = (sel σ L k || σ L == k) := by
  unfold sel; rw [List.range_succ, List.any_append]; simp
theorem sel_at (hp : Prm n σ) {L j : Nat} (hL : L ≤ n) (hj : j < n) : sel σ L (σ j) = decide (j < L) := by
  by_cases h : j < L
  · rw [decide_eq_true h]; exact sel_iff.2 ⟨j, h, rfl⟩
  · rw [decide_eq_false h]
    cases e : sel σ L (σ j)
    · rfl
    · obtain ⟨i, i1, i2⟩ := sel_iff.1 e
      have := hp.inj i j (by omega) hj i2
      omega
/-- the shares. -/
def shr (a T : Nat) (W : Nat → Nat) (σ : Nat → Nat) (L k : Nat) : Nat := flo a T W k + (if sel σ L k then 1 else 0)
theorem sumN_first {L : Nat} : ∀ m, L ≤ m → sumN (fun j => if decide (j < L) then 1 else 0) m = L
  | 0, h => by rw [Nat.le_zero.1 h]; rfl
  | m + 1, h => by
    simp only [sumN]
    by_cases e : L = m + 1
    · subst e
      rw [sumN_congr (g := fun _ => 1) m (fun k hk => by rw [if_pos (by simp; omega)]), sumN_const]
      simp
    · rw [sumN_first m (by omega), if_neg (by simp; omega)]; rfl
theorem shr_sum (hT : 0 < T) (hs : sumN W n = T) (hp : Prm n σ) : sumN (shr a T W σ (lft a T W n)) n = a := by
  have hl := lft_le (a := a) hT hs
  have h1 : sumN (fun k => if sel σ (lft a T W n) k then 1 else 0) n = lft a T W n := by
    rw [← sumN_perm hp (fun k => if sel σ (lft a T W n) k then 1 else 0)]
    rw [sumN_congr n (g := fun j => if decide (j < lft a T W n) then 1 else 0) (fun k hk => by rw [sel_at hp hl hk])]
    exact sumN_first n hl
  have h2 : sumN (shr a T W σ (lft a T W n)) n = sumN (flo a T W) n + lft a T W n := by
    rw [← h1, ← sumN_add, h1]; rfl
  rw [h2]
  have := flo_le (a := a) hT hs
  unfold lft; omega
/-- near: T times the share lies less than T off a times the weight; no weight, no share. -/
theorem shr_near (hT : 0 < T) (hs : sumN W n = T) (hp : Prm n σ) (hr : Srt (lakI a T W) σ 0 n) {k : Nat} (hk : k < n) :
    shr a T W σ (lft a T W n) k * T < a * W k + T ∧ a * W k < shr a T W σ (lft a T W n) k * T + T ∧ (W k = 0 → shr a T W σ (lft a T W n) k = 0) := by
  have hd : T * flo a T W k + lak a T W k = a * W k := Nat.div_add_mod _ _
  have hlt : lak a T W k < T := Nat.mod_lt _ hT
  rw [Nat.mul_comm T] at hd
  unfold shr
  cases e : sel σ (lft a T W n) k
  · simp only [Bool.false_eq_true, if_false, Nat.add_zero]
    refine ⟨by omega, by omega, fun h => ?_⟩
    unfold flo; rw [h]; simp
  · obtain ⟨j, j1, j2⟩ := sel_iff.1 e
    have hp0 := sel_pos hT hs hp hr j1
    rw [j2] at hp0
    simp only [if_true, Nat.add_mul, Nat.one_mul]
    refine ⟨by omega, by omega, fun h => ?_⟩
    unfold lak at hp0; rw [h] at hp0; simp at hp0
theorem shr_mono (hT : 0 < T) (hs : sumN W n = T) (hp : Prm n σ) (hr : Srt (lakI a T W) σ 0 n) {i k : Nat} (hi : i < n) (hk : k < n) (h : W k < W i ∨ (W i = W k ∧ i < k)) :
    shr a T W σ (lft a T W n) k ≤ shr a T W σ (lft a T W n) i := by
  have hw : W k ≤ W i := by omega
  have hf : flo a T W k ≤ flo a T W i := Nat.div_le_div_right (Nat.mul_le_mul_left a hw)
  unfold shr
  cases e : sel σ (lft a T W n) k
  · simp only [Bool.false_eq_true, if_false, Nat.add_zero]; omega
  · by_cases ef : flo a T W k < flo a T W i
    · simp only [if_true]; omega
    · have ef' : flo a T W i = flo a T W k := by omega
      have d1 : T * flo a T W k + lak a T W k = a * W k := Nat.div_add_mod _ _
      have d2 : T * flo a T W i + lak a T W i = a * W i := Nat.div_add_mod _ _
      rw [ef'] at d2
      have hm : a * W k ≤ a * W i := Nat.mul_le_mul_left a hw
      obtain ⟨j, j1, j2⟩ := sel_iff.1 e
      have hpos := sel_pos hT hs hp hr j1
      rw [j2] at hpos
      have ha : 0 < a := by
        rcases Nat.eq_zero_or_pos a with z | z
        · rw [z] at hpos; simp [lak] at hpos
        · exact z
      have hb : Bef (lakI a T W) i k := by
        unfold Bef lakI
        rcases h with h | h
        · have : a * W k < a * W i := Nat.mul_lt_mul_of_pos_left h ha
          omega
        · rw [h.1] at d2; omega
      obtain ⟨m, m1, m2⟩ := hp.sur i hi
      have hl := lft_le (a := a) hT hs
      have hmj : m < lft a T W n := by
        rcases Nat.lt_trichotomy m j with x | x | x
        · omega
        · subst x; rw [m2] at j2; omega
        · have := hr j m (Nat.zero_le _) x m1
          rw [j2, m2] at this
          unfold Bef at this hb; omega
      rw [sel_iff.2 ⟨m, hmj, m2⟩]
      simp only [if_true]; omega
/-- equal proportions: equal shares. -/
theorem flo_scale {c : Nat} (hc : 0 < c) (k : Nat) : flo a (c * T) (fun i => c * W i) k = flo a T W k := by
  unfold flo
  rw [← Nat.mul_assoc, Nat.mul_comm a c, Nat.mul_assoc, Nat.mul_div_mul_left _ _ hc]
theorem lak_scale {c : Nat} (k : Nat) : lak a (c * T) (fun i => c * W i) k = c * lak a T W k := by
  unfold lak
  rw [← Nat.mul_assoc, Nat.mul_comm a c, Nat.mul_assoc, Nat.mul_mod_mul_left]
theorem srt_scale {c : Nat} (hc : 0 < c) (h : Srt (lakI a (c * T) (fun i => c * W i)) σ 0 n) : Srt (lakI a T W) σ 0 n := by
  intro i j h1 h2 h3
  have := h i j h1 h2 h3
  unfold Bef lakI at *
  rw [lak_scale, lak_scale] at this
  rcases this with x | ⟨x, y⟩
  · left
    have : c * lak a T W (σ j) < c * lak a T W (σ i) := by omega
    have := Nat.lt_of_mul_lt_mul_left this
    omega
  · right
    have : c * lak a T W (σ i) = c * lak a T W (σ j) := by omega
    have := Nat.eq_of_mul_eq_mul_left hc this
    omega
theorem sel_congr {ρ : Nat → Nat} {L : Nat} (h : ∀ j, j < L → σ j = ρ j) (k : Nat) : sel σ L k = sel ρ L k := by
  cases e : sel ρ L k
  · cases f : sel σ L k
    · rfl
    · obtain ⟨i, i1, i2⟩ := sel_iff.1 f
      rw [sel_iff.2 ⟨i, i1, (h i i1) ▸ i2⟩] at e; cases e
  · obtain ⟨i, i1, i2⟩ := sel_iff.1 e
    exact sel_iff.2 ⟨i, i1, (h i i1).symm ▸ i2⟩
end
end Go.Proofs.Ytmehihfdfpnfjaa
