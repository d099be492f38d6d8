/- The statement ChainWrongSum of package accountinglaw14. -/
import Derived.Test.YtacgjfgiikbjiaaChM
namespace Go.Proofs.Ytacgjfgiikbjiaa
open Go.RowKit Go.Sort
set_option linter.unusedVariables false
set_option linter.unusedSimpArgs false

/-- checksums appended, behind a guard too. -/
theorem wpList_ug {w : World} {ops : Array Oper} {rest : List Oper} {o : Oper} {a : Act} {Q : Exit → Act → World → Prop} (hw : Region.wanted o (yielded ops a.tmps) = true) (s x : Operand)
    (ho : o.op = .call { callee := .builtin .append, args := #[s, x], argTypes := #[30, 30] })
    (base : Nat) (v : Value) (l m : List Int) (hs : a.eval s = v) (hown : OwnU w base v l) (ao : Option Addr) (n c : Nat) (hnm : m.length = n) (hx : a.eval x = .slice ao n c) (hn : ao = none → c = 0) (hc : RowU w ao m)
    (hl : l.length + m.length < 1000000) (hbase : base ≤ w.heap.size)
    (h : ∀ v' w', OwnU w' base v' (l ++ m) → Below base w w' → wpList Try.prog ops Q rest (a.put o.dst v') w') : wpList Try.prog ops Q (o :: rest) a w := by
  subst hnm
  refine wpList_step fun K hK => ?_
  rw [if_pos hw]
  refine wp_vals und_us inf_u64 rfl (by omega) s x ho base v (l.map uV) (m.map uV) hs hown ao c (by rw [List.length_map]; exact hx) hn hc ?_ (by simp; omega) hbase ?_
  · intro y hy
    obtain ⟨z, _, rfl⟩ := List.mem_map.1 hy
    rfl
  · intro v' w' h1 h2
    exact hK _ _ (h v' w' (by unfold OwnU; rw [List.map_append]; exact h1) h2)
theorem rowU_one (w : World) (x : Int) : RowU (w.alloc (.cells #[.int .u64 x] 22)) (some ⟨w.heap.size, 0, none⟩) [x] := row_one
/-- where an owned slice lies. -/
theorem OwnV.place {w : World} {base : Nat} {T : TypeId} {ao : Option Addr} {n cap : Nat} {L : List Value} (h : OwnV w base T (.slice ao n cap) L) (hL : 0 < L.length) :
    ∃ g, ao = some ⟨g, 0, none⟩ ∧ base ≤ g ∧ g < w.heap.size ∧ ∀ t, t < L.length → w.frozen? ⟨g, t, none⟩ = false := by
  rcases h.2 with ⟨e, e0⟩ | ⟨g, cap', cur, e, hb, e3, _⟩
  · omega
  · injection e with e1
    exact ⟨g, e1, hb, lt_of_block e3, fun t ht => by unfold World.frozen?; rw [e3]; simp⟩
theorem RowV.set {w : World} {b off k : Nat} {L : List Value} (h : RowV w (some ⟨b, off, none⟩) L) (hk : k < L.length) (x : Value) : RowV (w.setCell ⟨b, off + k, none⟩ x) (some ⟨b, off, none⟩) (L.set k x) := by
  obtain ⟨b0, off0, e0, hlt, hck⟩ := h k L[k] (List.getElem?_eq_getElem hk)
  injection e0 with e0
  injection e0 with e1 e2
  subst e1 e2
  refine RowV.block (by simpa using hlt) fun i y hy => ?_
  rw [List.getElem?_set] at hy
  split at hy
  · rename_i ek
    subst ek
    injection hy with hy
    subst hy
    exact World.cell?_setCell_same _ _ _ hck
  · rename_i ek
    obtain ⟨b1, off1, e1, _, hc⟩ := h i y hy
    injection e1 with e1
    injection e1 with e2 e3
    subst e2 e3
    rw [World.cell?_setCell_other _ _ _ _ (by intro z; injection z with _ z; omega)]; exact hc
theorem RowU.take {w : World} {ao : Option Addr} {l : List Int} (h : RowU w ao l) (n : Nat) : RowU w ao (l.take n) := by
  unfold RowU; rw [List.map_take]; exact RowV.take h n
theorem OwnV.cap {w : World} {base : Nat} {T : TypeId} {ao : Option Addr} {n c : Nat} {L : List Value} (h : OwnV w base T (.slice ao n c) L) : L.length ≤ c := by
  rcases h.2 with ⟨_, e⟩ | ⟨g, cap, cur, e, _, _, h4, _⟩
  · omega
  · injection e with _ _ e3
    omega
set_option maxHeartbeats 4000000 in
theorem chainWrongSum_walk (a : Option Addr) (len cap : Nat) (R : List (List UInt8)) (at_ x : Int) (w : World) (w0 : IsR w a len cap R) (w1 : (Lit.int .i64 at_).wf = true) (w2 : (Lit.int .u64 x).wf = true) :
    Calls Try.prog 10 #[.slice a len cap, .int .i64 at_, .int .u64 x] w fun e w' => e = .returned (.bool true) ∧ Below w.heap.size w w' := by
  obtain rfl := w0.hlen
  have H0 := Lib.hid (large_any a cap R w w0.hrow w0.hmax w0.heach)
  have HR := Lib.hid w0.hrow
  clear w0 w1 w2
  go_enter Try.func10, Try.ntmps10
  go_wp2_with fail
  refine H0.out.mono ?_
  rintro e w_ ⟨⟨c0, rfl, hc0⟩, rfl⟩
  cases c0 with
  | true =>
    clear hc0
    go_wp2_with fail
    refine (live_end (Below.refl _ _)).mono ?_
    rintro e W1 ⟨rfl, hb⟩
    go_wp2
    go_ret
    exact ⟨rfl, hb⟩
  | false =>
  obtain ⟨hn, hl⟩ := hc0 rfl
  have HL := Lib.hid (show ∀ l ∈ R, l.length ≤ 10000 from fun l h => Nat.le_trans (hl l h) (by omega))
  clear hl hc0
  go_wp2_with fail
  refine (all_any a cap R _ HR.out (by omega) HL.out).mono ?_
  rintro e W1 ⟨v, rfl, ho, hb1⟩
  obtain ⟨av, cv, hv⟩ := ho.shape
  rw [alV_len] at hv
  subst hv
  have HU1 := Lib.hid ho.row
  have HN := Lib.hid (OwnV.nilcap ho)
  have hcv : R.length ≤ cv := by have := OwnV.cap ho; rw [List.length_map, alV_len] at this; exact this
  have hcm : cv ≤ 9223372036854775807 := by
    rcases ho.2 with ⟨e, _⟩ | ⟨g, cap, cur, e, _, _, _, h5, _⟩
    · injection e with _ _ e3; omega
    · injection e with _ _ e3; unfold maxLen at h5; omega
  have HB1 := Lib.hid hb1
  have HAL := Lib.hid (alV_len R st0)
  clear ho hb1
  have HS1 := Lib.hid (chV_self R st0 0)
  go_wp2_with fail
  refine (check_n a av cap cv R.length R.length R (alV st0 R) _ (HR.out.below HB1.out) HU1.out rfl HAL.out (by omega) (by omega) HL.out).mono ?_
  rintro e W2 ⟨rfl, hb2⟩
  rw [HS1.out]
  have HB2 := Lib.hid (HB1.out.trans (hb2.mono HB1.out.size))
  have HU2 := Lib.hid (HU1.out.below hb2)
  clear hb2
  go_wp2_with (at_builtin; first
    | (refine wpList_ug rfl (.tmp 27) (.tmp 28) rfl W2.heap.size _ [] (alV st0 R) rfl (OwnU.made W2 _ (Nat.le_refl _)) av R.length cv HAL.out rfl HN.out (HU2.out.below ((Below.refl _ _).alloc (Nat.le_refl _) _)) (by have := HAL.out; simp; omega) (by simp) ?_; intro v' w1 hown hbel; rw [List.nil_append] at hown; have HO := Lib.hid hown; have HB := Lib.hid (((Below.refl W2.heap.size W2).alloc (Nat.le_refl _) _).trans hbel); clear hown hbel; obtain ⟨av2, cv2, hv2⟩ := HO.out.shape; rw [HAL.out] at hv2; subst hv2)
    | (refine wpList_ug rfl (.tmp 29) (.tmp 31) rfl W2.heap.size _ (alV st0 R) [x] rfl (OwnV.below HO.out ((Below.refl _ _).alloc (Nat.le_refl _) _)) (some ⟨_, 0, none⟩) 1 1 rfl rfl (fun e => by cases e) (rowU_one _ x) (by have := HAL.out; simp; omega) (by have := HB.out.size; simp; omega) ?_; intro v' w2 hown hbel; have HO2 := Lib.hid hown; have HB3 := Lib.hid ((HB.out.alloc HB.out.size _).trans hbel); clear hown hbel; obtain ⟨av3, cv3, hv3⟩ := HO2.out.shape; rw [List.length_append, HAL.out] at hv3; subst hv3))
  have HS2 := Lib.hid (chV_more R st0 0 x)
  rw [Nat.zero_add] at HS2
  have HBW := Lib.hid (HB2.out.trans (HB3.out.mono HB2.out.size))
  refine (check_n a av3 cap cv3 R.length (R.length + 1) R (alV st0 R ++ [x]) _ (HR.out.below HBW.out) (OwnV.row HO2.out) rfl (by rw [List.length_append, HAL.out]; rfl) (by omega) (by omega) HL.out).mono ?_
  rintro e W3 ⟨rfl, hb4⟩
  rw [HS2.out]
  have HB4 := Lib.hid (HBW.out.trans (hb4.mono HBW.out.size))
  have HU4 := Lib.hid ((HU2.out.below HB3.out).below hb4)
  clear hb4 HO HO2 HB HB3 HBW HU1 HU2 HB1 HB2 HS1 HS2
  by_cases h1 : at_ < 0
  · go_wp2_with fail
    refine (live_end HB4.out).mono ?_
    rintro e W5 ⟨rfl, hb⟩
    go_wp2
    go_ret
    exact ⟨rfl, hb⟩
  by_cases h2 : (R.length : Int) ≤ at_
  · go_wp2_with fail
    refine (live_end HB4.out).mono ?_
    rintro e W5 ⟨rfl, hb⟩
    go_wp2
    go_ret
    exact ⟨rfl, hb⟩
  obtain ⟨k, rfl⟩ : ∃ k : Nat, at_ = (k : Int) := ⟨at_.toNat, by omega⟩
  have hk : k < R.length := by omega
  have hki : (k : Int) < (R.length : Int) := by omega
  clear h1
  have hkl : k < (alV st0 R).length := by rw [HAL.out]; exact hk
  obtain ⟨b1, off1, e1, hb1, hc1⟩ := HU4.out.at k hkl
  subst e1
  by_cases h3 : (alV st0 R)[k] = x
  · have q : ((alV st0 R)[k] == x) = true := by simpa using h3
    clear h3
    generalize (alV st0 R)[k] = z at *
    go_wp2_with fail
    refine (live_end HB4.out).mono ?_
    rintro e W5 ⟨rfl, hb⟩
    go_wp2
    go_ret
    exact ⟨rfl, hb⟩
  have q : ((alV st0 R)[k] == x) = false := by simpa using h3
  have HC1 := Lib.hid (chV_set R st0 0 k x hkl h3)
  have HC2 := Lib.hid (chV_cut R st0 0 k hk)
  rw [Nat.zero_add] at HC1 HC2
  clear h3
  have HZ := Lib.hid (show (alV st0 R)[k]? = some (alV st0 R)[k] from List.getElem?_eq_getElem hkl)
  generalize (alV st0 R)[k] = z at *
  clear hkl
  go_wp2_with (at_builtin; refine wpList_ug rfl (.tmp 55) (.tmp 56) rfl W3.heap.size _ [] (alV st0 R) rfl (OwnU.made W3 _ (Nat.le_refl _)) (some ⟨b1, off1, none⟩) R.length cv HAL.out rfl (fun e => by cases e) (HU4.out.below ((Below.refl _ _).alloc (Nat.le_refl _) _)) (by have := HAL.out; simp; omega) (by simp) ?_; intro v' w5 hown hbel; rw [List.nil_append] at hown; have HO := Lib.hid hown; have HB := Lib.hid (((Below.refl W3.heap.size W3).alloc (Nat.le_refl _) _).trans hbel); clear hown hbel; obtain ⟨av5, cv5, hv5⟩ := HO.out.shape; rw [HAL.out] at hv5; subst hv5; have HG := Lib.hid (OwnV.place HO.out (by rw [List.length_map, HAL.out]; omega)); obtain ⟨g, rfl, hg1, hg2, hgf⟩ := HG.out; have hgk := hgf k (by rw [List.length_map, HAL.out]; exact hk); clear hgf HG; obtain ⟨b6, off6, e6, _, hc6⟩ := (OwnV.row HO.out) k (uV z) (by rw [List.getElem?_map, HZ.out]; rfl); injection e6 with e6; injection e6 with e7 e8; subst e7; subst e8; rw [Nat.zero_add] at hc6; unfold uV at hc6; have HSet := Lib.hid (RowV.set (OwnV.row HO.out) (by rw [List.length_map, HAL.out]; exact hk) (uV x)); rw [Nat.zero_add, ← List.map_set] at HSet; unfold uV at HSet; have HBs := Lib.hid (HB.out.setCell (p := ⟨g, k, none⟩) hg1 (.int .u64 x)))
  have HB5 := Lib.hid (HB4.out.trans (HBs.out.mono HB4.out.size))
  refine (check_n a _ cap cv5 R.length R.length R ((alV st0 R).set k x) _ (HR.out.below HB5.out) HSet.out rfl (by rw [List.length_set, HAL.out]) (by omega) (by omega) HL.out).mono ?_
  rintro e W6 ⟨rfl, hb6⟩
  rw [HC1.out]
  have HB6 := Lib.hid (HB5.out.trans (hb6.mono HB5.out.size))
  have HU6 := Lib.hid ((HU4.out.below HBs.out).below hb6)
  clear hb6
  go_wp2_with fail
  refine (check_n a (some ⟨b1, off1, none⟩) cap cv R.length k R ((alV st0 R).take k) _ (HR.out.below HB6.out) (HU6.out.take k) rfl (by rw [List.length_take, HAL.out]; omega) (by omega) (by omega) HL.out).mono ?_
  rintro e W7 ⟨rfl, hb7⟩
  rw [HC2.out]
  have HB7 := Lib.hid (HB6.out.trans (hb7.mono HB6.out.size))
  clear hb7
  go_wp2_with fail
  refine (live_end HB7.out).mono ?_
  rintro e W8 ⟨rfl, hb⟩
  go_wp2
  go_ret
  exact ⟨rfl, hb⟩
end Go.Proofs.Ytacgjfgiikbjiaa
