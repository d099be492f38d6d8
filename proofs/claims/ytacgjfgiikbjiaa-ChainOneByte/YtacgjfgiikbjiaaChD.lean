/- What All and Check of packages chain and accountingref14 return, Same of package accountingref14 and large of package accountinglaw14. -/
import Derived.Test.YtacgjfgiikbjiaaChC
namespace Go.Proofs.Ytacgjfgiikbjiaa
open Go.RowKit Go.Sort
set_option linter.unusedVariables false
set_option linter.unusedSimpArgs false

/-- the checksum after records, and those after each of them. -/
def suV (h : Int) (R : List (List UInt8)) : Int := R.foldl nxV h
def alV : Int → List (List UInt8) → List Int
  | _, [] => []
  | h, l :: R => nxV h l :: alV (nxV h l) R
def st0 : Int := 14695981039346656037
theorem alV_snoc : ∀ (R : List (List UInt8)) (h : Int) (l : List UInt8), alV h (R ++ [l]) = alV h R ++ [nxV (suV h R) l]
  | [], h, l => rfl
  | x :: R, h, l => by
    show nxV h x :: alV (nxV h x) (R ++ [l]) = _
    rw [alV_snoc R (nxV h x) l]; rfl
theorem alV_len : ∀ (R : List (List UInt8)) (h : Int), (alV h R).length = R.length
  | [], h => rfl
  | x :: R, h => by show (alV (nxV h x) R).length + 1 = _; rw [alV_len R]; rfl
theorem suV_take {h : Int} {R : List (List UInt8)} {j : Nat} (hj : j < R.length) : suV h (R.take (j + 1)) = nxV (suV h (R.take j)) R[j] := by
  unfold suV; rw [List.take_succ_eq_append_getElem hj, List.foldl_append, List.foldl_cons, List.foldl_nil]
theorem alV_take {h : Int} {R : List (List UInt8)} {j : Nat} (hj : j < R.length) : alV h (R.take (j + 1)) = alV h (R.take j) ++ [nxV (suV h (R.take j)) R[j]] := by
  rw [List.take_succ_eq_append_getElem hj, alV_snoc]
theorem alV_get : ∀ (R : List (List UInt8)) (h : Int) (j : Nat) (hj : j < (alV h R).length) (hj' : j < R.length), (alV h R)[j] = nxV (suV h (R.take j)) R[j]
  | x :: R, h, 0, hj, hj' => rfl
  | x :: R, h, j + 1, hj, hj' => by
    have := alV_get R (nxV h x) j (by rw [alV_len]; simpa using hj') (by simpa using hj')
    show (alV (nxV h x) R)[j]'_ = _
    rw [this]; rfl
/-- records in memory. -/
def Recs (w : World) (ao : Option Addr) (R : List (List UInt8)) : Prop :=
  ∀ i l, R[i]? = some l → ∃ b off ao' c, ao = some ⟨b, off, none⟩ ∧ b < w.heap.size ∧ w.cell? ⟨b, off + i, none⟩ = some (.slice ao' l.length c) ∧ RowB w ao' l
theorem Recs.below {w w' : World} {ao : Option Addr} {R : List (List UInt8)} (h : Recs w ao R) (hb : Below w.heap.size w w') : Recs w' ao R := by
  intro i l hl
  obtain ⟨b, off, ao', c, e, hlt, hc, hr⟩ := h i l hl
  exact ⟨b, off, ao', c, e, Nat.lt_of_lt_of_le hlt hb.size, by rw [hb.cell hlt]; exact hc, hr.below hb⟩
theorem Recs.at {w : World} {ao : Option Addr} {R : List (List UInt8)} (h : Recs w ao R) (i : Nat) (hi : i < R.length) :
    ∃ b off ao' c, ao = some ⟨b, off, none⟩ ∧ b < w.heap.size ∧ w.cell? ⟨b, off + i, none⟩ = some (.slice ao' R[i].length c) ∧ RowB w ao' R[i] := h i _ (List.getElem?_eq_getElem hi)
theorem und_us : Try.prog.underlying 30 = some (.slice 22) := by kernel_rfl
theorem inf_u64 : (Try.prog.info? 22).map (fun i => (i.zero, i.size, i.bytes)) = some (some (.int .u64 0), 1, 8) := by kernel_rfl
/-- the slice v owns the checksums l. -/
def OwnU (w : World) (base : Nat) (v : Value) (l : List Int) : Prop := OwnV w base 22 v (l.map uV)
theorem OwnU.shape {w : World} {base : Nat} {v : Value} {l : List Int} (h : OwnU w base v l) : ∃ ao cap, v = .slice ao l.length cap := by
  have := OwnV.shape h; rw [List.length_map] at this; exact this
theorem OwnU.row {w : World} {base : Nat} {ao : Option Addr} {n cap : Nat} {l : List Int} (h : OwnU w base (.slice ao n cap) l) : RowU w ao l := OwnV.row h
theorem row_one {w : World} {v : Value} {T : TypeId} : RowV (w.alloc (.cells #[v] T)) (some ⟨w.heap.size, 0, none⟩) [v] :=
  RowV.block (by simp) fun i x hx => by
    match i, hx with
    | 0, hx => rw [World.cell?_alloc_at _ _ _ _ rfl]; simpa using hx
/-- one checksum more. -/
theorem wpList_u {w : World} {ops : Array Oper} {rest : List Oper} {o : Oper} {a : Act} {Q : Exit → Act → World → Prop} (hgd : o.guard = none) (s x : Operand)
    (ho : o.op = .call { callee := .builtin .append, args := #[s, x], argTypes := #[30, 30] })
    (base : Nat) (v : Value) (l : List Int) (hs : a.eval s = v) (hown : OwnU w base v l) (g c : Nat) (y : Int) (hx : a.eval x = .slice (some ⟨g, 0, none⟩) 1 c) (hc : w.cell? ⟨g, 0, none⟩ = some (.int .u64 y)) (hg : g < w.heap.size)
    (hl : l.length < 1000) (hbase : base ≤ w.heap.size)
    (h : ∀ v' w', OwnU w' base v' (l ++ [y]) → Below base w w' → wpList Try.prog ops Q rest (a.put o.dst v') w') : wpList Try.prog ops Q (o :: rest) a w := by
  refine wpList_vals und_us inf_u64 rfl (by omega) hgd s x ho base v (l.map uV) [uV y] hs hown (some ⟨g, 0, none⟩) c hx (fun e => by cases e) ?_ ?_ (by simp; omega) hbase ?_
  · refine RowV.block hg fun i x hx => ?_
    match i, hx with
    | 0, hx => simp at hx; subst hx; exact hc
  · intro y hy; simp at hy; subst hy; rfl
  · intro v' w' h1 h2
    exact h v' w' (by unfold OwnU; rw [List.map_append]; exact h1) h2
/-- how All ends. -/
def AlP (R : List (List UInt8)) (w : World) (e : Ending) (w' : World) : Prop := ∃ v, e = .returned v ∧ OwnU w' w.heap.size v (alV st0 R) ∧ Below w.heap.size w w'
set_option maxHeartbeats 1000000 in
theorem all_any (ao : Option Addr) (c : Nat) (R : List (List UInt8)) (w : World) (hR : Recs w ao R) (hn : R.length ≤ 100) (hl : ∀ l ∈ R, l.length ≤ 10000) :
    Calls Try.prog 16 #[.slice ao R.length c] w fun e w' => AlP R w e w' := by
  have HR := Lib.hid hR
  have HL := Lib.hid hl
  clear hR hl
  go_enter Try.func16, Try.ntmps16
  go_wp2
  go_loopw [2, 3, 8] (fun v s i wr => ∃ j : Nat, j ≤ R.length ∧ i = .int .i64 (j : Int) ∧ s = .int .u64 (suV st0 (R.take j)) ∧ Hid (OwnU wr w.heap.size v (alV st0 (R.take j))) ∧ Hid (Below w.heap.size w wr)) (fun _ _ i _ => R.length - (intOf i).toNat)
  case atStart => exact ⟨0, by omega, by go_num, by simp [suV, st0], Lib.hid (OwnV.nil _ _ _), Lib.hid (Below.refl _ _)⟩
  case round =>
    obtain ⟨j, hj, rfl, rfl, HO, HB⟩ := hrel
    obtain ⟨av, cv, hv⟩ := HO.out.shape
    subst hv
    have hal : (alV st0 (R.take j)).length < 1000 := by rw [alV_len, List.length_take]; omega
    by_cases k : j < R.length
    · have hi : (j : Int) < (R.length : Int) := by omega
      obtain ⟨b, off, ao', c', rfl, hb, hc, hr⟩ := (HR.out.below HB.out).at j k
      have HN := Lib.hid (fun (w : World) (h : RowB w ao' R[j]) => next_any (suV st0 (R.take j)) ao' c' R[j] w h (by have := HL.out R[j] (List.getElem_mem k); omega))
      have HRR := Lib.hid hr
      have HS := Lib.hid (suV_take (h := st0) k)
      have HA := Lib.hid (alV_take (h := st0) k)
      clear hr
      generalize R[j] = x at *
      generalize nxV (suV st0 (R.take j)) x = y at *
      generalize suV st0 (R.take j) = s at *
      generalize alV st0 (R.take j) = L at *
      go_wp2_with fail
      refine (HN.out _ HRR.out).mono ?_
      rintro e W1 ⟨rfl, hb1⟩
      have HB1 := Lib.hid (HB.out.trans (hb1.mono HB.out.size))
      have HO1 := Lib.hid (OwnV.below HO.out hb1)
      clear hb1
      go_wp2_with (at_builtin; refine wpList_u rfl _ _ rfl w.heap.size _ L rfl (OwnV.below HO1.out ((Below.refl _ _).alloc (Nat.le_refl _) _)) W1.heap.size 1 y rfl (by simp) (by simp) (by omega) (by have := HB1.out.size; simp; omega) ?_; intro v' w1 hown hbel; have HO2 := Lib.hid hown; have HB2 := Lib.hid (HB1.out.trans (((Below.refl _ _).alloc (by exact HB1.out.size) _).trans hbel)); clear hown hbel)
      go_roundw
      case rel => exact ⟨j + 1, by omega, by go_num, by rw [HS.out], by rw [HA.out]; exact HO2, HB2⟩
      case measure => simp [intOf]; omega
    · have hi : ¬ (j : Int) < (R.length : Int) := by omega
      have e : R.take j = R := List.take_of_length_le (by omega)
      rw [e] at HO ⊢
      clear e
      go_wp2
      go_ret
      exact ⟨_, rfl, HO.out, HB.out⟩
theorem OwnU.made (w : World) (base : Nat) (h : base ≤ w.heap.size) : OwnU (w.alloc (.cells #[] 22)) base (.slice (some ⟨w.heap.size, 0, none⟩) 0 0) [] :=
  ⟨rfl, .inr ⟨w.heap.size, 0, #[], rfl, h, by unfold World.alloc; simp, by simp, by unfold maxLen; omega, rfl, rfl⟩⟩
set_option maxHeartbeats 1000000 in
theorem rAll_any (ao : Option Addr) (c : Nat) (R : List (List UInt8)) (w : World) (hR : Recs w ao R) (hn : R.length ≤ 100) (hl : ∀ l ∈ R, l.length ≤ 10000) :
    Calls Try.prog 17 #[.slice ao R.length c] w fun e w' => AlP R w e w' := by
  have HR := Lib.hid hR
  have HL := Lib.hid hl
  clear hR hl
  go_enter Try.func17, Try.ntmps17
  go_wp2
  go_loopw [3, 4, 5] (fun v s i wr => ∃ j : Nat, j ≤ R.length ∧ i = .int .i64 (j : Int) ∧ s = .int .u64 (suV st0 (R.take j)) ∧ Hid (OwnU wr w.heap.size v (alV st0 (R.take j))) ∧ Hid (Below w.heap.size w wr)) (fun _ _ i _ => R.length - (intOf i).toNat)
  case atStart => exact ⟨0, by omega, by go_num, by simp [suV, st0], Lib.hid (OwnU.made w _ (Nat.le_refl _)), Lib.hid ((Below.refl _ _).alloc (Nat.le_refl _) _)⟩
  case round =>
    obtain ⟨j, hj, rfl, rfl, HO, HB⟩ := hrel
    obtain ⟨av, cv, hv⟩ := HO.out.shape
    subst hv
    have hal : (alV st0 (R.take j)).length < 1000 := by rw [alV_len, List.length_take]; omega
    by_cases k : j < R.length
    · have hi : (j : Int) < (R.length : Int) := by omega
      obtain ⟨b, off, ao', c', rfl, hb, hc, hr⟩ := (HR.out.below HB.out).at j k
      have HN := Lib.hid (fun (w : World) (h : RowB w ao' R[j]) => rNext_any (suV st0 (R.take j)) ao' c' R[j] w h (by have := HL.out R[j] (List.getElem_mem k); omega))
      have HRR := Lib.hid hr
      have HS := Lib.hid (suV_take (h := st0) k)
      have HA := Lib.hid (alV_take (h := st0) k)
      clear hr
      generalize R[j] = x at *
      generalize nxV (suV st0 (R.take j)) x = y at *
      generalize suV st0 (R.take j) = s at *
      generalize alV st0 (R.take j) = L at *
      go_wp2_with fail
      refine (HN.out _ HRR.out).mono ?_
      rintro e w_ ⟨rfl, rfl⟩
      go_wp2_with (at_builtin; refine wpList_u rfl _ _ rfl w.heap.size _ L rfl (OwnV.below HO.out ((Below.refl _ _).alloc (Nat.le_refl _) _)) wr.heap.size 1 y rfl (by simp) (by simp) (by omega) (by have := HB.out.size; simp; omega) ?_; intro v' w1 hown hbel; have HO2 := Lib.hid hown; have HB2 := Lib.hid (HB.out.trans (((Below.refl _ _).alloc (by exact HB.out.size) _).trans hbel)); clear hown hbel)
      go_roundw
      case rel => exact ⟨j + 1, by omega, by go_num, by rw [HS.out], by rw [HA.out]; exact HO2, HB2⟩
      case measure => simp [intOf]; omega
    · have hi : ¬ (j : Int) < (R.length : Int) := by omega
      have e : R.take j = R := List.take_of_length_le (by omega)
      rw [e] at HO ⊢
      clear e
      go_wp2
      go_ret
      exact ⟨_, rfl, HO.out, HB.out⟩
set_option maxHeartbeats 1000000 in
theorem same_any (a1 a2 : Option Addr) (c1 c2 : Nat) (L M : List Int) (w : World) (h1 : RowU w a1 L) (h2 : RowU w a2 M) (hn : L.length ≤ 1000) (hm : M.length ≤ 1000) :
    Calls Try.prog 15 #[.slice a1 L.length c1, .slice a2 M.length c2] w fun e w' => (L = M → e = .returned (.bool true)) ∧ Below w.heap.size w w' := by
  have H1 := Lib.hid h1
  have H2 := Lib.hid h2
  clear h1 h2
  by_cases he : L.length = M.length
  · have q : ((L.length : Int) != (M.length : Int)) = false := by simp [he]
    have HE := Lib.hid he
    clear he
    go_enter Try.func15, Try.ntmps15
    go_wp2
    go_loopw [5] (fun i wr => ∃ j : Nat, j ≤ L.length ∧ i = .int .i64 (j : Int) ∧ Hid (Below w.heap.size w wr)) (fun i _ => L.length - (intOf i).toNat)
    case atStart => exact ⟨0, by omega, by go_num, Lib.hid (Below.refl _ _)⟩
    case round =>
      obtain ⟨j, hj, rfl, HB⟩ := hrel
      by_cases k : j < L.length
      · have hi : (j : Int) < (L.length : Int) := by omega
        have hi2 : (j : Int) < (M.length : Int) := by have := HE.out; omega
        obtain ⟨b, off, rfl, hb, hc⟩ := (H1.out.below HB.out).at j k
        have k2 : j < M.length := by omega
        obtain ⟨b2, off2, rfl, hb2, hc2⟩ := (H2.out.below HB.out).at j k2
        have HX := Lib.hid (show L = M → L[j] = M[j] from fun e => by subst e; rfl)
        generalize L[j] = x at *
        generalize M[j] = y at *
        by_cases hxy : x = y
        · have q2 : (x != y) = false := by simp [hxy]
          clear hxy
          go_wp2_with fail
          go_quiet (fail)
          go_wp2
          go_roundw
          case rel => exact ⟨j + 1, by omega, by go_num, Lib.hid (HB.out.trans (below_drewN (Below.refl _ _) _))⟩
          case measure => simp [intOf]; omega
        · have q2 : (x != y) = true := by simp [hxy]
          have HY := Lib.hid (show L ≠ M from fun e => hxy (HX.out e))
          clear hxy
          go_wp2_with fail
          go_quiet (fail)
          go_wp2
          go_ret
          exact ⟨fun e => absurd e HY.out, HB.out.trans (below_drewN (Below.refl _ _) _)⟩
      · have hi : ¬ (j : Int) < (L.length : Int) := by omega
        go_wp2
        go_ret
        exact ⟨fun _ => rfl, HB.out⟩
  · have q : ((L.length : Int) != (M.length : Int)) = true := by simp; omega
    have HE := Lib.hid (show L ≠ M from fun e => he (by rw [e]))
    go_enter Try.func15, Try.ntmps15
    go_wp2
    go_ret
    exact ⟨fun e => absurd e HE.out, Below.refl _ _⟩
/-- how large ends. -/
def LgP (R : List (List UInt8)) (e : Ending) : Prop := ∃ b, e = .returned (.bool b) ∧ (b = false → R.length ≤ 40 ∧ ∀ l ∈ R, l.length ≤ 400)
set_option maxHeartbeats 1000000 in
theorem large_any (ao : Option Addr) (c : Nat) (R : List (List UInt8)) (w : World) (hR : Recs w ao R) (hn : R.length ≤ maxLen) (hm : ∀ l ∈ R, l.length ≤ maxLen) :
    Calls Try.prog 14 #[.slice ao R.length c] w fun e w' => LgP R e ∧ w = w' := by
  have HR := Lib.hid hR
  have HM := Lib.hid hm
  clear hR hm
  unfold maxLen at hn
  by_cases h : 40 < R.length
  · have hi : (40 : Int) < (R.length : Int) := by omega
    go_enter Try.func14, Try.ntmps14
    go_wp2
    go_ret
    exact ⟨⟨true, rfl, fun e => by cases e⟩, rfl⟩
  · have hi : ¬ (40 : Int) < (R.length : Int) := by omega
    go_enter Try.func14, Try.ntmps14
    go_wp2
    go_loop [3] (fun i => ∃ j : Nat, j ≤ R.length ∧ i = .int .i64 (j : Int) ∧ Hid (∀ t l, t < j → R[t]? = some l → l.length ≤ 400)) (fun i => R.length - (intOf i).toNat)
    case atStart => exact ⟨0, by omega, by go_num, Lib.hid (fun t l h => by omega)⟩
    case round =>
      obtain ⟨j, hj, rfl, HA⟩ := hrel
      by_cases k : j < R.length
      · have hij : (j : Int) < (R.length : Int) := by omega
        obtain ⟨b, off, ao', c', rfl, hb, hc, hr⟩ := HR.out.at j k
        have hml : R[j].length ≤ maxLen := HM.out R[j] (List.getElem_mem k)
        unfold maxLen at hml
        have HX := Lib.hid (show R[j]? = some R[j] from List.getElem?_eq_getElem k)
        clear hr
        generalize R[j] = x at *
        by_cases h4 : 400 < x.length
        · have q : (400 : Int) < (x.length : Int) := by omega
          go_wp2
          go_ret
          exact ⟨⟨true, rfl, fun e => by cases e⟩, rfl⟩
        · have q : ¬ (400 : Int) < (x.length : Int) := by omega
          go_wp2
          go_round
          case rel =>
            refine ⟨j + 1, by omega, by go_num, Lib.hid (fun t l ht hl => ?_)⟩
            rcases Nat.lt_or_ge t j with p | p
            · exact HA.out t l p hl
            · obtain rfl : t = j := by omega
              rw [HX.out] at hl; injection hl with hl; subst hl; omega
          case measure => simp [intOf]; omega
      · have hij : ¬ (j : Int) < (R.length : Int) := by omega
        go_wp2
        go_ret
        refine ⟨⟨false, rfl, fun _ => ⟨by omega, fun l hl => ?_⟩⟩, rfl⟩
        obtain ⟨t, ht, e⟩ := List.mem_iff_getElem.1 hl
        exact HA.out t l (by omega) (by rw [List.getElem?_eq_getElem ht, e])
end Go.Proofs.Ytacgjfgiikbjiaa
