/- The different keys of cells, as the reference collects them. Written by wip/mk_sib.py. -/
import Derived.Test.YtenhnnfemehbcaaSiA
import Derived.Test.YtenhnnfemehbcaaShV
namespace Go.Proofs.Ytenhnnfemehbcaa
open Go.RowKit Go.Sort
set_option linter.unusedVariables false
set_option linter.unusedSimpArgs false

theorem five_cells {w : World} {g o : Nat} {k : Ky} (h : ∀ j v, (kyC k)[j]? = some v → w.cell? ⟨g, o + j, none⟩ = some v ∧ w.frozen? ⟨g, o + j, none⟩ = false) :
    (w.cell? ⟨g, o, none⟩ = some (.string k.1) ∧ w.cell? ⟨g, o + 1, none⟩ = some (.string k.2.1) ∧ w.cell? ⟨g, o + 2, none⟩ = some (.string k.2.2.1) ∧ w.cell? ⟨g, o + 3, none⟩ = some (.string k.2.2.2.1) ∧ w.cell? ⟨g, o + 4, none⟩ = some (.string k.2.2.2.2)) ∧
    (w.frozen? ⟨g, o, none⟩ = false ∧ w.frozen? ⟨g, o + 1, none⟩ = false ∧ w.frozen? ⟨g, o + 2, none⟩ = false ∧ w.frozen? ⟨g, o + 3, none⟩ = false ∧ w.frozen? ⟨g, o + 4, none⟩ = false) :=
  ⟨⟨(h 0 _ rfl).1, (h 1 _ rfl).1, (h 2 _ rfl).1, (h 3 _ rfl).1, (h 4 _ rfl).1⟩, ⟨(h 0 _ rfl).2, (h 1 _ rfl).2, (h 2 _ rfl).2, (h 3 _ rfl).2, (h 4 _ rfl).2⟩⟩
theorem OwnK.five {w : World} {base g n cap : Nat} {K : List Ky} (h : OwnK w base (.slice (some ⟨g, 0, none⟩) n cap) K) {i : Nat} (hi : i < K.length) {k : Ky} (hk : K[i] = k) :
    (w.cell? ⟨g, i * 5, none⟩ = some (.string k.1) ∧ w.cell? ⟨g, i * 5 + 1, none⟩ = some (.string k.2.1) ∧ w.cell? ⟨g, i * 5 + 2, none⟩ = some (.string k.2.2.1) ∧ w.cell? ⟨g, i * 5 + 3, none⟩ = some (.string k.2.2.2.1) ∧ w.cell? ⟨g, i * 5 + 4, none⟩ = some (.string k.2.2.2.2)) ∧
    (w.frozen? ⟨g, i * 5, none⟩ = false ∧ w.frozen? ⟨g, i * 5 + 1, none⟩ = false ∧ w.frozen? ⟨g, i * 5 + 2, none⟩ = false ∧ w.frozen? ⟨g, i * 5 + 3, none⟩ = false ∧ w.frozen? ⟨g, i * 5 + 4, none⟩ = false) :=
  five_cells (k := k) (o := i * 5) fun j v hv => h.at hi j v (by rw [hk]; exact hv)
theorem OwnK.lt {w : World} {base g n cap : Nat} {K : List Ky} (h : OwnK w base (.slice (some ⟨g, 0, none⟩) n cap) K) : g < w.heap.size ∧ base ≤ g := by
  rcases h.2 with ⟨e, _⟩ | ⟨g', cap', cur, e, hb, hg, _⟩
  · cases e
  · injection e with e _ _
    injection e with e
    injection e with e
    subst e
    exact ⟨lt_of_block hg, hb⟩
theorem OwnK.lower {w : World} {base base' : Nat} {v : Value} {L : List Ky} (h : OwnK w base v L) (hb : base' ≤ base) : OwnK w base' v L := by
  refine ⟨h.1, ?_⟩
  rcases h.2 with q | ⟨g, cap, cur, e1, e2, e3⟩
  · exact .inl q
  · exact .inr ⟨g, cap, cur, e1, Nat.le_trans hb e2, e3⟩
theorem insK_len' (k : Ky) : ∀ K : List Ky, (insK k K).length ≤ K.length + 1
  | [] => by simp [insK]
  | a :: x => by
    unfold insK
    split
    · simp
    · split
      · simp
      · have := insK_len' k x
        simp only [List.length_cons]
        omega
theorem keysK_len' : ∀ L : List Cl, (keysK L).length ≤ L.length
  | [] => Nat.le_refl _
  | c :: r => by
    have h1 := insK_len' c.1 (keysK r)
    have h2 := keysK_len' r
    show (insK c.1 (keysK r)).length ≤ _
    simp only [List.length_cons]
    omega
theorem keys_le (L : List Cl) (i : Nat) : (keysK (L.take i)).length ≤ i := by
  have h := keysK_len' (L.take i)
  rw [List.length_take] at h
  omega
set_option maxRecDepth 100000 in
set_option maxHeartbeats 2000000 in
theorem rKeys_any (A : Option Addr) (c : Nat) (L : List Cl) (w : World) (hR : RowS w A L) (hl : L.length ≤ 2000) :
    Calls Try.prog 45 #[.slice A L.length c] w fun e w' => ∃ v, e = .returned v ∧ OwnK w' w.heap.size v (keysK L) ∧ Below w.heap.size w w' := by
  have HR := Lib.hid hR
  clear hR
  go_enter Try.func45, Try.ntmps45
  go_wp2
  go_loopw [3, 4] (fun v x wr => ∃ (vo : Value) (i : Nat), vo = v ∧ i ≤ L.length ∧ x = .int .i64 i ∧ Hid (OwnK wr w.heap.size vo (keysK (L.take i))) ∧ Hid (Below w.heap.size w wr)) (fun _ x _ => L.length - (intOf x).toNat)
  case atStart => exact ⟨_, 0, rfl, Nat.zero_le _, rfl, Lib.hid (OwnK.nil _ _), Lib.hid (Below.refl _ _)⟩
  case round =>
    obtain ⟨vo, i, rfl, hi, rfl, HO, HB⟩ := hrel
    by_cases h : i < L.length
    · have h' : (i : Int) < (L.length : Int) := by omega
      have h'' : (0 : Int) ≤ (i : Int) := by omega
      obtain ⟨b, off, rfl, hbl, c0, c1, c2, c3, c4, c5, c6⟩ := HR.out.at h
      have HT := Lib.hid (keys_take h)
      have hKl := keys_le L i
      have HI := Lib.hid ((keysK_of (L.take i)).inc)
      obtain ⟨x, hx⟩ : ∃ x, L[i] = x := ⟨_, rfl⟩
      rw [hx] at c0 c1 c2 c3 c4 c5 c6 HT
      clear hx
      obtain ⟨⟨a1, a2, a3, a4, a5⟩, m, n⟩ := x
      dsimp only at c0 c1 c2 c3 c4 c5 c6 HT
      generalize keysK (L.take i) = K at *
      obtain ⟨ao, cap, rfl, hsh⟩ := HO.out.shape
      go_wp2_with fail
      go_loopw [5] (fun x wq => ∃ k : Nat, x = .int .i64 k ∧ k ≤ K.length ∧ Hid (∀ j, (hj : j < K.length) → k ≤ j → 0 < cmpK K[j] (a1, a2, a3, a4, a5)) ∧ Hid (OwnK wq w.heap.size (.slice ao K.length cap) K) ∧ Hid (Below w.heap.size w wq)) (fun x _ => (intOf x).toNat)
      case atStart => exact ⟨K.length, rfl, Nat.le_refl _, Lib.hid (fun j h1 h2 => absurd h1 (by omega)), HO, HB⟩
      case round =>
        clear HO HB
        obtain ⟨k, rfl, hkn, HG, HO, HB⟩ := hrel
        by_cases hk0 : 0 < k
        · obtain ⟨B, rfl⟩ : ∃ B, k = B + 1 := ⟨k - 1, by omega⟩
          have hBK : B < K.length := by omega
          obtain ⟨g, rfl, hgb, _⟩ := hsh (by omega)
          have hgl := HO.out.lt.1
          obtain ⟨⟨e0, e1, e2, e3, e4⟩, _⟩ := HO.out.five (i := B) hBK rfl
          have HLs := Lib.hid (show ¬ 0 < cmpK K[B] (a1, a2, a3, a4, a5) → K[B] ≠ (a1, a2, a3, a4, a5) → ∀ j, (hj : j < K.length) → j < B + 1 → cmpK K[j] (a1, a2, a3, a4, a5) < 0 from fun z1 z2 j hj hjk => by
            rcases Nat.lt_or_ge j B with u | u
            · exact inc_ahead HI.out (q := (a1, a2, a3, a4, a5)) hBK (by omega) j hj u
            · have e : j = B := by omega
              subst e
              have h1 := cmpK_eq (a := K[j]) (b := (a1, a2, a3, a4, a5))
              have h2 : ¬ cmpK K[j] (a1, a2, a3, a4, a5) = 0 := fun q => z2 (h1.1 q)
              omega)
          have HCb := Lib.hid (cmpK_bd K[B] (a1, a2, a3, a4, a5))
          have HMe := Lib.hid (List.getElem_mem hBK)
          have HNx := Lib.hid (show 0 < cmpK K[B] (a1, a2, a3, a4, a5) → ∀ j, (hj : j < K.length) → B ≤ j → 0 < cmpK K[j] (a1, a2, a3, a4, a5) from fun z j hj hBj => by
            rcases Nat.lt_or_ge B j with u | u
            · exact HG.out j hj u
            · have e : j = B := by omega
              subst e; exact z)
          obtain ⟨u, hu⟩ : ∃ u, K[B] = u := ⟨_, rfl⟩
          rw [hu] at e0 e1 e2 e3 e4 HLs HCb HMe HNx
          clear hu
          obtain ⟨u1, u2, u3, u4, u5⟩ := u
          dsimp only at e0 e1 e2 e3 e4
          have HC := Lib.hid (rCmp5_any u1 u2 u3 u4 u5 a1 a2 a3 a4 a5)
          obtain ⟨cv, hcv⟩ : ∃ cv, cmpK (u1, u2, u3, u4, u5) (a1, a2, a3, a4, a5) = cv := ⟨_, rfl⟩
          rw [hcv] at HC HLs HCb HNx
          clear hcv
          have l0 := (HB.out.cell hbl).trans c0
          have l1 := (HB.out.cell hbl).trans c1
          have l2 := (HB.out.cell hbl).trans c2
          have l3 := (HB.out.cell hbl).trans c3
          have l4 := (HB.out.cell hbl).trans c4
          have hbw : b < wr.heap.size := Nat.lt_of_lt_of_le hbl HB.out.size
          have z1 : (0 : Int) < ((B + 1 : Nat) : Int) := by omega
          have z2 : ((B + 1 : Nat) : Int) - 1 = (B : Int) := by omega
          have z3 : (0 : Int) ≤ (B : Int) := by omega
          have z4 : (B : Int) < (K.length : Int) := by omega
          have z5 : IntKind.i64.wrap (((B + 1 : Nat) : Int) - 1) = (B : Int) := by rw [z2, IntKind.wrap_i64]; omega
          have z6 : IntKind.i64.wrap (B : Int) = (B : Int) := by rw [IntKind.wrap_i64]; omega
          have HS0 := Lib.hid (show Below wr.heap.size wr (wr.drewN 1) from below_drewN (Below.refl _ _) 1)
          go_wp2_with fail
          refine gk_region (fun x => Below wr.heap.size wr x) (fun _ => false) (by kernel_rfl) ?_
          change Hid (Below wr.heap.size wr wr.drew) at HS0
          generalize wr.drew = x0 at *
          -- take 0
          refine gk_take (i := 0) (v := ?_) rfl (by kernel_rfl) (by kernel_rfl) (by kernel_rfl) (by kernel_rfl) (fun _ _ _ h => h) (Or.inl ⟨by kernel_rfl, ?_⟩) HS0.out ?_
          rotate_left
          · ((intro x hx; clear hx; go_simp) <;> with_reducible rfl)
          try simp only [Act.put, List.setIfInBounds_toArray, List.set_cons_zero, List.set_cons_succ]
          -- take 1
          refine gk_take (i := 1) (v := .bool true) rfl (by kernel_rfl) (by kernel_rfl) (by kernel_rfl) (by kernel_rfl) (fun _ _ _ h => h) (Or.inl ⟨by kernel_rfl, ?_⟩) HS0.out ?_
          · intro x hx; clear hx; go_simp; try simp [z1]
          try simp only [Act.put, List.setIfInBounds_toArray, List.set_cons_zero, List.set_cons_succ]
          -- take 2
          refine gk_take (i := 2) (v := .bool true) rfl (by kernel_rfl) (by kernel_rfl) (by kernel_rfl) (by kernel_rfl) (fun _ _ _ h => h) (Or.inl ⟨by kernel_rfl, ?_⟩) HS0.out ?_
          · intro x hx; clear hx; go_simp; try simp []
          try simp only [Act.put, List.setIfInBounds_toArray, List.set_cons_zero, List.set_cons_succ]
          -- take 3
          refine gk_take (i := 3) (v := ?_) rfl (by kernel_rfl) (by kernel_rfl) (by kernel_rfl) (by kernel_rfl) (fun _ _ _ h => h) (Or.inl ⟨by kernel_rfl, ?_⟩) HS0.out ?_
          rotate_left
          · ((intro x hx; clear hx; go_simp) <;> with_reducible rfl)
          try simp only [Act.put, List.setIfInBounds_toArray, List.set_cons_zero, List.set_cons_succ]
          -- take 4
          refine gk_take (i := 4) (v := ?_) rfl (by kernel_rfl) (by kernel_rfl) (by kernel_rfl) (by kernel_rfl) (fun _ _ _ h => h) (Or.inl ⟨by kernel_rfl, ?_⟩) HS0.out ?_
          rotate_left
          · ((intro x hx; clear hx; go_simp) <;> with_reducible rfl)
          try simp only [Act.put, List.setIfInBounds_toArray, List.set_cons_zero, List.set_cons_succ]
          -- take 5
          refine gk_take (i := 5) (v := .int .i64 (B : Int)) rfl (by kernel_rfl) (by kernel_rfl) (by kernel_rfl) (by kernel_rfl) (fun _ _ _ h => h) (Or.inl ⟨by kernel_rfl, ?_⟩) HS0.out ?_
          · intro x hx; clear hx; go_simp; try simp [z2, z5, z6]
          try simp only [Act.put, List.setIfInBounds_toArray, List.set_cons_zero, List.set_cons_succ]
          -- take 6
          refine gk_take (i := 6) (v := ?_) rfl (by kernel_rfl) (by kernel_rfl) (by kernel_rfl) (by kernel_rfl) (fun _ _ _ h => h) (Or.inl ⟨by kernel_rfl, ?_⟩) HS0.out ?_
          rotate_left
          · ((intro x hx; clear hx; go_simp) <;> with_reducible rfl)
          try simp only [Act.put, List.setIfInBounds_toArray, List.set_cons_zero, List.set_cons_succ]
          -- take 7
          refine gk_take (i := 7) (v := ?_) rfl (by kernel_rfl) (by kernel_rfl) (by kernel_rfl) (by kernel_rfl) (fun _ _ _ h => h) (Or.inl ⟨by kernel_rfl, ?_⟩) HS0.out ?_
          rotate_left
          · ((intro x hx; have p0 := (hx.cell hgl).trans e0; have p1 := (hx.cell hgl).trans e1; have p2 := (hx.cell hgl).trans e2; have p3 := (hx.cell hgl).trans e3; have p4 := (hx.cell hgl).trans e4; clear hx; go_simp) <;> with_reducible rfl)
          try simp only [Act.put, List.setIfInBounds_toArray, List.set_cons_zero, List.set_cons_succ]
          -- take 8
          refine gk_take (i := 8) (v := ?_) rfl (by kernel_rfl) (by kernel_rfl) (by kernel_rfl) (by kernel_rfl) (fun _ _ _ h => h) (Or.inl ⟨by kernel_rfl, ?_⟩) HS0.out ?_
          rotate_left
          · ((intro x hx; clear hx; go_simp) <;> with_reducible rfl)
          try simp only [Act.put, List.setIfInBounds_toArray, List.set_cons_zero, List.set_cons_succ]
          -- take 9
          refine gk_take (i := 9) (v := ?_) rfl (by kernel_rfl) (by kernel_rfl) (by kernel_rfl) (by kernel_rfl) (fun _ _ _ h => h) (Or.inl ⟨by kernel_rfl, ?_⟩) HS0.out ?_
          rotate_left
          · ((intro x hx; clear hx; go_simp) <;> with_reducible rfl)
          try simp only [Act.put, List.setIfInBounds_toArray, List.set_cons_zero, List.set_cons_succ]
          -- take 10
          refine gk_take (i := 10) (v := ?_) rfl (by kernel_rfl) (by kernel_rfl) (by kernel_rfl) (by kernel_rfl) (fun _ _ _ h => h) (Or.inl ⟨by kernel_rfl, ?_⟩) HS0.out ?_
          rotate_left
          · ((intro x hx; clear hx; go_simp) <;> with_reducible rfl)
          try simp only [Act.put, List.setIfInBounds_toArray, List.set_cons_zero, List.set_cons_succ]
          -- take 11
          refine gk_take (i := 11) (v := ?_) rfl (by kernel_rfl) (by kernel_rfl) (by kernel_rfl) (by kernel_rfl) (fun _ _ _ h => h) (Or.inl ⟨by kernel_rfl, ?_⟩) HS0.out ?_
          rotate_left
          · ((intro x hx; clear hx; go_simp) <;> with_reducible rfl)
          try simp only [Act.put, List.setIfInBounds_toArray, List.set_cons_zero, List.set_cons_succ]
          -- take 12
          refine gk_take (i := 12) (v := ?_) rfl (by kernel_rfl) (by kernel_rfl) (by kernel_rfl) (by kernel_rfl) (fun _ _ _ h => h) (Or.inl ⟨by kernel_rfl, ?_⟩) HS0.out ?_
          rotate_left
          · ((intro x hx; have p0 := (hx.cell hbw).trans l0; have p1 := (hx.cell hbw).trans l1; have p2 := (hx.cell hbw).trans l2; have p3 := (hx.cell hbw).trans l3; have p4 := (hx.cell hbw).trans l4; clear hx; go_simp) <;> with_reducible rfl)
          try simp only [Act.put, List.setIfInBounds_toArray, List.set_cons_zero, List.set_cons_succ]
          refine gk_one (i := 13) rfl (by kernel_rfl) (fun K hK => ?_)
          go_simp
          go_at_call 13
          refine (HC.out _).mono ?_
          rintro e w5 ⟨rfl, hg⟩
          have HS5 := Lib.hid (HS0.out.trans (hg.b.mono HS0.out.size))
          have HB5 := Lib.hid (HB.out.trans (HS5.out.mono HB.out.size))
          have HO5 := Lib.hid (HO.out.below HS5.out)
          refine hK _ _ (fun _ => HS5.out) ?_
          clear hK K hg HS0 HC
          try simp only [Act.put, List.setIfInBounds_toArray, List.set_cons_zero, List.set_cons_succ]
          by_cases hcp : 0 < cv
          · have HN := Lib.hid (HNx.out hcp)
            clear HNx HLs HMe
            -- take 14
            refine gk_take (i := 14) (v := .bool true) rfl (by kernel_rfl) (by kernel_rfl) (by kernel_rfl) (by kernel_rfl) (fun _ _ _ h => h) (Or.inl ⟨by kernel_rfl, ?_⟩) HS5.out ?_
            · intro x hx; clear hx; go_simp; try simp [hcp]
            try simp only [Act.put, List.setIfInBounds_toArray, List.set_cons_zero, List.set_cons_succ]
            -- take 15
            refine gk_take (i := 15) (v := .bool true) rfl (by kernel_rfl) (by kernel_rfl) (by kernel_rfl) (by kernel_rfl) (fun _ _ _ h => h) (Or.inl ⟨by kernel_rfl, ?_⟩) HS5.out ?_
            · intro x hx; clear hx; go_simp; try simp [hcp]
            try simp only [Act.put, List.setIfInBounds_toArray, List.set_cons_zero, List.set_cons_succ]
            refine gk_done (by kernel_rfl) ?_ _
            try simp only [Act.put, List.setIfInBounds_toArray, List.set_cons_zero, List.set_cons_succ]
            clear HB HO HS5 e0 e1 e2 e3 e4 l0 l1 l2 l3 l4
            try go_simp
            go_wp2
            go_roundw
            case rel => exact ⟨B, by first | rfl | go_num, by omega, HN, HO5, HB5⟩
            case measure => simp [intOf]
          · have HPn := Lib.hid (HLs.out (by omega))
            clear HNx HLs
            -- take 14
            refine gk_take (i := 14) (v := .bool false) rfl (by kernel_rfl) (by kernel_rfl) (by kernel_rfl) (by kernel_rfl) (fun _ _ _ h => h) (Or.inl ⟨by kernel_rfl, ?_⟩) HS5.out ?_
            · intro x hx; clear hx; go_simp; try simp [hcp]
            try simp only [Act.put, List.setIfInBounds_toArray, List.set_cons_zero, List.set_cons_succ]
            -- take 15
            refine gk_take (i := 15) (v := .bool false) rfl (by kernel_rfl) (by kernel_rfl) (by kernel_rfl) (by kernel_rfl) (fun _ _ _ h => h) (Or.inl ⟨by kernel_rfl, ?_⟩) HS5.out ?_
            · intro x hx; clear hx; go_simp; try simp [hcp]
            try simp only [Act.put, List.setIfInBounds_toArray, List.set_cons_zero, List.set_cons_succ]
            refine gk_done (by kernel_rfl) ?_ _
            try simp only [Act.put, List.setIfInBounds_toArray, List.set_cons_zero, List.set_cons_succ]
            try go_simp
            have p0 := (HS5.out.cell hgl).trans e0
            have p1 := (HS5.out.cell hgl).trans e1
            have p2 := (HS5.out.cell hgl).trans e2
            have p3 := (HS5.out.cell hgl).trans e3
            have p4 := (HS5.out.cell hgl).trans e4
            have q0 := (HS5.out.cell hbw).trans l0
            have q1 := (HS5.out.cell hbw).trans l1
            have q2 := (HS5.out.cell hbw).trans l2
            have q3 := (HS5.out.cell hbw).trans l3
            have q4 := (HS5.out.cell hbw).trans l4
            clear HB HO HS5 e0 e1 e2 e3 e4 l0 l1 l2 l3 l4
            by_cases heq : ((u1, u2, u3, u4, u5) : Ky) = (a1, a2, a3, a4, a5)
            · have qeq : ∀ w, (binOp .eql 23 (.agg #[.string u1, .string u2, .string u3, .string u4, .string u5]) (.agg #[.string a1, .string a2, .string a3, .string a4, .string a5])).run Try.prog w = .ok (.bool true) w := fun w => by rw [eq_keys, decide_eq_true heq]
              rw [heq] at HMe
              have HT2 := Lib.hid (HT.out.trans (ins_same HI.out HMe.out))
              clear heq HPn HMe HT
              go_wp2_with fail
              go_quiet (fail)
              have HB6 := Lib.hid (below_drewN HB5.out nq)
              have HO6 := Lib.hid (show OwnK (w5.drewN nq) w.heap.size (.slice (some ⟨g, 0, none⟩) K.length cap) (keysK (L.take (i + 1))) from by rw [HT2.out]; exact HO5.out.below (below_drewN (Below.refl _ _) nq))
              clear HB5 HO5 p0 p1 p2 p3 p4 q0 q1 q2 q3 q4
              go_wp2
              go_roundw
              case rel => exact ⟨_, i + 1, rfl, by omega, by go_num, HO6, HB6⟩
              case measure => simp [intOf]; omega
            · have qeq : ∀ w, (binOp .eql 23 (.agg #[.string u1, .string u2, .string u3, .string u4, .string u5]) (.agg #[.string a1, .string a2, .string a3, .string a4, .string a5])).run Try.prog w = .ok (.bool false) w := fun w => by rw [eq_keys, decide_eq_false heq]
              have HIns := Lib.hid (ins_at (q := (a1, a2, a3, a4, a5)) (K := K) (k := B + 1) hkn (HPn.out heq) HG.out)
              clear heq HPn HMe
              go_wp2_with fail
              go_quiet (fail)
              have HBp := Lib.hid (below_drewN HB5.out nq)
              have HOp := Lib.hid (HO5.out.below (below_drewN (Below.refl _ _) nq))
              generalize w5.drewN nq = wx at *
              clear HB5 HO5 p0 p1 p2 p3 p4 q0 q1 q2 q3 q4
              have hA : Below wx.heap.size wx (wx.alloc (Obj.cells #[.string ⟨#[]⟩, .string ⟨#[]⟩, .string ⟨#[]⟩, .string ⟨#[]⟩, .string ⟨#[]⟩] 23)) := (Below.refl _ _).alloc (Nat.le_refl _) _
              have HO6 := Lib.hid (HOp.out.below hA)
              have HB6 := Lib.hid (HBp.out.trans (hA.mono HBp.out.size))
              have hs6 : w.heap.size ≤ (wx.alloc (Obj.cells #[.string ⟨#[]⟩, .string ⟨#[]⟩, .string ⟨#[]⟩, .string ⟨#[]⟩, .string ⟨#[]⟩] 23)).heap.size := HB6.out.size
              have HRk := Lib.hid (row_key wx (⟨#[]⟩, ⟨#[]⟩, ⟨#[]⟩, ⟨#[]⟩, ⟨#[]⟩) 23)
              clear hA HOp HBp
              go_wp2_with (at_builtin; (refine wpList_key rfl (.tmp 48) (.tmp 50) rfl w.heap.size _ K (⟨#[]⟩, ⟨#[]⟩, ⟨#[]⟩, ⟨#[]⟩, ⟨#[]⟩) rfl HO6.out ⟨wx.heap.size, 0, none⟩ 1 rfl HRk.out (by omega) hs6 ?_; intro v7 w7 o7 hb7; rw [shf_last] at o7; obtain ⟨ao7, c7, e7, hg7⟩ := o7.shape; rw [shf_len] at e7 hg7; obtain ⟨N1, hN1⟩ : ∃ N1, N1 = K.length + 1 := ⟨_, rfl⟩; rw [← hN1] at e7; obtain ⟨g7, e8, hgb7, hgl7⟩ := hg7 (by omega); subst e8; subst e7; have z1 : (N1 : Int) - 1 = (K.length : Int) := (by omega); have z0 : N1 ≤ 2001 := (by omega); have HO7 := Lib.hid o7; have HB7 := Lib.hid (HB6.out.trans hb7); clear hg7 o7 hb7))
              clear HO6 HB6 HRk
              go_loopw [6] (fun x wq => ∃ (j : Nat) (z : Ky), x = .int .i64 j ∧ (B + 1) ≤ j ∧ j ≤ K.length ∧ Hid (OwnK wq w.heap.size (.slice (some ⟨g7, 0, none⟩) N1 c7) (shfK K j z)) ∧ Hid (Below w.heap.size w wq)) (fun x _ => (intOf x).toNat)
              case atStart => exact ⟨K.length, _, by first | rfl | go_num, hkn, Nat.le_refl _, HO7, HB7⟩
              case round =>
                clear HO7 HB7
                obtain ⟨j, z, rfl, hkj, hjn, HO8, HB8⟩ := hrel
                by_cases hj : (B + 1) < j
                · have hj' : (((B + 1) : Nat) : Int) < (j : Int) := by omega
                  obtain ⟨B, rfl⟩ : ∃ B, j = B + 1 := ⟨j - 1, by omega⟩
                  have hBK : B < K.length := by omega
                  have hlen := shf_len K (B + 1) z
                  obtain ⟨⟨e0, e1, e2, e3, e4⟩, _⟩ := HO8.out.five (i := B) (by omega) (shf_before hBK z)
                  obtain ⟨y, hy⟩ : ∃ y, (shfK K (B + 1) z)[B + 1]'(by omega) = y := ⟨_, rfl⟩
                  obtain ⟨⟨d0, d1, d2, d3, d4⟩, ⟨f0, f1, f2, f3, f4⟩⟩ := HO8.out.five (i := B + 1) (by omega) hy
                  have HO9 := Lib.hid (fun x1 x2 x3 x4 x5 => HO8.out.set (k := B + 1) (by omega) x1 x2 x3 x4 x5)
                  have HSt := Lib.hid (shf_step hBK z)
                  have hgw := HO8.out.lt
                  obtain ⟨u, hu⟩ : ∃ u, K[B] = u := ⟨_, rfl⟩
                  rw [hu] at e0 e1 e2 e3 e4 HSt
                  clear hy hu hlen
                  obtain ⟨u1, u2, u3, u4, u5⟩ := u
                  dsimp only at e0 e1 e2 e3 e4
                  have HOa := Lib.hid (HO9.out u1 u2 u3 u4 u5)
                  rw [HSt.out] at HOa
                  have HBa := Lib.hid (((((HB8.out.setCell (p := ⟨g7, (B + 1) * 5, none⟩) hgb7 (.string u1)).setCell (p := ⟨g7, (B + 1) * 5 + 1, none⟩) hgb7 (.string u2)).setCell (p := ⟨g7, (B + 1) * 5 + 2, none⟩) hgb7 (.string u3)).setCell (p := ⟨g7, (B + 1) * 5 + 3, none⟩) hgb7 (.string u4)).setCell (p := ⟨g7, (B + 1) * 5 + 4, none⟩) hgb7 (.string u5))
                  have z2 : ((B + 1 : Nat) : Int) - 1 = (B : Int) := by omega
                  have z3 : (0 : Int) ≤ (B : Int) := by omega
                  have z4 : (B : Int) < (N1 : Int) := by omega
                  have z5 : ((B + 1 : Nat) : Int) < (N1 : Int) := by omega
                  have z6 : (0 : Int) ≤ ((B + 1 : Nat) : Int) := by omega
                  clear HO8 HB8 HO9 HSt
                  go_wp2
                  go_roundw
                  case rel => exact ⟨B, _, by first | rfl | go_num, by omega, by omega, HOa, HBa⟩
                  case measure => simp [intOf]
                · obtain rfl : j = (B + 1) := by omega
                  have hj' : ¬ (((B + 1) : Nat) : Int) < (((B + 1) : Nat) : Int) := by omega
                  have hlen := shf_len K (B + 1) z
                  obtain ⟨y, hy⟩ : ∃ y, (shfK K (B + 1) z)[(B + 1)]'(by omega) = y := ⟨_, rfl⟩
                  obtain ⟨⟨d0, d1, d2, d3, d4⟩, ⟨f0, f1, f2, f3, f4⟩⟩ := HO8.out.five (i := (B + 1)) (by omega) hy
                  have HOa := Lib.hid (HO8.out.set (k := (B + 1)) (by omega) a1 a2 a3 a4 a5)
                  rw [shf_put hkn, ← HIns.out, ← HT.out] at HOa
                  have HBa := Lib.hid (((((HB8.out.setCell (p := ⟨g7, (B + 1) * 5, none⟩) hgb7 (.string a1)).setCell (p := ⟨g7, (B + 1) * 5 + 1, none⟩) hgb7 (.string a2)).setCell (p := ⟨g7, (B + 1) * 5 + 2, none⟩) hgb7 (.string a3)).setCell (p := ⟨g7, (B + 1) * 5 + 3, none⟩) hgb7 (.string a4)).setCell (p := ⟨g7, (B + 1) * 5 + 4, none⟩) hgb7 (.string a5))
                  have l0 := (HB8.out.cell hbl).trans c0
                  have l1 := (HB8.out.cell hbl).trans c1
                  have l2 := (HB8.out.cell hbl).trans c2
                  have l3 := (HB8.out.cell hbl).trans c3
                  have l4 := (HB8.out.cell hbl).trans c4
                  have z3 : (0 : Int) ≤ (((B + 1) : Nat) : Int) := by omega
                  have z4 : (((B + 1) : Nat) : Int) < (N1 : Int) := by omega
                  clear HO8 HB8 hy hlen
                  go_wp2
                  go_roundw
                  case rel => exact ⟨_, i + 1, rfl, by omega, by go_num, (by first | exact HOa | (subst hN1; exact HOa)), HBa⟩
                  case measure => simp [intOf]; omega
        · obtain rfl : k = 0 := by omega
          have HIns := Lib.hid (ins_at (q := (a1, a2, a3, a4, a5)) (K := K) (k := 0) hkn (fun j hj hjk => absurd hjk (by omega)) HG.out)
          go_wp2_with fail
          go_quiet (fail)
          have HB5 := Lib.hid (below_drewN HB.out nq)
          have HO5 := Lib.hid (HO.out.below (below_drewN (Below.refl _ _) nq))
          generalize wr.drewN nq = wy at *
          clear HB HO
          go_wp2_with fail
          go_quiet (fail)
          have HBp := Lib.hid (below_drewN HB5.out nq)
          have HOp := Lib.hid (HO5.out.below (below_drewN (Below.refl _ _) nq))
          generalize wy.drewN nq = wx at *
          clear HB5 HO5
          have hA : Below wx.heap.size wx (wx.alloc (Obj.cells #[.string ⟨#[]⟩, .string ⟨#[]⟩, .string ⟨#[]⟩, .string ⟨#[]⟩, .string ⟨#[]⟩] 23)) := (Below.refl _ _).alloc (Nat.le_refl _) _
          have HO6 := Lib.hid (HOp.out.below hA)
          have HB6 := Lib.hid (HBp.out.trans (hA.mono HBp.out.size))
          have hs6 : w.heap.size ≤ (wx.alloc (Obj.cells #[.string ⟨#[]⟩, .string ⟨#[]⟩, .string ⟨#[]⟩, .string ⟨#[]⟩, .string ⟨#[]⟩] 23)).heap.size := HB6.out.size
          have HRk := Lib.hid (row_key wx (⟨#[]⟩, ⟨#[]⟩, ⟨#[]⟩, ⟨#[]⟩, ⟨#[]⟩) 23)
          clear hA HOp HBp
          go_wp2_with (at_builtin; (refine wpList_key rfl (.tmp 48) (.tmp 50) rfl w.heap.size _ K (⟨#[]⟩, ⟨#[]⟩, ⟨#[]⟩, ⟨#[]⟩, ⟨#[]⟩) rfl HO6.out ⟨wx.heap.size, 0, none⟩ 1 rfl HRk.out (by omega) hs6 ?_; intro v7 w7 o7 hb7; rw [shf_last] at o7; obtain ⟨ao7, c7, e7, hg7⟩ := o7.shape; rw [shf_len] at e7 hg7; obtain ⟨N1, hN1⟩ : ∃ N1, N1 = K.length + 1 := ⟨_, rfl⟩; rw [← hN1] at e7; obtain ⟨g7, e8, hgb7, hgl7⟩ := hg7 (by omega); subst e8; subst e7; have z1 : (N1 : Int) - 1 = (K.length : Int) := (by omega); have z0 : N1 ≤ 2001 := (by omega); have HO7 := Lib.hid o7; have HB7 := Lib.hid (HB6.out.trans hb7); clear hg7 o7 hb7))
          clear HO6 HB6 HRk
          go_loopw [6] (fun x wq => ∃ (j : Nat) (z : Ky), x = .int .i64 j ∧ 0 ≤ j ∧ j ≤ K.length ∧ Hid (OwnK wq w.heap.size (.slice (some ⟨g7, 0, none⟩) N1 c7) (shfK K j z)) ∧ Hid (Below w.heap.size w wq)) (fun x _ => (intOf x).toNat)
          case atStart => exact ⟨K.length, _, by first | rfl | go_num, hkn, Nat.le_refl _, HO7, HB7⟩
          case round =>
            clear HO7 HB7
            obtain ⟨j, z, rfl, hkj, hjn, HO8, HB8⟩ := hrel
            by_cases hj : 0 < j
            · have hj' : ((0 : Nat) : Int) < (j : Int) := by omega
              obtain ⟨B, rfl⟩ : ∃ B, j = B + 1 := ⟨j - 1, by omega⟩
              have hBK : B < K.length := by omega
              have hlen := shf_len K (B + 1) z
              obtain ⟨⟨e0, e1, e2, e3, e4⟩, _⟩ := HO8.out.five (i := B) (by omega) (shf_before hBK z)
              obtain ⟨y, hy⟩ : ∃ y, (shfK K (B + 1) z)[B + 1]'(by omega) = y := ⟨_, rfl⟩
              obtain ⟨⟨d0, d1, d2, d3, d4⟩, ⟨f0, f1, f2, f3, f4⟩⟩ := HO8.out.five (i := B + 1) (by omega) hy
              have HO9 := Lib.hid (fun x1 x2 x3 x4 x5 => HO8.out.set (k := B + 1) (by omega) x1 x2 x3 x4 x5)
              have HSt := Lib.hid (shf_step hBK z)
              have hgw := HO8.out.lt
              obtain ⟨u, hu⟩ : ∃ u, K[B] = u := ⟨_, rfl⟩
              rw [hu] at e0 e1 e2 e3 e4 HSt
              clear hy hu hlen
              obtain ⟨u1, u2, u3, u4, u5⟩ := u
              dsimp only at e0 e1 e2 e3 e4
              have HOa := Lib.hid (HO9.out u1 u2 u3 u4 u5)
              rw [HSt.out] at HOa
              have HBa := Lib.hid (((((HB8.out.setCell (p := ⟨g7, (B + 1) * 5, none⟩) hgb7 (.string u1)).setCell (p := ⟨g7, (B + 1) * 5 + 1, none⟩) hgb7 (.string u2)).setCell (p := ⟨g7, (B + 1) * 5 + 2, none⟩) hgb7 (.string u3)).setCell (p := ⟨g7, (B + 1) * 5 + 3, none⟩) hgb7 (.string u4)).setCell (p := ⟨g7, (B + 1) * 5 + 4, none⟩) hgb7 (.string u5))
              have z2 : ((B + 1 : Nat) : Int) - 1 = (B : Int) := by omega
              have z3 : (0 : Int) ≤ (B : Int) := by omega
              have z4 : (B : Int) < (N1 : Int) := by omega
              have z5 : ((B + 1 : Nat) : Int) < (N1 : Int) := by omega
              have z6 : (0 : Int) ≤ ((B + 1 : Nat) : Int) := by omega
              clear HO8 HB8 HO9 HSt
              go_wp2
              go_roundw
              case rel => exact ⟨B, _, by first | rfl | go_num, by omega, by omega, HOa, HBa⟩
              case measure => simp [intOf]
            · obtain rfl : j = 0 := by omega
              have hj' : ¬ ((0 : Nat) : Int) < ((0 : Nat) : Int) := by omega
              have hlen := shf_len K 0 z
              obtain ⟨y, hy⟩ : ∃ y, (shfK K 0 z)[0]'(by omega) = y := ⟨_, rfl⟩
              obtain ⟨⟨d0, d1, d2, d3, d4⟩, ⟨f0, f1, f2, f3, f4⟩⟩ := HO8.out.five (i := 0) (by omega) hy
              have HOa := Lib.hid (HO8.out.set (k := 0) (by omega) a1 a2 a3 a4 a5)
              rw [shf_put hkn, ← HIns.out, ← HT.out] at HOa
              have HBa := Lib.hid (((((HB8.out.setCell (p := ⟨g7, 0 * 5, none⟩) hgb7 (.string a1)).setCell (p := ⟨g7, 0 * 5 + 1, none⟩) hgb7 (.string a2)).setCell (p := ⟨g7, 0 * 5 + 2, none⟩) hgb7 (.string a3)).setCell (p := ⟨g7, 0 * 5 + 3, none⟩) hgb7 (.string a4)).setCell (p := ⟨g7, 0 * 5 + 4, none⟩) hgb7 (.string a5))
              have l0 := (HB8.out.cell hbl).trans c0
              have l1 := (HB8.out.cell hbl).trans c1
              have l2 := (HB8.out.cell hbl).trans c2
              have l3 := (HB8.out.cell hbl).trans c3
              have l4 := (HB8.out.cell hbl).trans c4
              have z3 : (0 : Int) ≤ ((0 : Nat) : Int) := by omega
              have z4 : ((0 : Nat) : Int) < (N1 : Int) := by omega
              simp only [Nat.zero_mul, Nat.zero_add] at d0 d1 d2 d3 d4 f0 f1 f2 f3 f4
              clear HO8 HB8 hy hlen
              go_wp2
              go_roundw
              case rel => exact ⟨_, i + 1, rfl, by omega, by go_num, (by first | exact HOa | (subst hN1; exact HOa)), HBa⟩
              case measure => simp [intOf]; omega
    · have h' : ¬ (i : Int) < (L.length : Int) := by omega
      have HOf := Lib.hid (show OwnK wr w.heap.size vo (keysK L) from by
        have q := HO.out
        rwa [List.take_of_length_le (by omega)] at q)
      clear HO
      go_wp2
      go_ret
      exact ⟨_, rfl, HOf.out, HB.out⟩
end Go.Proofs.Ytenhnnfemehbcaa
