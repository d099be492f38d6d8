/- The sheet of cells, as the reference makes it. Written by wip/mk_sic.py. -/
import Derived.Test.YtenhnnfemehbcaaSiB
import Derived.Test.YtenhnnfemehbcaaShR
namespace Go.Proofs.Ytenhnnfemehbcaa
open Go.RowKit Go.Sort
set_option linter.unusedVariables false
set_option linter.unusedSimpArgs false

/-- two values that own no block in common. -/
def SepV (u v : Value) : Prop := u.ownBlock = none ∨ u.ownBlock ≠ v.ownBlock
theorem SepV.symm {u v : Value} (h : SepV u v) : SepV v u := by
  unfold SepV at *
  by_cases e : v.ownBlock = none
  · exact .inl e
  · refine .inr fun q => ?_
    rcases h with h | h
    · exact e (q.trans h)
    · exact h q.symm
/-- one integer appended to one of two slices. -/
theorem wpList_two {w : World} {ops : Array Oper} {rest : List Oper} {o : Oper} {a : Act} {Q : Exit → Act → World → Prop} (hgd : o.guard = none) (s x : Operand)
    (ho : o.op = .call { callee := .builtin .append, args := #[s, x], argTypes := #[66, 66] })
    (base : Nat) (v : Value) (L : List Int) (y : Int) (hs : a.eval s = v) (hown : OwnV w base 3 v (L.map (Value.int .i64))) (ad : Addr) (c : Nat) (hx : a.eval x = .slice (some ad) 1 c) (hc : w.cell? (ad.add 0) = some (.int .i64 y))
    (hl : L.length < 10000) (hbase : base ≤ w.heap.size) (u : Value) (M : List Int) (hu : OwnV w base 3 u (M.map (Value.int .i64))) (hsep : SepV u v)
    (h : ∀ v' w', OwnV w' base 3 v' ((L ++ [y]).map (Value.int .i64)) → OwnV w' base 3 u (M.map (Value.int .i64)) → SepV u v' → Below base w w' → wpList Try.prog ops Q rest (a.put o.dst v') w') : wpList Try.prog ops Q (o :: rest) a w := by
  obtain ⟨i0, hi, hz0, hz1, hz2⟩ := info_parts inf_int
  refine wpList_append_own_at w hgd s x _ ho base 3 i0 _ 1 8 und_ints hi hz0 hz1 hz2 rfl (by decide) v (L.map (Value.int .i64)).length (L.map (Value.int .i64)) hs hown ad 1 c [.int .i64 y] hx rfl ?_ (one_ints [y]) (by unfold maxLen; rw [List.length_map]; omega) (by rw [List.length_map]; omega) hbase ?_
  · intro j z hj
    cases j with
    | zero => cases hj; exact hc
    | succ j => simp at hj
  · intro v' w' h1 h2 _ h4
    refine h v' w' ?_ (World.ownsRow.kept hu h2 hsep) ?_ ((Below.refl base w).grown h2 hbase (fun k hk => (hown.lt k hk).1))
    · unfold OwnV
      rw [List.map_append, List.length_append]
      exact h1
    · rcases h4 with e | e
      · unfold SepV at *; rw [e]; exact hsep
      · cases q : u.ownBlock with
        | none => exact .inl q
        | some g =>
          refine .inr ?_
          rw [q, e]
          intro z
          injection z with z
          have := (World.ownsRow.lt hu g q).2
          omega
def amV (L : List Cl) (k : Ky) : List Int := (sel L k).map (fun c => c.2.1)
def baV (L : List Cl) (k : Ky) : List Int := (sel L k).map (fun c => c.2.2)
theorem sel_yes {L : List Cl} {k : Ky} {j : Nat} (hj : j < L.length) (h : L[j].1 = k) : amV (L.take (j + 1)) k = amV (L.take j) k ++ [L[j].2.1] ∧ baV (L.take (j + 1)) k = baV (L.take j) k ++ [L[j].2.2] := by
  have e : sel (L.take (j + 1)) k = sel (L.take j) k ++ [L[j]] := by
    rw [List.take_succ_eq_append_getElem hj, sel_app, sel_all (x := [L[j]]) (k := k) (by intro c hc; rw [List.mem_singleton.1 hc]; exact h)]
  unfold amV baV
  rw [e, List.map_append, List.map_append]
  exact ⟨rfl, rfl⟩
theorem sel_nope {L : List Cl} {k : Ky} {j : Nat} (hj : j < L.length) (h : L[j].1 ≠ k) : amV (L.take (j + 1)) k = amV (L.take j) k ∧ baV (L.take (j + 1)) k = baV (L.take j) k := by
  have e : sel (L.take (j + 1)) k = sel (L.take j) k := by
    rw [List.take_succ_eq_append_getElem hj, sel_app, sel_no (x := [L[j]]) (k := k) (by intro c hc; rw [List.mem_singleton.1 hc]; exact h), List.append_nil]
  unfold amV baV
  rw [e]
  exact ⟨rfl, rfl⟩
theorem av_len (L : List Cl) (k : Ky) (j : Nat) : (amV (L.take j) k).length ≤ j ∧ (baV (L.take j) k).length ≤ j := by
  have h : (sel (L.take j) k).length ≤ j := Nat.le_trans (List.length_filter_le _ _) (by rw [List.length_take]; omega)
  unfold amV baV
  rw [List.length_map, List.length_map]
  exact ⟨h, h⟩
theorem av_bd {L : List Cl} (h : BdS L) (k : Ky) : (∀ z ∈ amV L k, -9223372036854775808 ≤ z ∧ z ≤ 9223372036854775807) ∧ (∀ z ∈ baV L k, -9223372036854775808 ≤ z ∧ z ≤ 9223372036854775807) := by
  constructor <;>
  · intro z hz
    obtain ⟨c, hc, rfl⟩ := List.mem_map.1 hz
    have q := h c ((List.mem_filter.1 hc).1)
    first | exact q.1 | exact q.2
/-- the cells so far. -/
def acK (L : List Cl) (K : List Ky) (i : Nat) : List Cl := ((K.take i).map (celK L)).filter (fun c => !emp c)
theorem ack_len (L : List Cl) (K : List Ky) (i : Nat) : (acK L K i).length ≤ i := by
  unfold acK
  refine Nat.le_trans (List.length_filter_le _ _) ?_
  rw [List.length_map, List.length_take]; omega
theorem ack_skip {L : List Cl} {K : List Ky} {i : Nat} (hi : i < K.length) (h : emp (celK L K[i]) = true) : acK L K (i + 1) = acK L K i := by
  unfold acK
  rw [List.take_succ_eq_append_getElem hi, List.map_append, List.filter_append, List.map_cons, List.filter_cons_of_neg (by rw [h]; decide)]
  simp
theorem ack_more {L : List Cl} {K : List Ky} {i : Nat} (hi : i < K.length) (h : emp (celK L K[i]) = false) : acK L K (i + 1) = acK L K i ++ [celK L K[i]] := by
  unfold acK
  rw [List.take_succ_eq_append_getElem hi, List.map_append, List.filter_append, List.map_cons, List.filter_cons_of_pos (by rw [h]; rfl)]
  simp
def noK (L : List Cl) (K : List Ky) (i : Nat) : Prop := (K.take i).any (badK L) = false
theorem noK_more {L : List Cl} {K : List Ky} {i : Nat} (hi : i < K.length) (h : noK L K i) (hb : badK L K[i] = false) : noK L K (i + 1) := by
  unfold noK at *
  rw [List.take_succ_eq_append_getElem hi, List.any_append, h]
  simp [hb]
theorem of_bad {L : List Cl} {i : Nat} (hi : i < (keysK L).length) (hb : badK L (keysK L)[i] = true) : ofE L = 4 ∧ ofL L = [] := by
  have h : (keysK L).any (badK L) = true := List.any_eq_true.2 ⟨_, List.getElem_mem hi, hb⟩
  unfold ofE ofL
  rw [h]
  exact ⟨rfl, rfl⟩
theorem of_all {L : List Cl} (h : noK L (keysK L) (keysK L).length) : ofE L = 0 ∧ ofL L = acK L (keysK L) (keysK L).length := by
  unfold noK at h
  unfold ofE ofL acK
  rw [List.take_length] at *
  rw [h]
  exact ⟨rfl, rfl⟩
set_option maxRecDepth 100000 in
set_option maxHeartbeats 4000000 in
theorem rOf_any (A : Option Addr) (c : Nat) (L : List Cl) (w : World) (hR : RowS w A L) (hBd : BdS L) (hl : L.length ≤ 2000) :
    Calls Try.prog 19 #[.slice A L.length c] w fun e w' => ∃ v, e = .returned (.tuple #[v, .int .i64 (ofE L)]) ∧ OwnS w' w.heap.size v (ofL L) ∧ Below w.heap.size w w' := by
  have HR := Lib.hid hR
  have HBd := Lib.hid hBd
  have HKy := Lib.hid (rKeys_any A c L w hR hl)
  have HN := Lib.hid (fun W => OwnS.nil W w.heap.size)
  have HI := Lib.hid rFits_any
  have hKl := keys_le L L.length
  rw [List.take_length] at hKl
  have HBad := Lib.hid (fun i hi hb => of_bad (L := L) (i := i) hi hb)
  have HAll := Lib.hid (fun h => of_all (L := L) h)
  obtain ⟨oE, hoE⟩ : ∃ x, ofE L = x := ⟨_, rfl⟩
  obtain ⟨oL, hoL⟩ : ∃ x, ofL L = x := ⟨_, rfl⟩
  rw [hoE, hoL] at HBad HAll ⊢
  clear hR hBd hoE hoL
  generalize keysK L = K at *
  go_enter Try.func19, Try.ntmps19
  go_wp2_with fail
  refine HKy.out.mono ?_
  rintro e w1 ⟨vk, rfl, hk, hb⟩
  obtain ⟨ak, ck, rfl, hks⟩ := hk.shape
  have HB1 := Lib.hid hb
  have HK1 := Lib.hid hk
  clear hb hk HKy
  go_wp2
  go_loopw [4, 6] (fun v x wr => ∃ (vo : Value) (i : Nat), vo = v ∧ i ≤ K.length ∧ x = .int .i64 i ∧ Hid (noK L K i) ∧ Hid (OwnS wr w1.heap.size vo (acK L K i)) ∧ Hid (Below w1.heap.size w1 wr)) (fun _ x _ => K.length - (intOf x).toNat)
  case atStart => exact ⟨_, 0, rfl, Nat.zero_le _, rfl, Lib.hid rfl, Lib.hid (OwnS.nil _ _), Lib.hid (Below.refl _ _)⟩
  case round =>
    obtain ⟨vo, i, rfl, hi, rfl, HNo, HO, HB⟩ := hrel
    by_cases h : i < K.length
    · have h' : (i : Int) < (K.length : Int) := by omega
      have h'' : (0 : Int) ≤ (i : Int) := by omega
      obtain ⟨gk, rfl, hgb, hgl⟩ := hks (by omega)
      obtain ⟨⟨e0, e1, e2, e3, e4⟩, _⟩ := HK1.out.five (i := i) h rfl
      obtain ⟨W0, rfl⟩ : ∃ W0, W0 = wr := ⟨wr, rfl⟩
      have HBi := Lib.hid (fun z => HBad.out i h z)
      have HNm := Lib.hid (fun z => noK_more h HNo.out z)
      have HSk := Lib.hid (fun z => ack_skip (L := L) h z)
      have HMo := Lib.hid (fun z => ack_more (L := L) h z)
      have hal := ack_len L K i
      have HHW := Lib.hid (HB1.out.trans (HB.out.mono HB1.out.size))
      have hW0 := HB.out.size
      obtain ⟨q, hq⟩ : ∃ q, K[i] = q := ⟨_, rfl⟩
      rw [hq] at e0 e1 e2 e3 e4 HBi HNm HSk HMo
      clear hq
      obtain ⟨q1, q2, q3, q4, q5⟩ := q
      dsimp only at e0 e1 e2 e3 e4
      go_wp2_with fail
      go_loopw [7, 8, 9] (fun va vb x wq => ∃ (ua ub : Value) (j : Nat), ua = va ∧ ub = vb ∧ j ≤ L.length ∧ x = .int .i64 j ∧ Hid (OwnV wq W0.heap.size 3 ua ((amV (L.take j) (q1, q2, q3, q4, q5)).map (Value.int .i64))) ∧ Hid (OwnV wq W0.heap.size 3 ub ((baV (L.take j) (q1, q2, q3, q4, q5)).map (Value.int .i64))) ∧ Hid (SepV ub ua) ∧ Hid (Below W0.heap.size W0 wq)) (fun _ _ x _ => L.length - (intOf x).toNat)
      case atStart => exact ⟨_, _, 0, rfl, rfl, Nat.zero_le _, rfl, Lib.hid (OwnV.nil _ _ _), Lib.hid (OwnV.nil _ _ _), Lib.hid (.inl rfl), Lib.hid (Below.refl _ _)⟩
      case round =>
        obtain ⟨ua, ub, j, rfl, rfl, hj, rfl, HA, HV, HS, HD⟩ := hrel
        have hsz := HD.out.size
        have HX := Lib.hid (HHW.out.trans (HD.out.mono HHW.out.size))
        have HX1 := Lib.hid (HB.out.trans (HD.out.mono HB.out.size))
        by_cases hjl : j < L.length
        · have j1 : (j : Int) < (L.length : Int) := by omega
          have j2 : (0 : Int) ≤ (j : Int) := by omega
          obtain ⟨b, off, rfl, hbl, c0, c1, c2, c3, c4, c5, c6⟩ := HR.out.at hjl
          have HYe := Lib.hid (fun z => sel_yes (k := (q1, q2, q3, q4, q5)) hjl z)
          have HNe := Lib.hid (fun z => sel_nope (k := (q1, q2, q3, q4, q5)) hjl z)
          obtain ⟨al, bl⟩ := av_len L (q1, q2, q3, q4, q5) j
          obtain ⟨x, hx⟩ : ∃ x, L[j] = x := ⟨_, rfl⟩
          rw [hx] at c0 c1 c2 c3 c4 c5 c6 HYe HNe
          clear hx
          obtain ⟨⟨a1, a2, a3, a4, a5⟩, m, n⟩ := x
          dsimp only at c0 c1 c2 c3 c4 c5 c6 HYe HNe
          have l0 := (HX.out.cell hbl).trans c0
          have l1 := (HX.out.cell hbl).trans c1
          have l2 := (HX.out.cell hbl).trans c2
          have l3 := (HX.out.cell hbl).trans c3
          have l4 := (HX.out.cell hbl).trans c4
          have k0 := (HX1.out.cell hgl).trans e0
          have k1 := (HX1.out.cell hgl).trans e1
          have k2 := (HX1.out.cell hgl).trans e2
          have k3 := (HX1.out.cell hgl).trans e3
          have k4 := (HX1.out.cell hgl).trans e4
          by_cases heq : ((a1, a2, a3, a4, a5) : Ky) = (q1, q2, q3, q4, q5)
          · have qeq : ∀ w, (binOp .eql 23 (.agg #[.string a1, .string a2, .string a3, .string a4, .string a5]) (.agg #[.string q1, .string q2, .string q3, .string q4, .string q5])).run Try.prog w = .ok (.bool true) w := fun w => by rw [eq_keys, decide_eq_true heq]
            have HY2 := Lib.hid (HYe.out heq)
            clear heq HYe HNe
            go_wp2_with fail
            go_quiet (fail)
            have g1 : Below wr.heap.size wr (wr.drewN nq) := below_drewN (Below.refl _ _) nq
            have HA1 := Lib.hid (HA.out.below g1)
            have HV1 := Lib.hid (HV.out.below g1)
            have HD1 := Lib.hid (HD.out.trans (g1.mono hsz))
            have HX2 := Lib.hid (HX.out.trans (g1.mono HX.out.size))
            clear g1 l0 l1 l2 l3 l4 k0 k1 k2 k3 k4 HA HV HD HX HX1 hsz
            generalize wr.drewN nq = wx at *
            have l5 := (HX2.out.cell hbl).trans c5
            have g2 : Below wx.heap.size wx (wx.alloc (Obj.cells #[.int .i64 m] 3)) := (Below.refl _ _).alloc (Nat.le_refl _) _
            have HA3 := Lib.hid (HA1.out.below g2)
            have HV3 := Lib.hid (HV1.out.below g2)
            have HD3 := Lib.hid (HD1.out.trans (g2.mono HD1.out.size))
            have HX3 := Lib.hid (HX2.out.trans (g2.mono HX2.out.size))
            have hc3 : (wx.alloc (Obj.cells #[.int .i64 m] 3)).cell? ((⟨wx.heap.size, 0, none⟩ : Addr).add 0) = some (.int .i64 m) := by rw [addr_is, World.cell?_alloc_at _ _ _ _ rfl]; rfl
            have HC3 := Lib.hid hc3
            clear g2 HA1 HV1 HD1 HX2 hc3
            go_wp2_with (at_builtin; (first
              | (refine wpList_two rfl (.tmp 38) (.tmp 44) rfl W0.heap.size ua (amV (L.take j) (q1, q2, q3, q4, q5)) m rfl HA3.out ⟨wx.heap.size, 0, none⟩ 1 rfl HC3.out (by omega) HD3.out.size ub (baV (L.take j) (q1, q2, q3, q4, q5)) HV3.out HS.out ?_; intro v7 w7 o7 p7 s7 hb7; have HX7 := Lib.hid (HX3.out.trans (hb7.mono (Nat.le_trans HHW.out.size (Nat.le_refl _)))); have l6 := (HX7.out.cell hbl).trans c6; have HD7 := Lib.hid (HD3.out.trans hb7); have g7 : Below w7.heap.size w7 (w7.alloc (Obj.cells #[.int .i64 n] 3)) := (Below.refl _ _).alloc (Nat.le_refl _) _; have HA8 := Lib.hid (OwnV.below o7 g7); have HV8 := Lib.hid (OwnV.below p7 g7); have HD8 := Lib.hid (HD7.out.trans (g7.mono HD7.out.size)); have HC8 := Lib.hid (show (w7.alloc (Obj.cells #[.int .i64 n] 3)).cell? ((⟨w7.heap.size, 0, none⟩ : Addr).add 0) = some (.int .i64 n) from (by rw [addr_is, World.cell?_alloc_at _ _ _ _ rfl]; rfl)); have HS8 := Lib.hid s7; clear hb7 g7 o7 p7 s7)
              | (refine wpList_two rfl (.tmp 46) (.tmp 52) rfl W0.heap.size ub (baV (L.take j) (q1, q2, q3, q4, q5)) n rfl HV8.out ⟨w7.heap.size, 0, none⟩ 1 rfl HC8.out (by omega) HD8.out.size v7 (amV (L.take j) (q1, q2, q3, q4, q5) ++ [m]) HA8.out HS8.out.symm ?_; intro v9 w9 o9 p9 s9 hb9; have HD9 := Lib.hid (HD8.out.trans hb9); have HV9 := Lib.hid o9; have HA9 := Lib.hid p9; have HS9 := Lib.hid s9.symm; clear hb9 o9 p9 s9)))
            rw [← HY2.out.1] at HA9
            rw [← HY2.out.2] at HV9
            clear HA3 HV3 HD3 HX3 HC3 HX7 HD7 HA8 HV8 HD8 HC8 HS8
            go_wp2
            go_roundw
            case rel => exact ⟨_, _, j + 1, rfl, rfl, by omega, by go_num, HA9, HV9, HS9, HD9⟩
            case measure => simp [intOf]; omega
          · have qeq : ∀ w, (binOp .eql 23 (.agg #[.string a1, .string a2, .string a3, .string a4, .string a5]) (.agg #[.string q1, .string q2, .string q3, .string q4, .string q5])).run Try.prog w = .ok (.bool false) w := fun w => by rw [eq_keys, decide_eq_false heq]
            have HN2 := Lib.hid (HNe.out heq)
            clear heq HYe HNe
            go_wp2_with fail
            go_quiet (fail)
            have g1 : Below wr.heap.size wr (wr.drewN nq) := below_drewN (Below.refl _ _) nq
            have HA1 := Lib.hid (HA.out.below g1)
            have HV1 := Lib.hid (HV.out.below g1)
            rw [← HN2.out.1] at HA1
            rw [← HN2.out.2] at HV1
            have HD1 := Lib.hid (HD.out.trans (g1.mono hsz))
            clear g1 l0 l1 l2 l3 l4 k0 k1 k2 k3 k4 HA HV HD HX HX1 hsz
            go_wp2
            go_roundw
            case rel => exact ⟨_, _, j + 1, rfl, rfl, by omega, by go_num, HA1, HV1, HS, HD1⟩
            case measure => simp [intOf]; omega
        · have j1 : ¬ (j : Int) < (L.length : Int) := by omega
          have ha := HA.out
          have hv := HV.out
          rw [List.take_of_length_le (by omega)] at ha hv
          obtain ⟨aa, ca, rfl⟩ := ha.shape
          obtain ⟨ab, cb, rfl⟩ := hv.shape
          obtain ⟨bd1, bd2⟩ := av_bd HBd.out (q1, q2, q3, q4, q5)
          have r1 : Row wr aa (amV L (q1, q2, q3, q4, q5)) := row_ints ha.row bd1
          have r2 : Row wr ab (baV L (q1, q2, q3, q4, q5)) := row_ints hv.row bd2
          obtain ⟨ln1, ln2⟩ := av_len L (q1, q2, q3, q4, q5) L.length
          rw [List.take_length] at ln1 ln2
          rw [List.length_map, List.length_map]
          have s1 := rSum_any aa ca (amV L (q1, q2, q3, q4, q5)) wr r1 (by omega)
          have s2 := rSum_any ab cb (baV L (q1, q2, q3, q4, q5)) wr r2 (by omega)
          obtain ⟨T1, hT1⟩ : ∃ T, (amV L (q1, q2, q3, q4, q5)).sum = T := ⟨_, rfl⟩
          obtain ⟨T2, hT2⟩ : ∃ T, (baV L (q1, q2, q3, q4, q5)).sum = T := ⟨_, rfl⟩
          have HCl := Lib.hid (show celK L (q1, q2, q3, q4, q5) = ((q1, q2, q3, q4, q5), T1, T2) from by unfold celK amS baS; rw [← hT1, ← hT2]; rfl)
          have HBk := Lib.hid (show badK L (q1, q2, q3, q4, q5) = !(okSum T1 && okSum T2) from by unfold badK amS baS; rw [← hT1, ← hT2]; rfl)
          rw [hT1] at s1
          rw [hT2] at s2
          have HS1 := Lib.hid s1
          have HS2 := Lib.hid s2
          have HOw := Lib.hid (HO.out.below HD.out)
          have HXe := Lib.hid (HB.out.trans (HD.out.mono HB.out.size))
          clear ha hv bd1 bd2 r1 r2 s1 s2 hT1 hT2 HA HV HS HD HX HX1 hsz HO
          have HX := Lib.hid (HB1.out.trans (HXe.out.mono HB1.out.size))
          cases f1 : fits T1
          · have o1 := fit_no f1
            rw [f1, o1] at HS1
            have n1 : okSum T1 = false := by cases z : okSum T1; rfl; rw [(okSum_is z).1] at f1; cases f1
            have HE := Lib.hid (HBi.out (by rw [HBk.out, n1]; rfl))
            clear f1 o1 n1
            go_wp2_with fail
            refine HS1.out.mono ?_
            rintro e w_ ⟨rfl, rfl⟩
            go_wp2_with fail
            refine HS2.out.mono ?_
            rintro e w_ ⟨rfl, rfl⟩
            go_wp2
            go_ret2
            exact ⟨.slice none 0 0, by (rw [HE.out.1]; rfl), by rw [HE.out.2]; exact HN.out _, HX.out⟩
          rw [f1, fit_yes f1] at HS1
          cases f2 : fits T2
          · have o1 := fit_no f2
            rw [f2, o1] at HS2
            have n1 : okSum T2 = false := by cases z : okSum T2; rfl; rw [(okSum_is z).1] at f2; cases f2
            have HE := Lib.hid (HBi.out (by rw [HBk.out, n1]; simp))
            clear f1 f2 o1 n1
            go_wp2_with fail
            refine HS1.out.mono ?_
            rintro e w_ ⟨rfl, rfl⟩
            go_wp2_with fail
            refine HS2.out.mono ?_
            rintro e w_ ⟨rfl, rfl⟩
            go_wp2
            go_ret2
            exact ⟨.slice none 0 0, by (rw [HE.out.1]; rfl), by rw [HE.out.2]; exact HN.out _, HX.out⟩
          rw [f2, fit_yes f2] at HS2
          have HI1 := Lib.hid (fun W => HI.out T1 W)
          have HI2 := Lib.hid (fun W => HI.out T2 W)
          clear f1 f2
          cases k1 : okSum T1
          · have HE := Lib.hid (HBi.out (by rw [HBk.out, k1]; rfl))
            rw [k1] at HI1
            clear k1
            go_wp2_with fail
            refine HS1.out.mono ?_
            rintro e w_ ⟨rfl, rfl⟩
            go_wp2_with fail
            refine HS2.out.mono ?_
            rintro e w_ ⟨rfl, rfl⟩
            go_wp2_with fail
            refine (HI1.out _).mono ?_
            rintro e w_ ⟨rfl, hw⟩
            have hw2 := hw.symm
            subst hw2
            clear hw
            go_wp2
            go_ret2
            exact ⟨.slice none 0 0, by (rw [HE.out.1]; rfl), by rw [HE.out.2]; exact HN.out _, HX.out⟩
          rw [k1] at HI1
          cases k2 : okSum T2
          · have HE := Lib.hid (HBi.out (by rw [HBk.out, k2]; simp))
            rw [k2] at HI2
            clear k1 k2
            go_wp2_with fail
            refine HS1.out.mono ?_
            rintro e w_ ⟨rfl, rfl⟩
            go_wp2_with fail
            refine HS2.out.mono ?_
            rintro e w_ ⟨rfl, rfl⟩
            go_wp2_with fail
            refine (HI1.out _).mono ?_
            rintro e w_ ⟨rfl, hw⟩
            have hw2 := hw.symm
            subst hw2
            clear hw
            go_wp2_with fail
            refine (HI2.out _).mono ?_
            rintro e w_ ⟨rfl, hw⟩
            have hw2 := hw.symm
            subst hw2
            clear hw
            go_wp2
            go_ret2
            exact ⟨.slice none 0 0, by (rw [HE.out.1]; rfl), by rw [HE.out.2]; exact HN.out _, HX.out⟩
          rw [k2] at HI2
          have HNo2 := Lib.hid (HNm.out (by rw [HBk.out, k1, k2]; rfl))
          clear k1 k2 HBk HBi HNm
          by_cases t1 : T1 = 0
          · have t1' : (T1 != 0) = false := by simp [t1]
            by_cases t2 : T2 = 0
            · have t2' : (T2 != 0) = false := by simp [t2]
              have HSr := Lib.hid (HSk.out (by rw [HCl.out]; unfold emp; simp [t1, t2]))
              have HO7 := Lib.hid (show OwnS wr w1.heap.size vo (acK L K (i + 1)) from by rw [HSr.out]; exact HOw.out)
              clear HOw HX t1 t2
              go_wp2_with fail
              refine HS1.out.mono ?_
              rintro e w_ ⟨rfl, rfl⟩
              go_wp2_with fail
              refine HS2.out.mono ?_
              rintro e w_ ⟨rfl, rfl⟩
              go_wp2_with fail
              refine (HI1.out _).mono ?_
              rintro e w_ ⟨rfl, hw⟩
              have hw2 := hw.symm
              subst hw2
              clear hw
              go_wp2_with fail
              refine (HI2.out _).mono ?_
              rintro e w_ ⟨rfl, hw⟩
              have hw2 := hw.symm
              subst hw2
              clear hw
              go_wp2
              go_roundw
              case rel => exact ⟨_, i + 1, rfl, by omega, by go_num, HNo2, HO7, HXe⟩
              case measure => simp [intOf]; omega
            · have t2' : (T2 != 0) = true := by simpa using t2
              have HMr := Lib.hid (HMo.out (by rw [HCl.out]; unfold emp; simp [t2]))
              rw [HCl.out] at HMr
              have k0 := (HXe.out.cell hgl).trans e0
              have k1 := (HXe.out.cell hgl).trans e1
              have k2 := (HXe.out.cell hgl).trans e2
              have k3 := (HXe.out.cell hgl).trans e3
              have k4 := (HXe.out.cell hgl).trans e4
              have g2 : Below wr.heap.size wr (wr.alloc (Obj.cells #[.string q1, .string q2, .string q3, .string q4, .string q5, .int .i64 T1, .int .i64 T2] 37)) := (Below.refl _ _).alloc (Nat.le_refl _) _
              have HO3 := Lib.hid (HOw.out.below g2)
              have HX3 := Lib.hid (HXe.out.trans (g2.mono HXe.out.size))
              have HRc := Lib.hid (row_cell wr ((q1, q2, q3, q4, q5), T1, T2) 37)
              clear g2 HOw HX t1 t2
              go_wp2_with fail
              refine HS1.out.mono ?_
              rintro e w_ ⟨rfl, rfl⟩
              go_wp2_with fail
              refine HS2.out.mono ?_
              rintro e w_ ⟨rfl, rfl⟩
              go_wp2_with fail
              refine (HI1.out _).mono ?_
              rintro e w_ ⟨rfl, hw⟩
              have hw2 := hw.symm
              subst hw2
              clear hw
              go_wp2_with fail
              refine (HI2.out _).mono ?_
              rintro e w_ ⟨rfl, hw⟩
              have hw2 := hw.symm
              subst hw2
              clear hw
              go_wp2_with (at_builtin; (refine wpList_cell rfl (.tmp 86) (.tmp 94) rfl w1.heap.size vo (acK L K i) ((q1, q2, q3, q4, q5), T1, T2) rfl HO3.out ⟨wr.heap.size, 0, none⟩ 1 rfl HRc.out (by omega) HX3.out.size ?_; intro v7 w7 o7 hb7))
              have HO7 := Lib.hid (show OwnS w7 w1.heap.size v7 (acK L K (i + 1)) from by rw [HMr.out]; exact o7)
              have HX7 := Lib.hid (HX3.out.trans hb7)
              clear o7 hb7
              go_wp2
              go_roundw
              case rel => exact ⟨_, i + 1, rfl, by omega, by go_num, HNo2, HO7, HX7⟩
              case measure => simp [intOf]; omega
          · have t1' : (T1 != 0) = true := by simpa using t1
            have HMr := Lib.hid (HMo.out (by rw [HCl.out]; unfold emp; simp [t1]))
            rw [HCl.out] at HMr
            have k0 := (HXe.out.cell hgl).trans e0
            have k1 := (HXe.out.cell hgl).trans e1
            have k2 := (HXe.out.cell hgl).trans e2
            have k3 := (HXe.out.cell hgl).trans e3
            have k4 := (HXe.out.cell hgl).trans e4
            have g2 : Below wr.heap.size wr (wr.alloc (Obj.cells #[.string q1, .string q2, .string q3, .string q4, .string q5, .int .i64 T1, .int .i64 T2] 37)) := (Below.refl _ _).alloc (Nat.le_refl _) _
            have HO3 := Lib.hid (HOw.out.below g2)
            have HX3 := Lib.hid (HXe.out.trans (g2.mono HXe.out.size))
            have HRc := Lib.hid (row_cell wr ((q1, q2, q3, q4, q5), T1, T2) 37)
            clear g2 HOw HX t1
            go_wp2_with fail
            refine HS1.out.mono ?_
            rintro e w_ ⟨rfl, rfl⟩
            go_wp2_with fail
            refine HS2.out.mono ?_
            rintro e w_ ⟨rfl, rfl⟩
            go_wp2_with fail
            refine (HI1.out _).mono ?_
            rintro e w_ ⟨rfl, hw⟩
            have hw2 := hw.symm
            subst hw2
            clear hw
            go_wp2_with fail
            refine (HI2.out _).mono ?_
            rintro e w_ ⟨rfl, hw⟩
            have hw2 := hw.symm
            subst hw2
            clear hw
            go_wp2_with (at_builtin; (refine wpList_cell rfl (.tmp 86) (.tmp 94) rfl w1.heap.size vo (acK L K i) ((q1, q2, q3, q4, q5), T1, T2) rfl HO3.out ⟨wr.heap.size, 0, none⟩ 1 rfl HRc.out (by omega) HX3.out.size ?_; intro v7 w7 o7 hb7))
            have HO7 := Lib.hid (show OwnS w7 w1.heap.size v7 (acK L K (i + 1)) from by rw [HMr.out]; exact o7)
            have HX7 := Lib.hid (HX3.out.trans hb7)
            clear o7 hb7
            go_wp2
            go_roundw
            case rel => exact ⟨_, i + 1, rfl, by omega, by go_num, HNo2, HO7, HX7⟩
            case measure => simp [intOf]; omega
    · have h' : ¬ (i : Int) < (K.length : Int) := by omega
      obtain rfl : i = K.length := by omega
      have HE := Lib.hid (HAll.out HNo.out)
      have HOf := Lib.hid (show OwnS wr w.heap.size vo oL from by rw [HE.out.2]; exact HO.out.lower HB1.out.size)
      have HX := Lib.hid (HB1.out.trans (HB.out.mono HB1.out.size))
      clear HO
      go_wp2
      go_ret2
      exact ⟨vo, by (rw [HE.out.1]; rfl), HOf.out, HX.out⟩
end Go.Proofs.Ytenhnnfemehbcaa
