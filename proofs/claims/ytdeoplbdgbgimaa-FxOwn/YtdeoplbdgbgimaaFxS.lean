/- The walk of FxOwn; the reach of a question's slice. Written by wip/mk_fxs.py. -/
import Derived.Test.YtdeoplbdgbgimaaFxQ
import Derived.Deep.Upon
import Derived.Deep.MidRow
import Derived.SizedLaws
import Derived.Lib.QuietBelow
import Derived.BigQuiet
namespace Go.Proofs.Ytdeoplbdgbgimaa
open Go.RowKit Go.Sort Go.Deep
set_option linter.unusedVariables false
set_option linter.unusedSimpArgs false

theorem bytesR : Try.prog.bytesOf 51 = 48 := by kernel_rfl
theorem ask_reach {H : Type} {enc : TypeId × Value → H} {w : World} {base : Nat} {spare : Nat → Bool} {held : Bool} {bs fr to_ : ByteArray} {A : Option Addr} {len cap : Nat} {kd dy am md : Int} {d : DataW H} {p : List MemPlace}
    (h : DataW.Trod enc Try.prog w base spare held 35 (.agg #[.string bs, .slice A len cap, .string fr, .string to_, .int .i64 kd, .int .i64 dy, .int .i64 am, .int .i64 md]) d p)
    (hsz : ∀ n ∈ d.weights Try.prog 35, n ≤ reachBytes) : len * 48 ≤ 140737488351232 := by
  obtain ⟨fuel, hf⟩ := h
  obtain ⟨xs, k, hk, hxy, _, hxl, hf⟩ := DataW.trod_struct Try.underlying35 hf
  match xs, hxl with
  | [y0, y1, y2, y3, y4, y5, y6, y7], _ =>
    have g1 := hf 1 _ rfl
    simp [Value.cells, cellsSl] at g1
    obtain rfl : d = .agg [y0.1, y1.1, y2.1, y3.1, y4.1, y5.1, y6.1, y7.1] := by have := congrArg Prod.fst hxy; simpa using this
    rcases open_slice Try.underlying22 g1 with ⟨hcs, _⟩ | ⟨a, l, c, m, n, D, Pl, hcs, hb, hl, hm, hmm, rfl, hcell⟩
    · simp at hcs; omega
    · simp at hcs
      obtain ⟨rfl, rfl, rfl⟩ := hcs
      have := hsz ((((List.range len).map D).length + ((List.range (m - len)).map fun j => D (len + j)).length) * Try.prog.bytesOf 51) (by
        simp [DataW.weights, DataW.weightsEach, Try.underlying35, Try.underlying22])
      rw [bytesR] at this
      simp [reachBytes] at this
      omega
theorem setCells_grown (w : World) (g o : Nat) (vs : List Value) : w.grownBy (w.setCells g o vs) (some g) := by
  have h : ∀ (vs : List Value) (o : Nat) (w' : World), Below 0 w w' → Below 0 w (w'.setCells g o vs) := by
    intro vs
    induction vs with
    | nil => intro _ _ h; exact h
    | cons v r ih => intro o w' h; exact ih _ _ (h.setCell (p := ⟨g, o, none⟩) (Nat.zero_le _) v)
  have h := h vs o w (Below.refl 0 w)
  exact ⟨h.os, h.tape, h.output, h.size, fun i hi hne => World.heap_setCells_other w g o vs hi (fun e => hne (by rw [e]))⟩
theorem there_at {w : World} {b n o : Nat} (h : w.there b 0 n) (ho : o + 5 ≤ n) : w.there b o 5 := fun j hj => by
  have := h (o + j) (by omega)
  rwa [Nat.zero_add] at this
theorem there_below {w w' : World} {b o n : Nat} (h : w.there b o n) (hl : b < w.heap.size) (hb : Below w.heap.size w w') : w'.there b o n := fun j hj => by
  have hk := hb.block b hl
  obtain ⟨q1, q2⟩ := h j hj
  exact ⟨by rw [World.cell?_of_block hk]; exact q1, by rw [World.frozen?_of_block hk]; exact q2⟩
theorem there_own {w : World} {base b n c : Nat} {T : TypeId} {K : Nat} {xs : List Value} (h : w.ownsRow base T K (.slice (some ⟨b, 0, none⟩) n c) n xs) : base ≤ b ∧ b < w.heap.size ∧ w.there b 0 (n * K) := by
  rcases h.2 with ⟨q, _⟩ | ⟨g, cap, cur, q, h1, h2, h3, h4, h5, h6⟩
  · cases q
  · cases q
    refine ⟨h1, lt_of_block h2, fun j hj => ?_⟩
    have : j < cur.size := by rw [h5]; exact Nat.lt_of_lt_of_le hj (Nat.mul_le_mul_right _ h3)
    rw [Nat.zero_add]
    exact ⟨by simp [World.cell?, h2, this], by simp [World.frozen?, h2]⟩
theorem wpList_store_rate {ops : Array Oper} {rest : List Oper} {op : Oper} {a : Act} {w : World} {Q : Exit → Act → World → Prop} (hgd : op.guard = none) (x y : Operand) (ho : op.op = .store 51 x y) (b k n : Nat) (c : ByteArray) (x1 x2 x3 x4 : Int)
    (hx : a.eval x = .pointer (some ⟨b, k * 5, none⟩)) (hy : a.eval y = .agg #[.string c, .int .i64 x1, .int .i64 x2, .int .i64 x3, .int .i64 x4]) (hk : k < n) (ht : w.there b 0 (n * 5))
    (h : ∀ ws, w.grownBy ws (some b) → ws.there b 0 (n * 5) → wpList Try.prog ops Q rest (a.put op.dst undef) ws) : wpList Try.prog ops Q (op :: rest) a w :=
  wpList_store_mid hgd 51 x y ho b (k * 5) _ hx hy (there_at ht (by omega)) (by kernel_rfl) (by simp [Value.oneCell']) (h _ (setCells_grown _ _ _ _) (World.there_setCells ht _ _ _))
theorem Q2.grown {w w' : World} {B : Nat} {a b : Value} {row : Option Nat} (h : Q2 w B a b) (g : w.grownBy w' row) (hne : some B ≠ row) : Q2 w' B a b := by
  have hb := g.block B h.lt hne
  exact ⟨Nat.lt_of_lt_of_le h.lt g.size, (World.cell?_of_block hb).trans h.c0, (World.frozen?_of_block hb).trans h.f0, (World.cell?_of_block hb).trans h.c1, (World.frozen?_of_block hb).trans h.f1⟩
theorem rtC_ones (L : List Rt) : ∀ u ∈ L.flatMap rtC, u.oneCell' = true := fun u hu => by
  obtain ⟨r, _, hr⟩ := List.mem_flatMap.1 hu
  exact rtC_one r u hr
theorem flat_len : ∀ L : List Rt, (L.flatMap rtC).length = L.length * 5
  | [] => rfl
  | r :: L => by rw [List.flatMap_cons, List.length_append, flat_len L, rtC_len, List.length_cons]; omega
theorem row_news {w : World} {b off : Nat} {L : List Rt} (hc : ∀ i, (h : i < L.length) → w.cell? ⟨b, off + i * 5, none⟩ = some (.string L[i].1) ∧ w.cell? ⟨b, off + i * 5 + 1, none⟩ = some (.int .i64 L[i].2.1) ∧ w.cell? ⟨b, off + i * 5 + 2, none⟩ = some (.int .i64 L[i].2.2.1) ∧ w.cell? ⟨b, off + i * 5 + 3, none⟩ = some (.int .i64 L[i].2.2.2.1) ∧ w.cell? ⟨b, off + i * 5 + 4, none⟩ = some (.int .i64 L[i].2.2.2.2)) :
    ∀ j u, (L.flatMap rtC)[j]? = some u → w.cell? ((⟨b, off, none⟩ : Addr).add j) = some u := by
  intro j u hu
  rw [addr_is]
  have hj : j < (L.flatMap rtC).length := (List.getElem?_eq_some_iff.1 hu).1
  have hlen := flat_len L
  rw [hlen] at hj
  have hi : j / 5 < L.length := by omega
  have hm : j % 5 < 5 := by omega
  have e := flatMap_at rtC_len L (j / 5) (j % 5) hi hm
  have hjx : j / 5 * 5 + j % 5 = j := by omega
  rw [hjx, hu] at e
  obtain ⟨c0, c1, c2, c3, c4⟩ := hc (j / 5) hi
  rw [show off + j = off + j / 5 * 5 + j % 5 by omega]
  generalize j % 5 = m at *
  match m, hm, e with
  | 0, _, e => rw [Nat.add_zero, c0]; simpa [rtC] using e.symm
  | 1, _, e => rw [c1]; simpa [rtC] using e.symm
  | 2, _, e => rw [c2]; simpa [rtC] using e.symm
  | 3, _, e => rw [c3]; simpa [rtC] using e.symm
  | 4, _, e => rw [c4]; simpa [rtC] using e.symm
theorem wpList_append_rates {ops : Array Oper} {rest : List Oper} {o : Oper} {a : Act} {Q : Exit → Act → World → Prop} {w : World} (hgd : o.guard = none) (s x : Operand)
    (ho : o.op = .call { callee := .builtin .append, args := #[s, x], argTypes := #[22, 22] }) (base g : Nat) (hs : a.eval s = .slice (some ⟨g, 0, none⟩) 0 0)
    (hown : w.ownsRow base 51 5 (.slice (some ⟨g, 0, none⟩) 0 0) 0 []) (A : Option Addr) (L : List Rt) (c : Nat) (hx : a.eval x = .slice A L.length c) (hR : RowR w A L) (hn : L.length ≤ maxLen) (hr : L.length * 48 ≤ 140737488351232) (hb : base ≤ w.heap.size)
    (h : ∀ ao c' w' bo, RowR w' ao L → (0 < L.length → ao = some ⟨bo, 0, none⟩) → base ≤ bo → bo < w'.heap.size → w'.there bo 0 (L.length * 5) → w.grownBy w' (some g) → wpList Try.prog ops Q rest (a.put o.dst (.slice ao L.length c')) w') :
    wpList Try.prog ops Q (o :: rest) a w := by
  obtain ⟨i0, hi, hz0, hz1, hz2⟩ := info_parts inf_rate
  by_cases h0 : 0 < L.length
  · obtain ⟨b, off, rfl, hl, hc⟩ := hR h0
    refine wpList_append_own_at w hgd s x _ ho base 51 i0 _ 5 48 und_rates hi hz0 hz1 hz2 rfl (by decide) _ 0 [] hs hown ⟨b, off, none⟩ L.length c (L.flatMap rtC) hx (flat_len L) (row_news hc) (rtC_ones L) (by simpa using hn) (by omega) hb ?_
    intro v' w' o5 g5 _ _
    rw [Nat.zero_add, List.nil_append] at o5
    obtain ⟨ao, cv, rfl, hrr⟩ := own_rowR o5
    obtain ⟨bo, f, e, _⟩ := hrr h0
    have e2 : ∃ bo, ao = some ⟨bo, 0, none⟩ := by
      rcases o5.2 with ⟨q, _⟩ | ⟨g', cap', cur', q, _⟩
      · simp at q; rw [q.1] at e; cases e
      · simp at q; exact ⟨g', q.1⟩
    obtain ⟨bo, rfl⟩ := e2
    obtain ⟨t1, t2, t3⟩ := there_own o5
    exact h _ cv w' bo hrr (fun _ => rfl) t1 t2 t3 g5
  · have hL : L = [] := List.length_eq_zero_iff.1 (by omega)
    subst hL
    have hsrc : Src Try.prog i0.size 22 (.slice A 0 c) 0 [] w := by
      cases A with
      | none => exact Src.ofNil w und_rates c
      | some ad => exact Src.ofSlice w und_rates ad 0 c [] (by simp) (fun j u hu => by simp at hu) (fun u hu => by cases hu)
    refine wpList_plain hgd fun K hK => ?_
    have hrun := run_append_nothing (P := Try.prog) w 22 22 o.type 51 i0 und_rates hi (some ⟨g, 0, none⟩) 0 0 (Nat.le_refl _) _ hsrc
    unfold Oper.wp
    simp [execOp, ho, resolve, invoke, builtin, hs, hx, hrun, Result.andThen]
    obtain ⟨t1, t2, t3⟩ := there_own hown
    exact hK _ _ (h _ 0 w g (fun q => absurd q (by simp)) (fun q => absurd q (by simp)) t1 t2 (by simpa using t3) ⟨rfl, rfl, rfl, Nat.le_refl _, fun _ _ _ => rfl⟩)
set_option maxRecDepth 100000 in
set_option maxHeartbeats 6000000 in
theorem fxOwn_walk (bs : ByteArray) (A : Option Addr) (len cap : Nat) (L : List Rt) (fr to_ : ByteArray) (kd dy am md : Int) (w : World) (hreach : len * 48 ≤ 140737488351232) (h : AskF w bs A len L fr to_ kd dy am md) :
    Calls Try.prog 9 #[.agg #[.string bs, .slice A len cap, .string fr, .string to_, .int .i64 kd, .int .i64 dy, .int .i64 am, .int .i64 md]] w fun e w' => e = .returned (.bool true) ∧ Below w.heap.size w w' := by
  obtain ⟨hbs, ⟨rfl, hR, hBd, hm⟩, hfr, hto, hkd, hdy, ham, hmd⟩ := h
  have hm' := hm
  unfold maxLen at hm'
  have HLg := Lib.hid (fun W => large_any A L.length cap W hm)
  have HLi := Lib.hid lives_any
  have HP := Lib.hid (Q8.alloc w (.string bs) (.slice A L.length cap) (.string fr) (.string to_) (.int .i64 kd) (.int .i64 dy) (.int .i64 am) (.int .i64 md) 35)
  have HB0 := Lib.hid ((Below.refl w.heap.size w).alloc (Nat.le_refl _) (Obj.cells #[.string bs, .slice A L.length cap, .string fr, .string to_, .int .i64 kd, .int .i64 dy, .int .i64 am, .int .i64 md] 35))
  have HR := Lib.hid (hR.below ((Below.refl w.heap.size w).alloc (Nat.le_refl _) (Obj.cells #[.string bs, .slice A L.length cap, .string fr, .string to_, .int .i64 kd, .int .i64 dy, .int .i64 am, .int .i64 md] 35)))
  have HO0 := Lib.hid (World.ownsRow_made (e := 51) (size := 5) (base := w.heap.size + 1) (w.alloc (Obj.cells #[.string bs, .slice A L.length cap, .string fr, .string to_, .int .i64 kd, .int .i64 dy, .int .i64 am, .int .i64 md] 35)) #[] 0 (by simp) (by decide) (by decide))
  have ha : Below (w.alloc (Obj.cells #[.string bs, .slice A L.length cap, .string fr, .string to_, .int .i64 kd, .int .i64 dy, .int .i64 am, .int .i64 md] 35)).heap.size (w.alloc (Obj.cells #[.string bs, .slice A L.length cap, .string fr, .string to_, .int .i64 kd, .int .i64 dy, .int .i64 am, .int .i64 md] 35)) ((w.alloc (Obj.cells #[.string bs, .slice A L.length cap, .string fr, .string to_, .int .i64 kd, .int .i64 dy, .int .i64 am, .int .i64 md] 35)).alloc (Obj.cells #[] 51)) := (Below.refl _ _).alloc (Nat.le_refl _) _
  have HP1 := Lib.hid (HP.out.below ha)
  have HR1 := Lib.hid (HR.out.below ha)
  have HB1 := Lib.hid (HB0.out.trans (ha.mono (by simp)))
  have hW1 : ((w.alloc (Obj.cells #[.string bs, .slice A L.length cap, .string fr, .string to_, .int .i64 kd, .int .i64 dy, .int .i64 am, .int .i64 md] 35)).alloc (Obj.cells #[] 51)).heap.size = w.heap.size + 2 := by simp
  clear ha hR HP HR HB0
  by_cases hc : (chk bs L).2 = 0
  case neg =>
    have H1 := Lib.hid (fun ao c' W hr => new_bad bs ao c' L W hbs hr hBd hm hc)
    have hne : ((chk bs L).2 != 0) = true := by simpa using hc
    clear hc hBd
    generalize chk bs L = ck at *
    obtain ⟨k1, k2⟩ := ck
    dsimp only at H1 hne
    by_cases g1 : 60 < L.length
    · rw [decide_eq_true g1] at HLg
      go_enter Try.func9, Try.ntmps9
      have xP0 := HP1.out.c0
      have xP1 := HP1.out.c1
      have xP2 := HP1.out.c2
      have xP3 := HP1.out.c3
      have xP4 := HP1.out.c4
      have xP5 := HP1.out.c5
      have xP6 := HP1.out.c6
      have xP7 := HP1.out.c7
      go_wp2_with (at_builtin
                   go_loud (refine wpList_append_rates rfl (.tmp 12) (.tmp 14) rfl (w.heap.size + 1) _ rfl (by simpa using HO0.out) A L cap rfl HR1.out hm hreach (by simp) ?_)
                   intro ao c' w2 bo hRo hao hbo1 hbo2 hth g2
                   have HG2 := Lib.hid g2
                   have HRo := Lib.hid hRo
                   have HTh := Lib.hid hth
                   have hs2 := g2.size
                   have P_2 := Lib.hid (HP1.out.grown g2 (by simp))
                   have HB2 := Lib.hid (HB1.out.grown g2 (by simp; omega) (fun b hb => by simp at hb; omega))
                   clear g2 hRo hth HP1 HR1 HB1 xP0 xP1 xP2 xP3 xP4 xP5 xP6 xP7
                   have xP0 := P_2.out.c0
                   have xP1 := P_2.out.c1
                   have xP2 := P_2.out.c2
                   have xP3 := P_2.out.c3
                   have xP4 := P_2.out.c4
                   have xP5 := P_2.out.c5
                   have xP6 := P_2.out.c6
                   have xP7 := P_2.out.c7)
      go_wp2_with fail
      refine (H1.out _ _ _ HRo.out).mono ?_
      rintro e w11 ⟨rfl, hb⟩
      clear xP0 xP1 xP2 xP3 xP4 xP5 xP6 xP7
      have HB11 := Lib.hid (HB2.out.trans ((hb).mono HB2.out.size))
      have P_11 := Lib.hid (P_2.out.below hb)
      clear hb HB2 P_2
      have xP0 := P_11.out.c0
      have xP1 := P_11.out.c1
      have xP2 := P_11.out.c2
      have xP3 := P_11.out.c3
      have xP4 := P_11.out.c4
      have xP5 := P_11.out.c5
      have xP6 := P_11.out.c6
      have xP7 := P_11.out.c7
      go_wp2_with fail
      refine (HLg.out _).mono ?_
      rintro e w_ ⟨rfl, rfl⟩
      go_wp2_with fail
      refine (HLi.out _).mono ?_
      rintro e w12 ⟨rfl, hb⟩
      clear xP0 xP1 xP2 xP3 xP4 xP5 xP6 xP7
      have HB12 := Lib.hid (HB11.out.trans ((hb).mono HB11.out.size))
      have P_12 := Lib.hid (P_11.out.below hb)
      clear hb HB11 P_11
      have xP0 := P_12.out.c0
      have xP1 := P_12.out.c1
      have xP2 := P_12.out.c2
      have xP3 := P_12.out.c3
      have xP4 := P_12.out.c4
      have xP5 := P_12.out.c5
      have xP6 := P_12.out.c6
      have xP7 := P_12.out.c7
      go_wp2
      go_ret
      exact ⟨rfl, HB12.out⟩
    · rw [decide_eq_false g1] at HLg
      go_enter Try.func9, Try.ntmps9
      have xP0 := HP1.out.c0
      have xP1 := HP1.out.c1
      have xP2 := HP1.out.c2
      have xP3 := HP1.out.c3
      have xP4 := HP1.out.c4
      have xP5 := HP1.out.c5
      have xP6 := HP1.out.c6
      have xP7 := HP1.out.c7
      go_wp2_with (at_builtin
                   go_loud (refine wpList_append_rates rfl (.tmp 12) (.tmp 14) rfl (w.heap.size + 1) _ rfl (by simpa using HO0.out) A L cap rfl HR1.out hm hreach (by simp) ?_)
                   intro ao c' w2 bo hRo hao hbo1 hbo2 hth g2
                   have HG2 := Lib.hid g2
                   have HRo := Lib.hid hRo
                   have HTh := Lib.hid hth
                   have hs2 := g2.size
                   have P_2 := Lib.hid (HP1.out.grown g2 (by simp))
                   have HB2 := Lib.hid (HB1.out.grown g2 (by simp; omega) (fun b hb => by simp at hb; omega))
                   clear g2 hRo hth HP1 HR1 HB1 xP0 xP1 xP2 xP3 xP4 xP5 xP6 xP7
                   have xP0 := P_2.out.c0
                   have xP1 := P_2.out.c1
                   have xP2 := P_2.out.c2
                   have xP3 := P_2.out.c3
                   have xP4 := P_2.out.c4
                   have xP5 := P_2.out.c5
                   have xP6 := P_2.out.c6
                   have xP7 := P_2.out.c7)
      go_wp2_with fail
      refine (H1.out _ _ _ HRo.out).mono ?_
      rintro e w11 ⟨rfl, hb⟩
      clear xP0 xP1 xP2 xP3 xP4 xP5 xP6 xP7
      have HB11 := Lib.hid (HB2.out.trans ((hb).mono HB2.out.size))
      have P_11 := Lib.hid (P_2.out.below hb)
      clear hb HB2 P_2
      have xP0 := P_11.out.c0
      have xP1 := P_11.out.c1
      have xP2 := P_11.out.c2
      have xP3 := P_11.out.c3
      have xP4 := P_11.out.c4
      have xP5 := P_11.out.c5
      have xP6 := P_11.out.c6
      have xP7 := P_11.out.c7
      go_wp2_with fail
      refine (HLg.out _).mono ?_
      rintro e w_ ⟨rfl, rfl⟩
      go_wp2_with fail
      refine (HLi.out _).mono ?_
      rintro e w12 ⟨rfl, hb⟩
      clear xP0 xP1 xP2 xP3 xP4 xP5 xP6 xP7
      have HB12 := Lib.hid (HB11.out.trans ((hb).mono HB11.out.size))
      have P_12 := Lib.hid (P_11.out.below hb)
      clear hb HB11 P_11
      have xP0 := P_12.out.c0
      have xP1 := P_12.out.c1
      have xP2 := P_12.out.c2
      have xP3 := P_12.out.c3
      have xP4 := P_12.out.c4
      have xP5 := P_12.out.c5
      have xP6 := P_12.out.c6
      have xP7 := P_12.out.c7
      go_wp2
      go_ret
      exact ⟨rfl, HB12.out⟩
  have hO := chk_ok.1 hc
  have H1 := Lib.hid (fun ao c' W hr => new_ok bs ao c' L W hbs hr hBd hm hc)
  have H3 := Lib.hid (fun N B W hT => find_any N B bs L fr kd dy W hT hO hfr hkd hdy)
  have hE := eqFrYes
  clear hc hO hBd
  generalize fnd bs L fr kd dy = f at *
  obtain ⟨f1, f2, f3⟩ := f
  dsimp only at H3
  by_cases g1 : 60 < L.length
  · rw [decide_eq_true g1] at HLg
    go_enter Try.func9, Try.ntmps9
    have xP0 := HP1.out.c0
    have xP1 := HP1.out.c1
    have xP2 := HP1.out.c2
    have xP3 := HP1.out.c3
    have xP4 := HP1.out.c4
    have xP5 := HP1.out.c5
    have xP6 := HP1.out.c6
    have xP7 := HP1.out.c7
    go_wp2_with (at_builtin
                 go_loud (refine wpList_append_rates rfl (.tmp 12) (.tmp 14) rfl (w.heap.size + 1) _ rfl (by simpa using HO0.out) A L cap rfl HR1.out hm hreach (by simp) ?_)
                 intro ao c' w2 bo hRo hao hbo1 hbo2 hth g2
                 have HG2 := Lib.hid g2
                 have HRo := Lib.hid hRo
                 have HTh := Lib.hid hth
                 have hs2 := g2.size
                 have P_2 := Lib.hid (HP1.out.grown g2 (by simp))
                 have HB2 := Lib.hid (HB1.out.grown g2 (by simp; omega) (fun b hb => by simp at hb; omega))
                 clear g2 hRo hth HP1 HR1 HB1 xP0 xP1 xP2 xP3 xP4 xP5 xP6 xP7
                 have xP0 := P_2.out.c0
                 have xP1 := P_2.out.c1
                 have xP2 := P_2.out.c2
                 have xP3 := P_2.out.c3
                 have xP4 := P_2.out.c4
                 have xP5 := P_2.out.c5
                 have xP6 := P_2.out.c6
                 have xP7 := P_2.out.c7)
    go_wp2_with fail
    refine (H1.out _ _ _ HRo.out).mono ?_
    rintro e w11 ⟨B, rfl, hT, hb⟩
    clear xP0 xP1 xP2 xP3 xP4 xP5 xP6 xP7
    have HB11 := Lib.hid (HB2.out.trans ((hb).mono HB2.out.size))
    have P_11 := Lib.hid (P_2.out.below hb)
    have T_11 := Lib.hid hT
    clear hb HB2 P_2 hT
    have xP0 := P_11.out.c0
    have xP1 := P_11.out.c1
    have xP2 := P_11.out.c2
    have xP3 := P_11.out.c3
    have xP4 := P_11.out.c4
    have xP5 := P_11.out.c5
    have xP6 := P_11.out.c6
    have xP7 := P_11.out.c7
    go_wp2_with fail
    refine (HLg.out _).mono ?_
    rintro e w_ ⟨rfl, rfl⟩
    go_wp2_with fail
    refine (HLi.out _).mono ?_
    rintro e w12 ⟨rfl, hb⟩
    clear xP0 xP1 xP2 xP3 xP4 xP5 xP6 xP7
    have HB12 := Lib.hid (HB11.out.trans ((hb).mono HB11.out.size))
    have P_12 := Lib.hid (P_11.out.below hb)
    have T_12 := Lib.hid (T_11.out.below hb)
    clear hb HB11 P_11 T_11
    have xP0 := P_12.out.c0
    have xP1 := P_12.out.c1
    have xP2 := P_12.out.c2
    have xP3 := P_12.out.c3
    have xP4 := P_12.out.c4
    have xP5 := P_12.out.c5
    have xP6 := P_12.out.c6
    have xP7 := P_12.out.c7
    go_wp2
    go_ret
    exact ⟨rfl, HB12.out⟩
  rw [decide_eq_false g1] at HLg
  go_enter Try.func9, Try.ntmps9
  have xP0 := HP1.out.c0
  have xP1 := HP1.out.c1
  have xP2 := HP1.out.c2
  have xP3 := HP1.out.c3
  have xP4 := HP1.out.c4
  have xP5 := HP1.out.c5
  have xP6 := HP1.out.c6
  have xP7 := HP1.out.c7
  go_wp2_with (at_builtin
               go_loud (refine wpList_append_rates rfl (.tmp 12) (.tmp 14) rfl (w.heap.size + 1) _ rfl (by simpa using HO0.out) A L cap rfl HR1.out hm hreach (by simp) ?_)
               intro ao c' w2 bo hRo hao hbo1 hbo2 hth g2
               have HG2 := Lib.hid g2
               have HRo := Lib.hid hRo
               have HTh := Lib.hid hth
               have hs2 := g2.size
               have P_2 := Lib.hid (HP1.out.grown g2 (by simp))
               have HB2 := Lib.hid (HB1.out.grown g2 (by simp; omega) (fun b hb => by simp at hb; omega))
               clear g2 hRo hth HP1 HR1 HB1 xP0 xP1 xP2 xP3 xP4 xP5 xP6 xP7
               have xP0 := P_2.out.c0
               have xP1 := P_2.out.c1
               have xP2 := P_2.out.c2
               have xP3 := P_2.out.c3
               have xP4 := P_2.out.c4
               have xP5 := P_2.out.c5
               have xP6 := P_2.out.c6
               have xP7 := P_2.out.c7)
  obtain ⟨N, hN⟩ : ∃ N, w2.heap.size = N := ⟨_, rfl⟩
  rw [hN] at hbo2
  go_wp2_with fail
  refine (H1.out _ _ _ HRo.out).mono ?_
  rintro e w11 ⟨B, rfl, hT, hb⟩
  clear xP0 xP1 xP2 xP3 xP4 xP5 xP6 xP7
  have HB11 := Lib.hid (HB2.out.trans ((hb).mono HB2.out.size))
  have P_11 := Lib.hid (P_2.out.below hb)
  have T_11 := Lib.hid (hN ▸ hT)
  have Th_11 := Lib.hid (there_below HTh.out (by omega) hb)
  have hl11 : bo < w11.heap.size := by have := hb.size; omega
  have hN11 : N ≤ w11.heap.size := by have := hb.size; omega
  clear HTh HG2 HRo
  clear hb HB2 P_2 hT
  have xP0 := P_11.out.c0
  have xP1 := P_11.out.c1
  have xP2 := P_11.out.c2
  have xP3 := P_11.out.c3
  have xP4 := P_11.out.c4
  have xP5 := P_11.out.c5
  have xP6 := P_11.out.c6
  have xP7 := P_11.out.c7
  go_wp2_with fail
  refine (HLg.out _).mono ?_
  rintro e w_ ⟨rfl, rfl⟩
  go_wp2_with fail
  refine (H3.out _ _ _ T_11.out).mono ?_
  rintro e w12 ⟨rfl, hb⟩
  clear xP0 xP1 xP2 xP3 xP4 xP5 xP6 xP7
  have HB12 := Lib.hid (HB11.out.trans ((hb).mono HB11.out.size))
  have P_12 := Lib.hid (P_11.out.below hb)
  have T_12 := Lib.hid (T_11.out.below hb)
  have Th_12 := Lib.hid (there_below Th_11.out hl11 hb)
  have hs12 := hb.size
  clear Th_11 hb HB11 P_11 T_11
  have ha : Below w12.heap.size w12 (w12.alloc (Obj.cells #[.int .i64 f1, .int .i64 f2] 37)) := (Below.refl _ _).alloc (Nat.le_refl _) _
  have HB13 := Lib.hid (HB12.out.trans ((ha).mono HB12.out.size))
  have P_13 := Lib.hid (P_12.out.below ha)
  have T_13 := Lib.hid (T_12.out.below ha)
  have F_13 := Lib.hid (Q2.alloc w12 (.int .i64 f1) (.int .i64 f2) 37)
  have Th_13 := Lib.hid (there_below Th_12.out (by omega) ha)
  clear Th_12 ha HB12 P_12 T_12
  have xP0 := P_13.out.c0
  have xP1 := P_13.out.c1
  have xP2 := P_13.out.c2
  have xP3 := P_13.out.c3
  have xP4 := P_13.out.c4
  have xP5 := P_13.out.c5
  have xP6 := P_13.out.c6
  have xP7 := P_13.out.c7
  have xF0 := F_13.out.c0
  have xF1 := F_13.out.c1
  clear xP0 xP1 xP2 xP3 xP4 xP5 xP6 xP7 xF0 xF1
  obtain ⟨bf, hbf⟩ : ∃ bf, w12.heap.size = bf := ⟨_, rfl⟩
  rw [hbf] at F_13
  have hbfN : N ≤ bf := by omega
  have x1 := P_13.out.c1
  go_wp2
  try rw [hbf]
  go_loopw [9] (fun x wr => ∃ k : Nat, k ≤ L.length ∧ x = .int .i64 k ∧ Hid (wr.there bo 0 (L.length * 5)) ∧ Hid (TabT wr N B bs L) ∧ Hid (Q8 wr w.heap.size (.string bs) (.slice A L.length cap) (.string fr) (.string to_) (.int .i64 kd) (.int .i64 dy) (.int .i64 am) (.int .i64 md)) ∧ Hid (Q2 wr bf (.int .i64 f1) (.int .i64 f2)) ∧ Hid (Below w.heap.size w wr)) (fun x _ => L.length - (intOf x).toNat)
  case atStart => exact ⟨0, Nat.zero_le _, rfl, Th_13, T_13, P_13, F_13, HB13⟩
  case round =>
    clear Th_13 P_13 F_13 HB13 T_13 H1 x1 hbf hs12 hl11 hN11
    obtain ⟨k, hk, rfl, HTh, HT, HP, HF, HB⟩ := hrel
    have x0 := HP.out.c0
    have x1 := HP.out.c1
    have x2 := HP.out.c2
    have x4 := HP.out.c4
    have x5 := HP.out.c5
    by_cases h : k < L.length
    · have h' : (k : Int) < (L.length : Int) := by omega
      obtain rfl := hao (by omega)
      go_wp2_with (first
        | (refine wpList_store_rate rfl (.tmp 59) (.tmp 58) rfl bo k L.length _ _ _ _ _ rfl rfl h HTh.out ?_
           intro ws gs ts
           have HS := Lib.hid gs
           have HTh2 := Lib.hid ts
           clear gs ts))
      have hs := HS.out
      have HT2 := Lib.hid (HT.out.kept ⟨hs.size, fun i hNi hi => hs.block i hi (fun e => by injection e with e; omega)⟩)
      have HP2 := Lib.hid (HP.out.grown hs (fun e => by injection e with e; omega))
      have HF2 := Lib.hid (HF.out.grown hs (fun e => by injection e with e; omega))
      have HB2 := Lib.hid (HB.out.grown hs HB.out.size (fun i e => by injection e with e; omega))
      refine ⟨⟨k + 1, by omega, by go_num, HTh2, HT2, HP2, HF2, HB2⟩, ?_⟩
      simp [intOf]; omega
    · have h' : ¬ (k : Int) < (L.length : Int) := by omega
      clear x0 x1 x2 x4 x5 HTh hao
      have xP0 := HP.out.c0
      have xP1 := HP.out.c1
      have xP2 := HP.out.c2
      have xP3 := HP.out.c3
      have xP4 := HP.out.c4
      have xP5 := HP.out.c5
      have xP6 := HP.out.c6
      have xP7 := HP.out.c7
      have xF0 := HF.out.c0
      have xF1 := HF.out.c1
      go_wp2_with fail
      refine (H3.out _ _ _ HT.out).mono ?_
      rintro e w21 ⟨rfl, hb⟩
      clear xP0 xP1 xP2 xP3 xP4 xP5 xP6 xP7 xF0 xF1
      have HB21 := Lib.hid (HB.out.trans ((hb).mono HB.out.size))
      have P_21 := Lib.hid (HP.out.below hb)
      have F_21 := Lib.hid (HF.out.below hb)
      have T_21 := Lib.hid (HT.out.below hb)
      clear hb HB HP HF HT
      have ha : Below w21.heap.size w21 (w21.alloc (Obj.cells #[.int .i64 f1, .int .i64 f2] 37)) := (Below.refl _ _).alloc (Nat.le_refl _) _
      have HB22 := Lib.hid (HB21.out.trans ((ha).mono HB21.out.size))
      have P_22 := Lib.hid (P_21.out.below ha)
      have F_22 := Lib.hid (F_21.out.below ha)
      have T_22 := Lib.hid (T_21.out.below ha)
      have G_22 := Lib.hid (Q2.alloc w21 (.int .i64 f1) (.int .i64 f2) 37)
      clear ha HB21 P_21 F_21 T_21
      have xP0 := P_22.out.c0
      have xP1 := P_22.out.c1
      have xP2 := P_22.out.c2
      have xP3 := P_22.out.c3
      have xP4 := P_22.out.c4
      have xP5 := P_22.out.c5
      have xP6 := P_22.out.c6
      have xP7 := P_22.out.c7
      have xF0 := F_22.out.c0
      have xF1 := F_22.out.c1
      have xG0 := G_22.out.c0
      have xG1 := G_22.out.c1
      go_wp2_with fail
      clear xP0 xP1 xP2 xP3 xP4 xP5 xP6 xP7 xF0 xF1 xG0 xG1
      generalize hW : w21.alloc (Obj.cells #[.int .i64 f1, .int .i64 f2] 37) = W at *
      obtain ⟨_, M, hq, _⟩ := T_22.out
      have C1 : ∀ dd os, Calls Try.prog 15 #[.pointer (some ⟨B, 0, none⟩)] (grow (redrawn W dd) os) fun e w'' => e = .returned (.int .i64 (L.length : Int)) ∧ ∃ p : Regrown, w'' = grow (redrawn W p.d) p.os := fun dd os => Calls.regrown_of ((len_any B _ _ _ (L.length : Int) rfl _ (hq.below (below_regrown W dd os))).mono (fun _ _ ⟨he, hw⟩ => ⟨he, hw ▸ Below.refl _ _⟩))
      have C2 : ∀ dd os, Calls Try.prog 11 #[] (grow (redrawn W dd) os) fun e w'' => e = .returned (.bool true) ∧ ∃ p : Regrown, w'' = grow (redrawn W p.d) p.os := fun dd os => Calls.regrown_of (HLi.out _)
      have m0 := cell_regrown P_22.out.c1
      have m1 := cell_regrown F_22.out.c0
      have m2 := cell_regrown F_22.out.c1
      have m3 := cell_regrown G_22.out.c0
      have m4 := cell_regrown G_22.out.c1
      clear hq hW
      refine wp_region_quiet_below (l := _) (by kernel_rfl) (by kernel_rfl) ?_
      repeat (first | go_big_quiet_step (first | (go_at_call 15; exact C1 _ _) | (go_at_call 11; exact C2 _ _)))
      refine wpQuiet_nil ?_
      intro w5 hw'
      obtain ⟨⟨dq2, osq2⟩, hw''⟩ := hw'
      have hb2 := below_regrown W dq2 osq2
      rw [← hw''] at hb2
      clear hw'' C1 C2 m0 m1 m2 m3 m4
      go_wp2
      go_ret
      exact ⟨rfl, HB22.out.trans (hb2.mono HB22.out.size)⟩
end Go.Proofs.Ytdeoplbdgbgimaa
