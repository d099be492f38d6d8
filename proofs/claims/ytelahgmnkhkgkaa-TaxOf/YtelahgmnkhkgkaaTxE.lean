/- What inOrder of package tax returns. Written by wip/mk_txe.py. -/
import Derived.Test.YtelahgmnkhkgkaaTxD
import Derived.OwnWalk
namespace Go.Proofs.Ytelahgmnkhkgkaa
open Go.RowKit Go.Sort
set_option linter.unusedVariables false
set_option linter.unusedSimpArgs false

theorem zero_sum (w : World) : (zeroValue 51).run Try.prog w = .ok (smV (⟨#[]⟩, 0, 0)) w := by kernel_rfl
theorem und_map : Try.prog.underlying 66 = some (.map 9 51) := by kernel_rfl
abbrev MapT (w : World) (b n : Nat) (g : List UInt8 → Option Sm) : Prop := MapS ES w 9 b n g
theorem lookok_some {w : World} {ops : Array Oper} {rest : List Oper} {o : Oper} {a : Act} {Q : Exit → Act → World → Prop} (hgd : o.guard = none) (m x : Operand) (hop : o.op = Op.lookup 66 m x true)
    (b n : Nat) (g : List UInt8 → Option Sm) (hm : a.eval m = .map (some b)) (h : MapT w b n g) (s : ByteArray) (hx : a.eval x = .string s) (hs : s.size ≤ maxLen) (c : ByteArray) (y z : Int) (hg : g s.toList = some (c, y, z))
    (hK : wpList Try.prog ops Q rest (a.put o.dst (.tuple #[.agg #[.string c, .int .i64 y, .int .i64 z], .bool true])) w) : wpList Try.prog ops Q (o :: rest) a w :=
  wpList_lookokS hgd m x _ hop ES _ _ und_str und_map (zero_sum w) b n g hm h s hx hs (by rw [hg]; exact hK)
theorem lookok_none {w : World} {ops : Array Oper} {rest : List Oper} {o : Oper} {a : Act} {Q : Exit → Act → World → Prop} (hgd : o.guard = none) (m x : Operand) (hop : o.op = Op.lookup 66 m x true)
    (b n : Nat) (g : List UInt8 → Option Sm) (hm : a.eval m = .map (some b)) (h : MapT w b n g) (s : ByteArray) (hx : a.eval x = .string s) (hs : s.size ≤ maxLen) (hg : g s.toList = none)
    (hK : wpList Try.prog ops Q rest (a.put o.dst (.tuple #[.agg #[.string ⟨#[]⟩, .int .i64 0, .int .i64 0], .bool false])) w) : wpList Try.prog ops Q (o :: rest) a w :=
  wpList_lookokS hgd m x _ hop ES _ _ und_str und_map (zero_sum w) b n g hm h s hx hs (by rw [hg]; exact hK)
theorem look_is {w : World} {ops : Array Oper} {rest : List Oper} {o : Oper} {a : Act} {Q : Exit → Act → World → Prop} (hgd : o.guard = none) (m x : Operand) (hop : o.op = Op.lookup 66 m x false)
    (b n : Nat) (g : List UInt8 → Option Sm) (hm : a.eval m = .map (some b)) (h : MapT w b n g) (s : ByteArray) (hx : a.eval x = .string s) (hs : s.size ≤ maxLen) (c : ByteArray) (y z : Int) (hg : (g s.toList).getD (⟨#[]⟩, 0, 0) = (c, y, z))
    (hK : wpList Try.prog ops Q rest (a.put o.dst (.agg #[.string c, .int .i64 y, .int .i64 z])) w) : wpList Try.prog ops Q (o :: rest) a w :=
  wpList_lookS hgd m x _ hop ES _ _ und_str und_map (zero_sum w) b n g hm h s hx hs (by
    show wpList Try.prog ops Q rest (a.put o.dst (smV ((g s.toList).getD (⟨#[]⟩, 0, 0)))) w
    rw [hg]; exact hK)
/-- a sum in memory, its last cell writable. -/
structure Q3F (w : World) (B : Nat) (a b c : Value) : Prop where
  lt : B < w.heap.size
  c0 : w.cell? ⟨B, 0, none⟩ = some a
  c1 : w.cell? ⟨B, 1, none⟩ = some b
  c2 : w.cell? ⟨B, 2, none⟩ = some c
  f2 : w.frozen? ⟨B, 2, none⟩ = false
theorem Q3F.alloc (w : World) (a b c : Value) (t : TypeId) : Q3F (w.alloc (Obj.cells #[a, b, c] t)) w.heap.size a b c :=
  ⟨by simp, by rw [World.cell?_alloc_at _ _ _ _ rfl]; rfl, by rw [World.cell?_alloc_at _ _ _ _ rfl]; rfl, by rw [World.cell?_alloc_at _ _ _ _ rfl]; rfl, by rw [World.frozen?_alloc_at _ _ _ _ rfl]⟩
theorem Q3F.below {w w' : World} {B : Nat} {a b c : Value} (h : Q3F w B a b c) (hb : Below w.heap.size w w') : Q3F w' B a b c :=
  ⟨Nat.lt_of_lt_of_le h.lt hb.size, by rw [hb.cell h.lt]; exact h.c0, by rw [hb.cell h.lt]; exact h.c1, by rw [hb.cell h.lt]; exact h.c2, by rw [hb.frozen h.lt]; exact h.f2⟩
theorem Q3F.set2 {w : World} {B : Nat} {a b c : Value} (h : Q3F w B a b c) (v : Value) : Q3F (w.setCell ⟨B, 2, none⟩ v) B a b v :=
  ⟨by show B < (w.heap.modify _ _).size; rw [Array.size_modify]; exact h.lt, by rw [World.cell?_setCell_other _ _ _ _ (by simp)]; exact h.c0, by rw [World.cell?_setCell_other _ _ _ _ (by simp)]; exact h.c1, World.cell?_setCell_same _ _ _ h.c2, by rw [World.frozen?_setCell]; exact h.f2⟩
theorem OwnS.setNew {w0 w : World} {base B j : Nat} {v x : Value} {L : List Sm} (h0 : OwnS w0 base v L) (h : OwnS w base v L) (hB : w0.heap.size ≤ B) : OwnS (w.setCell ⟨B, j, none⟩ x) base v L := by
  refine ⟨h.1, ?_⟩
  rcases h.2 with q | ⟨g, cap, cur, e1, e2, e3, e4⟩
  · exact .inl q
  · refine .inr ⟨g, cap, cur, e1, e2, ?_, e4⟩
    rcases h0.2 with ⟨q, _⟩ | ⟨g', cap', cur', f1, f2, f3, f4⟩
    · rw [q] at e1; cases e1
    · rw [e1] at f1
      injection f1 with f1
      injection f1 with f1
      injection f1 with f1
      subst f1
      have := lt_of_block f3
      exact (Below.heap_setCell w ⟨B, j, none⟩ x g (by show g ≠ B; omega)).trans e3
def one1 (way m : Int) (c : Cd) (a : Sm) : Sm := (a.1, a.2.1, if way = 2 then (onV a.2.1 c.2.2.1 c.2.2.2 m).1 else a.2.2)
def inO (way m : Int) (g : List UInt8 → Option Sm) (C : List Cd) : List Sm := C.filterMap (fun c => (g c.1.toList).map (one1 way m c))
theorem inO_none {way m : Int} {g : List UInt8 → Option Sm} {C : List Cd} {k : Nat} (h : k < C.length) (hg : g C[k].1.toList = none) : inO way m g (C.take (k + 1)) = inO way m g (C.take k) := by
  unfold inO
  rw [List.take_succ_eq_append_getElem h, List.filterMap_append]
  simp [hg]
theorem inO_some {way m : Int} {g : List UInt8 → Option Sm} {C : List Cd} {k : Nat} (h : k < C.length) {a : Sm} (hg : g C[k].1.toList = some a) : inO way m g (C.take (k + 1)) = inO way m g (C.take k) ++ [one1 way m C[k] a] := by
  unfold inO
  rw [List.take_succ_eq_append_getElem h, List.filterMap_append]
  simp [hg]
theorem inO_len (way m : Int) (g : List UInt8 → Option Sm) (C : List Cd) : (inO way m g C).length ≤ C.length := List.length_filterMap_le _ _
set_option maxRecDepth 100000 in
set_option maxHeartbeats 4000000 in
theorem inOrder_any (A : Option Addr) (c : Nat) (C : List Cd) (way m : Int) (B n : Nat) (g : List UInt8 → Option Sm) (w : World) (hM : MapT w B n g) (hR : RowC w A C) (hBd : BdC C) (hn : C.length ≤ 200)
    (hG : ∀ s a, g s = some a → r64 a.2.1) :
    Calls Try.prog 36 #[.map (some B), .slice A C.length c, .int .i64 way, .int .i64 m] w fun e w' => ∃ v, e = .returned v ∧ OwnS w' w.heap.size v (inO way m g C) ∧ Below w.heap.size w w' := by
  have HR := Lib.hid hR
  have HBd := Lib.hid hBd
  have HM := Lib.hid hM
  have HGb := Lib.hid hG
  have hBl := hM.lt
  clear hR hBd hM hG
  go_enter Try.func36, Try.ntmps36
  go_wp2
  go_loopw [8, 15] (fun y x wr => ∃ (k : Nat) (v : Value), k ≤ C.length ∧ x = .int .i64 k ∧ y = v ∧ Hid (OwnS wr w.heap.size v (inO way m g (C.take k))) ∧ Hid (Below w.heap.size w wr)) (fun _ x _ => C.length - (intOf x).toNat)
  case atStart => exact ⟨0, _, Nat.zero_le _, rfl, rfl, Lib.hid (OwnS.nil _ _), Lib.hid (Below.refl _ _)⟩
  case round =>
    obtain ⟨k, v, hk, rfl, rfl, HO, HB⟩ := hrel
    obtain ⟨ao, cap, hv⟩ := HO.out.shape
    subst hv
    by_cases h : k < C.length
    · have h' : (k : Int) < (C.length : Int) := by omega
      obtain ⟨b, off, rfl, hl, hc⟩ := (HR.out.below HB.out) (by omega)
      obtain ⟨c0, c1, c2, c3⟩ := hc k h
      obtain ⟨⟨s0, s1⟩, ⟨n1, n2⟩, ⟨d1, d2⟩⟩ := HBd.out C[k] (List.getElem_mem h)
      have hlen := inO_len way m g (C.take k)
      rw [List.length_take] at hlen
      have HN := Lib.hid (fun q => inO_none (way := way) (m := m) (g := g) h q)
      have HS := Lib.hid (fun a q => inO_some (way := way) (m := m) (g := g) (a := a) h q)
      obtain ⟨S, hS⟩ : ∃ S, C[k].1 = S := ⟨_, rfl⟩
      obtain ⟨T, hT⟩ : ∃ T, C[k].2.1 = T := ⟨_, rfl⟩
      obtain ⟨fn, hfn⟩ : ∃ fn, C[k].2.2.1 = fn := ⟨_, rfl⟩
      obtain ⟨fd, hfd⟩ : ∃ fd, C[k].2.2.2 = fd := ⟨_, rfl⟩
      have HOn := Lib.hid (show ∀ a, one1 way m C[k] a = (a.1, a.2.1, if way = 2 then (onV a.2.1 fn fd m).1 else a.2.2) from fun a => by unfold one1; rw [hfn, hfd])
      rw [hS] at c0 HN HS s0
      rw [hT] at c1 s1
      rw [hfn] at c2 n1 n2
      rw [hfd] at c3 d1 d2
      have hp := Q4.alloc wr (.string S) (.string T) (.int .i64 fn) (.int .i64 fd) 59
      have hb1 : Below wr.heap.size wr (wr.alloc (Obj.cells #[.string S, .string T, .int .i64 fn, .int .i64 fd] 59)) := (Below.refl _ _).alloc (Nat.le_refl _) _
      have HB2 := Lib.hid (HB.out.trans (hb1.mono HB.out.size))
      have HP := Lib.hid hp
      have HO2 := Lib.hid (HO.out.below hb1)
      have HM2 := Lib.hid (HM.out.below HB2.out hBl)
      have hz1 : (wr.alloc (Obj.cells #[.string S, .string T, .int .i64 fn, .int .i64 fd] 59)).heap.size = wr.heap.size + 1 := by simp
      have hsz0 := HB.out.size
      have l0 := hp.c0
      have l1 := hp.c1
      have l2 := hp.c2
      have l3 := hp.c3
      clear hS hT hfn hfd hp hb1 hc HB s1
      generalize inO way m g (C.take k) = M at *
      cases hg : g S.toList with
      | none =>
        have HN2 := Lib.hid (HN.out hg)
        clear HN HS HOn
        have hb2 : Below (wr.alloc (Obj.cells #[.string S, .string T, .int .i64 fn, .int .i64 fd] 59)).heap.size (wr.alloc (Obj.cells #[.string S, .string T, .int .i64 fn, .int .i64 fd] 59)) ((wr.alloc (Obj.cells #[.string S, .string T, .int .i64 fn, .int .i64 fd] 59)).alloc (Obj.cells #[.string ⟨#[]⟩, .int .i64 0, .int .i64 0] 51)) := (Below.refl _ _).alloc (Nat.le_refl _) _
        have HB3 := Lib.hid (HB2.out.trans (hb2.mono HB2.out.size))
        have HO3 := Lib.hid (HO2.out.below hb2)
        clear hb2
        go_wp2_with (at_lookup; refine lookok_none rfl _ _ rfl B n g rfl HM2.out S rfl s0 hg ?_)
        go_roundw
        case rel => exact ⟨k + 1, _, by omega, by go_num, rfl, by rw [HN2.out]; exact HO3, HB3⟩
        case measure => simp [intOf]; omega
      | some a =>
        obtain ⟨y0, y1, y2⟩ := a
        obtain ⟨r1, r2⟩ := HGb.out _ _ hg
        have HS2 := Lib.hid (HS.out _ hg)
        have HOn2 := Lib.hid (HOn.out (y0, y1, y2))
        have r1 : -9223372036854775808 ≤ y1 := r1
        have r2 : y1 ≤ 9223372036854775807 := r2
        clear HN HS HOn
        have hq := Q3F.alloc (wr.alloc (Obj.cells #[.string S, .string T, .int .i64 fn, .int .i64 fd] 59)) (.string y0) (.int .i64 y1) (.int .i64 y2) 51
        have hb2 : Below (wr.alloc (Obj.cells #[.string S, .string T, .int .i64 fn, .int .i64 fd] 59)).heap.size (wr.alloc (Obj.cells #[.string S, .string T, .int .i64 fn, .int .i64 fd] 59)) ((wr.alloc (Obj.cells #[.string S, .string T, .int .i64 fn, .int .i64 fd] 59)).alloc (Obj.cells #[.string y0, .int .i64 y1, .int .i64 y2] 51)) := (Below.refl _ _).alloc (Nat.le_refl _) _
        rw [hz1] at hq
        have hp3 := HP.out.below hb2
        have HB3 := Lib.hid (HB2.out.trans (hb2.mono HB2.out.size))
        have HO3 := Lib.hid (HO2.out.below hb2)
        have HQ := Lib.hid hq
        have HPq := Lib.hid hp3
        have k0 := hq.c0
        have k1 := hq.c1
        have k2 := hq.c2
        have kf := hq.f2
        have j2 := hp3.c2
        have j3 := hp3.c3
        clear hb2 hq hp3
        by_cases h2 : way = 2
        · have h2' : (way == 2) = true := by simpa using h2
          have hfs : onV y1 fn fd m = onV y1 fn fd m := rfl
          have HOn3 := Lib.hid (show one1 way m C[k] (y0, y1, y2) = (y0, y1, (onV y1 fn fd m).1) by rw [HOn2.out, if_pos h2])
          have HC := Lib.hid (fun W => on_any y1 fn fd m W r1 r2 n1 n2 d1 d2)
          generalize onV y1 fn fd m = ov at *
          obtain ⟨o1, o2⟩ := ov
          clear h2 hfs HOn2
          go_wp2_with (at_lookup; refine lookok_some rfl _ _ rfl B n g rfl HM2.out S rfl s0 y0 y1 y2 hg ?_)
          refine (HC.out _).mono ?_
          rintro e w3 ⟨rfl, hb⟩
          have HB4 := Lib.hid (HB3.out.trans (hb.mono HB3.out.size))
          have HO4 := Lib.hid (HO3.out.below hb)
          have hq := HQ.out.below hb
          have HQ5 := Lib.hid (hq.set2 (.int .i64 o1))
          have m0 := hq.c0
          have m1 := hq.c1
          have m2 := hq.c2
          have mf := hq.f2
          have hm2 := HQ5.out.c2
          have hm0 := HQ5.out.c0
          have hm1 := HQ5.out.c1
          have hb5 : Below (wr.heap.size + 1) w3 (w3.setCell ⟨wr.heap.size + 1, 2, none⟩ (.int .i64 o1)) := (Below.refl _ _).setCell (p := ⟨wr.heap.size + 1, 2, none⟩) (Nat.le_refl _) _
          have HB5 := Lib.hid (HB4.out.trans (hb5.mono (by omega)))
          have hO5 : OwnS (w3.setCell ⟨wr.heap.size + 1, 2, none⟩ (.int .i64 o1)) w.heap.size (.slice ao M.length cap) M := HO.out.setNew HO4.out (by omega)
          have hcs := cells_sum (w3.setCell ⟨wr.heap.size + 1, 2, none⟩ (.int .i64 o1)) (y0, y1, o1) 51
          have hss : (w3.setCell ⟨wr.heap.size + 1, 2, none⟩ (.int .i64 o1)).heap.size = w3.heap.size := by show (w3.heap.modify _ _).size = _; rw [Array.size_modify]
          rw [hss] at hcs
          have HCs := Lib.hid hcs
          have HO5 := Lib.hid hO5
          clear hb hq hb5 hO5 hcs k0 k1 k2 kf j2 j3 l0 l1 l2 l3
          go_wp2_with (at_builtin; refine wpList_sum rfl (.tmp 40) (.tmp 42) rfl w.heap.size _ M (y0, y1, o1) rfl (HO5.out.below ((Below.refl _ _).alloc (Nat.le_refl _) _)) ⟨w3.heap.size, 0, none⟩ 1 rfl HCs.out (by omega) (by have := HB5.out.size; simp at this ⊢; omega) ?_; intro v' w6 hown hbel; have HO6 := Lib.hid hown; have HB6 := Lib.hid (HB5.out.trans (((Below.refl _ _).alloc HB5.out.size _).trans hbel)); clear hown hbel)
          go_roundw
          case rel => exact ⟨k + 1, _, by omega, by go_num, rfl, by rw [HS2.out, HOn3.out]; exact HO6, HB6⟩
          case measure => simp [intOf]; omega
        · have h2' : (way == 2) = false := by simpa using h2
          have HOn3 := Lib.hid (show one1 way m C[k] (y0, y1, y2) = (y0, y1, y2) by rw [HOn2.out, if_neg h2])
          clear h2 HOn2
          go_wp2_with (first | (at_lookup; refine lookok_some rfl _ _ rfl B n g rfl HM2.out S rfl s0 y0 y1 y2 hg ?_) | (at_builtin; refine wpList_sum rfl (.tmp 40) (.tmp 42) rfl w.heap.size _ M (y0, y1, y2) rfl (HO3.out.below ((Below.refl _ _).alloc (Nat.le_refl _) _)) ⟨wr.heap.size + 1 + 1, 0, none⟩ 1 rfl (by have q := cells_sum ((wr.alloc (Obj.cells #[.string S, .string T, .int .i64 fn, .int .i64 fd] 59)).alloc (Obj.cells #[.string y0, .int .i64 y1, .int .i64 y2] 51)) (y0, y1, y2) 51; simp only [World.size_alloc] at q; exact q) (by omega) (by have := HB3.out.size; simp at this ⊢; omega) ?_; intro v' w6 hown hbel; have HO6 := Lib.hid hown; have HB6 := Lib.hid (HB3.out.trans (((Below.refl _ _).alloc HB3.out.size _).trans hbel)); clear hown hbel))
          go_roundw
          case rel => exact ⟨k + 1, _, by omega, by go_num, rfl, by rw [HS2.out, HOn3.out]; exact HO6, HB6⟩
          case measure => simp [intOf]; omega
    · have h' : ¬ (k : Int) < (C.length : Int) := by omega
      have HE := Lib.hid (show C.take k = C from List.take_of_length_le (by omega))
      go_wp2
      go_ret
      exact ⟨_, rfl, by rw [show inO way m g C = inO way m g (C.take k) by rw [HE.out]]; exact HO.out, HB.out⟩
end Go.Proofs.Ytelahgmnkhkgkaa
