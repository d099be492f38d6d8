/- What Text of packages chain and accountingref14 returns. -/
import Derived.Test.YtacgjfgiikbjiaaChH
namespace Go.Proofs.Ytacgjfgiikbjiaa
open Go.RowKit Go.Sort
set_option linter.unusedVariables false
set_option linter.unusedSimpArgs false

/-- bytes appended. -/
theorem wpList_bytes {w : World} {ops : Array Oper} {rest : List Oper} {o : Oper} {a : Act} {Q : Exit → Act → World → Prop} (hgd : o.guard = none) (s x : Operand)
    (ho : o.op = .call { callee := .builtin .append, args := #[s, x], argTypes := #[23, 23] })
    (base : Nat) (v : Value) (l m : List UInt8) (hs : a.eval s = v) (hown : OwnB w base v l) (ao : Option Addr) (c : Nat) (hx : a.eval x = .slice ao m.length c) (hn : ao = none → c = 0) (hc : RowB w ao m)
    (hl : l.length + m.length < 1000000) (hbase : base ≤ w.heap.size)
    (h : ∀ v' w', OwnB w' base v' (l ++ m) → Below base w w' → wpList Try.prog ops Q rest (a.put o.dst v') w') : wpList Try.prog ops Q (o :: rest) a w := by
  refine wpList_vals und_bytes inf_u8 rfl (by omega) hgd s x ho base v (l.map byV) (m.map byV) hs hown ao c (by rw [List.length_map]; exact hx) hn hc ?_ (by simp; omega) hbase ?_
  · intro y hy
    obtain ⟨z, _, rfl⟩ := List.mem_map.1 hy
    rfl
  · intro v' w' h1 h2
    exact h v' w' (by unfold OwnB; rw [List.map_append]; exact h1) h2
theorem step_bytes {w : World} {ops : Array Oper} {o : Oper} {a : Act} {K : Act → World → Prop} {Q : Exit → Act → World → Prop} {E : Prop} (hgd : o.guard = none) (s x : Operand)
    (ho : o.op = .call { callee := .builtin .append, args := #[s, x], argTypes := #[23, 23] })
    (base : Nat) (v : Value) (l m : List UInt8) (hs : a.eval s = v) (hown : OwnB w base v l) (ao : Option Addr) (c : Nat) (hx : a.eval x = .slice ao m.length c) (hn : ao = none → c = 0) (hc : RowB w ao m)
    (hl : l.length + m.length < 1000000) (hbase : base ≤ w.heap.size)
    (h : ∀ v' w', OwnB w' base v' (l ++ m) → Below base w w' → K (a.put o.dst v') w') : if Region.wanted o (yielded ops a.tmps) = true then Oper.wp Try.prog o a w K Q else E := by
  refine step_vals und_bytes inf_u8 rfl (by omega) hgd s x ho base v (l.map byV) (m.map byV) hs hown ao c (by rw [List.length_map]; exact hx) hn hc ?_ (by simp; omega) hbase ?_
  · intro y hy
    obtain ⟨z, _, rfl⟩ := List.mem_map.1 hy
    rfl
  · intro v' w' h1 h2
    exact h v' w' (by unfold OwnB; rw [List.map_append]; exact h1) h2
theorem OwnB.shape {w : World} {base : Nat} {v : Value} {l : List UInt8} (h : OwnB w base v l) : ∃ ao cap, v = .slice ao l.length cap := by
  have := OwnV.shape h; rw [List.length_map] at this; exact this
theorem OwnB.conv {w : World} {base : Nat} {ao : Option Addr} {cap : Nat} {l : List UInt8} (h : OwnB w base (.slice ao l.length cap) l) : (convert 23 9 (.slice ao l.length cap)).run Try.prog w = .ok (.string (bs l)) w :=
  RowB.conv (OwnV.row h) cap fun e => by
    subst e
    cases l with
    | nil => rfl
    | cons b l => obtain ⟨_, _, e, _⟩ := (OwnV.row h) 0 _ rfl; cases e
theorem row_two (w : World) (a b : UInt8) : RowB (w.alloc (.cells #[.int .u8 (a.toNat : Int), .int .u8 (b.toNat : Int)] 5)) (some ⟨w.heap.size, 0, none⟩) [a, b] :=
  RowV.block (by simp) fun i x hx => by
    match i, hx with
    | 0, hx => rw [World.cell?_alloc_at _ _ _ _ rfl]; simpa [byV] using hx
    | 1, hx => rw [World.cell?_alloc_at _ _ _ _ rfl]; simpa [byV] using hx
def dgS : ByteArray := ⟨#[48, 49, 50, 51, 52, 53, 54, 55, 56, 57, 97, 98, 99, 100, 101, 102]⟩
theorem idx8 : ∀ (l : List UInt8) (hl : l.length = 8) (j : Nat) (hj : j < l.length) (w : World), (Instr.index 50 (.agg (l.map byV).toArray) (.int .i64 (j : Int))).run Try.prog w = .ok (.int .u8 (l[j].toNat : Int)) w
  | [a, b, c, d, e, f, g, h], hl, 0, hj, w => by kernel_rfl
  | [a, b, c, d, e, f, g, h], hl, 1, hj, w => by kernel_rfl
  | [a, b, c, d, e, f, g, h], hl, 2, hj, w => by kernel_rfl
  | [a, b, c, d, e, f, g, h], hl, 3, hj, w => by kernel_rfl
  | [a, b, c, d, e, f, g, h], hl, 4, hj, w => by kernel_rfl
  | [a, b, c, d, e, f, g, h], hl, 5, hj, w => by kernel_rfl
  | [a, b, c, d, e, f, g, h], hl, 6, hj, w => by kernel_rfl
  | [a, b, c, d, e, f, g, h], hl, 7, hj, w => by kernel_rfl
theorem idxD : ∀ (k : Nat) (h : k < 16) (w : World), (Instr.index 9 (.string ⟨#[48, 49, 50, 51, 52, 53, 54, 55, 56, 57, 97, 98, 99, 100, 101, 102]⟩) (.int .u8 (k : Int))).run Try.prog w = .ok (.int .u8 ((hxD.getD k 0).toNat : Int)) w
  | 0, h, w => by kernel_rfl
  | 1, h, w => by kernel_rfl
  | 2, h, w => by kernel_rfl
  | 3, h, w => by kernel_rfl
  | 4, h, w => by kernel_rfl
  | 5, h, w => by kernel_rfl
  | 6, h, w => by kernel_rfl
  | 7, h, w => by kernel_rfl
  | 8, h, w => by kernel_rfl
  | 9, h, w => by kernel_rfl
  | 10, h, w => by kernel_rfl
  | 11, h, w => by kernel_rfl
  | 12, h, w => by kernel_rfl
  | 13, h, w => by kernel_rfl
  | 14, h, w => by kernel_rfl
  | 15, h, w => by kernel_rfl
  | k + 16, h, w => absurd h (by omega)
set_option maxHeartbeats 2000000 in
theorem text_any (n : Int) (w : World) (n0 : 0 ≤ n) (n1 : n < 18446744073709551616) :
    Calls Try.prog 26 #[.int .u64 n] w fun e w' => e = .returned (.string (bs (txL (spL n)))) ∧ Below w.heap.size w w' := by
  have H1 := Lib.hid (fun w => split_any n w n0 n1)
  rw [spA_eq n0 n1] at H1
  have HL := Lib.hid (show (spL n).length = 8 from rfl)
  generalize spL n = l at *
  have HA := Lib.hid (idx8 l HL.out)
  generalize (l.map byV).toArray = A at *
  go_enter Try.func26, Try.ntmps26
  go_wp2_with fail
  refine (H1.out _).mono ?_
  rintro e W1 ⟨rfl, hb1⟩
  have HB0 := Lib.hid hb1
  clear hb1
  go_wp2
  go_loopw [3, 8] (fun v i wr => ∃ j : Nat, j ≤ 8 ∧ i = .int .i64 (j : Int) ∧ Hid (OwnB wr w.heap.size v (txL (l.take j))) ∧ Hid (Below w.heap.size w wr)) (fun _ i _ => 8 - (intOf i).toNat)
  case atStart => exact ⟨0, by omega, by go_num, Lib.hid (OwnV.nil _ _ _), HB0⟩
  case round =>
    obtain ⟨j, hj, rfl, HO, HB⟩ := hrel
    obtain ⟨av, cv, hv⟩ := HO.out.shape
    subst hv
    have hal : (txL (l.take j)).length ≤ 16 := by rw [txL_len, List.length_take]; omega
    by_cases k : j < 8
    · have hij : (j : Int) < 8 := by omega
      have kl : j < l.length := by have := HL.out; omega
      have hAj := HA.out j kl
      have HT := Lib.hid (txL_take kl)
      generalize l[j] = b at *
      generalize txL (l.take j) = L at *
      have hb := b.toNat_lt
      have x1 : ∀ w : World, (Instr.index 9 (.string ⟨#[48, 49, 50, 51, 52, 53, 54, 55, 56, 57, 97, 98, 99, 100, 101, 102]⟩) (.int .u8 ((b.toNat : Int) / 16))).run Try.prog w = .ok (.int .u8 ((hxD.getD (b.toNat / 16) 0).toNat : Int)) w := idxD (b.toNat / 16) (by omega)
      have x2 : ∀ w : World, (Instr.index 9 (.string ⟨#[48, 49, 50, 51, 52, 53, 54, 55, 56, 57, 97, 98, 99, 100, 101, 102]⟩) (.int .u8 ((b.toNat : Int).tmod 16))).run Try.prog w = .ok (.int .u8 ((hxD.getD (b.toNat % 16) 0).toNat : Int)) w := by
        rw [show (b.toNat : Int).tmod 16 = ((b.toNat % 16 : Nat) : Int) by rw [Int.tmod_eq_emod_of_nonneg (by omega)]; omega]
        exact idxD (b.toNat % 16) (by omega)
      have hw1 : IntKind.u8.wrap ((b.toNat : Int) / 16) = (b.toNat : Int) / 16 := by rw [IntKind.wrap_u8']; omega
      have HTX := Lib.hid (show tx1 b = [hxD.getD (b.toNat / 16) 0, hxD.getD (b.toNat % 16) 0] from rfl)
      rw [HTX.out] at HT
      generalize hxD.getD (b.toNat / 16) 0 = y1 at *
      generalize hxD.getD (b.toNat % 16) 0 = y2 at *
      clear HTX
      go_wp2_with fail
      have HOW := Lib.hid (show OwnB wr.drew w.heap.size (.slice av L.length cv) L from HO.out)
      have HBW := Lib.hid (show Below w.heap.size w wr.drew from HB.out.drew)
      have hszW := HB.out.size
      go_region_law (refine step_bytes rfl (.tmp 11) (.tmp 18) rfl w.heap.size _ L [y1, y2] rfl (OwnV.below HOW.out ((Below.refl _ _).alloc (Nat.le_refl _) _)) (some ⟨wr.heap.size, 0, none⟩) 2 rfl (fun e => by cases e) (row_two wr.drew y1 y2) (by simp; omega) (by have := HBW.out.size; simp; omega) ?_; intro v' w1 hown hbel; have HO2 := Lib.hid hown; have HB2 := Lib.hid (HBW.out.trans (((Below.refl _ _).alloc (by exact HBW.out.size) _).trans hbel)); clear hown hbel)
      all_goals
        go_wp2
        go_roundw
        case rel => exact ⟨j + 1, by omega, by go_num, by rw [HT.out]; exact HO2, HB2⟩
        case measure => simp [intOf]; omega
    · have hij : ¬ (j : Int) < 8 := by omega
      have e : l.take j = l := List.take_of_length_le (by have := HL.out; omega)
      rw [e] at HO ⊢
      clear e
      have hcv := HO.out.conv
      go_wp2
      go_ret
      exact ⟨rfl, HB.out⟩
theorem bs_app (a b : List UInt8) : bs a ++ bs b = bs (a ++ b) := by
  apply ba_ext
  rw [bs_list, ByteArray.toList_eq, ByteArray.data_append]; simp [bs]
theorem digits_q (w : World) : Calls Try.prog 33 #[] w fun e w' => e = .returned (.string ⟨#[48, 49, 50, 51, 52, 53, 54, 55, 56, 57, 97, 98, 99, 100, 101, 102]⟩) ∧ w' = w :=
  (digits_any w).mono fun _ _ h => ⟨h.1, h.2.symm⟩
theorem slice1 (D : ByteArray) (k : Nat) (h : k < D.size) : D.extract k (k + 1) = bs [D[k]] := by
  apply ba_ext
  rw [bs_list]
  apply List.ext_getElem
  · rw [bytes_len, ByteArray.size_extract]; simp; omega
  · intro i h1 h2
    have hi : i = 0 := by simp at h2; omega
    subst hi
    rw [bytes_get _ 0 (by rw [ByteArray.size_extract]; omega), ByteArray.getElem_extract]; rfl
set_option maxHeartbeats 2000000 in
theorem rText_any (n : Int) (w : World) (n0 : 0 ≤ n) (n1 : n < 18446744073709551616) :
    Calls Try.prog 27 #[.int .u64 n] w fun e w' => e = .returned (.string (bs (txL (spL n)))) ∧ Below w.heap.size w w' := by
  have H1 := Lib.hid (fun w => rBytes_any n w n0 n1)
  unfold ByP at H1
  have HL := Lib.hid (show (spL n).length = 8 from rfl)
  generalize spL n = l at *
  go_enter Try.func27, Try.ntmps27
  go_wp2_with fail
  refine (H1.out _).mono ?_
  rintro e W1 ⟨a, rfl, hr1, hb1⟩
  have HB0 := Lib.hid hb1
  have HR0 := Lib.hid hr1
  clear hb1 hr1
  go_wp2
  go_loopw [4, 5] (fun v i wr => ∃ j : Nat, j ≤ 8 ∧ i = .int .i64 (j : Int) ∧ v = .string (bs (txL (l.take j))) ∧ Hid (Below w.heap.size w wr) ∧ Hid (RowB wr (some a) l)) (fun _ i _ => 8 - (intOf i).toNat)
  case atStart => exact ⟨0, by omega, by go_num, rfl, HB0, HR0⟩
  case round =>
    obtain ⟨j, hj, rfl, rfl, HB, HR⟩ := hrel
    have hal : (txL (l.take j)).length ≤ 16 := by rw [txL_len, List.length_take]; omega
    by_cases k : j < 8
    · have hij : (j : Int) < 8 := by omega
      have kl : j < l.length := by have := HL.out; omega
      obtain ⟨bb, off, ea, hb0, hc⟩ := HR.out.at j kl
      injection ea with ea
      subst ea
      have HT := Lib.hid (txL_take kl)
      generalize l[j] = b at *
      have hsz : (bs (txL (l.take j))).size ≤ 16 := by rw [bs_size]; exact hal
      clear hal
      generalize txL (l.take j) = L at *
      have hb := b.toNat_lt
      obtain ⟨D, hD⟩ : ∃ D : ByteArray, D = ⟨#[48, 49, 50, 51, 52, 53, 54, 55, 56, 57, 97, 98, 99, 100, 101, 102]⟩ := ⟨_, rfl⟩
      have HDg := Lib.hid digits_q
      rw [← hD] at HDg
      have hsD : D.size = 16 := by subst hD; rfl
      have HSD := Lib.hid hsD
      have HG := Lib.hid (show ∀ k (h : k < D.size), hxD.getD k 0 = D[k] from fun k h => by subst hD; exact hxD_get k h)
      have HQ := Lib.hid (show bs (L ++ tx1 b) = bs L ++ D.extract (b.toNat / 16) (b.toNat / 16 + 1) ++ D.extract (b.toNat % 16) (b.toNat % 16 + 1) by
        rw [slice1 D _ (by omega), slice1 D _ (by omega), bs_app, bs_app]
        unfold tx1
        rw [HG.out _ (by omega), HG.out _ (by omega)]; simp)
      have q1 : ¬ ((D.size : Int) < (b.toNat : Int) / 16 + 1) := by omega
      have q2 : ¬ ((D.size : Int) < (b.toNat : Int) % 16 + 1) := by omega
      clear hD hsD
      go_wp2_with fail
      go_quiet (fail)
      go_wp2_with fail
      have HBn := Lib.hid (below_drewN HB.out nq)
      have HRn := Lib.hid (show RowB (wr.drewN nq) (some ⟨bb, off, none⟩) l from HR.out)
      generalize wr.drewN nq = W at *
      have c1 : ∀ dd os, Calls Try.prog 33 #[] (grow (redrawn W dd) os) fun e w'' => e = .returned (.string D) ∧ ∃ p : Regrown, w'' = grow (redrawn W p.d) p.os := fun dd os => Calls.regrown_of ((HDg.out _).mono fun _ _ h => ⟨h.1, by rw [h.2]; exact Below.refl _ _⟩)
      refine wp_region_quiet_below (l := _) (by kernel_rfl) (by kernel_rfl) ?_
      repeat (first | go_big_quiet_step (first | (go_at_call 33; exact c1 _ _)))
      refine wpQuiet_nil ?_
      intro w2 hw'
      obtain ⟨⟨dq2, osq2⟩, hw''⟩ := hw'
      have hb2 := below_regrown W dq2 osq2
      rw [← hw''] at hb2
      clear hw''
      have HB2 := Lib.hid (HBn.out.trans (hb2.mono HBn.out.size))
      have HR2 := Lib.hid (HRn.out.below hb2)
      clear hb2
      go_wp2
      go_roundw
      case rel => exact ⟨j + 1, by omega, by go_num, by rw [HT.out, HQ.out], HB2, HR2⟩
      case measure => simp [intOf]; omega
    · have hij : ¬ (j : Int) < 8 := by omega
      have e : l.take j = l := List.take_of_length_le (by have := HL.out; omega)
      rw [e]
      clear e
      go_wp2
      go_ret
      exact ⟨rfl, HB.out⟩
end Go.Proofs.Ytacgjfgiikbjiaa
