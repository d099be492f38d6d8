/- What fills a schedule, and Schedule, of package deprec. Written by wip/mk_dpc.py. -/
import Derived.Test.YtmehihfdfpnfjaaDpC
import Derived.Test.YtmehihfdfpnfjaaOrd2
namespace Go.Proofs.Ytmehihfdfpnfjaa
open Go.RowKit Go.Sort
set_option linter.unusedVariables false
set_option linter.unusedSimpArgs false

/-- a block of integers that the call made. -/
def BlkI (w : World) (P : Nat) (L : List Int) : Prop := w.heap[P]? = some (.cells (L.map (Value.int .i64)).toArray 3 (0, 0))
theorem BlkI.lt {w : World} {P : Nat} {L : List Int} (h : BlkI w P L) : P < w.heap.size := lt_of_block h
theorem BlkI.pav {w : World} {P : Nat} {L : List Int} (h : BlkI w P L) {f : Nat → Value} (hf : ∀ t, (ht : t < L.length) → f t = .int .i64 L[t]) : PaV w P L.length f := by
  refine ⟨h.lt, fun t ht => ⟨?_, ?_⟩⟩
  · unfold World.cell?
    unfold BlkI at h
    rw [h]
    simp [ht, hf t ht]
  · unfold World.frozen?
    unfold BlkI at h
    rw [h]
    simp
theorem BlkI.below {w w' : World} {P : Nat} {L : List Int} (h : BlkI w P L) (hb : Below w.heap.size w w') : BlkI w' P L := by
  unfold BlkI at *
  rw [hb.block P (lt_of_block h)]; exact h
theorem BlkI.row {w : World} {P : Nat} {L : List Int} (h : BlkI w P L) (hz : ∀ z ∈ L, -9223372036854775808 ≤ z ∧ z ≤ 9223372036854775807) : Row w (some ⟨P, 0, none⟩) L := by
  refine ⟨fun _ => ⟨P, 0, rfl, h.lt, fun k hk => ?_⟩, hz⟩
  rw [Nat.zero_add]
  exact ((h.pav (f := fun t => .int .i64 (L.getD t 0)) (fun t ht => by simp [List.getD, ht])).2 k hk).1.trans (by simp [List.getD, hk])
theorem blk_made {w w1 : World} {n : Nat} (hown : w1.ownsRow w.heap.size 3 1 (.slice (some ⟨w.heap.size, 0, none⟩) n n) n (madeCells #[.int .i64 0] (n * 1)).toList) : BlkI w1 w.heap.size (List.replicate n 0) := by
  rcases hown.2 with ⟨e, _⟩ | ⟨g, cap, cur, e, _, e3, _, _, e5, e6⟩
  · cases e
  · injection e with e1 e2 e4
    injection e1 with e1
    injection e1 with e1
    subst e1 e4
    have hc : cur.toList = (madeCells #[.int .i64 0] (n * 1)).toList := by
      rw [← e6, List.take_of_length_le (by simp; omega)]
    have hm : cur = ((List.replicate n (0 : Int)).map (Value.int .i64)).toArray := by
      apply Array.ext'
      rw [hc]
      simp [madeCells, List.map_replicate, Nat.mod_one, List.map_const']
    unfold BlkI
    rw [e3, hm]
theorem splice_all {α : Type} {L cs : List α} (h : cs.length = L.length) : splice L 0 cs = cs := by
  unfold splice
  rw [List.take_zero, List.nil_append, Nat.zero_add, List.drop_eq_nil_of_le (by omega), List.append_nil]
theorem row_src {w : World} {A : Option Addr} {L : List Int} (h : Row w A L) (h0 : 0 < L.length) : ∃ ad, A = some ad ∧ ∀ j v, (L.map (Value.int .i64))[j]? = some v → w.cell? (ad.add j) = some v := by
  obtain ⟨b, off, e, _, hc⟩ := h.1 h0
  refine ⟨_, e, fun j v hj => ?_⟩
  rw [List.getElem?_map] at hj
  by_cases hjl : j < L.length
  · rw [List.getElem?_eq_getElem hjl] at hj
    rw [addr_is, hc j hjl]; simpa using hj
  · rw [List.getElem?_eq_none (by omega)] at hj; simp at hj
theorem siz_int : (Try.prog.info? 3).map (·.size) = some 1 := by kernel_rfl

set_option maxRecDepth 100000 in
set_option maxHeartbeats 4000000 in
theorem sharedC_any (m c s p a b : Int) (A : Option Addr) (ul uc n B C P N : Nat) (A2 : Option Addr) (c2 : Nat) (zs : List Int) (w : World) (g : Nums c s p) (hn : (n : Int) = p) (hl : zs.length = n) (hz : shE (c - s) zs = 0) (hQ : Q7 w B (.int .i64 m) (.int .i64 c) (.int .i64 s) (.int .i64 p) (.int .i64 a) (.int .i64 b) (.slice A ul uc)) (hC : Q1 w C (.slice A2 zs.length c2)) (hR : Row w A2 zs) (hP : BlkI w P (List.replicate n 0)) (hN : N ≤ P) :
    Calls Try.prog 48 #[.slice (some ⟨P, 0, none⟩) n n, .pointer (some ⟨B, 0, none⟩), .pointer (some ⟨C, 0, none⟩)] w fun e w' => e = .returned (.tuple #[]) ∧ BlkI w' P (shO (c - s) zs) ∧ Ord1 (c - s).natAbs zs.sum.toNat (wtN zs) n ∧ Below N w w' := by
  have HQ := Lib.hid hQ
  have HC := Lib.hid hC
  have HP := Lib.hid hP
  have HR := Lib.hid hR
  have HZ := Lib.hid hz
  have HL := Lib.hid hl
  have g1 := g.sc; have g2 := g.c2; have g3 := g.s0; have g4 := g.p1; have g5 := g.p2; have g6 := g.c1
  have HCl := Lib.hid (fun W (hr : Row W A2 zs) => clone_any A2 c2 zs W hr (by omega) (by omega))
  have HSh := Lib.hid (fun W A' c' (hr : Row W A' zs) => (show Calls Try.prog 49 #[.int .i64 (IntKind.i64.wrap (c - s)), .slice A' zs.length c'] W (fun e w' => Ord1 (c - s).natAbs zs.sum.toNat (wtN zs) zs.length ∧ ∃ A, e = .returned (.tuple #[.slice A zs.length zs.length, .int .i64 0]) ∧ Row w' A (shO (c - s) zs) ∧ Below W.heap.size W w') from by
    rw [show IntKind.i64.wrap (c - s) = c - s by simp only [IntKind.wrap_i64, wrap64]; omega]
    exact (shares_any (c - s) A' c' zs W hr (by omega) (by omega) (by omega)).mono (fun e w' h => by
      obtain ⟨h1, A, rfl, h2, h3⟩ := shP_shQ h
      exact ⟨h1 hz, A, by rw [shO_len hz, hz], h2, h3⟩)))
  have hsm := shO_len hz
  have h0 : 0 < zs.length := by omega
  have h1 : zs.length ≤ 1000 := by omega
  have HRd := Lib.hid (row_b hR (below_drewN (Below.refl w.heap.size w) 1))
  have HQb := Lib.hid (fun W (hb : Below w.heap.size w W) => hQ.below hb)
  have HCb := Lib.hid (fun W (hb : Below w.heap.size w W) => hC.below hb)
  have HPb := Lib.hid (fun W (hb : Below w.heap.size w W) => hP.below hb)
  clear hQ hC hP hR hz hl g
  have t1 := HQ.out.c1
  have t2 := HQ.out.c2
  have t3 := HC.out.c0
  have HPlt := Lib.hid HP.out.lt
  clear HR HQ HC HZ
  have HE := Lib.hid (show (shO (c - s) zs).length = n by rw [hsm, HL.out])
  rw [HL.out] at HCl HSh t3 hsm h0 h1 HCb
  clear HL
  generalize shO (c - s) zs = L at *
  have HSS := Lib.hid (show w.drew.cell? ⟨B, 1, none⟩ = some (.int .i64 c) ∧ w.drew.cell? ⟨B, 2, none⟩ = some (.int .i64 s) ∧ w.drew.cell? ⟨C, 0, none⟩ = some (.slice A2 n c2) from ⟨t1, t2, t3⟩)
  clear t1 t2 t3
  go_enter Try.func48, Try.ntmps48
  go_wp2_with fail
  refine gk_region (fun x => x.cell? ⟨B, 1, none⟩ = some (.int .i64 c) ∧ x.cell? ⟨B, 2, none⟩ = some (.int .i64 s) ∧ x.cell? ⟨C, 0, none⟩ = some (.slice A2 n c2)) (fun _ => false) (by kernel_rfl) ?_
  refine gk_take (i := 0) (v := ?_) rfl (by kernel_rfl) (by kernel_rfl) (by kernel_rfl) (by kernel_rfl) (fun _ _ _ h => h) (Or.inl ⟨by kernel_rfl, ?_⟩) HSS.out ?_
  rotate_left
  · ((intro x hx; obtain ⟨hx0, hx1, hx2⟩ := hx; go_simp) <;> with_reducible rfl)
  try simp only [Act.put, List.setIfInBounds_toArray, List.set_cons_zero, List.set_cons_succ]
  refine gk_take (i := 1) (v := ?_) rfl (by kernel_rfl) (by kernel_rfl) (by kernel_rfl) (by kernel_rfl) (fun _ _ _ h => h) (Or.inl ⟨by kernel_rfl, ?_⟩) HSS.out ?_
  rotate_left
  · ((intro x hx; obtain ⟨hx0, hx1, hx2⟩ := hx; go_simp) <;> with_reducible rfl)
  try simp only [Act.put, List.setIfInBounds_toArray, List.set_cons_zero, List.set_cons_succ]
  refine gk_take (i := 2) (v := ?_) rfl (by kernel_rfl) (by kernel_rfl) (by kernel_rfl) (by kernel_rfl) (fun _ _ _ h => h) (Or.inl ⟨by kernel_rfl, ?_⟩) HSS.out ?_
  rotate_left
  · ((intro x hx; obtain ⟨hx0, hx1, hx2⟩ := hx; go_simp) <;> with_reducible rfl)
  try simp only [Act.put, List.setIfInBounds_toArray, List.set_cons_zero, List.set_cons_succ]
  refine gk_take (i := 3) (v := ?_) rfl (by kernel_rfl) (by kernel_rfl) (by kernel_rfl) (by kernel_rfl) (fun _ _ _ h => h) (Or.inl ⟨by kernel_rfl, ?_⟩) HSS.out ?_
  rotate_left
  · ((intro x hx; obtain ⟨hx0, hx1, hx2⟩ := hx; go_simp) <;> with_reducible rfl)
  try simp only [Act.put, List.setIfInBounds_toArray, List.set_cons_zero, List.set_cons_succ]
  refine gk_take (i := 4) (v := ?_) rfl (by kernel_rfl) (by kernel_rfl) (by kernel_rfl) (by kernel_rfl) (fun _ _ _ h => h) (Or.inl ⟨by kernel_rfl, ?_⟩) HSS.out ?_
  rotate_left
  · ((intro x hx; obtain ⟨hx0, hx1, hx2⟩ := hx; go_simp) <;> with_reducible rfl)
  try simp only [Act.put, List.setIfInBounds_toArray, List.set_cons_zero, List.set_cons_succ]
  refine gk_take (i := 5) (v := ?_) rfl (by kernel_rfl) (by kernel_rfl) (by kernel_rfl) (by kernel_rfl) (fun _ _ _ h => h) (Or.inl ⟨by kernel_rfl, ?_⟩) HSS.out ?_
  rotate_left
  · ((intro x hx; obtain ⟨hx0, hx1, hx2⟩ := hx; go_simp) <;> with_reducible rfl)
  try simp only [Act.put, List.setIfInBounds_toArray, List.set_cons_zero, List.set_cons_succ]
  refine gk_one (i := 6) rfl (by kernel_rfl) (fun K hK => ?_)
  go_simp
  go_at_call 50
  refine (HCl.out _ HRd.out).mono ?_
  rintro e w6 ⟨A6, c6, rfl, hr6, hb⟩
  have hb : Below w.heap.size w w6 := (show Below w.heap.size w w.drew from below_drewN (Below.refl w.heap.size w) 1).trans hb
  have HSS6 := Lib.hid (show w6.cell? ⟨B, 1, none⟩ = some (.int .i64 c) ∧ w6.cell? ⟨B, 2, none⟩ = some (.int .i64 s) ∧ w6.cell? ⟨C, 0, none⟩ = some (.slice A2 n c2) from ⟨(HQb.out w6 hb).c1, (HQb.out w6 hb).c2, (HCb.out w6 hb).c0⟩)
  have HR6 := Lib.hid hr6
  have HB6 := Lib.hid hb
  clear hb hr6
  refine hK _ _ (fun _ => HSS6.out) ?_
  clear hK K
  try simp only [Act.put, List.setIfInBounds_toArray, List.set_cons_zero, List.set_cons_succ]
  refine gk_one (i := 7) rfl (by kernel_rfl) (fun K hK => ?_)
  go_simp
  go_at_call 49
  refine (HSh.out _ A6 c6 HR6.out).mono ?_
  rintro e w7 ⟨ho, A7, rfl, hr7, hb⟩
  have hb : Below w.heap.size w w7 := HB6.out.trans (hb.mono HB6.out.size)
  have HSS7 := Lib.hid (show w7.cell? ⟨B, 1, none⟩ = some (.int .i64 c) ∧ w7.cell? ⟨B, 2, none⟩ = some (.int .i64 s) ∧ w7.cell? ⟨C, 0, none⟩ = some (.slice A2 n c2) from ⟨(HQb.out w7 hb).c1, (HQb.out w7 hb).c2, (HCb.out w7 hb).c0⟩)
  have HR7 := Lib.hid hr7
  have HB7 := Lib.hid hb
  have HO7 := Lib.hid ho
  clear hb hr7 ho
  refine hK _ _ (fun _ => HSS7.out) ?_
  clear hK K
  try simp only [Act.put, List.setIfInBounds_toArray, List.set_cons_zero, List.set_cons_succ]
  refine gk_one (i := 8) rfl (by kernel_rfl) (fun K hK => ?_)
  go_simp
  refine hK _ _ (fun _ => HSS7.out) ?_
  clear hK K
  try simp only [Act.put, List.setIfInBounds_toArray, List.set_cons_zero, List.set_cons_succ]
  refine gk_take (i := 9) (v := ?_) rfl (by kernel_rfl) (by kernel_rfl) (by kernel_rfl) (by kernel_rfl) (fun _ _ _ h => h) (Or.inl ⟨by kernel_rfl, ?_⟩) HSS7.out ?_
  rotate_left
  · ((intro x hx; obtain ⟨hx0, hx1, hx2⟩ := hx; go_simp) <;> with_reducible rfl)
  try simp only [Act.put, List.setIfInBounds_toArray, List.set_cons_zero, List.set_cons_succ]
  refine gk_take (i := 10) (v := ?_) rfl (by kernel_rfl) (by kernel_rfl) (by kernel_rfl) (by kernel_rfl) (fun _ _ _ h => h) (Or.inl ⟨by kernel_rfl, ?_⟩) HSS7.out ?_
  rotate_left
  · ((intro x hx; obtain ⟨hx0, hx1, hx2⟩ := hx; go_simp) <;> with_reducible rfl)
  try simp only [Act.put, List.setIfInBounds_toArray, List.set_cons_zero, List.set_cons_succ]
  refine gk_one (i := 11) rfl (by kernel_rfl) (fun K hK => ?_)
  go_simp
  refine hK _ _ (fun _ => HSS7.out) ?_
  clear hK K
  try simp only [Act.put, List.setIfInBounds_toArray, List.set_cons_zero, List.set_cons_succ]
  refine gk_one (i := 12) rfl (by kernel_rfl) (fun K hK => ?_)
  go_simp
  refine hK _ _ (fun _ => HSS7.out) ?_
  clear hK K
  try simp only [Act.put, List.setIfInBounds_toArray, List.set_cons_zero, List.set_cons_succ]
  refine gk_done (by kernel_rfl) ?_ _
  try simp only [Act.put, List.setIfInBounds_toArray, List.set_cons_zero, List.set_cons_succ]
  try go_simp
  all_goals
    have HP7 := Lib.hid (HPb.out w7 HB7.out)
    go_wp2_with (refine wpList_copy_splice rfl (.tmp 17) (.tmp 18) 24 24 rfl 3 und_ints siz_int (some ⟨P, 0, none⟩) A7 n n n n rfl rfl P 0 ((List.replicate n (0 : Int)).map (Value.int .i64)) 3 HP7.out (L.map (Value.int .i64)) (by rw [List.length_map, HE.out]; exact (Nat.min_self n).symm) (fun h => ⟨rfl, row_src HR7.out (by simpa using h)⟩) (by simp [HE.out]) (fun v hv => by obtain ⟨z, _, rfl⟩ := List.mem_map.1 hv; rfl) P w7 (Below.refl _ _) (Nat.le_refl _) ?_; intro w8 h8 hb8)
    have H8 := Lib.hid (show BlkI w8 P L by have q := h8.out; rw [splice_all (by simp [HE.out])] at q; exact q)
    have HB8 := Lib.hid ((HB7.out.mono (Nat.le_trans hN (Nat.le_of_lt HPlt.out))).trans (hb8.mono hN))
    go_wp2
    go_end0
    exact ⟨rfl, H8.out, HO7.out, HB8.out⟩
end Go.Proofs.Ytmehihfdfpnfjaa
