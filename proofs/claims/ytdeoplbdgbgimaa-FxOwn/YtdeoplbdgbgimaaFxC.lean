/- What bySeries of package fx returns, and its comparison. No conditions. -/
import Derived.Test.YtdeoplbdgbgimaaFxB
namespace Go.Proofs.Ytdeoplbdgbgimaa
open Go.RowKit Go.Sort
set_option linter.unusedVariables false
set_option linter.unusedSimpArgs false

def cfD (x y : Rt) : Int := cmpZ x.2.2.1 y.2.2.1
theorem lt_day (x y : Rt) : ltOf cfD x y = decide (x.2.2.1 < y.2.2.1) := by
  unfold ltOf cfD cmpZ
  by_cases h1 : x.2.2.1 < y.2.2.1
  · simp [h1]
  · by_cases h2 : y.2.2.1 < x.2.2.1 <;> simp [h1, h2]
theorem swoD : SWO (ltOf cfD) where
  irrefl x := by rw [lt_day]; simp
  trans x y z h1 h2 := by rw [lt_day] at *; simp at *; omega
  ntrans x y z h1 h2 := by rw [lt_day] at *; simp at *; omega
set_option maxHeartbeats 1000000 in
theorem clos_any (x y : Rt) (W : World) : Calls Try.prog 43 #[.agg (rtC x).toArray, .agg (rtC y).toArray] W fun e w' => e = .returned (.int .i64 (cfD x y)) ∧ ∃ q os', w' = grow (W.drewN q) os' := by
  have HC := Lib.hid (fun W => cmpI_any x.2.2.1 y.2.2.1 W)
  have HE := Lib.hid (show cfD x y = cmpZ x.2.2.1 y.2.2.1 from rfl)
  show Calls Try.prog 43 #[.agg #[.string x.1, .int .i64 x.2.1, .int .i64 x.2.2.1, .int .i64 x.2.2.2.1, .int .i64 x.2.2.2.2], .agg #[.string y.1, .int .i64 y.2.1, .int .i64 y.2.2.1, .int .i64 y.2.2.2.1, .int .i64 y.2.2.2.2]] W _
  generalize cmpZ x.2.2.1 y.2.2.1 = v at *
  go_enter Try.func43, Try.ntmps43
  go_wp2_with fail
  refine (HC.out _).mono ?_
  rintro e w_ ⟨rfl, rfl⟩
  go_wp2
  go_ret
  exact ⟨ret_int (by rw [HE.out]), 0, _, by rw [alloc_eq_grow, alloc_eq_grow, grow_grow]; rfl⟩
theorem cmpLaysD (blk off size : Nat) (w : World) : CmpLays Try.prog 43 #[] rtC 5 cfD blk off size w := fun _ _ _ _ x y => clos_any x y _
instance : Inhabited Rt := ⟨zR⟩
theorem und_rates : Try.prog.underlying 22 = some (.slice 51) := by kernel_rfl
theorem und_mapS : Try.prog.underlying 56 = some (.map 63 22) := by kernel_rfl
theorem und_mapR : Try.prog.underlying 54 = some (.map 51 4) := by kernel_rfl
theorem inf_rate : (Try.prog.info? 51).map (fun i => (i.zero, i.size, i.bytes)) = some (some (.agg #[.string ⟨#[]⟩, .int .i64 0, .int .i64 0, .int .i64 0, .int .i64 0]), 5, 48) := by kernel_rfl
theorem zero_rates (u : World) : (zeroValue 22).run Try.prog u = .ok (EH.enc EH.zero) u := by kernel_rfl
theorem zero_bool (u : World) : (zeroValue 4).run Try.prog u = .ok (EB.enc EB.zero) u := by kernel_rfl
theorem slF_len (L : List Rt) (s : ByteArray × Int) : (slF L s).length ≤ L.length := List.length_filter_le _ _
theorem own_hdr {w : World} {base : Nat} {T : TypeId} {K n : Nat} {v : Value} {xs : List Value} (h : w.ownsRow base T K v (n + 1) xs) : ∃ b c, v = HdV (some (b, n + 1, c)) := by
  rcases h.2 with ⟨_, q⟩ | ⟨b, cap, cur, q, _⟩
  · omega
  · exact ⟨b, cap, q⟩
theorem Q5.block {w w' : World} {B M : Nat} {a b c d e : Value} (h : Q5 w B a b c d e) (g : w.grownBy w' (some M)) (hB : B ≠ M) : Q5 w' B a b c d e := by
  have hb : w'.heap[B]? = w.heap[B]? := g.block B h.lt (by intro e; injection e with e; exact hB e)
  exact ⟨Nat.lt_of_lt_of_le h.lt g.size, (World.cell?_of_block hb).trans h.c0, (World.frozen?_of_block hb).trans h.f0, (World.cell?_of_block hb).trans h.c1, (World.frozen?_of_block hb).trans h.f1, (World.cell?_of_block hb).trans h.c2, (World.frozen?_of_block hb).trans h.f2, (World.cell?_of_block hb).trans h.c3, (World.frozen?_of_block hb).trans h.f3, (World.cell?_of_block hb).trans h.c4, (World.frozen?_of_block hb).trans h.f4⟩
theorem row5 {w : World} {B : Nat} {rc : ByteArray} {rk rd rn rm : Int} (h : Q5 w B (.string rc) (.int .i64 rk) (.int .i64 rd) (.int .i64 rn) (.int .i64 rm)) : ∀ j u, (rtC (rc, rk, rd, rn, rm))[j]? = some u → w.cell? ((⟨B, 0, none⟩ : Addr).add j) = some u := by
  intro j u hu
  rw [addr_is, Nat.zero_add]
  match j, hu with
  | 0, hu => cases hu; exact h.c0
  | 1, hu => cases hu; exact h.c1
  | 2, hu => cases hu; exact h.c2
  | 3, hu => cases hu; exact h.c3
  | 4, hu => cases hu; exact h.c4
  | n + 5, hu => simp [rtC] at hu
theorem holdsK_kept {β : Type} [Inhabited β] {cs : β → List Value} {K : Nat} {w w' : World} {b off : Nat} {d : Array β} (h : HoldsK cs K w b off d) (e : w'.heap[b]? = w.heap[b]?) : HoldsK cs K w' b off d :=
  fun j hj => ⟨(World.cell?_of_block e).trans (h j hj).1, (World.frozen?_of_block e).trans (h j hj).2⟩
/-- the rows while they are sorted, one after the other: those that 'left' does not name are sorted. -/
def RowsL (w : World) (N R : Nat) (g : ByteArray × Int → Option (Option (Nat × Nat × Nat))) (L : List Rt) (left : Lit → Bool) : Prop :=
  ∀ s l, keyOf Try.prog 63 (kvS s) = some l → ∀ b n c, g s = some (some (b, n, c)) → (N ≤ b ∧ b < R) ∧ ∃ l' : List Rt, l'.Perm (slF L s) ∧ HoldsK rtC 5 w b 0 l'.toArray ∧ (left l = false → l'.Pairwise (fun x y => ltOf cfD y x = false))
theorem rows_start {w w0 : World} {N : Nat} {g : ByteArray × Int → Option (Option (Nat × Nat × Nat))} {L : List Rt} (own : ∀ s, w.ownsRow N 51 5 (HdV ((g s).getD none)) (slF L s).length ((slF L s).flatMap rtC)) (full : ∀ s c, g s = some c → ∃ b cp, c = some (b, (slF L s).length, cp) ∧ slF L s ≠ []) (hg : w.grownBy w0 none) {D : DataW Unit}
    (hD : ∀ s l, keyOf Try.prog 63 (kvS s) = some l → Maps.has D l = (g s).isSome) : RowsL w0 N w.heap.size g L (Maps.has D) := by
  intro s l hl b n c hgs
  have o := own s
  obtain ⟨b', cp', e, _⟩ := full s _ hgs
  cases e
  rw [hgs] at o
  obtain ⟨h1, h2⟩ := own_holds (β := Rt) rtC_len (by decide) (show w.ownsRow N 51 5 (.slice (some ⟨b, 0, none⟩) (slF L s).length c) (slF L s).length ((slF L s).flatMap rtC) from o) rfl
  have h3 := (o.lt b rfl).1
  refine ⟨⟨h3, h2⟩, slF L s, List.Perm.refl _, holdsK_kept h1 (hg.block b h2 (by simp)), fun hf => ?_⟩
  rw [hD s l hl, hgs] at hf
  cases hf
/-- the entry that the range hands over is the map's. -/
theorem entry_is {D : DataW Unit} {g : ByteArray × Int → Option (Option (Nat × Nat × Nat))} (hDs : ∀ s l, keyOf Try.prog 63 (kvS s) = some l → Maps.has D l = (g s).isSome ∧ ∀ a, g s = some a → ∀ z, D.atKey l z = EH.dat a) {s : ByteArray × Int} {kl : Lit} (hk : keyOf Try.prog 63 (kvS s) = some kl) {c : Option (Nat × Nat × Nat)} {yd : DataW Unit} {yp : List MemPlace} (hv : EH.rd (HdV c) = some (yd, yp)) (hat : ∀ zd, D.atKey kl zd = yd) : g s = some c := by
  obtain ⟨h1, h2⟩ := hDs s kl hk
  have hc : yd = EH.dat c := by
    have e : EH.rd (HdV c) = some (EH.dat c, []) := EH.is c
    rw [e] at hv
    cases hv; rfl
  cases q : g s with
  | none =>
    rw [q] at h1
    have a1 := hat (.agg [])
    have a2 := hat (.agg [.agg []])
    rw [Maps.atKey_of_not_has (by simpa using h1)] at a1 a2
    rw [← a1] at a2
    simp at a2
  | some c' =>
    have := (h2 c' q (.agg [])).symm.trans (hat (.agg []))
    rw [hc] at this
    rw [EH.inj _ _ this]
theorem rows_step {w w1 w2 : World} {N R b cp : Nat} {g : ByteArray × Int → Option (Option (Nat × Nat × Nat))} {L l2 : List Rt} {left : Lit → Bool} {s : ByteArray × Int} {kl : Lit} (h : RowsL w N R g L left) (hR : R ≤ w.heap.size)
    (ap : ∀ s s' b, s ≠ s' → (HdV ((g s).getD none)).ownBlock = some b → (HdV ((g s').getD none)).ownBlock ≠ some b) (hk : keyOf Try.prog 63 (kvS s) = some kl) {n : Nat} (hg : g s = some (some (b, n, cp)))
    (g1 : w.grownBy w1 (some R)) (g2 : w1.grownBy w2 (some b)) (hp : l2.Perm (slF L s)) (hs : l2.Pairwise (fun x y => ltOf cfD y x = false)) (hH : HoldsK rtC 5 w2 b 0 l2.toArray) : RowsL w2 N R g L (fun z => left z && !z.sameKey kl) := by
  intro s' l' hk' b' n' c' hg'
  obtain ⟨⟨h1, h2⟩, m, p1, p2, p3⟩ := h s' l' hk' b' n' c' hg'
  by_cases e : s' = s
  · subst e
    rw [hg] at hg'
    cases hg'
    exact ⟨⟨h1, h2⟩, l2, hp, hH, fun _ => hs⟩
  · have hb : b' ≠ b := fun eb => ap s' s b' e (by rw [hg']; rfl) (by rw [hg, eb]; rfl)
    have e1 := g1.block b' (by omega) (by intro z; injection z with z; omega)
    have e2 := g2.block b' (by have := g1.size; omega) (by intro z; injection z with z; exact hb z)
    refine ⟨⟨h1, h2⟩, m, p1, holdsK_kept p2 (e2.trans e1), fun hf => p3 ?_⟩
    have hne : l'.sameKey kl = false := by
      cases q : l'.sameKey kl
      · rfl
      · exact absurd (kvS_inj _ _ ((Go.Maps.Keyed.of_law lawS).inj hk' ((WideAt.sameKey_eq q) ▸ hk))) e
    have hf : (left l' && !l'.sameKey kl) = false := hf
    rw [hne] at hf
    simpa using hf
/-- what bySeries makes of L: each currency's and kind's rates in the order of their days; all its blocks lie from N on. -/
def Srs (w : World) (N M : Nat) (L : List Rt) : Prop :=
  N ≤ M ∧ ∃ n g, MapK EH kvS w 63 M n g ∧ (∀ s, g s = none → slF L s = []) ∧
    ∀ s c, g s = some c → ∃ (b cp : Nat) (l' : List Rt), c = some (b, l'.length, cp) ∧ (N ≤ b ∧ b < w.heap.size) ∧ l'.Perm (slF L s) ∧ l'.Pairwise (fun x y => x.2.2.1 ≤ y.2.2.1) ∧ HoldsK rtC 5 w b 0 l'.toArray
theorem srs_end {w wo : World} {N M n : Nat} {g : ByteArray × Int → Option (Option (Nat × Nat × Nat))} {L : List Rt} {left : Lit → Bool} {D : DataW Unit} (hBd : BdR L) (hM : N ≤ M) (ho : w.ownsMap Try.prog 63 EH.rd M n D) (hDs : ∀ s l, keyOf Try.prog 63 (kvS s) = some l → Maps.has D l = (g s).isSome ∧ ∀ a, g s = some a → ∀ z, D.atKey l z = EH.dat a)
    (full : ∀ s c, g s = some c → ∃ b cp, c = some (b, (slF L s).length, cp) ∧ slF L s ≠ []) (own : ∀ s, wo.ownsRow (N + 1) 51 5 (HdV ((g s).getD none)) (slF L s).length ((slF L s).flatMap rtC)) (h : RowsL w (N + 1) wo.heap.size g L left) (hsz : wo.heap.size ≤ w.heap.size) (hl : ∀ kl, left kl = false) : Srs w N M L := by
  refine ⟨hM, n, g, ⟨D, ho, hDs⟩, fun s hs => ?_, fun s c hs => ?_⟩
  · have o := own s
    rw [hs] at o
    rcases o.2 with ⟨_, q⟩ | ⟨b, cap, cur, q, _⟩
    · exact List.length_eq_zero_iff.1 q
    · cases q
  · obtain ⟨b, cp, rfl, hne⟩ := full s c hs
    obtain ⟨r, hr⟩ := List.exists_mem_of_ne_nil _ hne
    unfold slF at hr
    rw [List.mem_filter] at hr
    have hser : ser r = s := by simpa using hr.2
    obtain ⟨a1, a2, _⟩ := hBd r hr.1
    obtain ⟨l, hl'⟩ := keyS (ser r) a1 a2
    rw [hser] at hl'
    obtain ⟨⟨h1, h2⟩, l', p1, p2, p3⟩ := h s l hl' b _ cp hs
    exact ⟨b, cp, l', by rw [p1.length_eq], ⟨by omega, by omega⟩, p1, (p3 (hl l)).imp (fun {x y} q => by rw [lt_day] at q; simpa using q), p2⟩
set_option maxRecDepth 100000 in
set_option maxHeartbeats 4000000 in
theorem bySeries_loop (A : Option Addr) (c : Nat) (L : List Rt) (w : World) (hR : RowR w A L) (hBd : BdR L) (hn : L.length ≤ 2000) (Q : Ending → World → Prop) (hQ : ∀ w', Srs w' w.heap.size w.heap.size L → Below w.heap.size w w' → Q (.returned (.map (some w.heap.size))) w') :
    Calls Try.prog 25 #[.slice A L.length c] w Q := by
  obtain ⟨i0, hi, hz0, hz1, hz2⟩ := info_parts inf_rate
  have HR0 := Lib.hid hR
  have HQ := Lib.hid hQ
  have HBd := Lib.hid hBd
  have hmm := @run_makeMap Try.prog
  have HG0 := Lib.hid (show GrpM kvS rtC 51 63 5 (w.alloc (.map #[] 0)) (w.heap.size + 1) w.heap.size 0 (fun _ => none) (slF (L.take 0)) from by
    rw [List.take_zero]; exact GrpM.made _ _ _ _ _ _)
  have HB0 := Lib.hid ((Below.refl w.heap.size w).alloc (Nat.le_refl _) (.map #[] 0))
  clear hR hBd hQ
  go_enter Try.func25, Try.ntmps25
  go_wp2
  go_loopw [12] (fun x wr => ∃ k : Nat, k ≤ L.length ∧ x = .int .i64 k ∧ Hid (∃ n g, n ≤ k ∧ GrpM kvS rtC 51 63 5 wr (w.heap.size + 1) w.heap.size n g (slF (L.take k))) ∧ w.heap.size + 1 ≤ wr.heap.size ∧ Hid (Below w.heap.size w wr)) (fun x _ => L.length - (intOf x).toNat)
  case atStart => exact ⟨0, Nat.zero_le _, rfl, Lib.hid ⟨0, _, Nat.le_refl _, HG0.out⟩, by simp, HB0⟩
  case round =>
    clear hmm HG0 HB0
    obtain ⟨k, hk, rfl, HG, hsz, HB⟩ := hrel
    obtain ⟨n, g, hnk, hG⟩ := HG.out
    have HG := Lib.hid hG
    clear hG
    by_cases h : k < L.length
    · have h' : (k : Int) < (L.length : Int) := by omega
      obtain ⟨b, off, rfl, hl, hcl⟩ := (HR0.out.below HB.out) (by omega)
      obtain ⟨c0, c1, c2, c3, c4⟩ := hcl k h
      obtain ⟨s1, b1, b2, b3, b4⟩ := HBd.out L[k] (List.getElem_mem h)
      obtain ⟨l, hkey⟩ := keyS (ser L[k]) s1 b1
      have HSl := Lib.hid (slF_more h)
      have hslen := slF_len (L.take k) (ser L[k])
      rw [List.length_take] at hslen
      obtain ⟨r, hr⟩ : ∃ r, L[k] = r := ⟨_, rfl⟩
      rw [hr] at c0 c1 c2 c3 c4 s1 b1 b2 b3 b4 hkey HSl hslen
      clear hcl
      obtain ⟨rc, rk, rd, rn, rm⟩ := r
      dsimp only at c0 c1 c2 c3 c4
      have hp1 := Q5.alloc wr (.string rc) (.int .i64 rk) (.int .i64 rd) (.int .i64 rn) (.int .i64 rm) 51
      have ha1 : Below wr.heap.size wr (wr.alloc (Obj.cells #[.string rc, .int .i64 rk, .int .i64 rd, .int .i64 rn, .int .i64 rm] 51)) := (Below.refl _ _).alloc (Nat.le_refl _) _
      have hp2 : Q2 ((wr.alloc (Obj.cells #[.string rc, .int .i64 rk, .int .i64 rd, .int .i64 rn, .int .i64 rm] 51)).alloc (Obj.cells #[.string rc, .int .i64 rk] 63)) (wr.heap.size + 1) (.string rc) (.int .i64 rk) := by
        have q := Q2.alloc (wr.alloc (Obj.cells #[.string rc, .int .i64 rk, .int .i64 rd, .int .i64 rn, .int .i64 rm] 51)) (.string rc) (.int .i64 rk) 63
        rw [World.size_alloc] at q; exact q
      have ha2 : Below (wr.alloc (Obj.cells #[.string rc, .int .i64 rk, .int .i64 rd, .int .i64 rn, .int .i64 rm] 51)).heap.size (wr.alloc (Obj.cells #[.string rc, .int .i64 rk, .int .i64 rd, .int .i64 rn, .int .i64 rm] 51)) ((wr.alloc (Obj.cells #[.string rc, .int .i64 rk, .int .i64 rd, .int .i64 rn, .int .i64 rm] 51)).alloc (Obj.cells #[.string rc, .int .i64 rk] 63)) := (Below.refl _ _).alloc (Nat.le_refl _) _
      have hp1' := hp1.below ha2
      have hp3 : Q5 (((wr.alloc (Obj.cells #[.string rc, .int .i64 rk, .int .i64 rd, .int .i64 rn, .int .i64 rm] 51)).alloc (Obj.cells #[.string rc, .int .i64 rk] 63)).alloc (Obj.cells #[.string rc, .int .i64 rk, .int .i64 rd, .int .i64 rn, .int .i64 rm] 51)) (wr.heap.size + 1 + 1) (.string rc) (.int .i64 rk) (.int .i64 rd) (.int .i64 rn) (.int .i64 rm) := by
        have q := Q5.alloc ((wr.alloc (Obj.cells #[.string rc, .int .i64 rk, .int .i64 rd, .int .i64 rn, .int .i64 rm] 51)).alloc (Obj.cells #[.string rc, .int .i64 rk] 63)) (.string rc) (.int .i64 rk) (.int .i64 rd) (.int .i64 rn) (.int .i64 rm) 51
        rw [World.size_alloc, World.size_alloc] at q; exact q
      have ha3 : Below ((wr.alloc (Obj.cells #[.string rc, .int .i64 rk, .int .i64 rd, .int .i64 rn, .int .i64 rm] 51)).alloc (Obj.cells #[.string rc, .int .i64 rk] 63)).heap.size ((wr.alloc (Obj.cells #[.string rc, .int .i64 rk, .int .i64 rd, .int .i64 rn, .int .i64 rm] 51)).alloc (Obj.cells #[.string rc, .int .i64 rk] 63)) (((wr.alloc (Obj.cells #[.string rc, .int .i64 rk, .int .i64 rd, .int .i64 rn, .int .i64 rm] 51)).alloc (Obj.cells #[.string rc, .int .i64 rk] 63)).alloc (Obj.cells #[.string rc, .int .i64 rk, .int .i64 rd, .int .i64 rn, .int .i64 rm] 51)) := (Below.refl _ _).alloc (Nat.le_refl _) _
      have HB3 := Lib.hid (((HB.out.trans (ha1.mono HB.out.size)).trans (ha2.mono (by simp; have := HB.out.size; omega))).trans (ha3.mono (by simp; have := HB.out.size; omega)))
      have HG3 := Lib.hid (((HG.out.below ha1).below ha2).below ha3)
      have hs3 : w.heap.size + 1 ≤ (((wr.alloc (Obj.cells #[.string rc, .int .i64 rk, .int .i64 rd, .int .i64 rn, .int .i64 rm] 51)).alloc (Obj.cells #[.string rc, .int .i64 rk] 63)).alloc (Obj.cells #[.string rc, .int .i64 rk, .int .i64 rd, .int .i64 rn, .int .i64 rm] 51)).heap.size := by simp; omega
      have x0 := hp1.c0
      have x1 := hp1.c1
      have y0 := hp2.c0
      have y1 := hp2.c1
      have z0 := hp1'.c0
      have z1 := hp1'.c1
      have z2 := hp1'.c2
      have z3 := hp1'.c3
      have z4 := hp1'.c4
      have HP3 := Lib.hid hp3
      clear hp1 hp2 hp1' hp3 ha1 ha2 ha3 HG
      obtain ⟨v0, hv0⟩ : ∃ v0, EH.enc ((g (ser (rc, rk, rd, rn, rm))).getD EH.zero) = v0 := ⟨_, rfl⟩
      have HV0 := Lib.hid hv0
      clear hv0
      go_wp2_with (first
        | (refine wpList_entryK rfl (.tmp 21) (.tmp 22) _ rfl EH 63 22 lawS kvS_inj und_mapS zero_rates w.heap.size n g rfl HG3.out.map (by unfold maxLen; omega) (ser (rc, rk, rd, rn, rm)) l rfl hkey ?_
           intro st W4 g4 hMid
           have HMid := Lib.hid hMid
           have HG4 := Lib.hid g4
           have hs4 := g4.size
           have HP4 := Lib.hid (HP3.out.block g4 (by omega))
           rw [HV0.out]
           have hown0 := HG3.out.own (ser (rc, rk, rd, rn, rm))
           have hown4 := hown0.kept g4 (by
             by_cases e : (HdV ((g (ser (rc, rk, rd, rn, rm))).getD none)).ownBlock = some w.heap.size
             · have := (hown0.lt _ e).1; omega
             · exact .inr e)
           rw [show HdV ((g (ser (rc, rk, rd, rn, rm))).getD none) = v0 from HV0.out] at hown4
           have HO4 := Lib.hid hown4
           clear hMid g4 hown0 hown4)
        | (at_builtin
           refine wpList_append_own_at _ rfl (.tmp 23) (.tmp 25) _ rfl (w.heap.size + 1) 51 i0 _ 5 48 und_rates hi hz0 hz1 hz2 rfl (by decide) v0 _ _ rfl HO4.out _ 1 1 (rtC (rc, rk, rd, rn, rm)) rfl rfl (row5 HP4.out) (rtC_one _) (by unfold maxLen; omega) (by omega) (by omega) ?_
           intro v' W5 o5 g5 _ loc
           obtain ⟨b', c', hv'⟩ := own_hdr o5
           subst hv'
           have HO5 := Lib.hid o5
           have HG5 := Lib.hid g5
           have HL5 := Lib.hid loc
           have HMid5 := Lib.hid (HMid.out.kept g5 (by
             intro e
             have := (HO4.out.lt _ e.symm).1
             omega))
           clear o5 g5 loc)
        | (refine wpList_estoreK rfl (.tmp 21) (.tmp 28) (.tmp 27) _ rfl EH 63 w.heap.size n st g (ser (rc, rk, rd, rn, rm)) rfl HMid5.out rfl (some (b', _, c')) rfl ?_
           intro W6 m6 g6
           have HM6 := Lib.hid m6
           have HG6 := Lib.hid g6
           clear m6 g6))
      have e0 := HV0.out
      subst e0
      have hsz5 := HG5.out.size
      have hsz6 := HG6.out.size
      have hsz4 := HG4.out.size
      have HB4 := Lib.hid (HB3.out.grown HG4.out (by omega) (fun j e => by cases e; omega))
      have HB5 := Lib.hid (HB4.out.grown HG5.out (by omega) (fun j e => by have := (HO4.out.lt _ e).1; omega))
      have HB6 := Lib.hid (HB5.out.grown HG6.out (by omega) (fun j e => by cases e; omega))
      refine ⟨⟨k + 1, by omega, by go_num, Lib.hid ⟨n + 1, _, by omega, by rw [HSl.out]; exact HG3.out.step _ _ HG4.out (by omega) HO5.out HG5.out HL5.out rfl HM6.out HG6.out⟩, by omega, HB6⟩, ?_⟩
      simp [intOf]; omega
    · obtain rfl : k = L.length := by omega
      have h' : ¬ (L.length : Int) < (L.length : Int) := by omega
      rw [List.take_length] at HG
      obtain ⟨D, hD, hDs⟩ := HG.out.map
      have HD := Lib.hid hD
      have HDs := Lib.hid hDs
      have HFull := Lib.hid HG.out.full
      have HAp := Lib.hid HG.out.apart
      have HOwn := Lib.hid HG.out.own
      clear hD hDs HG
      go_wp2_with (at_range; refine wpList_range_own _ rfl (.tmp 30) _ rfl 63 22 (Go.Maps.Keyed.of_law lawS) und_mapS EH.rd w.heap.size n D rfl HD.out ?_; intro w0 hrg0 hg0 hs0)
      (try go_frame)
      have HRg := Lib.hid hrg0
      have HB0 := Lib.hid (HB.out.grown hg0 (by omega) (fun j e => by cases e))
      have HRows := Lib.hid (rows_start HOwn.out HFull.out hg0 (fun s l hl => (HDs.out s l hl).1))
      have hrs : w.heap.size + 1 ≤ wr.heap.size := hsz
      have hs0' : w0.heap.size = wr.heap.size + 1 := hs0
      clear hrg0 hg0 hs0
      generalize wr = wo at *
      go_loopw [8] (fun _ wr => ∃ left cnt, Hid (wr.ranges Try.prog 63 EH.rd w.heap.size wo.heap.size n D left cnt) ∧ Hid (RowsL wr (w.heap.size + 1) wo.heap.size g L left) ∧ wo.heap.size + 1 ≤ wr.heap.size ∧ Hid (Below w.heap.size w wr)) (fun _ wr => wr.rangeLeft w.heap.size wo.heap.size)
      case atStart => exact ⟨_, _, HRg, HRows, by omega, HB0⟩
      case round =>
        obtain ⟨left, cnt, HRg, HRows, hsw, HB⟩ := hrel
        go_wp2_with (at_next; refine wpList_next_ranges wr rfl (.tmp 31) rfl 63 (Go.Maps.Keyed.of_law lawS) EH.rd kvS HdV invS (fun v y hv => by obtain ⟨a, e, _⟩ := EH.inv v y hv; exact ⟨a, e⟩) w.heap.size wo.heap.size n D left cnt rfl HRg.out ?_ ?_)
        · intro hc0 hl0
          go_wp2
          exact HQ.out _ (srs_end HBd.out (Nat.le_refl _) HRg.out.owns HDs.out HFull.out HOwn.out HRows.out (by omega) hl0) HB.out
        · intro sc sk c kl yd yp w1 w1n hkx hlk hv hat hrg1 hlt hg1 hs1 hen
          have hgx := entry_is HDs.out hkx hv hat
          obtain ⟨bb, cp, rfl, hne⟩ := HFull.out _ _ hgx
          obtain ⟨⟨hb1, hb2⟩, l', p1, p2, _⟩ := HRows.out _ _ hkx _ _ _ hgx
          have hlen : (slF L (sc, sk)).length = l'.toArray.size := by simp [p1.length_eq]
          have e1 : w1.heap[bb]? = wr.heap[bb]? := hg1.block bb (by omega) (by intro z; injection z with z; omega)
          have hH := holdsK_kept p2 e1
          have hll : l'.length ≤ 2000 := by
            have := p1.length_eq
            have := slF_len L (sc, sk)
            omega
          have eg : ∀ args w, (callFunc 43 args).run Try.prog w = .ok (.enter 43 args) w := enters_of Try.func43 (by kernel_rfl) rfl
          have hcon := AnyQ.slices_SortFunc Try.sortRates 5 Try.isAgg51 Try.sizeOf51 rtC rtC_len rtC_one cfD swoD 43 #[] bb 0 cp l'.toArray w1 eg (cmpLaysD bb 0 _ w1) hH (by omega) (by simp; omega)
          change Calls Try.prog 42 _ _ _ at hcon
          have hen' : (Instr.entry (.pointer (some ⟨wo.heap.size, 0, none⟩))).run Try.prog w1 = .ok (.tuple #[kvS (sc, sk), .slice (some ⟨bb, 0, none⟩) l'.toArray.size cp]) w1 := by
            rw [hen, ← hlen]; rfl
          have HH := Lib.hid hH
          have HC := Lib.hid hcon
          have HG1 := Lib.hid hg1
          have HR1 := Lib.hid hrg1
          have HX := Lib.hid hgx
          have HP1 := Lib.hid p1
          have HKx := Lib.hid hkx
          have HRg0 := Lib.hid HRg.out.left_eq
          clear hH hcon hg1 hrg1 hgx p1 p2 hkx hen hat hv eg hlen e1 hne
          obtain ⟨ln, hln⟩ : ∃ ln, l'.toArray.size = ln := ⟨_, rfl⟩
          rw [hln] at hen' HC
          have HLn := Lib.hid hln
          clear hln
          go_wp2_with fail
          refine HC.out.mono ?_
          rintro e w2 ⟨rfl, d', nn, os, hpm, hst, hw2⟩
          have HW2 := Lib.hid hw2
          clear hw2
          have hbw : bb < w1.heap.size := by omega
          rw [← HLn.out] at hpm hst
          obtain ⟨l2, q1, q2, q3⟩ := sorted_row (m := nn) (os := os) HH.out hbw hpm hst
          rw [← HW2.out] at q3
          have g2 : w1.grownBy w2 (some bb) := by rw [HW2.out]; exact sorted_grown w1 bb 0 nn d' os hbw
          have HRn := Lib.hid (HR1.out.kept g2 (by intro z; injection z with z; omega) (by intro z; injection z with z; omega))
          have HRows2 := Lib.hid (rows_step HRows.out (by omega) HAp.out HKx.out HX.out HG1.out g2 (q1.trans HP1.out) q2 q3)
          have hs2 := g2.size
          have HB2 := Lib.hid ((HB.out.grown HG1.out (by omega) (fun j e => by cases e; omega)).grown g2 (by omega) (fun j e => by cases e; omega))
          clear q1 q2 q3 g2 hpm hst HW2 HH HC
          go_wp2
          go_roundw
          case rel => exact ⟨_, w1n, HRn, HRows2, by omega, HB2⟩
          case measure => rw [HRn.out.left_eq, HRg0.out]; exact hlt
end Go.Proofs.Ytdeoplbdgbgimaa
