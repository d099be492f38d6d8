/- The statements WordsJoin, WordsBack and WordsStable of package accountinglaw06. -/
import Derived.Test.YtfccpkjjbbmmaaaWdR
import Derived.Deep.SlicePairs
namespace Go.Proofs.Ytfccpkjjbbmmaaa
open Go.RowKit
set_option linter.unusedVariables false
set_option linter.unusedSimpArgs false

theorem lt_of_cell {w : World} {p : Addr} {v : Value} (h : w.cell? p = some v) : p.block < w.heap.size := by
  rcases Nat.lt_or_ge p.block w.heap.size with hl | hl
  · exact hl
  · simp [World.cell?, Array.getElem?_eq_none hl] at h
/-- the words that came in. -/
theorem rowW_of {H : Type} {enc : TypeId × Value → H} {w : World} {base : Nat} {spare : Nat → Bool} {held : Bool} {A : Option Addr} {len cap : Nat} {d : DataW H} {p : List MemPlace}
    (h : DataW.Trod enc Try.prog w base spare held 24 (.slice A len cap) d p) : ∃ L : List (Int × List UInt8 × Int), RowW w A L ∧ L.length = len ∧ len ≤ maxLen ∧ ∀ x ∈ L, x.2.1.length ≤ maxLen := by
  obtain ⟨fuel, hf⟩ := h
  rcases Go.Deep.open_slice Try.underlying24 hf with ⟨hcs, _⟩ | ⟨a, l, c, m, n, D, Pl, hcs, hb, hl, hm, hmm, _, hx⟩
  · simp [Value.cells] at hcs
    obtain ⟨rfl, rfl, rfl⟩ := hcs
    exact ⟨[], fun i x hx => by simp at hx, rfl, by unfold maxLen; omega, by simp⟩
  · simp [Value.cells] at hcs
    obtain ⟨rfl, rfl, rfl⟩ := hcs
    have hlm : len ≤ m := by rw [hmm]; split <;> omega
    have ce : Try.prog.cellsOf 39 = 3 := by kernel_rfl
    have each : ∀ i, i < len → ∃ q : Int × ByteArray × Int, w.cell? (a.add (i * 3)) = some (.int .i64 q.1) ∧ w.cell? (a.add (i * 3 + 1)) = some (.string q.2.1) ∧ w.cell? (a.add (i * 3 + 2)) = some (.int .i64 q.2.2) ∧ q.2.1.size ≤ maxLen := by
      intro i hi
      obtain ⟨cs', h1, h2⟩ := hx i (by omega)
      rw [ce] at h1
      obtain ⟨_, hlen, hcell⟩ := World.cells?_some h1
      obtain ⟨xs, k, hk, hxy, _, hxl, hg⟩ := DataW.trod_struct Try.underlying39 h2
      have s3 : xs.length = 3 := hxl
      match xs, s3, cs', hlen with
      | [y0, y1, y2], _, [v0, v1, v2], _ =>
        have g0 := hg 0 _ rfl
        have g1 := hg 1 _ rfl
        have g2 := hg 2 _ rfl
        have k3 : Try.prog.cellsOf 3 = 1 := by kernel_rfl
        have k9 : Try.prog.cellsOf 9 = 1 := by kernel_rfl
        simp [k3, k9] at g0 g1 g2
        obtain ⟨z0, e0, _, _⟩ := DataW.trod_int Try.underlying3 g0
        obtain ⟨z1, e1, _, hs⟩ := DataW.trod_string Try.underlying9 g1
        obtain ⟨z2, e2, _, _⟩ := DataW.trod_int Try.underlying3 g2
        simp at e0 e1 e2
        subst e0
        subst e1
        subst e2
        have c0 := hcell 0 (by omega)
        have c1 := hcell 1 (by omega)
        have c2 := hcell 2 (by omega)
        rw [Go.Deep.add_add] at c0 c1 c2
        exact ⟨(z0, z1, z2), by simpa using c0, by simpa using c1, by simpa using c2, hs⟩
    obtain ⟨q, hq⟩ := Go.Deep.choose_lt each
    refine ⟨(List.range len).map fun i => ((q i).1, (q i).2.1.toList, (q i).2.2), ?_, by simp, by omega, ?_⟩
    · intro i x hx
      rw [List.getElem?_map] at hx
      obtain ⟨j, hj, rfl⟩ := Option.map_eq_some_iff.1 hx
      have hi : i < len := by have := (List.getElem?_eq_some_iff.1 hj).1; simpa using this
      obtain rfl : j = i := by have := (List.getElem?_eq_some_iff.1 hj).2; simpa using this.symm
      obtain ⟨c0, c1, c2, _⟩ := hq j hi
      obtain ⟨b, off, spot⟩ := a
      have hspot : spot = none := by simpa [Addr.add] using World.cell?_spot (hq 0 (by omega)).1
      subst hspot
      rw [add_is] at c0 c1 c2
      exact ⟨b, off, rfl, lt_of_cell c0, c0, by rw [Nat.add_assoc, bs_of]; exact c1, by rw [Nat.add_assoc]; exact c2⟩
    · intro x hx
      obtain ⟨i, hi, rfl⟩ := List.mem_map.1 hx
      simp only
      rw [bytes_len]
      exact (hq i (by simpa using hi)).2.2.2
/-- the words are few and short. -/
def Lit (L : List (Int × List UInt8 × Int)) : Prop := L.length ≤ 60 ∧ ∀ x ∈ L, x.2.1.length ≤ 500
instance (L : List (Int × List UInt8 × Int)) : Decidable (Lit L) := by unfold Lit; infer_instance
set_option maxHeartbeats 1000000 in
theorem light_any (ao : Option Addr) (c : Nat) (L : List (Int × List UInt8 × Int)) (w : World) (hR : RowW w ao L) (hn : L.length ≤ maxLen) (hS : ∀ x ∈ L, x.2.1.length ≤ maxLen) :
    Calls Try.prog 20 #[.slice ao L.length c] w fun e w' => e = .returned (.bool (decide (Lit L))) ∧ w = w' := by
  unfold maxLen at hn
  have HR := Lib.hid hR
  have HSm := Lib.hid hS
  clear hR hS
  by_cases h60 : 60 < L.length
  · have hi : (60 : Int) < (L.length : Int) := by omega
    have HN := Lib.hid (show decide (Lit L) = false from decide_eq_false (fun x => by have := x.1; omega))
    go_enter Try.func20, Try.ntmps20
    go_wp2
    go_ret
    exact ⟨by rw [HN.out]; rfl, rfl⟩
  have hi : ¬ (60 : Int) < (L.length : Int) := by omega
  go_enter Try.func20, Try.ntmps20
  go_wp2
  go_loop [3] (fun i => ∃ j : Nat, j ≤ L.length ∧ i = .int .i64 (j : Int) ∧ Hid (∀ t x, t < j → L[t]? = some x → x.2.1.length ≤ 500)) (fun i => L.length - (intOf i).toNat)
  case atStart => exact ⟨0, by omega, by go_num, Lib.hid (fun t x h => by omega)⟩
  case round =>
    obtain ⟨j, hj, rfl, HG⟩ := hrel
    by_cases h : j < L.length
    · have hij : (j : Int) < (L.length : Int) := by omega
      obtain ⟨x, hx⟩ : ∃ x, L[j]? = some x := ⟨_, List.getElem?_eq_getElem h⟩
      have hxm : x ∈ L := List.mem_of_getElem? hx
      obtain ⟨b, off, rfl, hlb, c0, c1, c2⟩ := HR.out j x hx
      have hsz := HSm.out x hxm
      unfold maxLen at hsz
      have HZ := Lib.hid (bs_size x.2.1)
      by_cases h5 : 500 < x.2.1.length
      · have h6 : (500 : Int) < ((bs x.2.1).size : Int) := by rw [HZ.out]; omega
        have HN := Lib.hid (show decide (Lit L) = false from decide_eq_false (fun y => by have := y.2 x hxm; omega))
        clear hx hxm
        go_wp2
        go_ret
        exact ⟨by rw [HN.out]; rfl, rfl⟩
      · have h6 : ¬ (500 : Int) < ((bs x.2.1).size : Int) := by rw [HZ.out]; omega
        have HG2 := Lib.hid (show ∀ t y, t < j + 1 → L[t]? = some y → y.2.1.length ≤ 500 from fun t y ht hy => by
          rcases Nat.lt_or_ge t j with k | k
          · exact HG.out t y k hy
          · obtain rfl : t = j := by omega
            rw [hx] at hy; injection hy with hy; subst hy; omega)
        clear hx hxm
        go_wp2
        go_round
        case rel => exact ⟨j + 1, by omega, by go_num, HG2⟩
        case measure => simp [intOf]; omega
    · have hij : ¬ (j : Int) < (L.length : Int) := by omega
      have HN := Lib.hid (show decide (Lit L) = true from decide_eq_true ⟨by omega, fun x hx => by
        obtain ⟨t, ht, e⟩ := List.mem_iff_getElem.1 hx
        exact HG.out t x (by omega) (by rw [List.getElem?_eq_getElem ht, e])⟩)
      go_wp2
      go_ret
      exact ⟨by rw [HN.out]; rfl, rfl⟩
set_option maxHeartbeats 2000000 in
theorem wordsJoin_walk (ao : Option Addr) (n c : Nat) (L : List (Int × List UInt8 × Int)) (w : World) (h : RowW w ao L ∧ L.length = n ∧ n ≤ maxLen ∧ ∀ x ∈ L, x.2.1.length ≤ maxLen) :
    Calls Try.prog 6 #[.slice ao n c] w fun e w' => e = .returned (.bool true) ∧ Below w.heap.size w w' := by
  obtain ⟨hR, rfl, hn, hS⟩ := h
  have H0 := Lib.hid (light_any ao c L w hR hn hS)
  by_cases hl : Lit L
  · rw [decide_eq_true hl] at H0
    have H1 := Lib.hid (fun w h => join_any ao c L w h (by have := hl.1; omega) (fun x hx => by have := hl.2 x hx; omega))
    have H2 := Lib.hid (fun w h => rJoin_any ao c L w h (by have := hl.1; omega) (fun x hx => by have := hl.2 x hx; omega))
    have HR := Lib.hid hR
    clear hR hn hS hl
    generalize bs (jnV L) = T at *
    generalize jnE L = E at *
    go_enter Try.func6, Try.ntmps6
    go_wp2_with fail
    refine H0.out.mono ?_
    rintro e w_ ⟨rfl, rfl⟩
    go_wp2_with fail
    refine (H1.out _ HR.out).mono ?_
    rintro e W1 ⟨rfl, hb1⟩
    have HR1 := Lib.hid (HR.out.below hb1)
    have HB1 := Lib.hid hb1
    clear hb1
    go_wp2_with fail
    refine (H2.out _ HR1.out).mono ?_
    rintro e W2 ⟨rfl, hb2⟩
    have HB2 := Lib.hid (HB1.out.trans (hb2.mono HB1.out.size))
    clear hb2
    go_wp2_with fail
    refine (live_end HB2.out).mono ?_
    rintro e W4 ⟨rfl, hb⟩
    go_wp2
    go_ret
    exact ⟨rfl, hb⟩
  · rw [decide_eq_false hl] at H0
    clear hR hn hS hl
    have H5 := Lib.hid (live_end (Below.refl w.heap.size w))
    go_enter Try.func6, Try.ntmps6
    go_wp2_with fail
    refine H0.out.mono ?_
    rintro e w_ ⟨rfl, rfl⟩
    go_wp2_with fail
    refine H5.out.mono ?_
    rintro e W1 ⟨rfl, hb⟩
    go_wp2
    go_ret
    exact ⟨rfl, hb⟩
theorem of_get {L : List (Int × List UInt8 × Int)} {i : Nat} {x : Int × List UInt8 × Int} (h : L[i]? = some x) : ∃ o, (toI (ofL 0 (zW L)))[i]? = some (x.1, x.2.1, o) := by
  have hi : i < L.length := (List.getElem?_eq_some_iff.1 h).1
  have hz : i < (zW L).length := by unfold zW; simpa using hi
  have ho : i < (ofL 0 (zW L)).length := by rw [ofL_len]; exact hz
  obtain ⟨e1, e2⟩ := ofL_get (zW L) 0 i hz ho
  have ez : (zW L)[i]? = some (x.1, x.2.1, 0) := by unfold zW; rw [List.getElem?_map, h]; rfl
  have ex : (zW L)[i] = (x.1, x.2.1, 0) := (List.getElem?_eq_some_iff.1 ez).2
  rw [ex] at e1 e2
  refine ⟨((ofL 0 (zW L))[i].2.2 : Int), ?_⟩
  unfold toI
  rw [List.getElem?_map, List.getElem?_eq_getElem ho]
  simp only [Option.map_some]
  rw [e1, e2]
theorem cut_joined {L : List (Int × List UInt8 × Int)} (h : jnE L = 0) : cuR (bs (jnV L)) = (0, ofL 0 (zW L), (bs (jnV L)).size) ∧ (bs (jnV L)).size ≤ 400 := by
  have hg : allG L := by
    unfold jnE at h; split at h
    · assumption
    · simp at h
  have hl : ¬ 400 < (joL (zW L)).length := by
    unfold jnE at h; rw [if_pos hg] at h; intro x; rw [if_pos x] at h; simp at h
  obtain ⟨_, e⟩ := jn_ok hg hl
  have hz : (bs (jnV L)).size ≤ 400 := by rw [bs_size, e]; omega
  refine ⟨cuR_ok (p := 0) (by omega) ?_, hz⟩
  rw [bs_list, e]
  exact cuV_join (zW L) 0 (fun w hw => by
    unfold zW at hw
    obtain ⟨x, hx, rfl⟩ := List.mem_map.1 hw
    exact hg x hx)
theorem jnV_bad {L : List (Int × List UInt8 × Int)} (h : jnE L ≠ 0) : jnV L = [] := if_neg h
theorem toI_len (L : List (Int × List UInt8 × Nat)) : (toI L).length = L.length := by unfold toI; simp
theorem zW_len (L : List (Int × List UInt8 × Int)) : (zW L).length = L.length := by unfold zW; simp
set_option maxHeartbeats 4000000 in
theorem wordsBack_walk (ao : Option Addr) (n c : Nat) (L : List (Int × List UInt8 × Int)) (w : World) (h : RowW w ao L ∧ L.length = n ∧ n ≤ maxLen ∧ ∀ x ∈ L, x.2.1.length ≤ maxLen) :
    Calls Try.prog 7 #[.slice ao n c] w fun e w' => e = .returned (.bool true) ∧ Below w.heap.size w w' := by
  obtain ⟨hR, rfl, hn, hS⟩ := h
  have H0 := Lib.hid (light_any ao c L w hR hn hS)
  by_cases hl : Lit L
  · rw [decide_eq_true hl] at H0
    have H1 := Lib.hid (fun w h => join_any ao c L w h (by have := hl.1; omega) (fun x hx => by have := hl.2 x hx; omega))
    have HR := Lib.hid hR
    have hn6 : L.length ≤ 60 := hl.1
    clear hR hn hS hl
    by_cases hE : jnE L = 0
    · obtain ⟨hc1, hc2⟩ := cut_joined hE
      have H2 := Lib.hid (fun w => cut_is (by omega) hc1 w)
      rw [ofL_len, zW_len] at H2
      rw [hE] at H1
      clear hc1 hE
      generalize bs (jnV L) = T at *
      go_enter Try.func7, Try.ntmps7
      go_wp2_with fail
      refine H0.out.mono ?_
      rintro e w_ ⟨rfl, rfl⟩
      go_wp2_with fail
      refine (H1.out _ HR.out).mono ?_
      rintro e W1 ⟨rfl, hb1⟩
      have HR1 := Lib.hid (HR.out.below hb1)
      have HB1 := Lib.hid hb1
      clear hb1
      go_wp2_with fail
      refine (H2.out _).mono ?_
      rintro e W2 ⟨ao2, cap2, rfl, ho2, hb2⟩
      have HM := Lib.hid ho2.row
      have HR2 := Lib.hid (HR1.out.below hb2)
      have HBw := Lib.hid (HB1.out.trans (hb2.mono HB1.out.size))
      clear hb2 ho2 HB1 HR1
      go_wp2
      go_loopw [8] (fun i wr => ∃ j : Nat, j ≤ L.length ∧ i = .int .i64 (j : Int) ∧ Hid (Below W2.heap.size W2 wr)) (fun i _ => L.length - (intOf i).toNat)
      case atStart => exact ⟨0, by omega, by go_num, Lib.hid (Below.refl _ _)⟩
      case round =>
        obtain ⟨j, hj, rfl, HB⟩ := hrel
        by_cases h : j < L.length
        · have hij : (j : Int) < (L.length : Int) := by omega
          obtain ⟨x, hx⟩ : ∃ x, L[j]? = some x := ⟨_, List.getElem?_eq_getElem h⟩
          obtain ⟨o, ho⟩ := of_get hx
          obtain ⟨b, off, rfl, hlb, x0, x1, x2⟩ := (HR2.out.below HB.out) j x hx
          obtain ⟨b', off', rfl, hlb', y0, y1, y2⟩ := (HM.out.below HB.out) j _ ho
          have lx0 := cell_regrown x0
          have lx1 := cell_regrown x1
          have ly0 := cell_regrown y0
          have ly1 := cell_regrown y1
          have e1 : (x.1 != x.1) = false := by simp
          have e2 : ((bs x.2.1).toList == (bs x.2.1).toList) = true := by simp
          clear hx ho x0 x1 x2 y0 y1 y2
          go_wp2_with fail
          refine wp_region_quiet_below (l := _) (by kernel_rfl) (by kernel_rfl) ?_
          repeat (first | go_big_quiet_step (fail))
          refine wpQuiet_nil ?_
          intro w2 hw'
          obtain ⟨⟨dq2, osq2⟩, hw''⟩ := hw'
          have hb2 := below_regrown wr dq2 osq2
          rw [← hw''] at hb2
          clear hw''
          have HB2 := Lib.hid (HB.out.trans (hb2.mono HB.out.size))
          clear hb2
          go_wp2
          go_roundw
          case rel => exact ⟨j + 1, by omega, by go_num, HB2⟩
          case measure => simp [intOf]; omega
        · have hij : ¬ (j : Int) < (L.length : Int) := by omega
          have HBe := Lib.hid (HBw.out.trans (HB.out.mono HBw.out.size))
          go_wp2_with fail
          refine (live_end HBe.out).mono ?_
          rintro e W4 ⟨rfl, hb⟩
          go_wp2
          go_ret
          exact ⟨rfl, hb⟩
    · have q : (jnE L != 0) = true := by simp [hE]
      have eV : jnV L = [] := jnV_bad hE
      rw [eV] at H1
      clear hE eV
      generalize jnE L = E at *
      have qe : ((bs []).toList == []) = true := by rw [bs_list]; rfl
      have qe2 : (bs []).toList.isEmpty = true := by rw [bs_list]; rfl
      go_enter Try.func7, Try.ntmps7
      go_wp2_with fail
      refine H0.out.mono ?_
      rintro e w_ ⟨rfl, rfl⟩
      go_wp2_with fail
      refine (H1.out _ HR.out).mono ?_
      rintro e W1 ⟨rfl, hb1⟩
      have HB1 := Lib.hid hb1
      clear hb1
      go_wp2_with fail
      refine (live_end HB1.out).mono ?_
      rintro e W4 ⟨rfl, hb⟩
      go_wp2
      go_ret
      exact ⟨rfl, hb⟩
  · rw [decide_eq_false hl] at H0
    clear hR hn hS hl
    have H5 := Lib.hid (live_end (Below.refl w.heap.size w))
    go_enter Try.func7, Try.ntmps7
    go_wp2_with fail
    refine H0.out.mono ?_
    rintro e w_ ⟨rfl, rfl⟩
    go_wp2_with fail
    refine H5.out.mono ?_
    rintro e W1 ⟨rfl, hb⟩
    go_wp2
    go_ret
    exact ⟨rfl, hb⟩
/-- the words of a line that Cut returns are good, and their offsets increase. -/
theorem cuR_goods {s : ByteArray} {L : List (Int × List UInt8 × Nat)} {p : Nat} (h : cuR s = (0, L, p)) : (∀ w ∈ L, goodW w.1 w.2.1 ∧ w.2.1.length ≤ 60) ∧ L.Pairwise (fun v w => v.2.2 < w.2.2) := by
  unfold cuR at h
  split at h
  · simp at h
  · split at h
    · simp only [Prod.mk.injEq, true_and] at h
      obtain ⟨q1, q2, _⟩ := cuV_goods s.toList.length s.toList 0 (Nat.le_refl _)
      rw [h.1] at q1 q2
      refine ⟨fun w hw => ⟨(q1 w hw).1, ?_⟩, q2⟩
      have hg := (q1 w hw).1
      by_cases e : w.1 = 3
      · unfold goodW at hg; rw [if_pos e] at hg
        unfold plainB at hg; simp only [Bool.and_eq_true, decide_eq_true_eq] at hg; exact hg.2
      · have := wo_len (good_wo hg) e
        have e2 : noL w.1 w.2.1 = w.2.1 := if_neg e
        rw [e2] at this; exact this
    · rename_i h0
      simp only [Prod.mk.injEq] at h
      exact absurd h.1 h0
theorem toI_mem {L : List (Int × List UInt8 × Nat)} {x : Int × List UInt8 × Int} (h : x ∈ toI L) : ∃ y ∈ L, x = (y.1, y.2.1, (y.2.2 : Int)) := by
  unfold toI at h
  obtain ⟨y, hy, rfl⟩ := List.mem_map.1 h
  exact ⟨y, hy, rfl⟩
theorem toI_inc {L : List (Int × List UInt8 × Nat)} (h : L.Pairwise (fun v w => v.2.2 < w.2.2)) {j : Nat} {x y : Int × List UInt8 × Int} (hj : 0 < j) (hx : (toI L)[j]? = some x) (hy : (toI L)[j - 1]? = some y) : ¬ x.2.2 ≤ y.2.2 := by
  unfold toI at hx hy
  rw [List.getElem?_map] at hx hy
  obtain ⟨a, ha, rfl⟩ := Option.map_eq_some_iff.1 hx
  obtain ⟨b, hb, rfl⟩ := Option.map_eq_some_iff.1 hy
  obtain ⟨h1, e1⟩ := List.getElem?_eq_some_iff.1 ha
  obtain ⟨h2, e2⟩ := List.getElem?_eq_some_iff.1 hb
  have := List.pairwise_iff_getElem.1 h (j - 1) j h2 h1 (by omega)
  rw [e1, e2] at this
  simp only
  omega
set_option maxHeartbeats 8000000 in
theorem wordsStable_walk (s : ByteArray) (w : World) (hs : s.size ≤ maxLen) :
    Calls Try.prog 8 #[.string s] w fun e w' => e = .returned (.bool true) ∧ Below w.heap.size w w' := by
  unfold maxLen at hs
  by_cases h : 400 < s.size
  · have hi : (400 : Int) < (s.size : Int) := by omega
    have H5 := Lib.hid (live_end (Below.refl w.heap.size w))
    go_enter Try.func8, Try.ntmps8
    go_wp2_with fail
    refine H5.out.mono ?_
    rintro e W1 ⟨rfl, hb⟩
    go_wp2
    go_ret
    exact ⟨rfl, hb⟩
  have hi : ¬ (400 : Int) < (s.size : Int) := by omega
  obtain ⟨r, L, p, hr⟩ : ∃ r L p, cuR s = (r, L, p) := ⟨_, _, _, rfl⟩
  have H1 := Lib.hid (fun w => cut_is (by omega) hr w)
  have hL : L.length ≤ 400 := by have := cuR_len s; rw [hr] at this; exact this
  by_cases h0 : r = 0
  · subst h0
    have HG := Lib.hid (cuR_goods hr)
    have H2 := Lib.hid (fun ao c w h => join_any ao c (toI L) w h (by rw [toI_len]; omega) (fun x hx => by
      obtain ⟨y, hy, rfl⟩ := toI_mem hx
      have := (HG.out.1 y hy).2
      simp only; omega))
    rw [toI_len] at H2
    have HJ := Lib.hid (show jnE (toI L) = 0 ∨ jnE (toI L) = 9 by
      unfold jnE
      rw [if_pos (show allG (toI L) from fun x hx => by
        obtain ⟨y, hy, rfl⟩ := toI_mem hx
        exact (HG.out.1 y hy).1)]
      split
      · exact .inr rfl
      · exact .inl rfl)
    clear hr h
    rcases HJ.out with hE | hE
    · clear HJ
      obtain ⟨hc1, hc2⟩ := cut_joined hE
      have H3 := Lib.hid (fun w => cut_is (by omega) hc1 w)
      rw [ofL_len, zW_len, toI_len] at H3
      rw [hE] at H2
      clear hc1 hE
      generalize bs (jnV (toI L)) = T at *
      go_enter Try.func8, Try.ntmps8
      go_wp2_with fail
      refine (H1.out _).mono ?_
      rintro e W1 ⟨ao, cap, rfl, ho1, hb1⟩
      have HR1 := Lib.hid ho1.row
      have HB1 := Lib.hid hb1
      clear hb1 ho1
      go_wp2_with fail
      refine (H2.out _ _ _ HR1.out).mono ?_
      rintro e W2 ⟨rfl, hb2⟩
      have HR2 := Lib.hid (HR1.out.below hb2)
      have HB2 := Lib.hid (HB1.out.trans (hb2.mono HB1.out.size))
      clear hb2 HB1 HR1
      go_wp2_with fail
      refine (H3.out _).mono ?_
      rintro e W3 ⟨ao2, cap2, rfl, ho3, hb3⟩
      have HM := Lib.hid ho3.row
      have HR3 := Lib.hid (HR2.out.below hb3)
      have HBw := Lib.hid (HB2.out.trans (hb3.mono HB2.out.size))
      clear hb3 ho3 HB2 HR2
      go_wp2
      go_loopw [11] (fun i wr => ∃ j : Nat, j ≤ L.length ∧ i = .int .i64 (j : Int) ∧ Hid (Below W3.heap.size W3 wr)) (fun i _ => L.length - (intOf i).toNat)
      case atStart => exact ⟨0, by omega, by go_num, Lib.hid (Below.refl _ _)⟩
      case round =>
        obtain ⟨j, hj, rfl, HB⟩ := hrel
        by_cases h : j < L.length
        · have hij : (j : Int) < (L.length : Int) := by omega
          obtain ⟨x, hx⟩ : ∃ x, (toI L)[j]? = some x := ⟨_, List.getElem?_eq_getElem (by rw [toI_len]; exact h)⟩
          obtain ⟨o, ho⟩ := of_get hx
          obtain ⟨b, off, rfl, hlb, x0, x1, x2⟩ := (HR3.out.below HB.out) j x hx
          obtain ⟨b', off', rfl, hlb', y0, y1, y2⟩ := (HM.out.below HB.out) j _ ho
          have e1 : (x.1 != x.1) = false := by simp
          have e2 : ((bs x.2.1).toList == (bs x.2.1).toList) = true := by simp
          by_cases k0 : 0 < j
          · have k1 : (0 : Int) < (j : Int) := by omega
            obtain ⟨y, hy⟩ : ∃ y, (toI L)[j - 1]? = some y := ⟨_, List.getElem?_eq_getElem (by rw [toI_len]; omega)⟩
            obtain ⟨b3, off3, e3, _, _, _, z2⟩ := (HR3.out.below HB.out) (j - 1) y hy
            injection e3 with e3
            injection e3 with e4 e5
            subst e4
            subst e5
            have hinc := toI_inc HG.out.2 k0 hx hy
            have k2 : ((j : Int) - 1).toNat = j - 1 := by omega
            have k3 : (j : Int) - 1 < (L.length : Int) := by omega
            have lx0 := cell_regrown x0
            have lx1 := cell_regrown x1
            have lx2 := cell_regrown x2
            have ly0 := cell_regrown y0
            have ly1 := cell_regrown y1
            have lz2 := cell_regrown z2
            clear hx ho hy x0 x1 x2 y0 y1 y2 z2
            go_wp2_with fail
            refine wp_region_quiet_below (l := _) (by kernel_rfl) (by kernel_rfl) ?_
            repeat (first | go_big_quiet_step (fail))
            refine wpQuiet_nil ?_
            intro w2 hw'
            obtain ⟨⟨dq2, osq2⟩, hw''⟩ := hw'
            have hb2 := below_regrown wr dq2 osq2
            rw [← hw''] at hb2
            clear hw''
            have HB2 := Lib.hid (HB.out.trans (hb2.mono HB.out.size))
            clear hb2
            go_wp2
            go_roundw
            case rel => exact ⟨j + 1, by omega, by go_num, HB2⟩
            case measure => simp [intOf]; omega
          · obtain rfl : j = 0 := by omega
            simp only [Nat.zero_mul, Nat.add_zero] at x0 x1 x2 y0 y1 y2
            have lx0 := cell_regrown x0
            have lx1 := cell_regrown x1
            have ly0 := cell_regrown y0
            have ly1 := cell_regrown y1
            clear hx ho x0 x1 x2 y0 y1 y2
            go_wp2_with fail
            refine wp_region_quiet_below (l := _) (by kernel_rfl) (by kernel_rfl) ?_
            repeat (first | go_big_quiet_step (fail))
            refine wpQuiet_nil ?_
            intro w2 hw'
            obtain ⟨⟨dq2, osq2⟩, hw''⟩ := hw'
            have hb2 := below_regrown wr dq2 osq2
            rw [← hw''] at hb2
            clear hw''
            have HB2 := Lib.hid (HB.out.trans (hb2.mono HB.out.size))
            clear hb2
            go_wp2
            go_roundw
            case rel => exact ⟨0 + 1, by omega, by go_num, HB2⟩
            case measure => simp [intOf]; omega
        · have hij : ¬ (j : Int) < (L.length : Int) := by omega
          have HBe := Lib.hid (HBw.out.trans (HB.out.mono HBw.out.size))
          go_wp2_with fail
          refine (live_end HBe.out).mono ?_
          rintro e W4 ⟨rfl, hb⟩
          go_wp2
          go_ret
          exact ⟨rfl, hb⟩
    · rw [hE] at H2
      clear hE HJ
      generalize bs (jnV (toI L)) = T at *
      go_enter Try.func8, Try.ntmps8
      go_wp2_with fail
      refine (H1.out _).mono ?_
      rintro e W1 ⟨ao, cap, rfl, ho1, hb1⟩
      have HR1 := Lib.hid ho1.row
      have HB1 := Lib.hid hb1
      clear hb1 ho1
      go_wp2_with fail
      refine (H2.out _ _ _ HR1.out).mono ?_
      rintro e W2 ⟨rfl, hb2⟩
      have HB2 := Lib.hid (HB1.out.trans (hb2.mono HB1.out.size))
      clear hb2 HB1 HR1
      go_wp2_with fail
      refine (live_end HB2.out).mono ?_
      rintro e W4 ⟨rfl, hb⟩
      go_wp2
      go_ret
      exact ⟨rfl, hb⟩
  · have q0 : (r != 0) = true := by simp [h0]
    have hLn := cuR_nil hr h0
    subst hLn
    clear hr h h0
    go_enter Try.func8, Try.ntmps8
    go_wp2_with fail
    refine (H1.out _).mono ?_
    rintro e W1 ⟨ao, cap, rfl, ho1, hb1⟩
    have HB1 := Lib.hid hb1
    clear ho1 hb1
    go_wp2_with fail
    refine (live_end HB1.out).mono ?_
    rintro e W4 ⟨rfl, hb⟩
    go_wp2
    go_ret
    exact ⟨rfl, hb⟩
end Go.Proofs.Ytfccpkjjbbmmaaa
