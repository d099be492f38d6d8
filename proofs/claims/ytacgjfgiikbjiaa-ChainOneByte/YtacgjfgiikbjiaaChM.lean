/- Records appended; the statements ChainNotation, ChainContinues and ChainWrongSum of package accountinglaw14. -/
import Derived.Test.YtacgjfgiikbjiaaChL
namespace Go.Proofs.Ytacgjfgiikbjiaa
open Go.RowKit Go.Sort
set_option linter.unusedVariables false
set_option linter.unusedSimpArgs false

/-- the values of the slices of records. -/
def RecV (w : World) (V : List Value) (R : List (List UInt8)) : Prop := V.length = R.length ∧ ∀ (i : Nat) (v : Value) (l : List UInt8), V[i]? = some v → R[i]? = some l → ∃ (ao : Option Addr) (c : Nat), v = .slice ao l.length c ∧ RowB w ao l
theorem RecV.below {w w' : World} {V : List Value} {R : List (List UInt8)} (h : RecV w V R) (hb : Below w.heap.size w w') : RecV w' V R :=
  ⟨h.1, fun i v l hv hl => by obtain ⟨ao, c, e, hr⟩ := h.2 i v l hv hl; exact ⟨ao, c, e, hr.below hb⟩⟩
theorem RecV.one {w : World} {V : List Value} {R : List (List UInt8)} (h : RecV w V R) : ∀ y ∈ V, y.oneCell' = true := by
  intro y hy
  obtain ⟨i, hi, e⟩ := List.mem_iff_getElem.1 hy
  have hi2 : i < R.length := by rw [← h.1]; exact hi
  obtain ⟨ao, c, rfl, _⟩ := h.2 i y R[i] (by rw [List.getElem?_eq_getElem hi, e]) (List.getElem?_eq_getElem hi2)
  rfl
theorem RecV.app {w : World} {V V' : List Value} {R R' : List (List UInt8)} (h : RecV w V R) (h' : RecV w V' R') : RecV w (V ++ V') (R ++ R') := by
  refine ⟨by rw [List.length_append, List.length_append, h.1, h'.1], fun i v l hv hl => ?_⟩
  rcases Nat.lt_or_ge i V.length with k | k
  · rw [List.getElem?_append_left k] at hv
    rw [List.getElem?_append_left (by rw [← h.1]; exact k)] at hl
    exact h.2 i v l hv hl
  · rw [List.getElem?_append_right k] at hv
    rw [List.getElem?_append_right (by rw [← h.1]; exact k), ← h.1] at hl
    exact h'.2 _ v l hv hl
theorem RecV.take {w : World} {V : List Value} {R : List (List UInt8)} (h : RecV w V R) (n : Nat) : RecV w (V.take n) (R.take n) := by
  refine ⟨by rw [List.length_take, List.length_take, h.1], fun i v l hv hl => ?_⟩
  rw [List.getElem?_take] at hv hl
  split at hv
  · rw [if_pos (by assumption)] at hl
    exact h.2 i v l hv hl
  · cases hv
theorem RecV.drop {w : World} {V : List Value} {R : List (List UInt8)} (h : RecV w V R) (n : Nat) : RecV w (V.drop n) (R.drop n) := by
  refine ⟨by rw [List.length_drop, List.length_drop, h.1], fun i v l hv hl => ?_⟩
  rw [List.getElem?_drop] at hv hl
  exact h.2 _ v l hv hl
theorem RecV.recs {w : World} {ao : Option Addr} {V : List Value} {R : List (List UInt8)} (h : RecV w V R) (hr : RowV w ao V) : Recs w ao R := by
  intro i l hl
  have hi : i < V.length := by rw [h.1]; exact (List.getElem?_eq_some_iff.1 hl).1
  have hv := List.getElem?_eq_getElem hi
  obtain ⟨b, off, e, hlt, hc⟩ := hr i _ hv
  obtain ⟨ao', c, ev, hb⟩ := h.2 i _ l hv hl
  exact ⟨b, off, ao', c, e, hlt, by rw [hc, ev], hb⟩
theorem Recs.vals {w : World} {ao : Option Addr} {R : List (List UInt8)} (h : Recs w ao R) : ∃ V, RecV w V R ∧ RowV w ao V := by
  have each : ∀ i, i < R.length → ∃ v : Value, (∃ b off, ao = some ⟨b, off, none⟩ ∧ b < w.heap.size ∧ w.cell? ⟨b, off + i, none⟩ = some v) ∧ ∀ l, R[i]? = some l → ∃ ao' c, v = .slice ao' l.length c ∧ RowB w ao' l := fun i hi => by
    obtain ⟨b, off, ao', c, e, hb, hc, hr⟩ := h.at i hi
    refine ⟨_, ⟨b, off, e, hb, hc⟩, fun l hl => ?_⟩
    rw [List.getElem?_eq_getElem hi] at hl
    injection hl with hl
    subst hl
    exact ⟨ao', c, rfl, hr⟩
  obtain ⟨q, hq⟩ := Go.Deep.choose_lt each
  have hget : ∀ i v, ((List.range R.length).map q)[i]? = some v → i < R.length ∧ v = q i := fun i v hv => by
    rw [List.getElem?_map] at hv
    obtain ⟨j, hj, rfl⟩ := Option.map_eq_some_iff.1 hv
    have hi : i < R.length := by have := (List.getElem?_eq_some_iff.1 hj).1; simpa using this
    obtain rfl : j = i := by have := (List.getElem?_eq_some_iff.1 hj).2; simpa using this.symm
    exact ⟨hi, rfl⟩
  refine ⟨(List.range R.length).map q, ⟨by simp, fun i v l hv hl => ?_⟩, fun i x hx => ?_⟩
  · obtain ⟨hi, rfl⟩ := hget i v hv
    exact (hq i hi).2 l hl
  · obtain ⟨hi, rfl⟩ := hget i x hx
    exact (hq i hi).1
theorem und_bss : Try.prog.underlying 27 = some (.slice 23) := by kernel_rfl
theorem inf_bs : (Try.prog.info? 23).map (fun i => (i.zero, i.size, i.bytes)) = some (some (.slice none 0 0), 1, 24) := by kernel_rfl
/-- the slice v owns slices of these values. -/
def OwnR (w : World) (base : Nat) (v : Value) (V : List Value) : Prop := OwnV w base 23 v V
theorem OwnR.made (w : World) (base : Nat) (h : base ≤ w.heap.size) : OwnR (w.alloc (.cells #[] 23)) base (.slice (some ⟨w.heap.size, 0, none⟩) 0 0) [] :=
  ⟨rfl, .inr ⟨w.heap.size, 0, #[], rfl, h, by unfold World.alloc; simp, by simp, by unfold maxLen; omega, rfl, rfl⟩⟩
theorem wpList_recs {w : World} {ops : Array Oper} {rest : List Oper} {o : Oper} {a : Act} {Q : Exit → Act → World → Prop} (hgd : o.guard = none) (s x : Operand)
    (ho : o.op = .call { callee := .builtin .append, args := #[s, x], argTypes := #[27, 27] })
    (base : Nat) (v : Value) (V M : List Value) (hs : a.eval s = v) (hown : OwnR w base v V) (ao : Option Addr) (c : Nat) (hx : a.eval x = .slice ao M.length c) (hn : ao = none → c = 0) (hc : RowV w ao M) (hM : ∀ y ∈ M, y.oneCell' = true)
    (hl : V.length + M.length < 1000000) (hbase : base ≤ w.heap.size)
    (h : ∀ v' w', OwnR w' base v' (V ++ M) → Below base w w' → wpList Try.prog ops Q rest (a.put o.dst v') w') : wpList Try.prog ops Q (o :: rest) a w :=
  wpList_vals und_bss inf_bs rfl (by omega) hgd s x ho base v V M hs hown ao c hx hn hc hM hl hbase h
/-- checksums appended. -/
theorem wpList_us {w : World} {ops : Array Oper} {rest : List Oper} {o : Oper} {a : Act} {Q : Exit → Act → World → Prop} (hgd : o.guard = none) (s x : Operand)
    (ho : o.op = .call { callee := .builtin .append, args := #[s, x], argTypes := #[30, 30] })
    (base : Nat) (v : Value) (l m : List Int) (hs : a.eval s = v) (hown : OwnU w base v l) (ao : Option Addr) (c : Nat) (hx : a.eval x = .slice ao m.length c) (hn : ao = none → c = 0) (hc : RowU w ao m)
    (hl : l.length + m.length < 1000000) (hbase : base ≤ w.heap.size)
    (h : ∀ v' w', OwnU w' base v' (l ++ m) → Below base w w' → wpList Try.prog ops Q rest (a.put o.dst v') w') : wpList Try.prog ops Q (o :: rest) a w := by
  refine wpList_vals und_us inf_u64 rfl (by omega) hgd s x ho base v (l.map uV) (m.map uV) hs hown ao c (by rw [List.length_map]; exact hx) hn hc ?_ (by simp; omega) hbase ?_
  · intro y hy
    obtain ⟨z, _, rfl⟩ := List.mem_map.1 hy
    rfl
  · intro v' w' h1 h2
    exact h v' w' (by unfold OwnU; rw [List.map_append]; exact h1) h2
theorem OwnV.nilcap {w : World} {base : Nat} {T : TypeId} {ao : Option Addr} {n c : Nat} {L : List Value} (h : OwnV w base T (.slice ao n c) L) : ao = none → c = 0 := by
  rintro rfl
  rcases h.2 with ⟨e, _⟩ | ⟨g, cap, cur, e, _⟩
  · injection e
  · injection e with e1; cases e1
theorem suV_app (h : Int) (A B : List (List UInt8)) : suV h (A ++ B) = suV (suV h A) B := by unfold suV; rw [List.foldl_append]
theorem alV_app : ∀ (A B : List (List UInt8)) (h : Int), alV h (A ++ B) = alV h A ++ alV (suV h A) B
  | [], B, h => rfl
  | l :: A, B, h => by
    show nxV h l :: alV (nxV h l) (A ++ B) = nxV h l :: (alV (nxV h l) A ++ alV (suV (nxV h l) A) B)
    rw [alV_app A B]
theorem chV_more : ∀ (R : List (List UInt8)) (h : Int) (i : Nat) (x : Int), chV h R (alV h R ++ [x]) i = ((i + R.length : Nat) : Int)
  | [], h, i, x => rfl
  | l :: R, h, i, x => by
    show chV h (l :: R) (nxV h l :: (alV (nxV h l) R ++ [x])) i = _
    rw [chV, if_pos rfl, chV_more R]
    simp; omega
theorem chV_set : ∀ (R : List (List UInt8)) (h : Int) (i k : Nat) (x : Int) (hk : k < (alV h R).length), (alV h R)[k] ≠ x → chV h R ((alV h R).set k x) i = ((i + k : Nat) : Int)
  | l :: R, h, i, 0, x, hk, hne => by
    show chV h (l :: R) (x :: alV (nxV h l) R) i = _
    rw [chV, if_neg (fun e => hne e.symm)]; simp
  | l :: R, h, i, k + 1, x, hk, hne => by
    show chV h (l :: R) (nxV h l :: (alV (nxV h l) R).set k x) i = _
    rw [chV, if_pos rfl, chV_set R (nxV h l) (i + 1) k x (by simpa [alV] using hk) (by simpa [alV] using hne)]
    simp; omega
theorem chV_cut : ∀ (R : List (List UInt8)) (h : Int) (i k : Nat), k < R.length → chV h R ((alV h R).take k) i = ((i + k : Nat) : Int)
  | l :: R, h, i, 0, hk => rfl
  | l :: R, h, i, k + 1, hk => by
    show chV h (l :: R) (nxV h l :: (alV (nxV h l) R).take k) i = _
    rw [chV, if_pos rfl, chV_cut R (nxV h l) (i + 1) k (by simpa using hk)]
    simp; omega
theorem conv8 {w : World} {a : Addr} {l : List UInt8} (h : RowB w (some a) l) (hl : l.length = 8) : (convert 23 9 (.slice (some a) 8 8)).run Try.prog w = .ok (.string (bs l)) w := by
  have := RowB.conv' h 8; rw [hl] at this; exact this
set_option maxHeartbeats 2000000 in
theorem chainNotation_walk (s : Int) (a : Option Addr) (len cap : Nat) (l : List UInt8) (t : ByteArray) (w : World) (w0 : (Lit.int .u64 s).wf = true) (w1 : IsB w a len cap l) (w2 : t.size ≤ maxLen) :
    Calls Try.prog 6 #[.int .u64 s, .slice a len cap, .string t] w fun e w' => e = .returned (.bool true) ∧ Below w.heap.size w w' := by
  obtain ⟨s0, s1⟩ := u64_bd w0
  clear w0
  obtain rfl := w1.hlen
  have hm := w1.hmax
  unfold maxLen at hm w2
  by_cases h : 100 < l.length
  · have hi : (100 : Int) < (l.length : Int) := by omega
    have H5 := Lib.hid (live_end (Below.refl w.heap.size w))
    clear w1
    go_enter Try.func6, Try.ntmps6
    go_wp2_with fail
    refine H5.out.mono ?_
    rintro e W1 ⟨rfl, hb⟩
    go_wp2
    go_ret
    exact ⟨rfl, hb⟩
  have hi : ¬ (100 : Int) < (l.length : Int) := by omega
  by_cases h2 : 100 < t.size
  · have hi2 : (100 : Int) < (t.size : Int) := by omega
    have H5 := Lib.hid (live_end (Below.refl w.heap.size w))
    clear w1
    go_enter Try.func6, Try.ntmps6
    go_wp2_with fail
    refine H5.out.mono ?_
    rintro e W1 ⟨rfl, hb⟩
    go_wp2
    go_ret
    exact ⟨rfl, hb⟩
  have hi2 : ¬ (100 : Int) < (t.size : Int) := by omega
  have HR := Lib.hid w1.hrow
  clear w1
  have H1 := Lib.hid (fun w h => sum_any a cap l w h (by omega))
  have H2 := Lib.hid (fun w h => rSum_any a cap l w h (by omega))
  have H3 := Lib.hid (fun w => parse_any t w (by omega))
  have H4 := Lib.hid (fun w => rParse_any t w (by omega))
  have H5 := Lib.hid (fun w => bytes_any s w s0 s1)
  have H6 := Lib.hid (fun w => rBytes_any s w s0 s1)
  have H7 := Lib.hid (fun w => text_any s w s0 s1)
  have H8 := Lib.hid (fun w => rText_any s w s0 s1)
  have HL := Lib.hid (show (spL s).length = 8 from rfl)
  unfold ByP at H5 H6
  generalize smV l = x1 at *
  generalize smE l = x2 at *
  generalize paV t = x3 at *
  generalize paE t = x4 at *
  generalize bs (txL (spL s)) = T at *
  generalize spL s = L at *
  go_enter Try.func6, Try.ntmps6
  go_wp2_with fail
  refine (H1.out _ HR.out).mono ?_
  rintro e w_ ⟨rfl, rfl⟩
  go_wp2_with fail
  refine (H2.out _ HR.out).mono ?_
  rintro e w_ ⟨rfl, rfl⟩
  go_wp2_with fail
  refine (H3.out _).mono ?_
  rintro e w_ ⟨rfl, rfl⟩
  go_wp2_with fail
  refine (H4.out _).mono ?_
  rintro e w_ ⟨rfl, rfl⟩
  go_wp2_with fail
  go_region_with (first | (go_at_call 24; refine (H5.out _).mono ?_; rintro e W1 ⟨a1, rfl, hr1, hb1⟩; have cv1 := conv8 hr1 HL.out; have HR1 := Lib.hid hr1; have HB1 := Lib.hid hb1; clear hr1 hb1) | (go_at_call 25; refine (H6.out _).mono ?_; rintro e W2 ⟨a2, rfl, hr2, hb2⟩; have cv12 := conv8 (HR1.out.below hb2) HL.out; have cv2 := conv8 hr2 HL.out; have HB2 := Lib.hid (HB1.out.trans (hb2.mono HB1.out.size)); clear hr2 hb2) | (go_at_call 26; refine (H7.out _).mono ?_; rintro e W3 ⟨rfl, hb3⟩; have HB3 := Lib.hid (HB2.out.trans (hb3.mono HB2.out.size)); clear hb3) | (go_at_call 27; refine (H8.out _).mono ?_; rintro e W4 ⟨rfl, hb4⟩; have HB4 := Lib.hid (HB3.out.trans (hb4.mono HB3.out.size)); clear hb4))
  all_goals
    go_wp2_with fail
    refine (live_end ((Below.refl w.heap.size w).drew.trans HB4.out)).mono ?_
    rintro e W5 ⟨rfl, hb⟩
    go_wp2
    go_ret
    exact ⟨rfl, hb⟩
theorem all_n (ao : Option Addr) (c n : Nat) (R : List (List UInt8)) (w : World) (hR : Recs w ao R) (h : R.length = n) (hn : n ≤ 100) (hl : ∀ l ∈ R, l.length ≤ 10000) :
    Calls Try.prog 16 #[.slice ao n c] w fun e w' => AlP R w e w' := by
  subst h; exact all_any ao c R w hR hn hl
theorem check_n (ao az : Option Addr) (c cs n m : Nat) (R : List (List UInt8)) (S : List Int) (w : World) (hR : Recs w ao R) (hS : RowU w az S) (h1 : R.length = n) (h2 : S.length = m) (hn : n ≤ 100) (hm : m ≤ 1000) (hl : ∀ l ∈ R, l.length ≤ 10000) :
    Calls Try.prog 18 #[.slice ao n c, .slice az m cs] w fun e w' => e = .returned (.int .i64 (chV st0 R S 0)) ∧ Below w.heap.size w w' := by
  subst h1 h2; exact check_any ao az c cs R S w hR hS hn hm hl
theorem RowU.get {w : World} {ao : Option Addr} {l : List Int} (h : RowU w ao l) (i : Nat) (x : Int) (hx : l[i]? = some x) : ∃ b off, ao = some ⟨b, off, none⟩ ∧ b < w.heap.size ∧ w.cell? ⟨b, off + i, none⟩ = some (.int .u64 x) :=
  h i _ (by rw [List.getElem?_map, hx]; rfl)
theorem al_self {A : List (List UInt8)} {h : Int} {j : Nat} (k : j < A.length) : (alV h A)[j]? = some (nxV (suV h (A.take j)) A[j]) := by
  have hl : j < (alV h A).length := by rw [alV_len]; exact k
  rw [List.getElem?_eq_getElem hl, alV_get A h j hl k]
theorem al_left {A B : List (List UInt8)} {h : Int} {j : Nat} (k : j < A.length) : (alV h (A ++ B))[j]? = some (nxV (suV h (A.take j)) A[j]) := by
  rw [alV_app, List.getElem?_append_left (by rw [alV_len]; exact k), al_self k]
theorem al_right {A B : List (List UInt8)} {h : Int} {j : Nat} (k : j < B.length) : (alV h (A ++ B))[A.length + j]? = some (nxV (suV (suV h A) (B.take j)) B[j]) := by
  rw [alV_app, List.getElem?_append_right (by rw [alV_len]; omega), alV_len, Nat.add_sub_cancel_left, al_self k]
set_option maxHeartbeats 4000000 in
theorem chainContinues_walk (a : Option Addr) (len cap : Nat) (A : List (List UInt8)) (b : Option Addr) (len1 cap1 : Nat) (B : List (List UInt8)) (w : World) (w0 : IsR w a len cap A) (w1 : IsR w b len1 cap1 B) :
    Calls Try.prog 8 #[.slice a len cap, .slice b len1 cap1] w fun e w' => e = .returned (.bool true) ∧ Below w.heap.size w w' := by
  obtain rfl := w0.hlen
  obtain rfl := w1.hlen
  have H0 := Lib.hid (large_any a cap A w w0.hrow w0.hmax w0.heach)
  have H1 := Lib.hid (large_any b cap1 B w w1.hrow w1.hmax w1.heach)
  have HRA := Lib.hid w0.hrow
  have HRB := Lib.hid w1.hrow
  have HNA := Lib.hid w0.hnil
  have HNB := Lib.hid w1.hnil
  clear w0 w1
  go_enter Try.func8, Try.ntmps8
  go_wp2_with fail
  refine H0.out.mono ?_
  rintro e w_ ⟨⟨c0, rfl, hc0⟩, rfl⟩
  cases c0 with
  | true =>
    clear hc0
    go_wp2_with fail
    refine (live_end (Below.refl _ _)).mono ?_
    rintro e W1 ⟨rfl, hb⟩
    go_wp2
    go_ret
    exact ⟨rfl, hb⟩
  | false =>
  obtain ⟨hnA, hlA⟩ := hc0 rfl
  have HLA := Lib.hid hlA
  clear hlA hc0
  go_wp2_with fail
  refine H1.out.mono ?_
  rintro e w_ ⟨⟨c0, rfl, hc0⟩, rfl⟩
  cases c0 with
  | true =>
    clear hc0
    go_wp2_with fail
    refine (live_end (Below.refl _ _)).mono ?_
    rintro e W1 ⟨rfl, hb⟩
    go_wp2
    go_ret
    exact ⟨rfl, hb⟩
  | false =>
  obtain ⟨hnB, hlB⟩ := hc0 rfl
  have HLB := Lib.hid hlB
  clear hlB hc0
  obtain ⟨VA, hVA, hrA⟩ := HRA.out.vals
  obtain ⟨VB, hVB, hrB⟩ := HRB.out.vals
  have HVA := Lib.hid hVA
  have HVB := Lib.hid hVB
  have HvA := Lib.hid hrA
  have HvB := Lib.hid hrB
  clear hVA hVB hrA hrB
  have hla : VA.length < 1000 := by have := HVA.out.1; omega
  have hlb : VB.length < 1000 := by have := HVB.out.1; omega
  have HSL := Lib.hid (show (VA ++ VB).length = (A ++ B).length by rw [List.length_append, List.length_append, HVA.out.1, HVB.out.1])
  have HAL := Lib.hid (show (A ++ B).length = A.length + B.length from List.length_append)
  have HLL := Lib.hid (show ∀ l ∈ A ++ B, l.length ≤ 10000 from fun l h => by
    rcases List.mem_append.1 h with k | k
    · have := HLA.out l k; omega
    · have := HLB.out l k; omega)
  go_wp2_with (at_builtin; first
    | (refine wpList_recs rfl (.tmp 17) (.tmp 18) rfl w.heap.size _ [] VA rfl (OwnR.made w _ (Nat.le_refl _)) a cap (show _ = Value.slice a VA.length cap by rw [HVA.out.1]; rfl) HNA.out (HvA.out.below ((Below.refl _ _).alloc (Nat.le_refl _) _)) HVA.out.one (by simp; omega) (by simp) ?_; intro v' w1 hown hbel; rw [List.nil_append] at hown; have HO := Lib.hid hown; have HB := Lib.hid (((Below.refl w.heap.size w).alloc (Nat.le_refl _) _).trans hbel); clear hown hbel; obtain ⟨av, cv, rfl⟩ := HO.out.shape)
    | (refine wpList_recs rfl (.tmp 19) (.tmp 20) rfl w.heap.size _ VA VB rfl HO.out b cap1 (show _ = Value.slice b VB.length cap1 by rw [HVB.out.1]; rfl) HNB.out (HvB.out.below HB.out) HVB.out.one (by omega) HB.out.size ?_; intro v' w2 hown hbel; have HO2 := Lib.hid hown; have HB2 := Lib.hid (HB.out.trans hbel); clear hown hbel; obtain ⟨av2, cv2, hv2⟩ := HO2.out.shape; rw [HSL.out, HAL.out] at hv2; subst hv2))
  have HRW := Lib.hid (((HVA.out.below HB2.out).app (HVB.out.below HB2.out)).recs (OwnV.row HO2.out))
  refine (all_n av2 cv2 (A.length + B.length) (A ++ B) _ HRW.out HAL.out (by omega) HLL.out).mono ?_
  rintro e W3 ⟨v, rfl, ho, hb3⟩
  obtain ⟨av3, cv3, hv3⟩ := ho.shape
  rw [alV_len, HAL.out] at hv3
  subst hv3
  have HU := Lib.hid ho.row
  have HB3 := Lib.hid (HB2.out.trans (hb3.mono HB2.out.size))
  clear ho hb3
  go_wp2_with fail
  refine (all_any a cap A _ (HRA.out.below HB3.out) (by omega) (fun l h => Nat.le_trans (HLA.out l h) (by omega))).mono ?_
  rintro e W4 ⟨v, rfl, ho, hb4⟩
  obtain ⟨av4, cv4, hv4⟩ := ho.shape
  rw [alV_len] at hv4
  subst hv4
  have HU1 := Lib.hid (HU.out.below hb4)
  have HU2 := Lib.hid ho.row
  have HB4 := Lib.hid (HB3.out.trans (hb4.mono HB3.out.size))
  clear ho hb4
  have q1 : (((A.length + B.length : Nat) : Int) != (A.length : Int) + (B.length : Int)) = false := by simp
  go_wp2
  go_loopw [7, 8] (fun s i wr => ∃ j : Nat, j ≤ A.length ∧ i = .int .i64 (j : Int) ∧ s = .int .u64 (suV st0 (A.take j)) ∧ Hid (Below W4.heap.size W4 wr)) (fun _ i _ => A.length - (intOf i).toNat)
  case atStart => exact ⟨0, by omega, by go_num, by simp [suV, st0], Lib.hid (Below.refl _ _)⟩
  case round =>
    obtain ⟨j, hj, rfl, rfl, HBr⟩ := hrel
    by_cases k : j < A.length
    · have hi : (j : Int) < (A.length : Int) := by omega
      have hi2 : (j : Int) < (A.length : Int) + (B.length : Int) := by omega
      obtain ⟨bb, off, ao', c', ea, hb, hc, hr⟩ := ((HRA.out.below HB4.out).below HBr.out).at j k
      have HN := Lib.hid (fun (w : World) (h : RowB w ao' A[j]) => next_any (suV st0 (A.take j)) ao' c' A[j] w h (by have := HLA.out A[j] (List.getElem_mem k); omega))
      have HRR := Lib.hid hr
      have HS := Lib.hid (suV_take (h := st0) k)
      have HX1 := Lib.hid (fun (w : World) (h : RowU w av3 (alV st0 (A ++ B))) => h.get j _ (al_left (A := A) (B := B) k))
      have HX2 := Lib.hid (fun (w : World) (h : RowU w av4 (alV st0 A)) => h.get j _ (al_self (A := A) k))
      clear hr
      subst ea
      generalize A[j] = x at *
      generalize nxV (suV st0 (A.take j)) x = y at *
      generalize suV st0 (A.take j) = s at *
      go_wp2_with fail
      refine (HN.out _ HRR.out).mono ?_
      rintro e W5 ⟨rfl, hb5⟩
      have HB5 := Lib.hid (HBr.out.trans (hb5.mono HBr.out.size))
      clear hb5
      obtain ⟨b1, off1, e1, hb1, hc1⟩ := HX1.out _ (HU1.out.below HB5.out)
      obtain ⟨b2, off2, e2, hb2, hc2⟩ := HX2.out _ (HU2.out.below HB5.out)
      subst e1 e2
      go_wp2
      go_roundw
      case rel => exact ⟨j + 1, by omega, by go_num, by rw [HS.out], HB5⟩
      case measure => simp [intOf]; omega
    · have hi : ¬ (j : Int) < (A.length : Int) := by omega
      have e : A.take j = A := List.take_of_length_le (by omega)
      rw [e]
      clear e
      go_wp2
      go_loopw [7, 9] (fun s i wr => ∃ j : Nat, j ≤ B.length ∧ i = .int .i64 (j : Int) ∧ s = .int .u64 (suV (suV st0 A) (B.take j)) ∧ Hid (Below W4.heap.size W4 wr)) (fun _ i _ => B.length - (intOf i).toNat)
      case atStart => exact ⟨0, by omega, by go_num, by simp [suV], HBr⟩
      case round =>
        obtain ⟨j, hj, rfl, rfl, HBr⟩ := hrel
        by_cases k : j < B.length
        · have hi : (j : Int) < (B.length : Int) := by omega
          have hi2 : (A.length : Int) + (j : Int) < (A.length : Int) + (B.length : Int) := by omega
          obtain ⟨bb, off, ao', c', ea, hb, hc, hr⟩ := ((HRB.out.below HB4.out).below HBr.out).at j k
          have HN := Lib.hid (fun (w : World) (h : RowB w ao' B[j]) => next_any (suV (suV st0 A) (B.take j)) ao' c' B[j] w h (by have := HLB.out B[j] (List.getElem_mem k); omega))
          have HRR := Lib.hid hr
          have HS := Lib.hid (suV_take (h := suV st0 A) k)
          have HX1 := Lib.hid (fun (w : World) (h : RowU w av3 (alV st0 (A ++ B))) => h.get (A.length + j) _ (al_right (A := A) (B := B) k))
          clear hr
          subst ea
          generalize B[j] = x at *
          generalize nxV (suV (suV st0 A) (B.take j)) x = y at *
          generalize suV (suV st0 A) (B.take j) = s at *
          go_wp2_with fail
          refine (HN.out _ HRR.out).mono ?_
          rintro e W5 ⟨rfl, hb5⟩
          have HB5 := Lib.hid (HBr.out.trans (hb5.mono HBr.out.size))
          clear hb5
          obtain ⟨b1, off1, e1, hb1, hc1⟩ := HX1.out _ (HU1.out.below HB5.out)
          subst e1
          go_wp2
          go_roundw
          case rel => exact ⟨j + 1, by omega, by go_num, by rw [HS.out], HB5⟩
          case measure => simp [intOf]; omega
        · have hi : ¬ (j : Int) < (B.length : Int) := by omega
          go_wp2_with fail
          refine (live_end (HB4.out.trans (HBr.out.mono HB4.out.size))).mono ?_
          rintro e W5 ⟨rfl, hb⟩
          go_wp2
          go_ret
          exact ⟨rfl, hb⟩
end Go.Proofs.Ytacgjfgiikbjiaa
