/- How tax codes are found. -/
import Derived.Test.YtelahgmnkhkgkaaTxB
namespace Go.Proofs.Ytelahgmnkhkgkaa
open Go.RowKit Go.Sort
set_option linter.unusedVariables false
set_option linter.unusedSimpArgs false

def SrtC (L : List Cd) : Prop := L.Pairwise (fun a b => ltS a.1 b.1 = true)
theorem codes_srt {L : List Cd} (h : codesB L = true) : SrtC L := by
  unfold codesB at h
  rw [Bool.and_eq_true, List.all_eq_true] at h
  have hs : ∀ i, i + 1 < L.length → ltS (L.getD i nC).1 (L.getD (i + 1) nC).1 = true := by
    intro i hi
    have := h.2 (i + 1) (List.mem_range.2 hi)
    unfold okC at this
    rw [Bool.and_eq_true] at this
    have q := this.2
    simpa using q
  have hk : ∀ d i, i + d + 1 < L.length → ltS (L.getD i nC).1 (L.getD (i + d + 1) nC).1 = true := by
    intro d
    induction d with
    | zero => intro i hi; exact hs i (by omega)
    | succ d ih => intro i hi; exact ltS_trans (ih i (by omega)) (hs (i + d + 1) (by omega))
  unfold SrtC
  rw [List.pairwise_iff_getElem]
  intro i j hi hj hij
  have := hk (j - i - 1) i (by omega)
  rw [show i + (j - i - 1) + 1 = j by omega, getC hi, getC hj] at this
  exact this
theorem codes_len {L : List Cd} (h : codesB L = true) : L.length ≤ 200 := by
  unfold codesB at h
  rw [Bool.and_eq_true] at h
  simpa using h.1
theorem codes_one {L : List Cd} (h : codesB L = true) {i : Nat} (hi : i < L.length) : codB L[i].1 = true ∧ rateB L[i].2.2.1 L[i].2.2.2 = true := by
  unfold codesB at h
  rw [Bool.and_eq_true, List.all_eq_true] at h
  have := h.2 i (List.mem_range.2 hi)
  unfold okC ok1 at this
  rw [getC hi] at this
  simp only [Bool.and_eq_true] at this
  exact ⟨this.1.1, this.1.2.2⟩
def lowC (L : List Cd) (n : ByteArray) : Nat := L.findIdx (fun x => !(ltS x.1 n))
def atC (L : List Cd) (n : ByteArray) : Bool := decide (lowC L n < L.length) && ((L.getD (lowC L n) nC).1.toList == n.toList)
theorem lowC_le (L : List Cd) (n : ByteArray) : lowC L n ≤ L.length := List.findIdx_le_length
theorem lowC_is {L : List Cd} {nm : ByteArray} {i : Nat} (hi : i ≤ L.length) (h1 : ∀ k, k < i → (hk : k < L.length) → ltS L[k].1 nm = true) (h2 : i < L.length → ltS (L.getD i nC).1 nm = false) : lowC L nm = i := by
  have hle : i ≤ lowC L nm := by
    apply Classical.byContradiction
    intro q
    have hlt : lowC L nm < L.length := by omega
    have := List.findIdx_getElem (p := fun x : Cd => !(ltS x.1 nm)) (xs := L) (w := hlt)
    have q2 := h1 (lowC L nm) (by omega) hlt
    have this : (!(ltS L[lowC L nm].1 nm)) = true := this
    rw [q2] at this; cases this
  rcases Nat.lt_or_ge i L.length with hlt | hge
  · rcases Nat.lt_or_ge i (lowC L nm) with q | q
    · have := List.not_of_lt_findIdx (p := fun x : Cd => !(ltS x.1 nm)) (xs := L) q
      have h3 := h2 hlt
      rw [getC hlt] at h3
      simp [h3] at this
    · omega
  · have := lowC_le L nm; omega
theorem SrtC.mono {L : List Cd} (h : SrtC L) {nm : ByteArray} {i j : Nat} (hij : i ≤ j) (hj : j < L.length) (q : ltS L[j].1 nm = true) : ltS (L[i]'(by omega)).1 nm = true := by
  rcases Nat.lt_or_ge i j with k | k
  · exact ltS_trans (List.pairwise_iff_getElem.1 h i j (by omega) hj k) q
  · have e : i = j := by omega
    subst e; exact q
/-- a name that is there is found at its place. -/
theorem at_of {L : List Cd} (h : SrtC L) {i : Nat} (hi : i < L.length) {nm : ByteArray} (e : L[i].1 = nm) : lowC L nm = i ∧ atC L nm = true := by
  have hl : lowC L nm = i := by
    refine lowC_is (by omega) (fun k hk hkl => ?_) (fun q => by rw [getC q, e]; exact ltS_irr)
    rw [← e]
    exact List.pairwise_iff_getElem.1 h k i hkl hi hk
  refine ⟨hl, ?_⟩
  unfold atC
  rw [hl, getC hi, e, decide_eq_true hi]
  simp
theorem at_is {L : List Cd} {nm : ByteArray} (h : atC L nm = true) : ∃ hi : lowC L nm < L.length, L[lowC L nm].1 = nm := by
  unfold atC at h
  rw [Bool.and_eq_true] at h
  have hi : lowC L nm < L.length := by simpa using h.1
  refine ⟨hi, ?_⟩
  have q := h.2
  rw [getC hi] at q
  exact ba_ext (by simpa using q)
set_option maxHeartbeats 1000000 in
theorem isNaN_any (a : ByteArray) (w : World) : Calls Try.prog 75 #[.string a] w fun e w' => e = .returned (.bool false) ∧ w = w' := by
  go_enter Try.func75, Try.ntmps75
  go_wp2
  go_ret
  exact ⟨rfl, rfl⟩
set_option maxHeartbeats 1000000 in
theorem cmpS_any (a b : ByteArray) (w : World) : Calls Try.prog 63 #[.string a, .string b] w fun e w' => e = .returned (.int .i64 (cmpS a b)) ∧ w = w' := by
  have H1 := Lib.hid (fun W => isNaN_any a W)
  have H2 := Lib.hid (fun W => isNaN_any b W)
  have HE := Lib.hid (show cmpS a b = if ltS a b = true then -1 else if ltS b a = true then 1 else 0 from rfl)
  unfold ltS at HE
  have hle := bytes_le a.toList b.toList
  cases q1 : Op.bytesLess a.toList b.toList
  · rw [q1] at HE
    cases q2 : Op.bytesLess b.toList a.toList
    · rw [q2] at HE hle
      rw [q1] at hle
      go_enter Try.func63, Try.ntmps63
      go_wp2_with fail
      refine (H1.out _).mono ?_
      rintro e w_ ⟨rfl, rfl⟩
      go_wp2_with fail
      refine (H2.out _).mono ?_
      rintro e w_ ⟨rfl, rfl⟩
      go_wp2
      go_ret
      exact ⟨ret_int (by rw [HE.out]; rfl), rfl⟩
    · rw [q2] at HE hle
      rw [q1] at hle
      go_enter Try.func63, Try.ntmps63
      go_wp2_with fail
      refine (H1.out _).mono ?_
      rintro e w_ ⟨rfl, rfl⟩
      go_wp2_with fail
      refine (H2.out _).mono ?_
      rintro e w_ ⟨rfl, rfl⟩
      go_wp2
      go_ret
      exact ⟨ret_int (by rw [HE.out]; rfl), rfl⟩
  · rw [q1] at HE
    go_enter Try.func63, Try.ntmps63
    go_wp2_with fail
    refine (H1.out _).mono ?_
    rintro e w_ ⟨rfl, rfl⟩
    go_wp2_with fail
    refine (H2.out _).mono ?_
    rintro e w_ ⟨rfl, rfl⟩
    go_wp2
    go_ret
    exact ⟨ret_int (by rw [HE.out]; rfl), rfl⟩
set_option maxHeartbeats 1000000 in
theorem nameOf_any (a b : ByteArray) (n d : Int) (w : World) : Calls Try.prog 35 #[.agg #[.string a, .string b, .int .i64 n, .int .i64 d]] w fun e w' => e = .returned (.string a) ∧ Below w.heap.size w w' := by
  have hp := Q4.alloc w (.string a) (.string b) (.int .i64 n) (.int .i64 d) 59
  have l0 := hp.c0
  have HB := Lib.hid ((Below.refl w.heap.size w).alloc (Nat.le_refl _) (Obj.cells #[.string a, .string b, .int .i64 n, .int .i64 d] 59))
  clear hp
  go_enter Try.func35, Try.ntmps35
  go_wp2
  go_ret
  exact ⟨rfl, HB.out⟩
/-- the variable that holds the key function. -/
def KeyF (w : World) (B : Nat) : Prop := w.cell? ⟨B, 0, none⟩ = some (.func (.func 35) #[] #[]) ∧ B < w.heap.size
theorem KeyF.below {w w' : World} {B : Nat} (h : KeyF w B) (hb : Below w.heap.size w w') : KeyF w' B := ⟨by rw [hb.cell h.2]; exact h.1, Nat.lt_of_lt_of_le h.2 hb.size⟩
set_option maxHeartbeats 2000000 in
theorem fcmp_any (a b : ByteArray) (n d : Int) (nm : ByteArray) (B : Nat) (w : World) (hK : KeyF w B) :
    Calls Try.prog 62 #[.agg #[.string a, .string b, .int .i64 n, .int .i64 d], .string nm, .pointer (some ⟨B, 0, none⟩)] w fun e w' => e = .returned (.int .i64 (cmpS a nm)) ∧ Below w.heap.size w w' := by
  have HB := Lib.hid ((Below.refl w.heap.size w).alloc (Nat.le_refl _) (Obj.cells #[.string a, .string b, .int .i64 n, .int .i64 d] 59))
  have hp := Q4.alloc w (.string a) (.string b) (.int .i64 n) (.int .i64 d) 59
  have hk := (hK.below ((Below.refl w.heap.size w).alloc (Nat.le_refl _) (Obj.cells #[.string a, .string b, .int .i64 n, .int .i64 d] 59))).1
  have l0 := hp.c0
  have l1 := hp.c1
  have l2 := hp.c2
  have l3 := hp.c3
  have H1 := Lib.hid (fun W => nameOf_any a b n d W)
  have H2 := Lib.hid (fun W => cmpS_any a nm W)
  clear hp hK
  generalize cmpS a nm = v at *
  go_enter Try.func62, Try.ntmps62
  go_wp2_with fail
  refine (H1.out _).mono ?_
  rintro e w2 ⟨rfl, hb⟩
  have HB2 := Lib.hid (HB.out.trans (hb.mono HB.out.size))
  clear hb l0 l1 l2 l3 hk
  go_wp2_with fail
  refine (H2.out _).mono ?_
  rintro e w_ ⟨rfl, rfl⟩
  go_wp2
  go_ret
  exact ⟨rfl, HB2.out⟩
set_option maxRecDepth 100000 in
set_option maxHeartbeats 3000000 in
theorem cbs_any (A : Option Addr) (c : Nat) (L : List Cd) (nm : ByteArray) (B : Nat) (w : World) (hR : RowC w A L) (hn : L.length ≤ 200) (hS : SrtC L) (hK : KeyF w B) :
    Calls Try.prog 61 #[.slice A L.length c, .string nm, .func (.func 62) #[] #[.pointer (some ⟨B, 0, none⟩)]] w fun e w' => e = .returned (.tuple #[.int .i64 (lowC L nm : Int), .bool (atC L nm)]) ∧ Below w.heap.size w w' := by
  have HR := Lib.hid hR
  have HKf := Lib.hid hK
  have HMo := Lib.hid (fun i j (hij : i ≤ j) (hj : j < L.length) (q : ltS L[j].1 nm = true) => hS.mono hij hj q)
  have HC := Lib.hid (fun a b n d W hk => fcmp_any a b n d nm B W hk)
  have HAt := Lib.hid (show atC L nm = (decide (lowC L nm < L.length) && ((L.getD (lowC L nm) nC).1.toList == nm.toList)) from rfl)
  clear hR hS hK
  go_enter Try.func61, Try.ntmps61
  go_wp2
  go_loopw [9, 10] (fun x y wr => ∃ i j : Nat, i ≤ j ∧ j ≤ L.length ∧ x = .int .i64 i ∧ y = .int .i64 j ∧ Hid (∀ k, k < i → (hk : k < L.length) → ltS L[k].1 nm = true) ∧ Hid (∀ k, j ≤ k → (hk : k < L.length) → ltS L[k].1 nm = false) ∧ Hid (Below w.heap.size w wr)) (fun x y _ => (intOf y).toNat - (intOf x).toNat)
  case atStart => exact ⟨0, L.length, by omega, by omega, rfl, rfl, Lib.hid (fun k hk => by omega), Lib.hid (fun k hk hl => by omega), Lib.hid (Below.refl _ _)⟩
  case round =>
    obtain ⟨i, j, hij, hj, rfl, rfl, HI, HJ, HB⟩ := hrel
    by_cases h : i < j
    · have h' : (i : Int) < (j : Int) := by omega
      obtain ⟨z, hz, z1, z2⟩ : ∃ z : Nat, ((i : Int) + (j : Int)) / 2 = (z : Int) ∧ i ≤ z ∧ z < j := ⟨(i + j) / 2, by omega, by omega, by omega⟩
      have hzL : z < L.length := by omega
      obtain ⟨b, off, rfl, hl, hc⟩ := (HR.out.below HB.out) (by omega)
      obtain ⟨c0, c1, c2, c3⟩ := hc z hzL
      have HKr := Lib.hid (HKf.out.below HB.out)
      have HY := Lib.hid (fun (q : ltS L[z].1 nm = true) => fun k (hk : k < z + 1) (hkl : k < L.length) => HMo.out k z (by omega) hzL q)
      have HN := Lib.hid (fun (q : ltS L[z].1 nm = false) => fun k (hk : z ≤ k) (hkl : k < L.length) => show ltS L[k].1 nm = false from by
        cases p : ltS L[k].1 nm
        · rfl
        · rw [HMo.out z k hk hkl p] at q; cases q)
      obtain ⟨S, hS⟩ : ∃ S, L[z].1 = S := ⟨_, rfl⟩
      obtain ⟨T, hT⟩ : ∃ T, L[z].2.1 = T := ⟨_, rfl⟩
      obtain ⟨fn, hfn⟩ : ∃ fn, L[z].2.2.1 = fn := ⟨_, rfl⟩
      obtain ⟨fd, hfd⟩ : ∃ fd, L[z].2.2.2 = fd := ⟨_, rfl⟩
      rw [hS] at c0 HY HN
      rw [hT] at c1
      rw [hfn] at c2
      rw [hfd] at c3
      clear hS hT hfn hfd hc HMo
      go_wp2_with fail
      refine (HC.out _ _ _ _ _ HKr.out).mono ?_
      rintro e w2 ⟨rfl, hb⟩
      have HB2 := Lib.hid (HB.out.trans (hb.mono HB.out.size))
      clear hb c0 c1 c2 c3
      have hsg := cmpS_neg S nm
      cases q : ltS S nm
      · have q' : ¬ cmpS S nm < 0 := by rw [hsg, q]; decide
        have HN2 := Lib.hid (HN.out q)
        clear HY HN q hsg
        generalize cmpS S nm = cm at *
        go_wp2
        go_roundw
        case rel => exact ⟨i, z, z1, by omega, rfl, rfl, HI, HN2, HB2⟩
        case measure => simp [intOf]; omega
      · have q' : cmpS S nm < 0 := by rw [hsg, q]
        have HY2 := Lib.hid (HY.out q)
        clear HY HN q hsg
        generalize cmpS S nm = cm at *
        go_wp2
        go_roundw
        case rel => exact ⟨z + 1, j, by omega, hj, by go_num, rfl, HY2, HJ, HB2⟩
        case measure => simp [intOf]; omega
    · have h' : ¬ (i : Int) < (j : Int) := by omega
      have e : i = j := by omega
      have HLo := Lib.hid (lowC_is (by omega) HI.out (fun q => by rw [getC q]; exact HJ.out i (by omega) q))
      clear HMo HI HJ
      by_cases hi : i < L.length
      · have hi' : (i : Int) < (L.length : Int) := by omega
        obtain ⟨b, off, rfl, hl, hc⟩ := (HR.out.below HB.out) (by omega)
        obtain ⟨c0, c1, c2, c3⟩ := hc i hi
        have HKr := Lib.hid (HKf.out.below HB.out)
        have HG := Lib.hid (getC hi)
        obtain ⟨S, hS⟩ : ∃ S, L[i].1 = S := ⟨_, rfl⟩
        obtain ⟨T, hT⟩ : ∃ T, L[i].2.1 = T := ⟨_, rfl⟩
        obtain ⟨fn, hfn⟩ : ∃ fn, L[i].2.2.1 = fn := ⟨_, rfl⟩
        obtain ⟨fd, hfd⟩ : ∃ fd, L[i].2.2.2 = fd := ⟨_, rfl⟩
        rw [hS] at c0
        rw [hT] at c1
        rw [hfn] at c2
        rw [hfd] at c3
        have HAt2 := Lib.hid (show atC L nm = (S.toList == nm.toList) by rw [HAt.out, HLo.out, HG.out, hS, decide_eq_true hi, Bool.true_and])
        clear hS hT hfn hfd hc HG HAt
        subst e
        go_wp2_with fail
        refine (HC.out _ _ _ _ _ HKr.out).mono ?_
        rintro e w2 ⟨rfl, hb⟩
        have HB2 := Lib.hid (HB.out.trans (hb.mono HB.out.size))
        have HZ := Lib.hid (show (cmpS S nm == 0) = (S.toList == nm.toList) by
          rw [Bool.eq_iff_iff]; simp [cmpS_zero])
        clear hb c0 c1 c2 c3
        generalize cmpS S nm = cm at *
        go_wp2
        go_ret2
        exact ⟨by rw [HLo.out, HAt2.out, ← HZ.out]; rfl, HB2.out⟩
      · have hi' : ¬ (i : Int) < (L.length : Int) := by omega
        have HAt2 := Lib.hid (show atC L nm = false by rw [HAt.out, HLo.out, decide_eq_false hi, Bool.false_and])
        subst e
        go_wp2
        go_ret2
        exact ⟨by rw [HLo.out, HAt2.out]; rfl, HB.out⟩
set_option maxHeartbeats 2000000 in
theorem find_any (A : Option Addr) (c : Nat) (L : List Cd) (nm : ByteArray) (w : World) (hR : RowC w A L) (hn : L.length ≤ 200) (hS : SrtC L) :
    Calls Try.prog 34 #[.slice A L.length c, .string nm, .func (.func 35) #[] #[]] w fun e w' => e = .returned (.tuple #[.int .i64 (lowC L nm : Int), .bool (atC L nm)]) ∧ Below w.heap.size w w' := by
  have hb0 : Below w.heap.size w (w.alloc (Obj.cells #[.func (.func 35) #[] #[]] 69)) := (Below.refl _ _).alloc (Nat.le_refl _) _
  have HB := Lib.hid hb0
  have H1 := Lib.hid (cbs_any A c L nm w.heap.size _ (hR.below hb0) hn hS ⟨by rw [World.cell?_alloc_at _ _ _ _ rfl]; rfl, by simp⟩)
  clear hb0 hR hS
  generalize (lowC L nm : Int) = v at *
  generalize atC L nm = u at *
  go_enter Try.func34, Try.ntmps34
  go_wp2_with fail
  refine H1.out.mono ?_
  rintro e w2 ⟨rfl, hb⟩
  have HB2 := Lib.hid (HB.out.trans (hb.mono HB.out.size))
  clear hb
  go_wp2
  go_ret2
  exact ⟨rfl, HB2.out⟩
end Go.Proofs.Ytelahgmnkhkgkaa
