/- What Next of packages chain and accountingref14 return. -/
import Derived.Test.YtacgjfgiikbjiaaChB
namespace Go.Proofs.Ytacgjfgiikbjiaa
open Go.RowKit Go.Sort
set_option linter.unusedVariables false
set_option linter.unusedSimpArgs false

/-- the bytes of a length. -/
def lenB (n : Nat) : List UInt8 := (spL (n : Int)).drop 4
/-- the checksum after one more record. -/
def nxV (h : Int) (l : List UInt8) : Int := mixL (mixL h l) (lenB l.length)
theorem lenB_row {w : World} {n : Nat} (hn : n < 1000000) : RowB (w.alloc (.cells (spA (n : Int) 8) 50)) (some ⟨w.heap.size, 4, none⟩) (lenB n) := by
  rw [spA_eq (by omega) (by omega)]
  refine RowV.block (by simp) fun i x hx => ?_
  rw [World.cell?_alloc_at _ _ _ _ rfl]
  unfold lenB at hx
  rw [List.map_drop, List.getElem?_drop] at hx
  simpa using hx
theorem RowB.drewN {w : World} {ao : Option Addr} {l : List UInt8} (h : RowB w ao l) (n : Nat) : RowB (w.drewN n) ao l := h
theorem mix_q (h : Int) (ao : Option Addr) (c : Nat) (l : List UInt8) (w : World) (hR : RowB w ao l) (hl : l.length ≤ 1000000) :
    Calls Try.prog 29 #[.int .u64 h, .slice ao l.length c] w fun e w' => e = .returned (.int .u64 (mixL h l)) ∧ w' = w := (mix_any h ao c l w hR hl).mono fun _ _ h => ⟨h.1, h.2.symm⟩
theorem mix_q' (h : Int) (ao : Option Addr) (n c : Nat) (l : List UInt8) (w : World) (hR : RowB w ao l) (hn : l.length = n) (hl : n ≤ 1000000) :
    Calls Try.prog 29 #[.int .u64 h, .slice ao n c] w fun e w' => e = .returned (.int .u64 (mixL h l)) ∧ w' = w := by
  subst hn; exact mix_q h ao c l w hR hl
set_option maxHeartbeats 1000000 in
theorem next_any (h : Int) (ao : Option Addr) (c : Nat) (l : List UInt8) (w : World) (hR : RowB w ao l) (hl : l.length < 1000000) :
    Calls Try.prog 12 #[.int .u64 h, .slice ao l.length c] w fun e w' => e = .returned (.int .u64 (nxV h l)) ∧ Below w.heap.size w w' := by
  have HR := Lib.hid hR
  have H1 := Lib.hid (fun w => split_any (l.length : Int) w (by omega) (by omega))
  have HL := Lib.hid (show (lenB l.length).length = 4 from rfl)
  have HV := Lib.hid (show nxV h l = mixL (mixL h l) (lenB l.length) from rfl)
  have HX := Lib.hid (fun W : World => lenB_row (w := W) hl)
  clear hR
  have hw : IntKind.u64.wrap (l.length : Int) = (l.length : Int) := by rw [IntKind.wrap_u64]; omega
  simp only [spA] at H1 HX
  generalize (l.length : Int) / 72057594037927936 = x0 at *
  generalize (l.length : Int) / 281474976710656 % 256 = x1 at *
  generalize (l.length : Int) / 1099511627776 % 256 = x2 at *
  generalize (l.length : Int) / 4294967296 % 256 = x3 at *
  generalize (l.length : Int) / 16777216 % 256 = x4 at *
  generalize (l.length : Int) / 65536 % 256 = x5 at *
  generalize (l.length : Int) / 256 % 256 = x6 at *
  generalize (l.length : Int) % 256 = x7 at *
  generalize lenB l.length = m at *
  go_enter Try.func12, Try.ntmps12
  go_wp2_with fail
  refine (H1.out _).mono ?_
  rintro e W1 ⟨rfl, hb1⟩
  have HB := Lib.hid hb1
  have HR1 := Lib.hid (HR.out.below hb1)
  have HX1 := Lib.hid (HX.out W1)
  clear hb1 HX
  go_wp2_with fail
  have HR2 := Lib.hid (HR1.out.below ((Below.refl W1.heap.size W1).alloc (Nat.le_refl _) (Obj.cells #[.int .u8 x0, .int .u8 x1, .int .u8 x2, .int .u8 x3, .int .u8 x4, .int .u8 x5, .int .u8 x6, .int .u8 x7] 50)))
  have HB2 := Lib.hid (HB.out.alloc HB.out.size (Obj.cells #[.int .u8 x0, .int .u8 x1, .int .u8 x2, .int .u8 x3, .int .u8 x4, .int .u8 x5, .int .u8 x6, .int .u8 x7] 50))
  generalize W1.alloc (Obj.cells #[.int .u8 x0, .int .u8 x1, .int .u8 x2, .int .u8 x3, .int .u8 x4, .int .u8 x5, .int .u8 x6, .int .u8 x7] 50) = W at *
  have c1 : ∀ dd os, Calls Try.prog 29 #[.int .u64 h, .slice ao l.length c] (grow (redrawn W dd) os) fun e w'' => e = .returned (.int .u64 (mixL h l)) ∧ ∃ p : Regrown, w'' = grow (redrawn W p.d) p.os := fun dd os => Calls.regrown_of ((mix_q h ao c l _ (HR2.out.below (below_regrown W dd os)) (by omega)).mono fun _ _ h => ⟨h.1, by rw [h.2]; exact Below.refl _ _⟩)
  have c2 : ∀ dd os, Calls Try.prog 29 #[.int .u64 (mixL h l), .slice (some ⟨W1.heap.size, 4, none⟩) 4 4] (grow (redrawn W dd) os) fun e w'' => e = .returned (.int .u64 (mixL (mixL h l) m)) ∧ ∃ p : Regrown, w'' = grow (redrawn W p.d) p.os := fun dd os => Calls.regrown_of ((mix_q' (mixL h l) _ 4 4 m _ (HX1.out.below (below_regrown W dd os)) HL.out (by omega)).mono fun _ _ h => ⟨h.1, by rw [h.2]; exact Below.refl _ _⟩)
  generalize mixL h l = y at *
  refine wp_region_quiet_below (l := _) (by kernel_rfl) (by kernel_rfl) ?_
  repeat (first | go_big_quiet_step (first | (go_at_call_of 29 h; exact c1 _ _) | (go_at_call_of 29 y; exact c2 _ _)))
  refine wpQuiet_nil ?_
  intro w2 hw'
  obtain ⟨⟨dq2, osq2⟩, hw''⟩ := hw'
  have hb2 := below_regrown W dq2 osq2
  rw [← hw''] at hb2
  clear hw''
  go_wp2
  go_ret
  exact ⟨by rw [HV.out]; rfl, HB2.out.trans (hb2.mono HB2.out.size)⟩
theorem growI_any (h x : Int) (w : World) (x0 : 0 ≤ x) (x1 : x < 256) :
    Calls Try.prog 30 #[.int .u64 h, .int .u8 x] w fun e w' => e = .returned (.int .u64 (grw h (byI x))) ∧ w = w' := by
  have := grow_any h (byI x) w
  rw [byI_val x0 x1] at this
  exact this
set_option maxHeartbeats 1000000 in
theorem rNext_any (h : Int) (ao : Option Addr) (c : Nat) (l : List UInt8) (w : World) (hR : RowB w ao l) (hl : l.length < 60000) :
    Calls Try.prog 13 #[.int .u64 h, .slice ao l.length c] w fun e w' => e = .returned (.int .u64 (nxV h l)) ∧ w = w' := by
  have HR := Lib.hid hR
  clear hR
  have H1 := Lib.hid (fun h b w => grow_any h b w)
  go_enter Try.func13, Try.ntmps13
  go_wp2
  go_loop [0, 5] (fun v i => ∃ j : Nat, j ≤ l.length ∧ i = .int .i64 (j : Int) ∧ v = .int .u64 (mixL h (l.take j))) (fun _ i => l.length - (intOf i).toNat)
  case atStart => exact ⟨0, by omega, by go_num, by simp [mixL]⟩
  case round =>
    obtain ⟨j, hj, rfl, rfl⟩ := hrel
    by_cases k : j < l.length
    · have hi : (j : Int) < (l.length : Int) := by omega
      obtain ⟨b, off, rfl, hb, hc⟩ := HR.out.at j k
      have HM := Lib.hid (mixL_take (h := h) k)
      generalize l[j] = x at *
      generalize mixL h (l.take j) = y at *
      go_wp2_with fail
      refine (H1.out _ _ _).mono ?_
      rintro e w_ ⟨rfl, rfl⟩
      go_wp2
      go_round
      case rel => exact ⟨j + 1, by omega, by go_num, by rw [HM.out]⟩
      case measure => simp [intOf]; omega
    · have hi : ¬ (j : Int) < (l.length : Int) := by omega
      have e : l.take j = l := List.take_of_length_le (by omega)
      rw [e]
      clear e
      have HV := Lib.hid (show nxV h l = grw (grw (grw (grw (mixL h l) (byI ((l.length : Int) / 16777216))) (byI ((l.length : Int) / 65536 % 256))) (byI ((l.length : Int) / 256 % 256))) (byI ((l.length : Int) % 256)) by
        show grw (grw (grw (grw (mixL h l) (byI ((l.length : Int) / 16777216 % 256))) (byI ((l.length : Int) / 65536 % 256))) (byI ((l.length : Int) / 256 % 256))) (byI ((l.length : Int) % 256)) = _
        rw [show (l.length : Int) / 16777216 % 256 = (l.length : Int) / 16777216 by omega])
      go_wp2_with fail
      refine (growI_any _ _ _ (by omega) (by omega)).mono ?_
      rintro e w_ ⟨rfl, rfl⟩
      go_wp2_with fail
      refine (growI_any _ _ _ (by omega) (by omega)).mono ?_
      rintro e w_ ⟨rfl, rfl⟩
      go_wp2_with fail
      refine (growI_any _ _ _ (by omega) (by omega)).mono ?_
      rintro e w_ ⟨rfl, rfl⟩
      go_wp2_with fail
      refine (growI_any _ _ _ (by omega) (by omega)).mono ?_
      rintro e w_ ⟨rfl, rfl⟩
      go_wp2
      go_ret
      exact ⟨by rw [HV.out]; rfl, rfl⟩
end Go.Proofs.Ytacgjfgiikbjiaa
