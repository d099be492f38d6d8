/- What readSize of package money returns. -/
import Derived.Test.YtbiicdpmilplmaaDoorMoD
namespace Go.Proofs.YtbiicdpmilplmaaDoor
open Go.RowKit Go.Sort
set_option linter.unusedVariables false

/-- n, or the least amount beyond the limit. -/
def capM (n : Nat) : Int := if (n : Int) ≤ 1000000000000000 then (n : Int) else 1000000000000001
theorem capM_b (n : Nat) : 0 ≤ capM n ∧ capM n ≤ 1000000000000001 := by unfold capM; split <;> omega
theorem capM_step (n d : Nat) (h : d ≤ 9) : nearTo (capM n * 10 + (d : Int)) 0 1000000000000001 = capM (n * 10 + d) := by
  unfold nearTo capM
  grind
/-- the digits among the first k bytes, where the byte number W is the point. -/
def dl (s : ByteArray) (W k : Nat) : List UInt8 := if k ≤ W then s.toList.take k else s.toList.take W ++ (s.toList.drop (W + 1)).take (k - (W + 1))
theorem dl_near {s : ByteArray} {W k : Nat} (h : k < W) (hk : k < s.size) : dl s W (k + 1) = dl s W k ++ [s[k]] := by
  unfold dl; rw [if_pos (by omega), if_pos (by omega), take_snoc s k hk]
theorem dl_at {s : ByteArray} {W : Nat} : dl s W (W + 1) = dl s W W := by
  unfold dl; rw [if_neg (by omega), if_pos (by omega)]; simp
theorem dl_far {s : ByteArray} {W k : Nat} (h : W < k) (hk : k < s.size) : dl s W (k + 1) = dl s W k ++ [s[k]] := by
  unfold dl
  rw [if_neg (by omega), if_neg (by omega), List.append_assoc]
  congr 1
  have hl : k - (W + 1) < (s.toList.drop (W + 1)).length := by rw [List.length_drop, bytes_len]; omega
  rw [show k + 1 - (W + 1) = k - (W + 1) + 1 by omega, List.take_succ_eq_append_getElem hl]
  congr 2
  rw [List.getElem_drop, ← bytes_get s k hk (by rw [bytes_len]; exact hk)]
  congr 1
  omega
/-- the number of bytes ahead of the point. -/
def whI (s : ByteArray) (d : Int) : Int := if 0 < d then (s.size : Int) - (d + 1) else (s.size : Int)
def okAt (s : ByteArray) (W : Int) (k : Nat) : Prop := ∀ j, (h : j < s.size) → j < k → ((j : Int) = W ∧ s[j] = 46) ∨ ((j : Int) ≠ W ∧ dig s[j] = true)
/-- s is the notation of an amount without a sign. -/
def rsF (s : ByteArray) (d : Int) : Prop := 1 ≤ whI s d ∧ ¬ (1 < whI s d ∧ s.toList.head? = some 48) ∧ okAt s (whI s d) s.size
def rsV (s : ByteArray) (d : Int) : Int := capM (dec (dl s (whI s d).toNat s.size))
theorem okAt_bad {s : ByteArray} {d : Int} {k : Nat} (hk : k < s.size) (h : ¬ (((k : Int) = whI s d ∧ s[k] = 46) ∨ ((k : Int) ≠ whI s d ∧ dig s[k] = true))) : ¬ rsF s d :=
  fun x => h (x.2.2 k hk hk)
def RsPost (s : ByteArray) (d : Int) (e : Ending) : Prop := (rsF s d ∧ e = .returned (.tuple #[.int .i64 (rsV s d), .bool true])) ∨ (¬ rsF s d ∧ e = .returned (.tuple #[.int .i64 0, .bool false]))

set_option maxHeartbeats 2000000 in
theorem readSize_d (s : ByteArray) (d : Int) (w : World) (hs : s.size ≤ maxLen) (d1 : 0 < d) (d2 : d ≤ 4) :
    Calls Tryd.prog 34 #[.string s, .int .i64 d] w fun e w' => RsPost s d e ∧ Below w.heap.size w w' := by
  unfold maxLen at hs
  have hW : whI s d = ((s.size : Int) - (d + 1)) := if_pos (by omega)
  have bad : ¬ rsF s d → RsPost s d (.returned (.tuple #[.int .i64 0, .bool false])) := fun h => .inr ⟨h, rfl⟩
  have BAD := Lib.hid bad
  clear bad
  by_cases h1 : ((s.size : Int) - (d + 1)) < 1
  · have HN := Lib.hid (show ¬ rsF s d from fun x => by have := x.1; omega)
    go_enter Tryd.func34, Tryd.ntmps34
    go_wp2
    go_ret2
    exact ⟨BAD.out HN.out, Below.refl _ _⟩
  have hz : 0 < s.size := by omega
  by_cases h2 : 1 < ((s.size : Int) - (d + 1)) ∧ s[0] = 48
  · have HN := Lib.hid (show ¬ rsF s d from fun x => x.2.1 ⟨by rw [hW]; exact h2.1, by rw [bytes_head hz, h2.2]⟩)
    obtain ⟨h21, h22⟩ := h2
    have b0 : (s[0].toNat : Int) = 48 := by rw [h22]; rfl
    go_enter Tryd.func34, Tryd.ntmps34
    go_wp2
    go_ret2
    exact ⟨BAD.out HN.out, Below.refl _ _⟩
  have HH := Lib.hid (show ¬ (1 < whI s d ∧ s.toList.head? = some 48) from fun x => h2 ⟨by rw [← hW]; exact x.1, by have := x.2; rw [bytes_head hz] at this; exact Option.some.inj this⟩)
  have HW := Lib.hid hW
  have b0 : ¬ 1 < ((s.size : Int) - (d + 1)) ∨ (1 < ((s.size : Int) - (d + 1)) ∧ ((s[0].toNat : Int) == 48) = false) := by
    by_cases h : 1 < ((s.size : Int) - (d + 1))
    · right; refine ⟨h, ?_⟩; simp; exact fun x => h2 ⟨h, byte48.1 (by exact_mod_cast x)⟩
    · exact .inl h
  clear h2 hW
  have HB0 := Lib.hid b0
  clear b0
  go_enter Tryd.func34, Tryd.ntmps34
  rcases HB0.out with b0 | ⟨b00, b0⟩
  · clear HB0
    go_wp2
    clear b0
    go_loopw [4] (fun m wr => ∃ pos : Nat, pos ≤ s.size ∧ m = .int .i64 (capM (dec (dl s (whI s d).toNat pos))) ∧ wr = w.iter s pos ∧ Hid (okAt s (whI s d) pos)) (fun _ wr => s.size - wr.iterPos w.heap.size)
    case atStart => exact ⟨0, by omega, by rw [show dl s (whI s d).toNat 0 = [] by unfold dl; rw [if_pos (by omega)]; rfl]; rfl, rfl, Lib.hid (fun j _ h => by omega)⟩
    case round =>
      obtain ⟨pos, hp0, rfl, rfl, HA⟩ := hrel
      obtain ⟨bm1, bm2⟩ := capM_b (dec (dl s (whI s d).toNat pos))
      by_cases hp : pos < s.size
      · by_cases hc : s[pos].toNat < 128
        · have hnx : ∀ ty, (Instr.next (.pointer (some ⟨w.heap.size, 0, none⟩)) true ty).run Tryd.prog (w.iter s pos) = _ := fun ty => run_next_ascii w s pos ty hp hc
          by_cases hw : (pos : Int) = ((s.size : Int) - (d + 1))
          · have q1 : ((pos : Int) == ((s.size : Int) - (d + 1))) = true := by simpa using hw
            by_cases hdot : s[pos] = 46
            · have q2 : ((s[pos].toNat : Int) == 46) = true := by rw [hdot]; rfl
              have HD := Lib.hid (show dl s (whI s d).toNat (pos + 1) = dl s (whI s d).toNat pos by
                have : (whI s d).toNat = pos := by rw [HW.out]; omega
                rw [this]; exact dl_at)
              have HA2 := Lib.hid (show okAt s (whI s d) (pos + 1) from fun j h h2 => by
                rcases Nat.lt_or_ge j pos with c | c
                · exact HA.out j h c
                · obtain rfl : j = pos := by omega
                  exact .inl ⟨by rw [HW.out]; exact hw, hdot⟩)
              have HM := Lib.hid (show capM (dec (dl s (whI s d).toNat (pos + 1))) = capM (dec (dl s (whI s d).toNat pos)) by rw [HD.out])
              clear hw hdot HD
              generalize capM (dec (dl s (whI s d).toNat pos)) = M at *
              go_wp2
              go_roundw
              case rel => exact ⟨pos + 1, by omega, by rw [HM.out], rfl, HA2⟩
              case measure => simp; omega
            · have q2 : ((s[pos].toNat : Int) == 46) = false := by
                simp; exact fun x => hdot ((byte_eq (n := 46) (by decide)).1 (by exact_mod_cast x))
              have HN := Lib.hid (okAt_bad (d := d) hp (by rw [HW.out]; rintro (x | x); exact hdot x.2; exact x.1 hw))
              clear hw hdot
              generalize capM (dec (dl s (whI s d).toNat pos)) = M at *
              go_wp2
              go_ret2
              exact ⟨BAD.out HN.out, iter_below _ _ _⟩
          · have q1 : ((pos : Int) == ((s.size : Int) - (d + 1))) = false := by simpa using hw
            by_cases lo : (s[pos].toNat : Int) < 48
            · have HN := Lib.hid (okAt_bad (d := d) hp (by rw [HW.out, dig_no (.inl lo)]; rintro (x | x); exact hw x.1; exact absurd x.2 (by decide)))
              clear hw
              generalize capM (dec (dl s (whI s d).toNat pos)) = M at *
              go_wp2
              go_ret2
              exact ⟨BAD.out HN.out, iter_below _ _ _⟩
            · by_cases hi : 57 < (s[pos].toNat : Int)
              · have HN := Lib.hid (okAt_bad (d := d) hp (by rw [HW.out, dig_no (.inr hi)]; rintro (x | x); exact hw x.1; exact absurd x.2 (by decide)))
                clear hw
                generalize capM (dec (dl s (whI s d).toNat pos)) = M at *
                go_wp2
                go_ret2
                exact ⟨BAD.out HN.out, iter_below _ _ _⟩
              · have HN := Lib.hid (fun w => near_any (capM (dec (dl s (whI s d).toNat pos)) * 10 + ((s[pos].toNat : Int) - 48)) 0 1000000000000001 w)
                have HD := Lib.hid (show nearTo (capM (dec (dl s (whI s d).toNat pos)) * 10 + ((s[pos].toNat : Int) - 48)) 0 1000000000000001 = capM (dec (dl s (whI s d).toNat (pos + 1))) by
                  have e : dl s (whI s d).toNat (pos + 1) = dl s (whI s d).toNat pos ++ [s[pos]] := by
                    rcases Nat.lt_or_ge pos (whI s d).toNat with c | c
                    · exact dl_near c hp
                    · exact dl_far (by have := HW.out; omega) hp
                  rw [e, dec_snoc, ← capM_step _ _ (by omega)]
                  congr 1
                  omega)
                have HA2 := Lib.hid (show okAt s (whI s d) (pos + 1) from fun j h h2 => by
                  rcases Nat.lt_or_ge j pos with c | c
                  · exact HA.out j h c
                  · obtain rfl : j = pos := by omega
                    exact .inr ⟨by rw [HW.out]; exact hw, dig_yes (by omega) (by omega)⟩)
                clear hw
                rw [HD.out] at HN
                clear HD
                obtain ⟨M', hM'⟩ : ∃ M', capM (dec (dl s (whI s d).toNat (pos + 1))) = M' := ⟨_, rfl⟩
                rw [hM'] at HN
                have HM := Lib.hid hM'
                clear hM'
                generalize capM (dec (dl s (whI s d).toNat pos)) = M at *
                go_wp2_with fail
                refine (HN.out _).mono ?_
                rintro e w_ ⟨rfl, rfl⟩
                go_wp2
                go_roundw
                case rel => exact ⟨pos + 1, by omega, by rw [HM.out], rfl, HA2⟩
                case measure => simp; omega
        · have hd := decode_high s pos hp (by omega)
          have hnx : ∀ ty, (Instr.next (.pointer (some ⟨w.heap.size, 0, none⟩)) true ty).run Tryd.prog (w.iter s pos) = _ := fun ty => run_next_any w s pos ty hp
          have HN := Lib.hid (okAt_bad (d := d) hp (by
            have k : dig s[pos] = false := dig_no (.inr (by omega))
            rw [k]; rintro (x | x); exact absurd x.2 (by intro y; rw [y] at hc; exact hc (by decide)); exact absurd x.2 (by decide)))
          have h1 : 128 ≤ ((Utf8.decode s pos).1 : Int) := by have := hd.1; omega
          clear hd
          generalize ((Utf8.decode s pos).1 : Int) = r at *
          generalize capM (dec (dl s (whI s d).toNat pos)) = M at *
          have q3 : (r == 46) = false := by simp; omega
          by_cases hw : (pos : Int) = ((s.size : Int) - (d + 1))
          · have q1 : ((pos : Int) == ((s.size : Int) - (d + 1))) = true := by simpa using hw
            clear hw
            go_wp2
            go_ret2
            exact ⟨BAD.out HN.out, iter_below _ _ _⟩
          · have q1 : ((pos : Int) == ((s.size : Int) - (d + 1))) = false := by simpa using hw
            clear hw
            go_wp2
            go_ret2
            exact ⟨BAD.out HN.out, iter_below _ _ _⟩
      · have hnx : ∀ ty, (Instr.next (.pointer (some ⟨w.heap.size, 0, none⟩)) true ty).run Tryd.prog (w.iter s pos) = _ := fun ty => run_next_end w s pos ty hp
        obtain rfl : pos = s.size := by omega
        have HF := Lib.hid (show rsF s d from ⟨by rw [HW.out]; omega, HH.out, HA.out⟩)
        have HV := Lib.hid (show capM (dec (dl s (whI s d).toNat s.size)) = rsV s d from rfl)
        generalize capM (dec (dl s (whI s d).toNat s.size)) = M at *
        go_wp2
        go_ret2
        exact ⟨.inl ⟨HF.out, by rw [← HV.out]; rfl⟩, iter_below _ _ _⟩
  · clear HB0
    go_wp2
    clear b0
    go_loopw [4] (fun m wr => ∃ pos : Nat, pos ≤ s.size ∧ m = .int .i64 (capM (dec (dl s (whI s d).toNat pos))) ∧ wr = w.iter s pos ∧ Hid (okAt s (whI s d) pos)) (fun _ wr => s.size - wr.iterPos w.heap.size)
    case atStart => exact ⟨0, by omega, by rw [show dl s (whI s d).toNat 0 = [] by unfold dl; rw [if_pos (by omega)]; rfl]; rfl, rfl, Lib.hid (fun j _ h => by omega)⟩
    case round =>
      obtain ⟨pos, hp0, rfl, rfl, HA⟩ := hrel
      obtain ⟨bm1, bm2⟩ := capM_b (dec (dl s (whI s d).toNat pos))
      by_cases hp : pos < s.size
      · by_cases hc : s[pos].toNat < 128
        · have hnx : ∀ ty, (Instr.next (.pointer (some ⟨w.heap.size, 0, none⟩)) true ty).run Tryd.prog (w.iter s pos) = _ := fun ty => run_next_ascii w s pos ty hp hc
          by_cases hw : (pos : Int) = ((s.size : Int) - (d + 1))
          · have q1 : ((pos : Int) == ((s.size : Int) - (d + 1))) = true := by simpa using hw
            by_cases hdot : s[pos] = 46
            · have q2 : ((s[pos].toNat : Int) == 46) = true := by rw [hdot]; rfl
              have HD := Lib.hid (show dl s (whI s d).toNat (pos + 1) = dl s (whI s d).toNat pos by
                have : (whI s d).toNat = pos := by rw [HW.out]; omega
                rw [this]; exact dl_at)
              have HA2 := Lib.hid (show okAt s (whI s d) (pos + 1) from fun j h h2 => by
                rcases Nat.lt_or_ge j pos with c | c
                · exact HA.out j h c
                · obtain rfl : j = pos := by omega
                  exact .inl ⟨by rw [HW.out]; exact hw, hdot⟩)
              have HM := Lib.hid (show capM (dec (dl s (whI s d).toNat (pos + 1))) = capM (dec (dl s (whI s d).toNat pos)) by rw [HD.out])
              clear hw hdot HD
              generalize capM (dec (dl s (whI s d).toNat pos)) = M at *
              go_wp2
              go_roundw
              case rel => exact ⟨pos + 1, by omega, by rw [HM.out], rfl, HA2⟩
              case measure => simp; omega
            · have q2 : ((s[pos].toNat : Int) == 46) = false := by
                simp; exact fun x => hdot ((byte_eq (n := 46) (by decide)).1 (by exact_mod_cast x))
              have HN := Lib.hid (okAt_bad (d := d) hp (by rw [HW.out]; rintro (x | x); exact hdot x.2; exact x.1 hw))
              clear hw hdot
              generalize capM (dec (dl s (whI s d).toNat pos)) = M at *
              go_wp2
              go_ret2
              exact ⟨BAD.out HN.out, iter_below _ _ _⟩
          · have q1 : ((pos : Int) == ((s.size : Int) - (d + 1))) = false := by simpa using hw
            by_cases lo : (s[pos].toNat : Int) < 48
            · have HN := Lib.hid (okAt_bad (d := d) hp (by rw [HW.out, dig_no (.inl lo)]; rintro (x | x); exact hw x.1; exact absurd x.2 (by decide)))
              clear hw
              generalize capM (dec (dl s (whI s d).toNat pos)) = M at *
              go_wp2
              go_ret2
              exact ⟨BAD.out HN.out, iter_below _ _ _⟩
            · by_cases hi : 57 < (s[pos].toNat : Int)
              · have HN := Lib.hid (okAt_bad (d := d) hp (by rw [HW.out, dig_no (.inr hi)]; rintro (x | x); exact hw x.1; exact absurd x.2 (by decide)))
                clear hw
                generalize capM (dec (dl s (whI s d).toNat pos)) = M at *
                go_wp2
                go_ret2
                exact ⟨BAD.out HN.out, iter_below _ _ _⟩
              · have HN := Lib.hid (fun w => near_any (capM (dec (dl s (whI s d).toNat pos)) * 10 + ((s[pos].toNat : Int) - 48)) 0 1000000000000001 w)
                have HD := Lib.hid (show nearTo (capM (dec (dl s (whI s d).toNat pos)) * 10 + ((s[pos].toNat : Int) - 48)) 0 1000000000000001 = capM (dec (dl s (whI s d).toNat (pos + 1))) by
                  have e : dl s (whI s d).toNat (pos + 1) = dl s (whI s d).toNat pos ++ [s[pos]] := by
                    rcases Nat.lt_or_ge pos (whI s d).toNat with c | c
                    · exact dl_near c hp
                    · exact dl_far (by have := HW.out; omega) hp
                  rw [e, dec_snoc, ← capM_step _ _ (by omega)]
                  congr 1
                  omega)
                have HA2 := Lib.hid (show okAt s (whI s d) (pos + 1) from fun j h h2 => by
                  rcases Nat.lt_or_ge j pos with c | c
                  · exact HA.out j h c
                  · obtain rfl : j = pos := by omega
                    exact .inr ⟨by rw [HW.out]; exact hw, dig_yes (by omega) (by omega)⟩)
                clear hw
                rw [HD.out] at HN
                clear HD
                obtain ⟨M', hM'⟩ : ∃ M', capM (dec (dl s (whI s d).toNat (pos + 1))) = M' := ⟨_, rfl⟩
                rw [hM'] at HN
                have HM := Lib.hid hM'
                clear hM'
                generalize capM (dec (dl s (whI s d).toNat pos)) = M at *
                go_wp2_with fail
                refine (HN.out _).mono ?_
                rintro e w_ ⟨rfl, rfl⟩
                go_wp2
                go_roundw
                case rel => exact ⟨pos + 1, by omega, by rw [HM.out], rfl, HA2⟩
                case measure => simp; omega
        · have hd := decode_high s pos hp (by omega)
          have hnx : ∀ ty, (Instr.next (.pointer (some ⟨w.heap.size, 0, none⟩)) true ty).run Tryd.prog (w.iter s pos) = _ := fun ty => run_next_any w s pos ty hp
          have HN := Lib.hid (okAt_bad (d := d) hp (by
            have k : dig s[pos] = false := dig_no (.inr (by omega))
            rw [k]; rintro (x | x); exact absurd x.2 (by intro y; rw [y] at hc; exact hc (by decide)); exact absurd x.2 (by decide)))
          have h1 : 128 ≤ ((Utf8.decode s pos).1 : Int) := by have := hd.1; omega
          clear hd
          generalize ((Utf8.decode s pos).1 : Int) = r at *
          generalize capM (dec (dl s (whI s d).toNat pos)) = M at *
          have q3 : (r == 46) = false := by simp; omega
          by_cases hw : (pos : Int) = ((s.size : Int) - (d + 1))
          · have q1 : ((pos : Int) == ((s.size : Int) - (d + 1))) = true := by simpa using hw
            clear hw
            go_wp2
            go_ret2
            exact ⟨BAD.out HN.out, iter_below _ _ _⟩
          · have q1 : ((pos : Int) == ((s.size : Int) - (d + 1))) = false := by simpa using hw
            clear hw
            go_wp2
            go_ret2
            exact ⟨BAD.out HN.out, iter_below _ _ _⟩
      · have hnx : ∀ ty, (Instr.next (.pointer (some ⟨w.heap.size, 0, none⟩)) true ty).run Tryd.prog (w.iter s pos) = _ := fun ty => run_next_end w s pos ty hp
        obtain rfl : pos = s.size := by omega
        have HF := Lib.hid (show rsF s d from ⟨by rw [HW.out]; omega, HH.out, HA.out⟩)
        have HV := Lib.hid (show capM (dec (dl s (whI s d).toNat s.size)) = rsV s d from rfl)
        generalize capM (dec (dl s (whI s d).toNat s.size)) = M at *
        go_wp2
        go_ret2
        exact ⟨.inl ⟨HF.out, by rw [← HV.out]; rfl⟩, iter_below _ _ _⟩

set_option maxHeartbeats 2000000 in
theorem readSize_0 (s : ByteArray) (w : World) (hs : s.size ≤ maxLen)  :
    Calls Tryd.prog 34 #[.string s, .int .i64 0] w fun e w' => RsPost s 0 e ∧ Below w.heap.size w w' := by
  unfold maxLen at hs
  have hW : whI s 0 = (s.size : Int) := if_neg (by omega)
  have bad : ¬ rsF s 0 → RsPost s 0 (.returned (.tuple #[.int .i64 0, .bool false])) := fun h => .inr ⟨h, rfl⟩
  have BAD := Lib.hid bad
  clear bad
  by_cases h1 : (s.size : Int) < 1
  · have HN := Lib.hid (show ¬ rsF s 0 from fun x => by have := x.1; omega)
    go_enter Tryd.func34, Tryd.ntmps34
    go_wp2
    go_ret2
    exact ⟨BAD.out HN.out, Below.refl _ _⟩
  have hz : 0 < s.size := by omega
  by_cases h2 : 1 < (s.size : Int) ∧ s[0] = 48
  · have HN := Lib.hid (show ¬ rsF s 0 from fun x => x.2.1 ⟨by rw [hW]; exact h2.1, by rw [bytes_head hz, h2.2]⟩)
    obtain ⟨h21, h22⟩ := h2
    have b0 : (s[0].toNat : Int) = 48 := by rw [h22]; rfl
    go_enter Tryd.func34, Tryd.ntmps34
    go_wp2
    go_ret2
    exact ⟨BAD.out HN.out, Below.refl _ _⟩
  have HH := Lib.hid (show ¬ (1 < whI s 0 ∧ s.toList.head? = some 48) from fun x => h2 ⟨by rw [← hW]; exact x.1, by have := x.2; rw [bytes_head hz] at this; exact Option.some.inj this⟩)
  have HW := Lib.hid hW
  have b0 : ¬ 1 < (s.size : Int) ∨ (1 < (s.size : Int) ∧ ((s[0].toNat : Int) == 48) = false) := by
    by_cases h : 1 < (s.size : Int)
    · right; refine ⟨h, ?_⟩; simp; exact fun x => h2 ⟨h, byte48.1 (by exact_mod_cast x)⟩
    · exact .inl h
  clear h2 hW
  have HB0 := Lib.hid b0
  clear b0
  go_enter Tryd.func34, Tryd.ntmps34
  rcases HB0.out with b0 | ⟨b00, b0⟩
  · clear HB0
    go_wp2
    clear b0
    go_loopw [4] (fun m wr => ∃ pos : Nat, pos ≤ s.size ∧ m = .int .i64 (capM (dec (dl s (whI s 0).toNat pos))) ∧ wr = w.iter s pos ∧ Hid (okAt s (whI s 0) pos)) (fun _ wr => s.size - wr.iterPos w.heap.size)
    case atStart => exact ⟨0, by omega, by rw [show dl s (whI s 0).toNat 0 = [] by unfold dl; rw [if_pos (by omega)]; rfl]; rfl, rfl, Lib.hid (fun j _ h => by omega)⟩
    case round =>
      obtain ⟨pos, hp0, rfl, rfl, HA⟩ := hrel
      obtain ⟨bm1, bm2⟩ := capM_b (dec (dl s (whI s 0).toNat pos))
      by_cases hp : pos < s.size
      · by_cases hc : s[pos].toNat < 128
        · have hnx : ∀ ty, (Instr.next (.pointer (some ⟨w.heap.size, 0, none⟩)) true ty).run Tryd.prog (w.iter s pos) = _ := fun ty => run_next_ascii w s pos ty hp hc
          by_cases hw : (pos : Int) = (s.size : Int)
          · have q1 : ((pos : Int) == (s.size : Int)) = true := by simpa using hw
            by_cases hdot : s[pos] = 46
            · have q2 : ((s[pos].toNat : Int) == 46) = true := by rw [hdot]; rfl
              have HD := Lib.hid (show dl s (whI s 0).toNat (pos + 1) = dl s (whI s 0).toNat pos by
                have : (whI s 0).toNat = pos := by rw [HW.out]; omega
                rw [this]; exact dl_at)
              have HA2 := Lib.hid (show okAt s (whI s 0) (pos + 1) from fun j h h2 => by
                rcases Nat.lt_or_ge j pos with c | c
                · exact HA.out j h c
                · obtain rfl : j = pos := by omega
                  exact .inl ⟨by rw [HW.out]; exact hw, hdot⟩)
              have HM := Lib.hid (show capM (dec (dl s (whI s 0).toNat (pos + 1))) = capM (dec (dl s (whI s 0).toNat pos)) by rw [HD.out])
              clear hw hdot HD
              generalize capM (dec (dl s (whI s 0).toNat pos)) = M at *
              go_wp2
              go_roundw
              case rel => exact ⟨pos + 1, by omega, by rw [HM.out], rfl, HA2⟩
              case measure => simp; omega
            · have q2 : ((s[pos].toNat : Int) == 46) = false := by
                simp; exact fun x => hdot ((byte_eq (n := 46) (by decide)).1 (by exact_mod_cast x))
              have HN := Lib.hid (okAt_bad (d := 0) hp (by rw [HW.out]; rintro (x | x); exact hdot x.2; exact x.1 hw))
              clear hw hdot
              generalize capM (dec (dl s (whI s 0).toNat pos)) = M at *
              go_wp2
              go_ret2
              exact ⟨BAD.out HN.out, iter_below _ _ _⟩
          · have q1 : ((pos : Int) == (s.size : Int)) = false := by simpa using hw
            by_cases lo : (s[pos].toNat : Int) < 48
            · have HN := Lib.hid (okAt_bad (d := 0) hp (by rw [HW.out, dig_no (.inl lo)]; rintro (x | x); exact hw x.1; exact absurd x.2 (by decide)))
              clear hw
              generalize capM (dec (dl s (whI s 0).toNat pos)) = M at *
              go_wp2
              go_ret2
              exact ⟨BAD.out HN.out, iter_below _ _ _⟩
            · by_cases hi : 57 < (s[pos].toNat : Int)
              · have HN := Lib.hid (okAt_bad (d := 0) hp (by rw [HW.out, dig_no (.inr hi)]; rintro (x | x); exact hw x.1; exact absurd x.2 (by decide)))
                clear hw
                generalize capM (dec (dl s (whI s 0).toNat pos)) = M at *
                go_wp2
                go_ret2
                exact ⟨BAD.out HN.out, iter_below _ _ _⟩
              · have HN := Lib.hid (fun w => near_any (capM (dec (dl s (whI s 0).toNat pos)) * 10 + ((s[pos].toNat : Int) - 48)) 0 1000000000000001 w)
                have HD := Lib.hid (show nearTo (capM (dec (dl s (whI s 0).toNat pos)) * 10 + ((s[pos].toNat : Int) - 48)) 0 1000000000000001 = capM (dec (dl s (whI s 0).toNat (pos + 1))) by
                  have e : dl s (whI s 0).toNat (pos + 1) = dl s (whI s 0).toNat pos ++ [s[pos]] := by
                    rcases Nat.lt_or_ge pos (whI s 0).toNat with c | c
                    · exact dl_near c hp
                    · exact dl_far (by have := HW.out; omega) hp
                  rw [e, dec_snoc, ← capM_step _ _ (by omega)]
                  congr 1
                  omega)
                have HA2 := Lib.hid (show okAt s (whI s 0) (pos + 1) from fun j h h2 => by
                  rcases Nat.lt_or_ge j pos with c | c
                  · exact HA.out j h c
                  · obtain rfl : j = pos := by omega
                    exact .inr ⟨by rw [HW.out]; exact hw, dig_yes (by omega) (by omega)⟩)
                clear hw
                rw [HD.out] at HN
                clear HD
                obtain ⟨M', hM'⟩ : ∃ M', capM (dec (dl s (whI s 0).toNat (pos + 1))) = M' := ⟨_, rfl⟩
                rw [hM'] at HN
                have HM := Lib.hid hM'
                clear hM'
                generalize capM (dec (dl s (whI s 0).toNat pos)) = M at *
                go_wp2_with fail
                refine (HN.out _).mono ?_
                rintro e w_ ⟨rfl, rfl⟩
                go_wp2
                go_roundw
                case rel => exact ⟨pos + 1, by omega, by rw [HM.out], rfl, HA2⟩
                case measure => simp; omega
        · have hd := decode_high s pos hp (by omega)
          have hnx : ∀ ty, (Instr.next (.pointer (some ⟨w.heap.size, 0, none⟩)) true ty).run Tryd.prog (w.iter s pos) = _ := fun ty => run_next_any w s pos ty hp
          have HN := Lib.hid (okAt_bad (d := 0) hp (by
            have k : dig s[pos] = false := dig_no (.inr (by omega))
            rw [k]; rintro (x | x); exact absurd x.2 (by intro y; rw [y] at hc; exact hc (by decide)); exact absurd x.2 (by decide)))
          have h1 : 128 ≤ ((Utf8.decode s pos).1 : Int) := by have := hd.1; omega
          clear hd
          generalize ((Utf8.decode s pos).1 : Int) = r at *
          generalize capM (dec (dl s (whI s 0).toNat pos)) = M at *
          have q3 : (r == 46) = false := by simp; omega
          by_cases hw : (pos : Int) = (s.size : Int)
          · have q1 : ((pos : Int) == (s.size : Int)) = true := by simpa using hw
            clear hw
            go_wp2
            go_ret2
            exact ⟨BAD.out HN.out, iter_below _ _ _⟩
          · have q1 : ((pos : Int) == (s.size : Int)) = false := by simpa using hw
            clear hw
            go_wp2
            go_ret2
            exact ⟨BAD.out HN.out, iter_below _ _ _⟩
      · have hnx : ∀ ty, (Instr.next (.pointer (some ⟨w.heap.size, 0, none⟩)) true ty).run Tryd.prog (w.iter s pos) = _ := fun ty => run_next_end w s pos ty hp
        obtain rfl : pos = s.size := by omega
        have HF := Lib.hid (show rsF s 0 from ⟨by rw [HW.out]; omega, HH.out, HA.out⟩)
        have HV := Lib.hid (show capM (dec (dl s (whI s 0).toNat s.size)) = rsV s 0 from rfl)
        generalize capM (dec (dl s (whI s 0).toNat s.size)) = M at *
        go_wp2
        go_ret2
        exact ⟨.inl ⟨HF.out, by rw [← HV.out]; rfl⟩, iter_below _ _ _⟩
  · clear HB0
    go_wp2
    clear b0
    go_loopw [4] (fun m wr => ∃ pos : Nat, pos ≤ s.size ∧ m = .int .i64 (capM (dec (dl s (whI s 0).toNat pos))) ∧ wr = w.iter s pos ∧ Hid (okAt s (whI s 0) pos)) (fun _ wr => s.size - wr.iterPos w.heap.size)
    case atStart => exact ⟨0, by omega, by rw [show dl s (whI s 0).toNat 0 = [] by unfold dl; rw [if_pos (by omega)]; rfl]; rfl, rfl, Lib.hid (fun j _ h => by omega)⟩
    case round =>
      obtain ⟨pos, hp0, rfl, rfl, HA⟩ := hrel
      obtain ⟨bm1, bm2⟩ := capM_b (dec (dl s (whI s 0).toNat pos))
      by_cases hp : pos < s.size
      · by_cases hc : s[pos].toNat < 128
        · have hnx : ∀ ty, (Instr.next (.pointer (some ⟨w.heap.size, 0, none⟩)) true ty).run Tryd.prog (w.iter s pos) = _ := fun ty => run_next_ascii w s pos ty hp hc
          by_cases hw : (pos : Int) = (s.size : Int)
          · have q1 : ((pos : Int) == (s.size : Int)) = true := by simpa using hw
            by_cases hdot : s[pos] = 46
            · have q2 : ((s[pos].toNat : Int) == 46) = true := by rw [hdot]; rfl
              have HD := Lib.hid (show dl s (whI s 0).toNat (pos + 1) = dl s (whI s 0).toNat pos by
                have : (whI s 0).toNat = pos := by rw [HW.out]; omega
                rw [this]; exact dl_at)
              have HA2 := Lib.hid (show okAt s (whI s 0) (pos + 1) from fun j h h2 => by
                rcases Nat.lt_or_ge j pos with c | c
                · exact HA.out j h c
                · obtain rfl : j = pos := by omega
                  exact .inl ⟨by rw [HW.out]; exact hw, hdot⟩)
              have HM := Lib.hid (show capM (dec (dl s (whI s 0).toNat (pos + 1))) = capM (dec (dl s (whI s 0).toNat pos)) by rw [HD.out])
              clear hw hdot HD
              generalize capM (dec (dl s (whI s 0).toNat pos)) = M at *
              go_wp2
              go_roundw
              case rel => exact ⟨pos + 1, by omega, by rw [HM.out], rfl, HA2⟩
              case measure => simp; omega
            · have q2 : ((s[pos].toNat : Int) == 46) = false := by
                simp; exact fun x => hdot ((byte_eq (n := 46) (by decide)).1 (by exact_mod_cast x))
              have HN := Lib.hid (okAt_bad (d := 0) hp (by rw [HW.out]; rintro (x | x); exact hdot x.2; exact x.1 hw))
              clear hw hdot
              generalize capM (dec (dl s (whI s 0).toNat pos)) = M at *
              go_wp2
              go_ret2
              exact ⟨BAD.out HN.out, iter_below _ _ _⟩
          · have q1 : ((pos : Int) == (s.size : Int)) = false := by simpa using hw
            by_cases lo : (s[pos].toNat : Int) < 48
            · have HN := Lib.hid (okAt_bad (d := 0) hp (by rw [HW.out, dig_no (.inl lo)]; rintro (x | x); exact hw x.1; exact absurd x.2 (by decide)))
              clear hw
              generalize capM (dec (dl s (whI s 0).toNat pos)) = M at *
              go_wp2
              go_ret2
              exact ⟨BAD.out HN.out, iter_below _ _ _⟩
            · by_cases hi : 57 < (s[pos].toNat : Int)
              · have HN := Lib.hid (okAt_bad (d := 0) hp (by rw [HW.out, dig_no (.inr hi)]; rintro (x | x); exact hw x.1; exact absurd x.2 (by decide)))
                clear hw
                generalize capM (dec (dl s (whI s 0).toNat pos)) = M at *
                go_wp2
                go_ret2
                exact ⟨BAD.out HN.out, iter_below _ _ _⟩
              · have HN := Lib.hid (fun w => near_any (capM (dec (dl s (whI s 0).toNat pos)) * 10 + ((s[pos].toNat : Int) - 48)) 0 1000000000000001 w)
                have HD := Lib.hid (show nearTo (capM (dec (dl s (whI s 0).toNat pos)) * 10 + ((s[pos].toNat : Int) - 48)) 0 1000000000000001 = capM (dec (dl s (whI s 0).toNat (pos + 1))) by
                  have e : dl s (whI s 0).toNat (pos + 1) = dl s (whI s 0).toNat pos ++ [s[pos]] := by
                    rcases Nat.lt_or_ge pos (whI s 0).toNat with c | c
                    · exact dl_near c hp
                    · exact dl_far (by have := HW.out; omega) hp
                  rw [e, dec_snoc, ← capM_step _ _ (by omega)]
                  congr 1
                  omega)
                have HA2 := Lib.hid (show okAt s (whI s 0) (pos + 1) from fun j h h2 => by
                  rcases Nat.lt_or_ge j pos with c | c
                  · exact HA.out j h c
                  · obtain rfl : j = pos := by omega
                    exact .inr ⟨by rw [HW.out]; exact hw, dig_yes (by omega) (by omega)⟩)
                clear hw
                rw [HD.out] at HN
                clear HD
                obtain ⟨M', hM'⟩ : ∃ M', capM (dec (dl s (whI s 0).toNat (pos + 1))) = M' := ⟨_, rfl⟩
                rw [hM'] at HN
                have HM := Lib.hid hM'
                clear hM'
                generalize capM (dec (dl s (whI s 0).toNat pos)) = M at *
                go_wp2_with fail
                refine (HN.out _).mono ?_
                rintro e w_ ⟨rfl, rfl⟩
                go_wp2
                go_roundw
                case rel => exact ⟨pos + 1, by omega, by rw [HM.out], rfl, HA2⟩
                case measure => simp; omega
        · have hd := decode_high s pos hp (by omega)
          have hnx : ∀ ty, (Instr.next (.pointer (some ⟨w.heap.size, 0, none⟩)) true ty).run Tryd.prog (w.iter s pos) = _ := fun ty => run_next_any w s pos ty hp
          have HN := Lib.hid (okAt_bad (d := 0) hp (by
            have k : dig s[pos] = false := dig_no (.inr (by omega))
            rw [k]; rintro (x | x); exact absurd x.2 (by intro y; rw [y] at hc; exact hc (by decide)); exact absurd x.2 (by decide)))
          have h1 : 128 ≤ ((Utf8.decode s pos).1 : Int) := by have := hd.1; omega
          clear hd
          generalize ((Utf8.decode s pos).1 : Int) = r at *
          generalize capM (dec (dl s (whI s 0).toNat pos)) = M at *
          have q3 : (r == 46) = false := by simp; omega
          by_cases hw : (pos : Int) = (s.size : Int)
          · have q1 : ((pos : Int) == (s.size : Int)) = true := by simpa using hw
            clear hw
            go_wp2
            go_ret2
            exact ⟨BAD.out HN.out, iter_below _ _ _⟩
          · have q1 : ((pos : Int) == (s.size : Int)) = false := by simpa using hw
            clear hw
            go_wp2
            go_ret2
            exact ⟨BAD.out HN.out, iter_below _ _ _⟩
      · have hnx : ∀ ty, (Instr.next (.pointer (some ⟨w.heap.size, 0, none⟩)) true ty).run Tryd.prog (w.iter s pos) = _ := fun ty => run_next_end w s pos ty hp
        obtain rfl : pos = s.size := by omega
        have HF := Lib.hid (show rsF s 0 from ⟨by rw [HW.out]; omega, HH.out, HA.out⟩)
        have HV := Lib.hid (show capM (dec (dl s (whI s 0).toNat s.size)) = rsV s 0 from rfl)
        generalize capM (dec (dl s (whI s 0).toNat s.size)) = M at *
        go_wp2
        go_ret2
        exact ⟨.inl ⟨HF.out, by rw [← HV.out]; rfl⟩, iter_below _ _ _⟩
end Go.Proofs.YtbiicdpmilplmaaDoor
