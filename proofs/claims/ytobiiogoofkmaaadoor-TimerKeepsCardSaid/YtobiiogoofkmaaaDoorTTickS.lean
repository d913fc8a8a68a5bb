/-
  The contract of tickSequencer; conditions: the numbers fit their kinds.
-/
import Derived.Test.YtobiiogoofkmaaaDoorTTSd
set_option linter.unusedSimpArgs false
set_option linter.unusedVariables false
namespace Go.Proofs.YtobiiogoofkmaaaDoor
open Go.RowKit Classical
set_option maxHeartbeats 8000000 in
theorem tickS_any (c : Ck) (w0 w : World) (b : Nat) (o : c.Ok) (v : c.V) (T : Tabs w0) (A : At w0 w b c) :
    Calls Tryd.prog 22 #[.pointer (some ⟨b, 0, none⟩)] w fun e w' => e = .returned (.tuple #[]) ∧ At w0 w' b c.tickS := by
  obtain ⟨f0, f1, f2, f3, f4, f5, f6, f7, f8, f9, f10, f11, f12, ff⟩ := A.facts
  have x0 := o.at_.1
  have x1 := v.at_
  have y0 := o.beats.1
  have y1 := v.beats
  have z0 := o.wait.1
  have z1 := v.wait
  have BO : Hid _ := fun W (hA : At w0 W b ({ c with at_ := c.at_ + 1 } : Ck)) => beatsOf_any _ w0 W b T hA
  have RD : Hid _ := fun (m : Ck) W (hA : At w0 W b m) => round_any m w0 W b T hA
  have AK0 : Hid _ := fun (f : Bool) W (hA : At w0 W b ({ c with at_ := c.at_ + 1, beats := (c.beats + btk (lastM c.five) (c.at_ + 1) 4) % 64, frame := f } : Ck)) => asks_any _ w0 W b hA
  have A1 : Hid _ := (At.set (c' := ({ c with at_ := c.at_ + 1 } : Ck)) A 10 (.int .u16 (c.at_ + 1)) rfl)
  clear A
  go_enter Tryd.func22, Tryd.ntmps22
  go_wp2_with (go_at_call 33; refine (BO.out _ A1.out).mono ?_; rintro e w2 ⟨rfl, A2⟩; clear BO A1)
  clear f0 f1 f2 f3 f4 f5 f6 f7 f8 f9 f10 f11 f12 ff
  obtain ⟨a, ha⟩ : ∃ a, a = c.at_ + 1 := ⟨_, rfl⟩
  obtain ⟨l, hl⟩ : ∃ l, l = lastM c.five := ⟨_, rfl⟩
  simp only [← ha, ← hl] at A2 AK0 ⊢
  have HA : Hid (a = c.at_ + 1) := ha
  have HL : Hid (l = lastM c.five) := hl
  have a0 : 1 ≤ a := by omega
  have a1 : a ≤ 37282 := by omega
  clear ha hl
  go_loopw [15] (fun i wr => ∃ k : Nat, k ≤ 4 ∧ i = .int .i64 k ∧ At w0 wr b ({ c with at_ := a, beats := (c.beats + btk l a k) % 64 } : Ck)) (fun i _ => 4 - (intOf i).toNat)
  case atStart => exact ⟨0, by omega, rfl, by rw [btk_0, Int.add_zero, Int.emod_eq_of_lt y0 (by omega)]; exact A2⟩
  case round =>
    clear A2
    obtain ⟨k, hk, rfl, A3⟩ := hrel
    have hk' : k = 0 ∨ k = 1 ∨ k = 2 ∨ k = 3 ∨ k = 4 := by omega
    have ix0 : ∀ w, (Instr.index 47 (.agg #[.int .u16 7457, .int .u16 14913, .int .u16 22371, .int .u16 l]) (.int .i64 0)).run Tryd.prog w = .ok (.int .u16 7457) w := fun w => by kernel_rfl
    have ix1 : ∀ w, (Instr.index 47 (.agg #[.int .u16 7457, .int .u16 14913, .int .u16 22371, .int .u16 l]) (.int .i64 1)).run Tryd.prog w = .ok (.int .u16 14913) w := fun w => by kernel_rfl
    have ix2 : ∀ w, (Instr.index 47 (.agg #[.int .u16 7457, .int .u16 14913, .int .u16 22371, .int .u16 l]) (.int .i64 2)).run Tryd.prog w = .ok (.int .u16 22371) w := fun w => by kernel_rfl
    have ix3 : ∀ w, (Instr.index 47 (.agg #[.int .u16 7457, .int .u16 14913, .int .u16 22371, .int .u16 l]) (.int .i64 3)).run Tryd.prog w = .ok (.int .u16 l) w := fun w => by kernel_rfl
    rcases hk' with rfl | rfl | rfl | rfl | rfl
    · have E1 := btk_1 l a
      have hb := btk_bd l a 0
      by_cases hm : a = 7457
      · rw [if_pos hm] at E1
        have E2 : Hid (((c.beats + btk l a 0) % 64 + 1) % 64 = (c.beats + btk l a 1) % 64) := by unfold Hid; rw [E1]; omega
        have BT : Hid _ := fun W (hA : At w0 W b ({ c with at_ := a, beats := (c.beats + btk l a 0) % 64 } : Ck)) => beat_any ({ c with at_ := a, beats := (c.beats + btk l a 0) % 64 } : Ck) 1 w0 W b ⟨o.latch, o.count, o.pre, o.hold, o.ctl, ⟨by simp only; omega, by simp only; omega⟩, o.wait, ⟨by simp only; omega, by simp only; omega⟩⟩ hA (by decide) (by decide)
        rw [E2.out] at BT
        have hm' : (a == 7457) = true := by simpa using hm
        obtain ⟨g0, g1, g2, g3, g4, g5, g6, g7, g8, g9, g10, g11, g12, gf⟩ := A3.facts
        clear E1 E2 hb hm
        go_wp2_with (go_at_call 34; refine (BT.out _ A3).mono ?_; rintro e w4 ⟨rfl, A4⟩)
        go_roundw
        case rel => exact ⟨1, by omega, rfl, A4⟩
        case measure => simp [intOf]
      · rw [if_neg hm, Int.add_zero] at E1
        have hm' : (a == 7457) = false := by simpa using hm
        obtain ⟨g0, g1, g2, g3, g4, g5, g6, g7, g8, g9, g10, g11, g12, gf⟩ := A3.facts
        have A4 := A3
        rw [← E1] at A4
        clear E1 hb hm
        go_wp2
        go_roundw
        case rel => exact ⟨1, by omega, rfl, A4⟩
        case measure => simp [intOf]
    · have E1 := btk_2 l a
      have hb := btk_bd l a 1
      by_cases hm : a = 14913
      · rw [if_pos hm] at E1
        have E2 : Hid (((c.beats + btk l a 1) % 64 + 1) % 64 = (c.beats + btk l a 2) % 64) := by unfold Hid; rw [E1]; omega
        have BT : Hid _ := fun W (hA : At w0 W b ({ c with at_ := a, beats := (c.beats + btk l a 1) % 64 } : Ck)) => beat_any ({ c with at_ := a, beats := (c.beats + btk l a 1) % 64 } : Ck) 1 w0 W b ⟨o.latch, o.count, o.pre, o.hold, o.ctl, ⟨by simp only; omega, by simp only; omega⟩, o.wait, ⟨by simp only; omega, by simp only; omega⟩⟩ hA (by decide) (by decide)
        rw [E2.out] at BT
        have hm' : (a == 14913) = true := by simpa using hm
        obtain ⟨g0, g1, g2, g3, g4, g5, g6, g7, g8, g9, g10, g11, g12, gf⟩ := A3.facts
        clear E1 E2 hb hm
        go_wp2_with (go_at_call 34; refine (BT.out _ A3).mono ?_; rintro e w4 ⟨rfl, A4⟩)
        go_roundw
        case rel => exact ⟨2, by omega, rfl, A4⟩
        case measure => simp [intOf]
      · rw [if_neg hm, Int.add_zero] at E1
        have hm' : (a == 14913) = false := by simpa using hm
        obtain ⟨g0, g1, g2, g3, g4, g5, g6, g7, g8, g9, g10, g11, g12, gf⟩ := A3.facts
        have A4 := A3
        rw [← E1] at A4
        clear E1 hb hm
        go_wp2
        go_roundw
        case rel => exact ⟨2, by omega, rfl, A4⟩
        case measure => simp [intOf]
    · have E1 := btk_3 l a
      have hb := btk_bd l a 2
      by_cases hm : a = 22371
      · rw [if_pos hm] at E1
        have E2 : Hid (((c.beats + btk l a 2) % 64 + 1) % 64 = (c.beats + btk l a 3) % 64) := by unfold Hid; rw [E1]; omega
        have BT : Hid _ := fun W (hA : At w0 W b ({ c with at_ := a, beats := (c.beats + btk l a 2) % 64 } : Ck)) => beat_any ({ c with at_ := a, beats := (c.beats + btk l a 2) % 64 } : Ck) 1 w0 W b ⟨o.latch, o.count, o.pre, o.hold, o.ctl, ⟨by simp only; omega, by simp only; omega⟩, o.wait, ⟨by simp only; omega, by simp only; omega⟩⟩ hA (by decide) (by decide)
        rw [E2.out] at BT
        have hm' : (a == 22371) = true := by simpa using hm
        obtain ⟨g0, g1, g2, g3, g4, g5, g6, g7, g8, g9, g10, g11, g12, gf⟩ := A3.facts
        clear E1 E2 hb hm
        go_wp2_with (go_at_call 34; refine (BT.out _ A3).mono ?_; rintro e w4 ⟨rfl, A4⟩)
        go_roundw
        case rel => exact ⟨3, by omega, rfl, A4⟩
        case measure => simp [intOf]
      · rw [if_neg hm, Int.add_zero] at E1
        have hm' : (a == 22371) = false := by simpa using hm
        obtain ⟨g0, g1, g2, g3, g4, g5, g6, g7, g8, g9, g10, g11, g12, gf⟩ := A3.facts
        have A4 := A3
        rw [← E1] at A4
        clear E1 hb hm
        go_wp2
        go_roundw
        case rel => exact ⟨3, by omega, rfl, A4⟩
        case measure => simp [intOf]
    · have E1 := btk_4 l a
      have hb := btk_bd l a 3
      by_cases hm : a = l
      · rw [if_pos hm] at E1
        have E2 : Hid (((c.beats + btk l a 3) % 64 + 1) % 64 = (c.beats + btk l a 4) % 64) := by unfold Hid; rw [E1]; omega
        have BT : Hid _ := fun W (hA : At w0 W b ({ c with at_ := a, beats := (c.beats + btk l a 3) % 64 } : Ck)) => beat_any ({ c with at_ := a, beats := (c.beats + btk l a 3) % 64 } : Ck) 1 w0 W b ⟨o.latch, o.count, o.pre, o.hold, o.ctl, ⟨by simp only; omega, by simp only; omega⟩, o.wait, ⟨by simp only; omega, by simp only; omega⟩⟩ hA (by decide) (by decide)
        rw [E2.out] at BT
        have hm' : (a == l) = true := by simpa using hm
        obtain ⟨g0, g1, g2, g3, g4, g5, g6, g7, g8, g9, g10, g11, g12, gf⟩ := A3.facts
        clear E1 E2 hb hm
        go_wp2_with (go_at_call 34; refine (BT.out _ A3).mono ?_; rintro e w4 ⟨rfl, A4⟩)
        go_roundw
        case rel => exact ⟨4, by omega, rfl, A4⟩
        case measure => simp [intOf]
      · rw [if_neg hm, Int.add_zero] at E1
        have hm' : (a == l) = false := by simpa using hm
        obtain ⟨g0, g1, g2, g3, g4, g5, g6, g7, g8, g9, g10, g11, g12, gf⟩ := A3.facts
        have A4 := A3
        rw [← E1] at A4
        clear E1 hb hm
        go_wp2
        go_roundw
        case rel => exact ⟨4, by omega, rfl, A4⟩
        case measure => simp [intOf]
    · clear ix0 ix1 ix2 ix3
      have tt := (T.on A3.bel).frames
      have u0 := tt.c0
      have u1 := tt.c1
      have u2 := tt.c2
      clear tt
      go_wp2
      obtain ⟨d, hd⟩ : ∃ d : Ck, d = { c with at_ := a, beats := (c.beats + btk l a 4) % 64 } := ⟨_, rfl⟩
      rw [← hd] at A3
      have AK : Hid (∀ (f : Bool) W, At w0 W b ({ d with frame := f } : Ck) → Calls Tryd.prog 26 #[.pointer (some ⟨b, 0, none⟩)] W fun e w' => e = .returned (.bool c.asks) ∧ w' = W) := by
        unfold Hid; rw [hd]; exact AK0.out
      have HD : Hid _ := hd
      have da : d.at_ = a := by rw [hd]
      clear hd AK0 u0 u1 u2
      go_loopw [28] (fun i wr => ∃ k : Nat, k ≤ 3 ∧ i = .int .i64 k ∧ At w0 wr b ({ d with frame := c.frame || (c.asks && frk k a) } : Ck)) (fun i _ => 3 - (intOf i).toNat)
      case atStart => exact ⟨0, by omega, rfl, by rw [frk_0, Bool.and_false, Bool.or_false, show ({ d with frame := c.frame } : Ck) = d by rw [HD.out]]; exact A3⟩
      case round =>
        clear A3
        obtain ⟨k, hk, rfl, A3⟩ := hrel
        have hk' : k = 0 ∨ k = 1 ∨ k = 2 ∨ k = 3 := by omega
        have ix0 : ∀ w, (Instr.index 49 (.agg #[.int .u16 29828, .int .u16 29829, .int .u16 29830]) (.int .i64 0)).run Tryd.prog w = .ok (.int .u16 29828) w := fun w => by kernel_rfl
        have ix1 : ∀ w, (Instr.index 49 (.agg #[.int .u16 29828, .int .u16 29829, .int .u16 29830]) (.int .i64 1)).run Tryd.prog w = .ok (.int .u16 29829) w := fun w => by kernel_rfl
        have ix2 : ∀ w, (Instr.index 49 (.agg #[.int .u16 29828, .int .u16 29829, .int .u16 29830]) (.int .i64 2)).run Tryd.prog w = .ok (.int .u16 29830) w := fun w => by kernel_rfl
        rcases hk' with rfl | rfl | rfl | rfl
        · have E1 := frk_1 a
          obtain ⟨g0, g1, g2, g3, g4, g5, g6, g7, g8, g9, g10, g11, g12, gf⟩ := A3.facts
          by_cases hm : a = 29828
          · have hm' : (a == 29828) = true := by simpa using hm
            rw [decide_eq_true hm, Bool.or_true] at E1
            rcases (show c.asks = false ∨ c.asks = true by cases c.asks <;> simp) with hk | hk
            · rw [hk] at AK
              have A4 : At w0 wr b ({ d with frame := c.frame || (c.asks && frk 1 a) } : Ck) := by rw [hk, Bool.false_and] at A3 ⊢; exact A3
              clear E1 hm hk
              go_wp2_with (go_at_call 26; refine (AK.out _ _ A3).mono ?_; rintro e w4 ⟨rfl, rfl⟩)
              go_roundw
              case rel => first | exact ⟨1, by omega, rfl, A4⟩ | exact ⟨_, _, _, _, _, _, _, _, _, _, _, _, _, _, _, _, _, _, ⟨1, by omega, rfl, A4⟩, rfl⟩
              case measure => simp [intOf]
            · rw [hk] at AK
              have A4 : At w0 (wr.setCell ⟨b, 9, none⟩ (.bool true)) b ({ d with frame := c.frame || (c.asks && frk 1 a) } : Ck) := by rw [E1, hk, Bool.true_and, Bool.or_true]; exact At.set A3 9 (.bool true) rfl
              clear E1 hm hk
              go_wp2_with (go_at_call 26; refine (AK.out _ _ A3).mono ?_; rintro e w4 ⟨rfl, rfl⟩)
              go_roundw
              case rel => first | exact ⟨1, by omega, rfl, A4⟩ | exact ⟨_, _, _, _, _, _, _, _, _, _, _, _, _, _, _, _, _, _, ⟨1, by omega, rfl, A4⟩, rfl⟩
              case measure => simp [intOf]
          · have hm' : (a == 29828) = false := by simpa using hm
            rw [decide_eq_false hm, Bool.or_false] at E1
            have A4 := A3
            rw [← E1] at A4
            clear E1 hm AK
            go_wp2
            go_roundw
            case rel => first | exact ⟨1, by omega, rfl, A4⟩ | exact ⟨_, _, _, _, _, _, _, _, _, _, _, _, _, _, _, _, _, _, ⟨1, by omega, rfl, A4⟩, rfl⟩
            case measure => simp [intOf]
        · have E1 := frk_2 a
          obtain ⟨g0, g1, g2, g3, g4, g5, g6, g7, g8, g9, g10, g11, g12, gf⟩ := A3.facts
          by_cases hm : a = 29829
          · have hm' : (a == 29829) = true := by simpa using hm
            rw [decide_eq_true hm, Bool.or_true] at E1
            rcases (show c.asks = false ∨ c.asks = true by cases c.asks <;> simp) with hk | hk
            · rw [hk] at AK
              have A4 : At w0 wr b ({ d with frame := c.frame || (c.asks && frk 2 a) } : Ck) := by rw [hk, Bool.false_and] at A3 ⊢; exact A3
              clear E1 hm hk
              go_wp2_with (go_at_call 26; refine (AK.out _ _ A3).mono ?_; rintro e w4 ⟨rfl, rfl⟩)
              go_roundw
              case rel => first | exact ⟨2, by omega, rfl, A4⟩ | exact ⟨_, _, _, _, _, _, _, _, _, _, _, _, _, _, _, _, _, _, ⟨2, by omega, rfl, A4⟩, rfl⟩
              case measure => simp [intOf]
            · rw [hk] at AK
              have A4 : At w0 (wr.setCell ⟨b, 9, none⟩ (.bool true)) b ({ d with frame := c.frame || (c.asks && frk 2 a) } : Ck) := by rw [E1, hk, Bool.true_and, Bool.or_true]; exact At.set A3 9 (.bool true) rfl
              clear E1 hm hk
              go_wp2_with (go_at_call 26; refine (AK.out _ _ A3).mono ?_; rintro e w4 ⟨rfl, rfl⟩)
              go_roundw
              case rel => first | exact ⟨2, by omega, rfl, A4⟩ | exact ⟨_, _, _, _, _, _, _, _, _, _, _, _, _, _, _, _, _, _, ⟨2, by omega, rfl, A4⟩, rfl⟩
              case measure => simp [intOf]
          · have hm' : (a == 29829) = false := by simpa using hm
            rw [decide_eq_false hm, Bool.or_false] at E1
            have A4 := A3
            rw [← E1] at A4
            clear E1 hm AK
            go_wp2
            go_roundw
            case rel => first | exact ⟨2, by omega, rfl, A4⟩ | exact ⟨_, _, _, _, _, _, _, _, _, _, _, _, _, _, _, _, _, _, ⟨2, by omega, rfl, A4⟩, rfl⟩
            case measure => simp [intOf]
        · have E1 := frk_3 a
          obtain ⟨g0, g1, g2, g3, g4, g5, g6, g7, g8, g9, g10, g11, g12, gf⟩ := A3.facts
          by_cases hm : a = 29830
          · have hm' : (a == 29830) = true := by simpa using hm
            rw [decide_eq_true hm, Bool.or_true] at E1
            rcases (show c.asks = false ∨ c.asks = true by cases c.asks <;> simp) with hk | hk
            · rw [hk] at AK
              have A4 : At w0 wr b ({ d with frame := c.frame || (c.asks && frk 3 a) } : Ck) := by rw [hk, Bool.false_and] at A3 ⊢; exact A3
              clear E1 hm hk
              go_wp2_with (go_at_call 26; refine (AK.out _ _ A3).mono ?_; rintro e w4 ⟨rfl, rfl⟩)
              go_roundw
              case rel => first | exact ⟨3, by omega, rfl, A4⟩ | exact ⟨_, _, _, _, _, _, _, _, _, _, _, _, _, _, _, _, _, _, ⟨3, by omega, rfl, A4⟩, rfl⟩
              case measure => simp [intOf]
            · rw [hk] at AK
              have A4 : At w0 (wr.setCell ⟨b, 9, none⟩ (.bool true)) b ({ d with frame := c.frame || (c.asks && frk 3 a) } : Ck) := by rw [E1, hk, Bool.true_and, Bool.or_true]; exact At.set A3 9 (.bool true) rfl
              clear E1 hm hk
              go_wp2_with (go_at_call 26; refine (AK.out _ _ A3).mono ?_; rintro e w4 ⟨rfl, rfl⟩)
              go_roundw
              case rel => first | exact ⟨3, by omega, rfl, A4⟩ | exact ⟨_, _, _, _, _, _, _, _, _, _, _, _, _, _, _, _, _, _, ⟨3, by omega, rfl, A4⟩, rfl⟩
              case measure => simp [intOf]
          · have hm' : (a == 29830) = false := by simpa using hm
            rw [decide_eq_false hm, Bool.or_false] at E1
            have A4 := A3
            rw [← E1] at A4
            clear E1 hm AK
            go_wp2
            go_roundw
            case rel => first | exact ⟨3, by omega, rfl, A4⟩ | exact ⟨_, _, _, _, _, _, _, _, _, _, _, _, _, _, _, _, _, _, ⟨3, by omega, rfl, A4⟩, rfl⟩
            case measure => simp [intOf]
        · clear ix0 ix1 ix2 AK
          obtain ⟨m, hm⟩ : ∃ m : Ck, m = { d with frame := c.frame || (c.asks && frk 3 a) } := ⟨_, rfl⟩
          rw [← hm] at A3
          have hmd : m = c.midS := by rw [hm, HD.out, HL.out, HA.out, frk_all, btk_bt]; rfl
          have mw : m.wait = c.wait := by rw [hmd]; rfl
          have mat : m.at_ = a := by rw [hmd, HA.out]; rfl
          have hR : rdL m.five = rdL c.five := by rw [hmd]; rfl
          replace RD : Hid (∀ W, At w0 W b m → Calls Tryd.prog 35 #[.pointer (some ⟨b, 0, none⟩)] W fun e w' => e = .returned (.int .u16 (rdL c.five)) ∧ w' = W) := by
            unfold Hid; rw [← hR]; exact RD.out m
          have om : m.Ok := by rw [hmd]; exact ⟨o.latch, o.count, o.pre, o.hold, o.ctl, ⟨by simp only [Ck.midS]; omega, by simp only [Ck.midS]; omega⟩, o.wait, ⟨by simp only [Ck.midS]; omega, by simp only [Ck.midS]; omega⟩⟩
          have rb := rdL_bd c.five
          obtain ⟨g0, g1, g2, g3, g4, g5, g6, g7, g8, g9, g10, g11, g12, gf⟩ := A3.facts
          have HA' := HA.out
          by_cases hge : rdL c.five ≤ c.at_ + 1
          · have os : Ck.Ok ({ m with at_ := 0 } : Ck) := ⟨om.latch, om.count, om.pre, om.hold, om.ctl, by simp only; decide, om.wait, om.beats⟩
            have hge' : rdL c.five ≤ a := by omega
            by_cases hw : c.wait = 0
            · have hs : c.tickS = { m with at_ := 0 } := by
                rw [tickS_mid, if_neg (by omega), if_pos hge, if_neg (by omega), if_neg (by omega), hmd]; rfl
              have HS : Hid _ := fun (_ : True) => hs
              rw [mw, hw] at g11
              have AW : Hid _ := A3
              rw [mat] at g10
              clear hs A3 hm hmd HA' hw
              go_wp2
              go_quiet ((go_at_call 35; exact Calls.quiet_of_same (RD.out _ (AW.out.drews _))))
              go_wp2
              go_end0
              exact ⟨rfl, by rw [HS.out trivial]; exact (At.set (c' := ({ m with at_ := 0 } : Ck)) ((AW.out).drews _) 10 (.int .u16 (0)) rfl)⟩
            by_cases hw1 : c.wait = 1
            · have hw : c.wait = 1 := hw1
              clear hw1
              have hs : c.tickS = { m with at_ := 0, wait := 0, beats := wb m.five m.beats } := by
                rw [tickS_mid, if_pos hw, if_pos (by omega), if_pos hw, ← hmd, hw]; rw [hmd]; rfl
              have WT : Hid (∀ W, At w0 W b ({ m with at_ := 0 } : Ck) → Calls Tryd.prog 36 #[.pointer (some ⟨b, 0, none⟩), .int .i64 1] W fun e w' => e = .returned (.tuple #[]) ∧ At w0 w' b ({ m with at_ := 0, wait := 0, beats := wb m.five m.beats } : Ck)) := by
                intro W hA
                have h := wait_last ({ m with at_ := 0 } : Ck) w0 W b os hA (by show 1 ≤ m.wait; omega)
                rw [show ({ m with at_ := 0 } : Ck).wait = 1 from mw.trans hw] at h
                exact h
              have HS : Hid _ := fun (_ : True) => hs
              rw [mw, hw] at g11
              have AW : Hid _ := A3
              rw [mat] at g10
              clear hs A3 hm hmd HA' hw
              go_wp2
              go_quiet ((go_at_call 35; exact Calls.quiet_of_same (RD.out _ (AW.out.drews _))))
              go_wp2_with (go_at_call 36; refine (WT.out _ (At.set (c' := ({ m with at_ := 0 } : Ck)) ((AW.out).drews _) 10 (.int .u16 (0)) rfl)).mono ?_; rintro e w4 ⟨rfl, A4⟩)
              go_end0
              exact ⟨rfl, by rw [HS.out trivial]; exact A4⟩
            · have hs : c.tickS = { m with at_ := 0, wait := m.wait - 1 } := by
                rw [tickS_mid, if_neg (by omega), if_pos hge, if_pos (by omega), if_neg (by omega), hmd]; rfl
              have WT : Hid _ := fun W (hA : At w0 W b ({ m with at_ := 0 } : Ck)) => wait_more ({ m with at_ := 0 } : Ck) 1 w0 W b os hA (by decide) (by show 1 < m.wait; omega)
              have hpos : 0 < c.wait := by omega
              have HS : Hid _ := fun (_ : True) => hs
              have AW : Hid _ := A3
              rw [mat] at g10
              clear hs A3 hm hmd HA'
              go_wp2
              go_quiet ((go_at_call 35; exact Calls.quiet_of_same (RD.out _ (AW.out.drews _))))
              go_wp2_with (go_at_call 36; refine (WT.out _ (At.set (c' := ({ m with at_ := 0 } : Ck)) ((AW.out).drews _) 10 (.int .u16 (0)) rfl)).mono ?_; rintro e w4 ⟨rfl, A4⟩)
              go_end0
              exact ⟨rfl, by rw [HS.out trivial]; exact A4⟩
          · have os := om
            have hge' : ¬ rdL c.five ≤ a := by omega
            by_cases hw : c.wait = 0
            · have hs : c.tickS = { m with at_ := m.at_ } := by
                rw [tickS_mid, if_neg (by omega), if_neg hge, if_neg (by omega), if_neg (by omega), hmd]; rfl
              have HS : Hid _ := fun (_ : True) => hs
              rw [mw, hw] at g11
              have AW : Hid _ := A3
              rw [mat] at g10
              clear hs A3 hm hmd HA' hw
              go_wp2
              go_quiet ((go_at_call 35; exact Calls.quiet_of_same (RD.out _ (AW.out.drews _))))
              go_wp2
              go_end0
              exact ⟨rfl, by rw [HS.out trivial]; exact ((AW.out).drews _)⟩
            by_cases hw1 : c.wait = 1
            · have hw : c.wait = 1 := hw1
              clear hw1
              have hs : c.tickS = { m with at_ := 0, wait := 0, beats := wb m.five m.beats } := by
                rw [tickS_mid, if_pos hw, if_pos (by omega), if_pos hw, ← hmd, hw]; rw [hmd]; rfl
              have WT : Hid (∀ W, At w0 W b m → Calls Tryd.prog 36 #[.pointer (some ⟨b, 0, none⟩), .int .i64 1] W fun e w' => e = .returned (.tuple #[]) ∧ At w0 w' b ({ m with at_ := 0, wait := 0, beats := wb m.five m.beats } : Ck)) := by
                intro W hA
                have h := wait_last m w0 W b os hA (by show 1 ≤ m.wait; omega)
                rw [show m.wait = 1 from mw.trans hw] at h
                exact h
              have HS : Hid _ := fun (_ : True) => hs
              rw [mw, hw] at g11
              have AW : Hid _ := A3
              rw [mat] at g10
              clear hs A3 hm hmd HA' hw
              go_wp2
              go_quiet ((go_at_call 35; exact Calls.quiet_of_same (RD.out _ (AW.out.drews _))))
              go_wp2_with (go_at_call 36; refine (WT.out _ ((AW.out).drews _)).mono ?_; rintro e w4 ⟨rfl, A4⟩)
              go_end0
              exact ⟨rfl, by rw [HS.out trivial]; exact A4⟩
            · have hs : c.tickS = { m with at_ := m.at_, wait := m.wait - 1 } := by
                rw [tickS_mid, if_neg (by omega), if_neg hge, if_pos (by omega), if_neg (by omega), hmd]; rfl
              have WT : Hid _ := fun W (hA : At w0 W b m) => wait_more m 1 w0 W b os hA (by decide) (by show 1 < m.wait; omega)
              have hpos : 0 < c.wait := by omega
              have HS : Hid _ := fun (_ : True) => hs
              have AW : Hid _ := A3
              rw [mat] at g10
              clear hs A3 hm hmd HA'
              go_wp2
              go_quiet ((go_at_call 35; exact Calls.quiet_of_same (RD.out _ (AW.out.drews _))))
              go_wp2_with (go_at_call 36; refine (WT.out _ ((AW.out).drews _)).mono ?_; rintro e w4 ⟨rfl, A4⟩)
              go_end0
              exact ⟨rfl, by rw [HS.out trivial]; exact A4⟩
end Go.Proofs.YtobiiogoofkmaaaDoor
