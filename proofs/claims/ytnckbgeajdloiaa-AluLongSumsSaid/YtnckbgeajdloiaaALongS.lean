/-
  The law AluLongSums returns true for every two numbers and every P: the walk.
-/
import Derived.Test.YtnckbgeajdloiaaALong
namespace Go.Proofs.Ytnckbgeajdloiaa
open Go.RowKit
set_option maxHeartbeats 4000000 in
theorem law_aluLongSums (a0 a1 a2 : Int) (w0 : (Lit.int .u64 a0).wf = true) (w1 : (Lit.int .u64 a1).wf = true) (w2 : (Lit.int .u8 a2).wf = true) (w : World) :
    Calls Try.prog 4 #[.int .u64 a0, .int .u64 a1, .int .u8 a2] w fun e w' => e = .returned (.bool true) ∧ Grown w w' := by
  obtain ⟨x0, x1⟩ := wf64 w0
  obtain ⟨y0, y1⟩ := wf64 w1
  obtain ⟨F, rfl⟩ := Fl.ofInt a2 (wf8 w2).1 (wf8 w2).2
  clear w0 w1 w2
  have gc := gt_c
  have gv := gt_v
  have gn := gt_n
  go_enter Try.func4, Try.ntmps4
  go_wp2_with (go_at_call 11; refine (with_any _ _ _ _).mono ?_; rintro e w' ⟨rfl, rfl⟩)
  go_loop [7, 8, 9] (fun q sum i => ∃ (k P : Int) (G : Fl) (s : Int), PW k P ∧ i = .int .i64 k ∧ sum = .int .u64 s ∧ q = .int .u8 (G.val : Nat) ∧ Hid (Inv P G a0 a1 s)) (fun _ _ i => (64 - intOf i).toNat)
  case atStart => exact ⟨0, 1, withF F false false, 0, .inl ⟨rfl, rfl⟩, rfl, rfl, rfl, Inv.start _ _ _ rfl rfl⟩
  case round =>
    obtain ⟨k, P, G, s, hPW, rfl, rfl, rfl, HI⟩ := hrel
    rcases hPW with ⟨rfl, rfl⟩ | ⟨rfl, rfl⟩ | ⟨rfl, rfl⟩ | ⟨rfl, rfl⟩ | ⟨rfl, rfl⟩ | ⟨rfl, rfl⟩ | ⟨rfl, rfl⟩ | ⟨rfl, rfl⟩ | ⟨rfl, rfl⟩
    · obtain ⟨hN, s0, s1⟩ := Inv.step (by decide) HI.out
      have hr : 0 ≤ adcV (a0 / 1 % 256) (a1 / 1 % 256) G ∧ adcV (a0 / 1 % 256) (a1 / 1 % 256) G ≤ 255 := by
        rw [(adc_bin _ _ G HI.out.2.2.1).1]; omega
      simp only [Int.ediv_one, Int.mul_one] at hN hr
      generalize hR : adcV (a0 % 256) (a1 % 256) G = R at *
      generalize hG : adcF (a0 % 256) (a1 % 256) G = G' at *
      have HN : Hid _ := hN
      clear hN HI
      have ho := or_high s R 1 0 rfl s0 s1 hr.1 (by omega)
      rw [Int.mul_one] at ho
      obtain ⟨r0, r1⟩ := hr
      go_wp2_with (go_at_call 12; refine (adc_any _ _ _ _ (by omega) (by omega) (by omega) (by omega)).mono ?_; rintro e w' ⟨rfl, rfl⟩; rw [hR, hG])
      go_round
      case rel => exact ⟨8, 256, G', _, .inr (.inl ⟨rfl, rfl⟩), rfl, rfl, rfl, HN.out⟩
      case measure => simp [intOf]
    · obtain ⟨hN, s0, s1⟩ := Inv.step (by decide) HI.out
      have hr : 0 ≤ adcV (a0 / 256 % 256) (a1 / 256 % 256) G ∧ adcV (a0 / 256 % 256) (a1 / 256 % 256) G ≤ 255 := by
        rw [(adc_bin _ _ G HI.out.2.2.1).1]; omega
      generalize hR : adcV (a0 / 256 % 256) (a1 / 256 % 256) G = R at *
      generalize hG : adcF (a0 / 256 % 256) (a1 / 256 % 256) G = G' at *
      have HN : Hid _ := hN
      clear hN HI
      have ho := or_high s R 256 8 rfl s0 s1 hr.1 (by omega)
      obtain ⟨r0, r1⟩ := hr
      go_wp2_with (go_at_call 12; refine (adc_any _ _ _ _ (by omega) (by omega) (by omega) (by omega)).mono ?_; rintro e w' ⟨rfl, rfl⟩; rw [hR, hG])
      go_round
      case rel => exact ⟨16, 65536, G', _, .inr (.inr (.inl ⟨rfl, rfl⟩)), rfl, rfl, rfl, HN.out⟩
      case measure => simp [intOf]
    · obtain ⟨hN, s0, s1⟩ := Inv.step (by decide) HI.out
      have hr : 0 ≤ adcV (a0 / 65536 % 256) (a1 / 65536 % 256) G ∧ adcV (a0 / 65536 % 256) (a1 / 65536 % 256) G ≤ 255 := by
        rw [(adc_bin _ _ G HI.out.2.2.1).1]; omega
      generalize hR : adcV (a0 / 65536 % 256) (a1 / 65536 % 256) G = R at *
      generalize hG : adcF (a0 / 65536 % 256) (a1 / 65536 % 256) G = G' at *
      have HN : Hid _ := hN
      clear hN HI
      have ho := or_high s R 65536 16 rfl s0 s1 hr.1 (by omega)
      obtain ⟨r0, r1⟩ := hr
      go_wp2_with (go_at_call 12; refine (adc_any _ _ _ _ (by omega) (by omega) (by omega) (by omega)).mono ?_; rintro e w' ⟨rfl, rfl⟩; rw [hR, hG])
      go_round
      case rel => exact ⟨24, 16777216, G', _, .inr (.inr (.inr (.inl ⟨rfl, rfl⟩))), rfl, rfl, rfl, HN.out⟩
      case measure => simp [intOf]
    · obtain ⟨hN, s0, s1⟩ := Inv.step (by decide) HI.out
      have hr : 0 ≤ adcV (a0 / 16777216 % 256) (a1 / 16777216 % 256) G ∧ adcV (a0 / 16777216 % 256) (a1 / 16777216 % 256) G ≤ 255 := by
        rw [(adc_bin _ _ G HI.out.2.2.1).1]; omega
      generalize hR : adcV (a0 / 16777216 % 256) (a1 / 16777216 % 256) G = R at *
      generalize hG : adcF (a0 / 16777216 % 256) (a1 / 16777216 % 256) G = G' at *
      have HN : Hid _ := hN
      clear hN HI
      have ho := or_high s R 16777216 24 rfl s0 s1 hr.1 (by omega)
      obtain ⟨r0, r1⟩ := hr
      go_wp2_with (go_at_call 12; refine (adc_any _ _ _ _ (by omega) (by omega) (by omega) (by omega)).mono ?_; rintro e w' ⟨rfl, rfl⟩; rw [hR, hG])
      go_round
      case rel => exact ⟨32, 4294967296, G', _, .inr (.inr (.inr (.inr (.inl ⟨rfl, rfl⟩)))), rfl, rfl, rfl, HN.out⟩
      case measure => simp [intOf]
    · obtain ⟨hN, s0, s1⟩ := Inv.step (by decide) HI.out
      have hr : 0 ≤ adcV (a0 / 4294967296 % 256) (a1 / 4294967296 % 256) G ∧ adcV (a0 / 4294967296 % 256) (a1 / 4294967296 % 256) G ≤ 255 := by
        rw [(adc_bin _ _ G HI.out.2.2.1).1]; omega
      generalize hR : adcV (a0 / 4294967296 % 256) (a1 / 4294967296 % 256) G = R at *
      generalize hG : adcF (a0 / 4294967296 % 256) (a1 / 4294967296 % 256) G = G' at *
      have HN : Hid _ := hN
      clear hN HI
      have ho := or_high s R 4294967296 32 rfl s0 s1 hr.1 (by omega)
      obtain ⟨r0, r1⟩ := hr
      go_wp2_with (go_at_call 12; refine (adc_any _ _ _ _ (by omega) (by omega) (by omega) (by omega)).mono ?_; rintro e w' ⟨rfl, rfl⟩; rw [hR, hG])
      go_round
      case rel => exact ⟨40, 1099511627776, G', _, .inr (.inr (.inr (.inr (.inr (.inl ⟨rfl, rfl⟩))))), rfl, rfl, rfl, HN.out⟩
      case measure => simp [intOf]
    · obtain ⟨hN, s0, s1⟩ := Inv.step (by decide) HI.out
      have hr : 0 ≤ adcV (a0 / 1099511627776 % 256) (a1 / 1099511627776 % 256) G ∧ adcV (a0 / 1099511627776 % 256) (a1 / 1099511627776 % 256) G ≤ 255 := by
        rw [(adc_bin _ _ G HI.out.2.2.1).1]; omega
      generalize hR : adcV (a0 / 1099511627776 % 256) (a1 / 1099511627776 % 256) G = R at *
      generalize hG : adcF (a0 / 1099511627776 % 256) (a1 / 1099511627776 % 256) G = G' at *
      have HN : Hid _ := hN
      clear hN HI
      have ho := or_high s R 1099511627776 40 rfl s0 s1 hr.1 (by omega)
      obtain ⟨r0, r1⟩ := hr
      go_wp2_with (go_at_call 12; refine (adc_any _ _ _ _ (by omega) (by omega) (by omega) (by omega)).mono ?_; rintro e w' ⟨rfl, rfl⟩; rw [hR, hG])
      go_round
      case rel => exact ⟨48, 281474976710656, G', _, .inr (.inr (.inr (.inr (.inr (.inr (.inl ⟨rfl, rfl⟩)))))), rfl, rfl, rfl, HN.out⟩
      case measure => simp [intOf]
    · obtain ⟨hN, s0, s1⟩ := Inv.step (by decide) HI.out
      have hr : 0 ≤ adcV (a0 / 281474976710656 % 256) (a1 / 281474976710656 % 256) G ∧ adcV (a0 / 281474976710656 % 256) (a1 / 281474976710656 % 256) G ≤ 255 := by
        rw [(adc_bin _ _ G HI.out.2.2.1).1]; omega
      generalize hR : adcV (a0 / 281474976710656 % 256) (a1 / 281474976710656 % 256) G = R at *
      generalize hG : adcF (a0 / 281474976710656 % 256) (a1 / 281474976710656 % 256) G = G' at *
      have HN : Hid _ := hN
      clear hN HI
      have ho := or_high s R 281474976710656 48 rfl s0 s1 hr.1 (by omega)
      obtain ⟨r0, r1⟩ := hr
      go_wp2_with (go_at_call 12; refine (adc_any _ _ _ _ (by omega) (by omega) (by omega) (by omega)).mono ?_; rintro e w' ⟨rfl, rfl⟩; rw [hR, hG])
      go_round
      case rel => exact ⟨56, 72057594037927936, G', _, .inr (.inr (.inr (.inr (.inr (.inr (.inr (.inl ⟨rfl, rfl⟩))))))), rfl, rfl, rfl, HN.out⟩
      case measure => simp [intOf]
    · obtain ⟨hN, s0, s1⟩ := Inv.step (by decide) HI.out
      have hr : 0 ≤ adcV (a0 / 72057594037927936 % 256) (a1 / 72057594037927936 % 256) G ∧ adcV (a0 / 72057594037927936 % 256) (a1 / 72057594037927936 % 256) G ≤ 255 := by
        rw [(adc_bin _ _ G HI.out.2.2.1).1]; omega
      rw [show a0 / 72057594037927936 % 256 = a0 / 72057594037927936 by omega, show a1 / 72057594037927936 % 256 = a1 / 72057594037927936 by omega] at hN hr
      generalize hR : adcV (a0 / 72057594037927936) (a1 / 72057594037927936) G = R at *
      generalize hG : adcF (a0 / 72057594037927936) (a1 / 72057594037927936) G = G' at *
      have HN : Hid _ := hN
      clear hN HI
      have ho := or_high s R 72057594037927936 56 rfl s0 s1 hr.1 (by omega)
      obtain ⟨r0, r1⟩ := hr
      go_wp2_with (go_at_call 12; refine (adc_any _ _ _ _ (by omega) (by omega) (by omega) (by omega)).mono ?_; rintro e w' ⟨rfl, rfl⟩; rw [hR, hG])
      go_round
      case rel => exact ⟨64, 18446744073709551616, G', _, .inr (.inr (.inr (.inr (.inr (.inr (.inr (.inr (⟨rfl, rfl⟩)))))))), rfl, rfl, rfl, HN.out⟩
      case measure => simp [intOf]
    · obtain ⟨f1, f2, f3, f4⟩ := Inv.last x0 x1 y0 y1 HI.out
      subst f1
      clear HI
      have hw := IntKind.wrap_u64 (a0 + a1)
      have z0 : 0 ≤ (a0 + a1) % 18446744073709551616 ∧ (a0 + a1) % 18446744073709551616 ≤ 18446744073709551615 := by omega
      cases hxy : (a0 / 9223372036854775808 == a1 / 9223372036854775808)
      all_goals
        rw [hxy] at f3
        simp only [Bool.true_and, Bool.false_and] at f3
        go_wp2_with (first
          | (go_at_call 11; refine (with_any _ _ _ _).mono ?_; rintro e w' ⟨rfl, rfl⟩)
          | (go_at_call 10; refine (has_any _ _ _).mono ?_; rintro e w' ⟨rfl, rfl⟩))
        go_loop [0, 1, 7, 11, 13] (fun x y q z i => ∃ (k : Nat) (X Y : Int) (G : Fl), k ≤ 8 ∧ i = .int .i64 k ∧ x = .int .u64 X ∧ y = .int .u64 Y ∧ q = .int .u8 (G.val : Nat) ∧ z = .int .u64 (X + Y + ci G.c) ∧ 0 ≤ X ∧ X < pw k ∧ 0 ≤ Y ∧ Y < pw k ∧ G.d = true) (fun _ _ _ _ i => (8 - intOf i).toNat)
        case atStart => exact ⟨0, _, _, withF F false true, by omega, rfl, rfl, rfl, rfl, by simp [withF, ci], by omega, by rw [show pw 0 = 10000000000000000 from rfl]; omega, by omega, by rw [show pw 0 = 10000000000000000 from rfl]; omega, rfl⟩
        case round =>
          clear f2 f3 f4 hxy hw z0
          obtain ⟨k, X, Y, G, hk, rfl, rfl, rfl, rfl, rfl, X0, X1, Y0, Y1, hd⟩ := hrel
          by_cases hk8 : k = 8
          · subst hk8
            rw [show pw 8 = 1 from rfl] at X1 Y1
            obtain rfl : X = 0 := by omega
            obtain rfl : Y = 0 := by omega
            cases hc : G.c
            all_goals
              go_wp2_with (go_at_call 10; refine (has_any _ _ _).mono ?_; rintro e w' ⟨rfl, rfl⟩)
              go_ret
              exact ⟨rfl, Grown.refl _⟩
          · have hl := pw_le k hk
            have hb := ci_bd G.c
            have hz : (X + Y + ci G.c) % 100 = (X % 100 + Y % 100 + ci G.c) % 100 := by omega
            have X2 := pw_lt (by omega) X1
            have Y2 := pw_lt (by omega) Y1
            have HX : Hid _ := And.intro X2 Y2
            have X3 : X < 10000000000000000 := by omega
            have Y3 : Y < 10000000000000000 := by omega
            have hlt : (k : Int) < 8 := by omega
            clear hl X1 Y1 X2 Y2 hk8
            go_wp2_with (first
              | (go_at_call 13; refine (digits_any _ _ (by omega) (by omega)).mono ?_; rintro e w' ⟨rfl, rfl⟩)
              | (go_at_call 12; refine (adc_dec _ _ _ _ (by omega) (by omega) (by omega) (by omega) hd).mono ?_; rintro e w' ⟨G', g1, g2, rfl, rfl⟩))
            go_round
            case rel => exact ⟨k + 1, X / 100, Y / 100, G', by omega, by go_num, rfl, rfl, rfl, congrArg (Value.int .u64) (by rw [g1]; exact carry100 X Y _ hb.1 hb.2), by omega, HX.out.1, by omega, HX.out.2, g2⟩
            case measure => simp [intOf]; omega
end Go.Proofs.Ytnckbgeajdloiaa
