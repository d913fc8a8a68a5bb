/-
  The law AluLongTakes returns true for every two numbers and every P: the walk.
-/
import Derived.Test.YtnckbgeajdloiaaALong2
namespace Go.Proofs.Ytnckbgeajdloiaa
open Go.RowKit
set_option maxHeartbeats 4000000 in
theorem law_aluLongTakes (a0 a1 a2 : Int) (w0 : (Lit.int .u64 a0).wf = true) (w1 : (Lit.int .u64 a1).wf = true) (w2 : (Lit.int .u8 a2).wf = true) (w : World) :
    Calls Try.prog 5 #[.int .u64 a0, .int .u64 a1, .int .u8 a2] w fun e w' => e = .returned (.bool true) ∧ Grown w w' := by
  obtain ⟨x0, x1⟩ := wf64 w0
  obtain ⟨y0, y1⟩ := wf64 w1
  obtain ⟨F, rfl⟩ := Fl.ofInt a2 (wf8 w2).1 (wf8 w2).2
  clear w0 w1 w2
  have gc := gt_c
  have gv := gt_v
  have gn := gt_n
  go_enter Try.func5, Try.ntmps5
  go_wp2_with (go_at_call 11; refine (with_any _ _ _ _).mono ?_; rintro e w' ⟨rfl, rfl⟩)
  go_loop [7, 8, 9] (fun q sum i => ∃ (k P : Int) (G : Fl) (s : Int), PW k P ∧ i = .int .i64 k ∧ sum = .int .u64 s ∧ q = .int .u8 (G.val : Nat) ∧ Hid (InvS P G a0 a1 s)) (fun _ _ i => (64 - intOf i).toNat)
  case atStart => exact ⟨0, 1, withF F true false, 0, .inl ⟨rfl, rfl⟩, rfl, rfl, rfl, InvS.start _ _ _ rfl rfl⟩
  case round =>
    obtain ⟨k, P, G, s, hPW, rfl, rfl, rfl, HI⟩ := hrel
    rcases hPW with ⟨rfl, rfl⟩ | ⟨rfl, rfl⟩ | ⟨rfl, rfl⟩ | ⟨rfl, rfl⟩ | ⟨rfl, rfl⟩ | ⟨rfl, rfl⟩ | ⟨rfl, rfl⟩ | ⟨rfl, rfl⟩ | ⟨rfl, rfl⟩
    · obtain ⟨hN, s0, s1⟩ := InvS.step (by decide) HI.out
      have hr : 0 ≤ sbcV (a0 / 1 % 256) (a1 / 1 % 256) G ∧ sbcV (a0 / 1 % 256) (a1 / 1 % 256) G ≤ 255 := by
        rw [(sbc_bin _ _ G HI.out.2.2.1).1]; omega
      simp only [Int.ediv_one, Int.mul_one] at hN hr
      generalize hR : sbcV (a0 % 256) (a1 % 256) G = R at *
      generalize hG : sbcF (a0 % 256) (a1 % 256) G = G' at *
      have HN : Hid _ := hN
      clear hN HI
      have ho := or_high s R 1 0 rfl s0 s1 hr.1 (by omega)
      rw [Int.mul_one] at ho
      obtain ⟨r0, r1⟩ := hr
      go_wp2_with (go_at_call 14; refine (sbc_any _ _ _ _ (by omega) (by omega) (by omega) (by omega)).mono ?_; rintro e w' ⟨rfl, rfl⟩; rw [hR, hG])
      go_round
      case rel => exact ⟨8, 256, G', _, .inr (.inl ⟨rfl, rfl⟩), rfl, rfl, rfl, HN.out⟩
      case measure => simp [intOf]
    · obtain ⟨hN, s0, s1⟩ := InvS.step (by decide) HI.out
      have hr : 0 ≤ sbcV (a0 / 256 % 256) (a1 / 256 % 256) G ∧ sbcV (a0 / 256 % 256) (a1 / 256 % 256) G ≤ 255 := by
        rw [(sbc_bin _ _ G HI.out.2.2.1).1]; omega
      generalize hR : sbcV (a0 / 256 % 256) (a1 / 256 % 256) G = R at *
      generalize hG : sbcF (a0 / 256 % 256) (a1 / 256 % 256) G = G' at *
      have HN : Hid _ := hN
      clear hN HI
      have ho := or_high s R 256 8 rfl s0 s1 hr.1 (by omega)
      obtain ⟨r0, r1⟩ := hr
      go_wp2_with (go_at_call 14; refine (sbc_any _ _ _ _ (by omega) (by omega) (by omega) (by omega)).mono ?_; rintro e w' ⟨rfl, rfl⟩; rw [hR, hG])
      go_round
      case rel => exact ⟨16, 65536, G', _, .inr (.inr (.inl ⟨rfl, rfl⟩)), rfl, rfl, rfl, HN.out⟩
      case measure => simp [intOf]
    · obtain ⟨hN, s0, s1⟩ := InvS.step (by decide) HI.out
      have hr : 0 ≤ sbcV (a0 / 65536 % 256) (a1 / 65536 % 256) G ∧ sbcV (a0 / 65536 % 256) (a1 / 65536 % 256) G ≤ 255 := by
        rw [(sbc_bin _ _ G HI.out.2.2.1).1]; omega
      generalize hR : sbcV (a0 / 65536 % 256) (a1 / 65536 % 256) G = R at *
      generalize hG : sbcF (a0 / 65536 % 256) (a1 / 65536 % 256) G = G' at *
      have HN : Hid _ := hN
      clear hN HI
      have ho := or_high s R 65536 16 rfl s0 s1 hr.1 (by omega)
      obtain ⟨r0, r1⟩ := hr
      go_wp2_with (go_at_call 14; refine (sbc_any _ _ _ _ (by omega) (by omega) (by omega) (by omega)).mono ?_; rintro e w' ⟨rfl, rfl⟩; rw [hR, hG])
      go_round
      case rel => exact ⟨24, 16777216, G', _, .inr (.inr (.inr (.inl ⟨rfl, rfl⟩))), rfl, rfl, rfl, HN.out⟩
      case measure => simp [intOf]
    · obtain ⟨hN, s0, s1⟩ := InvS.step (by decide) HI.out
      have hr : 0 ≤ sbcV (a0 / 16777216 % 256) (a1 / 16777216 % 256) G ∧ sbcV (a0 / 16777216 % 256) (a1 / 16777216 % 256) G ≤ 255 := by
        rw [(sbc_bin _ _ G HI.out.2.2.1).1]; omega
      generalize hR : sbcV (a0 / 16777216 % 256) (a1 / 16777216 % 256) G = R at *
      generalize hG : sbcF (a0 / 16777216 % 256) (a1 / 16777216 % 256) G = G' at *
      have HN : Hid _ := hN
      clear hN HI
      have ho := or_high s R 16777216 24 rfl s0 s1 hr.1 (by omega)
      obtain ⟨r0, r1⟩ := hr
      go_wp2_with (go_at_call 14; refine (sbc_any _ _ _ _ (by omega) (by omega) (by omega) (by omega)).mono ?_; rintro e w' ⟨rfl, rfl⟩; rw [hR, hG])
      go_round
      case rel => exact ⟨32, 4294967296, G', _, .inr (.inr (.inr (.inr (.inl ⟨rfl, rfl⟩)))), rfl, rfl, rfl, HN.out⟩
      case measure => simp [intOf]
    · obtain ⟨hN, s0, s1⟩ := InvS.step (by decide) HI.out
      have hr : 0 ≤ sbcV (a0 / 4294967296 % 256) (a1 / 4294967296 % 256) G ∧ sbcV (a0 / 4294967296 % 256) (a1 / 4294967296 % 256) G ≤ 255 := by
        rw [(sbc_bin _ _ G HI.out.2.2.1).1]; omega
      generalize hR : sbcV (a0 / 4294967296 % 256) (a1 / 4294967296 % 256) G = R at *
      generalize hG : sbcF (a0 / 4294967296 % 256) (a1 / 4294967296 % 256) G = G' at *
      have HN : Hid _ := hN
      clear hN HI
      have ho := or_high s R 4294967296 32 rfl s0 s1 hr.1 (by omega)
      obtain ⟨r0, r1⟩ := hr
      go_wp2_with (go_at_call 14; refine (sbc_any _ _ _ _ (by omega) (by omega) (by omega) (by omega)).mono ?_; rintro e w' ⟨rfl, rfl⟩; rw [hR, hG])
      go_round
      case rel => exact ⟨40, 1099511627776, G', _, .inr (.inr (.inr (.inr (.inr (.inl ⟨rfl, rfl⟩))))), rfl, rfl, rfl, HN.out⟩
      case measure => simp [intOf]
    · obtain ⟨hN, s0, s1⟩ := InvS.step (by decide) HI.out
      have hr : 0 ≤ sbcV (a0 / 1099511627776 % 256) (a1 / 1099511627776 % 256) G ∧ sbcV (a0 / 1099511627776 % 256) (a1 / 1099511627776 % 256) G ≤ 255 := by
        rw [(sbc_bin _ _ G HI.out.2.2.1).1]; omega
      generalize hR : sbcV (a0 / 1099511627776 % 256) (a1 / 1099511627776 % 256) G = R at *
      generalize hG : sbcF (a0 / 1099511627776 % 256) (a1 / 1099511627776 % 256) G = G' at *
      have HN : Hid _ := hN
      clear hN HI
      have ho := or_high s R 1099511627776 40 rfl s0 s1 hr.1 (by omega)
      obtain ⟨r0, r1⟩ := hr
      go_wp2_with (go_at_call 14; refine (sbc_any _ _ _ _ (by omega) (by omega) (by omega) (by omega)).mono ?_; rintro e w' ⟨rfl, rfl⟩; rw [hR, hG])
      go_round
      case rel => exact ⟨48, 281474976710656, G', _, .inr (.inr (.inr (.inr (.inr (.inr (.inl ⟨rfl, rfl⟩)))))), rfl, rfl, rfl, HN.out⟩
      case measure => simp [intOf]
    · obtain ⟨hN, s0, s1⟩ := InvS.step (by decide) HI.out
      have hr : 0 ≤ sbcV (a0 / 281474976710656 % 256) (a1 / 281474976710656 % 256) G ∧ sbcV (a0 / 281474976710656 % 256) (a1 / 281474976710656 % 256) G ≤ 255 := by
        rw [(sbc_bin _ _ G HI.out.2.2.1).1]; omega
      generalize hR : sbcV (a0 / 281474976710656 % 256) (a1 / 281474976710656 % 256) G = R at *
      generalize hG : sbcF (a0 / 281474976710656 % 256) (a1 / 281474976710656 % 256) G = G' at *
      have HN : Hid _ := hN
      clear hN HI
      have ho := or_high s R 281474976710656 48 rfl s0 s1 hr.1 (by omega)
      obtain ⟨r0, r1⟩ := hr
      go_wp2_with (go_at_call 14; refine (sbc_any _ _ _ _ (by omega) (by omega) (by omega) (by omega)).mono ?_; rintro e w' ⟨rfl, rfl⟩; rw [hR, hG])
      go_round
      case rel => exact ⟨56, 72057594037927936, G', _, .inr (.inr (.inr (.inr (.inr (.inr (.inr (.inl ⟨rfl, rfl⟩))))))), rfl, rfl, rfl, HN.out⟩
      case measure => simp [intOf]
    · obtain ⟨hN, s0, s1⟩ := InvS.step (by decide) HI.out
      have hr : 0 ≤ sbcV (a0 / 72057594037927936 % 256) (a1 / 72057594037927936 % 256) G ∧ sbcV (a0 / 72057594037927936 % 256) (a1 / 72057594037927936 % 256) G ≤ 255 := by
        rw [(sbc_bin _ _ G HI.out.2.2.1).1]; omega
      rw [show a0 / 72057594037927936 % 256 = a0 / 72057594037927936 by omega, show a1 / 72057594037927936 % 256 = a1 / 72057594037927936 by omega] at hN hr
      generalize hR : sbcV (a0 / 72057594037927936) (a1 / 72057594037927936) G = R at *
      generalize hG : sbcF (a0 / 72057594037927936) (a1 / 72057594037927936) G = G' at *
      have HN : Hid _ := hN
      clear hN HI
      have ho := or_high s R 72057594037927936 56 rfl s0 s1 hr.1 (by omega)
      obtain ⟨r0, r1⟩ := hr
      go_wp2_with (go_at_call 14; refine (sbc_any _ _ _ _ (by omega) (by omega) (by omega) (by omega)).mono ?_; rintro e w' ⟨rfl, rfl⟩; rw [hR, hG])
      go_round
      case rel => exact ⟨64, 18446744073709551616, G', _, .inr (.inr (.inr (.inr (.inr (.inr (.inr (.inr (⟨rfl, rfl⟩)))))))), rfl, rfl, rfl, HN.out⟩
      case measure => simp [intOf]
    · obtain ⟨f1, f2, f3, f4⟩ := InvS.last x0 x1 y0 y1 HI.out
      subst f1
      clear HI
      have hw := IntKind.wrap_u64 (a0 - a1)
      have z0 : 0 ≤ (a0 - a1) % 18446744073709551616 ∧ (a0 - a1) % 18446744073709551616 ≤ 18446744073709551615 := by omega
      cases hxy : (a0 / 9223372036854775808 == a1 / 9223372036854775808)
      all_goals
        rw [hxy] at f3
        simp only [Bool.true_and, Bool.false_and, Bool.not_true, Bool.not_false] at f3
        have hxy' : (a0 / 9223372036854775808 != a1 / 9223372036854775808) = !(a0 / 9223372036854775808 == a1 / 9223372036854775808) := rfl
        rw [hxy] at hxy'
        simp only [Bool.not_true, Bool.not_false] at hxy'
        go_wp2_with (first
          | (go_at_call 11; refine (with_any _ _ _ _).mono ?_; rintro e w' ⟨rfl, rfl⟩)
          | (go_at_call 10; refine (has_any _ _ _).mono ?_; rintro e w' ⟨rfl, rfl⟩))
        go_loop [0, 1, 7, 11, 14] (fun x y q z i => ∃ (k : Nat) (X Y Z : Int) (G : Fl), k ≤ 8 ∧ i = .int .i64 k ∧ x = .int .u64 X ∧ y = .int .u64 Y ∧ q = .int .u8 (G.val : Nat) ∧ z = .int .u64 Z ∧ Hid (Z = (X - Y - (1 - ci G.c)) % pw k) ∧ 0 ≤ X ∧ X < pw k ∧ 0 ≤ Y ∧ Y < pw k ∧ G.d = true ∧ Hid (decide (X - Y - (1 - ci G.c) < 0) = decide (a0 % 10000000000000000 < a1 % 10000000000000000))) (fun _ _ _ _ i => (8 - intOf i).toNat)
        case atStart => exact ⟨0, _, _, _, withF F true true, by omega, rfl, rfl, rfl, rfl, rfl, by unfold Hid; rw [show pw 0 = 10000000000000000 from rfl, show ci (withF F true true).c = 1 from rfl]; omega, by omega, by rw [show pw 0 = 10000000000000000 from rfl]; omega, by omega, by rw [show pw 0 = 10000000000000000 from rfl]; omega, rfl, decide_eq_decide.2 (by rw [show ci (withF F true true).c = 1 from rfl]; omega)⟩
        case round =>
          clear f2 f3 f4 hxy hxy' hw z0
          obtain ⟨k, X, Y, Z, G, hk, rfl, rfl, rfl, rfl, rfl, HZ, X0, X1, Y0, Y1, hd, HD⟩ := hrel
          by_cases hk8 : k = 8
          · subst hk8
            rw [show pw 8 = 1 from rfl] at X1 Y1
            obtain rfl : X = 0 := by omega
            obtain rfl : Y = 0 := by omega
            have hD := HD.out
            clear HZ HD
            cases hc : G.c
            all_goals
              rw [hc] at hD
              have HD : Hid _ := hD.symm
              clear hD
              go_wp2_with (go_at_call 10; refine (has_any _ _ _).mono ?_; rintro e w' ⟨rfl, rfl⟩)
              go_ret
              first
                | exact ⟨ret_bool (HD.out.trans (by decide)), Grown.refl _⟩
                | exact ⟨ret_bool ((congrArg not HD.out).trans (by decide)), Grown.refl _⟩
          · have hl := pw_le k hk
            have hb := ci_bd G.c
            have hs := pw_step k (by omega)
            have hm := mod_100 (X - Y - (1 - ci G.c)) (pw (k + 1)) (pw_pos _)
            have hZ := HZ.out
            rw [hs, hm] at hZ
            have hr0 : 0 ≤ (X - Y - (1 - ci G.c)) / 100 % pw (k + 1) := Int.emod_nonneg _ (Int.ne_of_gt (pw_pos _))
            have hr1 : (X - Y - (1 - ci G.c)) / 100 % pw (k + 1) < pw (k + 1) := Int.emod_lt_of_pos _ (pw_pos _)
            have hz : Z % 100 = (X % 100 - Y % 100 - 1 + ci G.c + 100) % 100 := by omega
            have hz1 : Z / 100 = (X - Y - (1 - ci G.c)) / 100 % pw (k + 1) := by omega
            have z0 : 0 ≤ Z := by omega
            have z1 : Z < 10000000000000000 := by omega
            have X2 := pw_lt (by omega) X1
            have Y2 := pw_lt (by omega) Y1
            have HX : Hid _ := And.intro X2 Y2
            have HZ1 : Hid _ := hz1
            have X3 : X < 10000000000000000 := by omega
            have Y3 : Y < 10000000000000000 := by omega
            have hlt : (k : Int) < 8 := by omega
            clear hl X1 Y1 X2 Y2 hk8 HZ hs hm hZ hr0 hr1 hz1
            go_wp2_with (first
              | (go_at_call 13; refine (digits_any _ _ (by omega) (by omega)).mono ?_; rintro e w' ⟨rfl, rfl⟩)
              | (go_at_call 14; refine (sbc_dec _ _ _ _ (by omega) (by omega) (by omega) (by omega) hd).mono ?_; rintro e w' ⟨G', g1, g2, rfl, rfl⟩))
            have hbb := borrow100 X Y (ci G.c) hb.1 hb.2
            rw [← g1] at hbb
            go_round
            case rel => exact ⟨k + 1, X / 100, Y / 100, Z / 100, G', by omega, by go_num, rfl, rfl, rfl, rfl, by unfold Hid; rw [HZ1.out, hbb], by omega, HX.out.1, by omega, HX.out.2, g2, (decide_eq_decide.2 (by rw [← hbb]; omega)).trans HD.out⟩
            case measure => simp [intOf]; omega
end Go.Proofs.Ytnckbgeajdloiaa
