/-
  The laws AluDecimalAdds and AluDecimalTakes return true, whatever the bytes and truth values.
-/
import Derived.Test.YtnckbgeajdloiaaAHelp
namespace Go.Proofs.Ytnckbgeajdloiaa
open Go.RowKit
theorem wf8 {n : Int} (h : (Lit.int .u8 n).wf = true) : 0 ≤ n ∧ n ≤ 255 := by
  simp [Lit.wf, IntKind.min, IntKind.max, IntKind.signed, IntKind.bits] at h
  omega
theorem adc_dec (x y : Int) (F : Fl) (w : World) (x0 : 0 ≤ x) (x1 : x ≤ 99) (y0 : 0 ≤ y) (y1 : y ≤ 99) (hd : F.d = true) :
    Calls Try.prog 12 #[.int .u8 (dg x), .int .u8 (dg y), .int .u8 (F.val : Nat)] w fun e w' => ∃ G : Fl, G.c = decide (100 ≤ x + y + ci F.c) ∧ G.d = true ∧ e = .returned (.tuple #[.int .u8 (dg ((x + y + ci F.c) % 100)), .int .u8 (G.val : Nat)]) ∧ w' = w := by
  obtain ⟨h1, h2, h3⟩ := dec_add x y F x0 x1 y0 y1 hd
  have bx := dg_bd x x0 x1
  have bY := dg_bd y y0 y1
  refine (adc_any (dg x) (dg y) F w bx.1 (by omega) bY.1 (by omega)).mono ?_
  rintro e w' ⟨rfl, rfl⟩
  exact ⟨_, h2, h3, by rw [h1], rfl⟩
theorem sbc_dec (x y : Int) (F : Fl) (w : World) (x0 : 0 ≤ x) (x1 : x ≤ 99) (y0 : 0 ≤ y) (y1 : y ≤ 99) (hd : F.d = true) :
    Calls Try.prog 14 #[.int .u8 (dg x), .int .u8 (dg y), .int .u8 (F.val : Nat)] w fun e w' => ∃ G : Fl, G.c = decide (0 ≤ x - y - 1 + ci F.c) ∧ G.d = true ∧ e = .returned (.tuple #[.int .u8 (dg ((x - y - 1 + ci F.c + 100) % 100)), .int .u8 (G.val : Nat)]) ∧ w' = w := by
  obtain ⟨h1, h2, h3⟩ := dec_sub x y F x0 x1 y0 y1 hd
  have bx := dg_bd x x0 x1
  have bY := dg_bd y y0 y1
  refine (sbc_any (dg x) (dg y) F w bx.1 (by omega) bY.1 (by omega)).mono ?_
  rintro e w' ⟨rfl, rfl⟩
  exact ⟨_, h2, h3, by rw [h1, show (x - y - 1 + ci F.c + 100) % 100 = (x - y - 1 + ci F.c) % 100 by omega], rfl⟩
theorem law_aluDecimalAdds (a0 a1 a2 : Int) (a3 : Bool) (w0 : (Lit.int .u8 a0).wf = true) (w1 : (Lit.int .u8 a1).wf = true) (w2 : (Lit.int .u8 a2).wf = true) (w : World) :
    Calls Try.prog 6 #[.int .u8 a0, .int .u8 a1, .int .u8 a2, .bool a3] w fun e w' => e = .returned (.bool true) ∧ Grown w w' := by
  obtain ⟨n0, n1⟩ := wf8 w0
  obtain ⟨m0, m1⟩ := wf8 w1
  obtain ⟨F, rfl⟩ := Fl.ofInt a2 (wf8 w2).1 (wf8 w2).2
  clear w0 w1 w2
  have hc := ci_bd a3
  have gc := gt_c
  have gd := gt_d
  have k1 : (withF F a3 true).c = a3 := rfl
  have k2 : (withF F a3 true).d = true := rfl
  generalize hG : withF F a3 true = G at k1 k2
  go_enter Try.func6, Try.ntmps6
  go_wp2_with (first
    | (go_at_call 13; refine (digits_any _ _ (by omega) (by omega)).mono ?_; rintro e w' ⟨rfl, rfl⟩)
    | (go_at_call 11; refine (with_any _ _ _ _).mono ?_; rintro e w' ⟨rfl, rfl⟩; rw [hG])
    | (go_at_call 15; refine (one_any _ _).mono ?_; rintro e w' ⟨rfl, rfl⟩)
    | (go_at_call 10; refine (has_any _ _ _).mono ?_; rintro e w' ⟨rfl, rfl⟩)
    | (go_at_call 12; refine (adc_dec _ _ _ _ (by omega) (by omega) (by omega) (by omega) k2).mono ?_; rintro e w' ⟨G', g1, g2, rfl, rfl⟩; rw [k1] at g1 ⊢))
  go_ret
  exact ⟨rfl, Grown.refl _⟩
theorem law_aluDecimalTakes (a0 a1 a2 : Int) (a3 : Bool) (w0 : (Lit.int .u8 a0).wf = true) (w1 : (Lit.int .u8 a1).wf = true) (w2 : (Lit.int .u8 a2).wf = true) (w : World) :
    Calls Try.prog 7 #[.int .u8 a0, .int .u8 a1, .int .u8 a2, .bool a3] w fun e w' => e = .returned (.bool true) ∧ Grown w w' := by
  obtain ⟨n0, n1⟩ := wf8 w0
  obtain ⟨m0, m1⟩ := wf8 w1
  obtain ⟨F, rfl⟩ := Fl.ofInt a2 (wf8 w2).1 (wf8 w2).2
  clear w0 w1 w2
  have hc := ci_bd a3
  have gc := gt_c
  have gd := gt_d
  have k1 : (withF F a3 true).c = a3 := rfl
  have k2 : (withF F a3 true).d = true := rfl
  generalize hG : withF F a3 true = G at k1 k2
  go_enter Try.func7, Try.ntmps7
  go_wp2_with (first
    | (go_at_call 13; refine (digits_any _ _ (by omega) (by omega)).mono ?_; rintro e w' ⟨rfl, rfl⟩)
    | (go_at_call 11; refine (with_any _ _ _ _).mono ?_; rintro e w' ⟨rfl, rfl⟩; rw [hG])
    | (go_at_call 15; refine (one_any _ _).mono ?_; rintro e w' ⟨rfl, rfl⟩)
    | (go_at_call 10; refine (has_any _ _ _).mono ?_; rintro e w' ⟨rfl, rfl⟩)
    | (go_at_call 14; refine (sbc_dec _ _ _ _ (by omega) (by omega) (by omega) (by omega) k2).mono ?_; rintro e w' ⟨G', g1, g2, rfl, rfl⟩; rw [k1] at g1 ⊢))
  go_ret
  exact ⟨rfl, Grown.refl _⟩
end Go.Proofs.Ytnckbgeajdloiaa
