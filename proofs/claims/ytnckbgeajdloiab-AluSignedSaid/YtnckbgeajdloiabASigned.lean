/-
  The law AluSigned returns true for every three bytes and truth value.
-/
import Derived.Test.YtnckbgeajdloiabAHas
import Derived.Test.YtnckbgeajdloiabACmp
namespace Go.Proofs.Ytnckbgeajdloiab
open Go.RowKit
theorem wf8 {n : Int} (h : (Lit.int .u8 n).wf = true) : 0 ≤ n ∧ n ≤ 255 := by
  simp [Lit.wf, IntKind.min, IntKind.max, IntKind.signed, IntKind.bits] at h
  omega
theorem ret_bool {a b : Bool} (h : a = b) : Ending.returned (.bool a) = .returned (.bool b) := by rw [h]
theorem i64_and255 (n : Int) : bits .and .i64 n 255 = n % 256 := by
  have h : (BitVec.ofInt 64 255).toNat = 2 ^ 8 - 1 := by decide
  have key : (BitVec.ofInt 64 n &&& BitVec.ofInt 64 255).toNat = (n % ((2 ^ 64 : Nat) : Int)).toNat % 2 ^ 8 := by
    rw [BitVec.toNat_and, BitVec.toNat_ofInt, h, Nat.and_two_pow_sub_one_eq_mod]
  show IntKind.i64.wrap ((BitVec.ofInt 64 n &&& BitVec.ofInt 64 255).toNat : Nat) = n % 256
  rw [key, IntKind.wrap_i64]
  omega
/-- A byte with its sign. -/
def sg (v : Int) : Int := if 128 ≤ v then v - 256 else v
theorem sg_bd (v : Int) (h0 : 0 ≤ v) (h1 : v ≤ 255) : -128 ≤ sg v ∧ sg v ≤ 127 := by unfold sg; omega
theorem signed_any (v : Int) (w : World) (h0 : 0 ≤ v) (h1 : v ≤ 255) :
    Calls Try.prog 7 #[.int .u8 v] w fun e w' => e = .returned (.int .i64 (sg v)) ∧ w' = w := by
  by_cases h : 128 ≤ v
  all_goals
    have E : Hid (sg v = if 128 ≤ v then v - 256 else v) := rfl
    simp only [h, if_true, if_false] at E
    go_enter Try.func7, Try.ntmps7
    go_wp2
    go_ret
    exact ⟨congrArg (fun x => Ending.returned (.int .i64 x)) E.out.symm, rfl⟩
/-- The flags N, Z, C alone; the others alone. -/
theorem and_131 (F : Fl) : F.val &&& 131 = ({ n := F.n, v := false, u := false, b := false, d := false, i := false, z := F.z, c := F.c } : Fl).val := by
  obtain ⟨n, v, u, b, d, i, z, c⟩ := F
  revert n v u b d i z c
  decide +kernel
theorem andNot_131 (F : Fl) : F.val &&& (255 - 131) = ({ n := false, v := F.v, u := F.u, b := F.b, d := F.d, i := F.i, z := false, c := false } : Fl).val := by
  obtain ⟨n, v, u, b, d, i, z, c⟩ := F
  revert n v u b d i z c
  decide +kernel
theorem adc_sg (a m : Int) (F : Fl) (w : World) (a0 : 0 ≤ a) (a1 : a ≤ 255) (m0 : 0 ≤ m) (m1 : m ≤ 255) (hd : F.d = false) :
    Calls Try.prog 5 #[.int .u8 a, .int .u8 m, .int .u8 (F.val : Nat)] w fun e w' => ∃ G : Fl, G.v = (decide (sg a + sg m + ci F.c < -128) || decide (127 < sg a + sg m + ci F.c)) ∧ e = .returned (.tuple #[.int .u8 ((sg a + sg m + ci F.c) % 256), .int .u8 (G.val : Nat)]) ∧ w' = w := by
  refine (adc_any a m F w a0 a1 m0 m1).mono ?_
  rintro e w' ⟨rfl, rfl⟩
  have e1 : adcV a m F = (a + m + ci F.c) % 256 := by simp [adcV, hd]
  have e2 : adcF a m F = adcB a m F := by simp [adcF, hd]
  have hb := ci_bd F.c
  refine ⟨adcF a m F, ?_, two8 ?_ rfl, rfl⟩
  · rw [e2]
    show lv a m ((a + m + ci F.c) % 256) = _
    rw [Bool.eq_iff_iff]
    simp only [lv, Bool.and_eq_true, bne_iff_ne, ne_eq, decide_eq_decide, Bool.or_eq_true, decide_eq_true_eq]
    unfold sg
    omega
  · rw [e1]
    unfold sg
    omega
/-- What a subtraction with C set ahead says besides. -/
structure Less (a m : Int) (F G : Fl) : Prop where
  nv : (G.n == G.v) = !decide (sg a < sg m)
  z : G.z = (a == m)
  c : G.c = decide (m ≤ a)
  k : bits .and .u8 (G.val : Nat) 131 = bits .and .u8 ((nzF ((a - m) % 256) (F.put 1 (decide (m ≤ a)))).val : Nat) 131
theorem sbc_sg (a m : Int) (F F0 : Fl) (w : World) (a0 : 0 ≤ a) (a1 : a ≤ 255) (m0 : 0 ≤ m) (m1 : m ≤ 255) (hd : F.d = false) :
    Calls Try.prog 10 #[.int .u8 a, .int .u8 m, .int .u8 (F.val : Nat)] w fun e w' => ∃ G : Fl, G.v = (decide (sg a - sg m - 1 + ci F.c < -128) || decide (127 < sg a - sg m - 1 + ci F.c)) ∧ (F.c = true → Less a m F0 G) ∧ e = .returned (.tuple #[.int .u8 ((a - m - (1 - ci F.c)) % 256), .int .u8 (G.val : Nat)]) ∧ w' = w := by
  refine (sbc_any a m F w a0 a1 m0 m1).mono ?_
  rintro e w' ⟨rfl, rfl⟩
  have e1 : sbcV a m F = (a - m - (1 - ci F.c)) % 256 := by simp [sbcV, hd]
  have hb := ci_bd F.c
  have hv : (sbcF a m F).v = (decide (sg a - sg m - 1 + ci F.c < -128) || decide (127 < sg a - sg m - 1 + ci F.c)) := by
    show lv a (255 - m) ((a - m - (1 - ci F.c)) % 256) = _
    rw [Bool.eq_iff_iff]
    simp only [lv, Bool.and_eq_true, bne_iff_ne, ne_eq, decide_eq_decide, Bool.or_eq_true, decide_eq_true_eq]
    unfold sg
    omega
  refine ⟨sbcF a m F, hv, fun hc => ?_, two8 e1 rfl, rfl⟩
  have h1 : ci F.c = 1 := by rw [hc]; rfl
  have hn : (sbcF a m F).n = decide (128 ≤ (a - m) % 256) := by
    show decide (128 ≤ (a - m - (1 - ci F.c)) % 256) = _
    exact decide_eq_decide.2 (by omega)
  have hz : (sbcF a m F).z = ((a - m) % 256 == 0) := by
    show ((a - m - (1 - ci F.c)) % 256 == 0) = _
    rw [h1, show a - m - (1 - 1) = a - m by omega]
  have hcc : (sbcF a m F).c = decide (m ≤ a) := by
    show decide (0 ≤ a - m - (1 - ci F.c)) = _
    exact decide_eq_decide.2 (by omega)
  refine ⟨?_, ?_, hcc, ?_⟩
  · rw [hn, hv, Bool.eq_iff_iff]
    simp only [beq_iff_eq, Bool.not_eq_true', decide_eq_false_iff_not]
    rw [Bool.eq_iff_iff]
    simp only [Bool.or_eq_true, decide_eq_true_eq]
    unfold sg
    omega
  · rw [hz, Bool.eq_iff_iff, beq_iff_eq, beq_iff_eq]
    omega
  · refine (bits_and _ 131 (Fl.lt _) (by decide)).trans (.trans ?_ (bits_and _ 131 (Fl.lt _) (by decide)).symm)
    rw [and_131, and_131, hn, hz, hcc]
    rfl
theorem keep_131 (r : Int) (F : Fl) (on : Bool) : bits .andNot .u8 ((nzF r (F.put 1 on)).val : Nat) 131 = bits .andNot .u8 (F.val : Nat) 131 := by
  refine (bits_andNot _ 131 (Fl.lt _) (by decide)).trans (.trans ?_ (bits_andNot _ 131 (Fl.lt _) (by decide)).symm)
  rw [andNot_131, andNot_131]
  rfl
theorem three (s : Int) : (decide (s < -128) = true ∧ decide (127 < s) = false) ∨ (decide (s < -128) = false ∧ decide (127 < s) = true) ∨ (decide (s < -128) = false ∧ decide (127 < s) = false) := by
  simp only [decide_eq_true_eq, decide_eq_false_iff_not]
  omega
set_option maxHeartbeats 2000000 in
theorem law_aluSigned (a0 a1 a2 : Int) (a3 : Bool) (w0 : (Lit.int .u8 a0).wf = true) (w1 : (Lit.int .u8 a1).wf = true) (w2 : (Lit.int .u8 a2).wf = true) (w : World) :
    Calls Try.prog 3 #[.int .u8 a0, .int .u8 a1, .int .u8 a2, .bool a3] w fun e w' => e = .returned (.bool true) ∧ Grown w w' := by
  obtain ⟨n0, n1⟩ := wf8 w0
  obtain ⟨m0, m1⟩ := wf8 w1
  obtain ⟨F, rfl⟩ := Fl.ofInt a2 (wf8 w2).1 (wf8 w2).2
  clear w0 w1 w2
  have hc := ci_bd a3
  have gc := gt_c
  have gv := gt_v
  have gn := gt_n
  have gz := gt_z
  have ba := sg_bd a0 n0 n1
  have bm := sg_bd a1 m0 m1
  have h255 := i64_and255
  have k1 : (withF F a3 false).c = a3 := rfl
  have k2 : (withF F a3 false).d = false := rfl
  generalize hG : withF F a3 false = G at k1 k2
  have j1 : (withF F true false).c = true := rfl
  have j2 : (withF F true false).d = false := rfl
  generalize hH : withF F true false = H at j1 j2
  have hci : ci true = 1 := rfl
  have hkeep := keep_131 ((a0 - a1) % 256) F (decide (a1 ≤ a0))
  rcases three (sg a0 + sg a1 + ci a3) with ⟨e1, e2⟩ | ⟨e1, e2⟩ | ⟨e1, e2⟩
  all_goals
    rcases three (sg a0 - sg a1 - 1 + ci a3) with ⟨e3, e4⟩ | ⟨e3, e4⟩ | ⟨e3, e4⟩
    all_goals
      go_enter Try.func3, Try.ntmps3
      go_wp2_with (first
        | (go_at_call 6; refine (with_any _ _ _ _).mono ?_; rintro e w' ⟨rfl, rfl⟩; first | rw [hG] | rw [hH])
        | (go_at_call 8; refine (one_any _ _).mono ?_; rintro e w' ⟨rfl, rfl⟩)
        | (go_at_call 9; refine (has_any _ _ _).mono ?_; rintro e w' ⟨rfl, rfl⟩)
        | (go_at_call 7; refine (signed_any _ _ (by omega) (by omega)).mono ?_; rintro e w' ⟨rfl, rfl⟩)
        | (go_at_call 11; refine (cmp_any _ _ _ _).mono ?_; rintro e w' ⟨rfl, rfl⟩)
        | (go_at_call 5; refine (adc_sg _ _ _ _ (by omega) (by omega) (by omega) (by omega) (by assumption)).mono ?_; rintro e w' ⟨G', g1, rfl, rfl⟩; simp only [k1, e1, e2, Bool.or_true, Bool.or_false] at g1 ⊢)
        | (go_at_call 10; refine (sbc_sg _ _ _ F _ (by omega) (by omega) (by omega) (by omega) (by assumption)).mono ?_; rintro e w' ⟨G'', g2, g3, rfl, rfl⟩; first
            | (have q := g3 j1; obtain ⟨l1, l2, l3, l4⟩ := q; clear g3 g2; simp only [j1])
            | (simp only [k1, e3, e4, Bool.or_true, Bool.or_false] at g2 ⊢; clear g3)))
      go_ret
      exact ⟨rfl, Grown.refl _⟩
end Go.Proofs.Ytnckbgeajdloiab
