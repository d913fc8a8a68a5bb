/-
  The sequencer behind a write of 0, of 128 to its register: rounds of 29830 and of 37282 cycles.
-/
import Derived.Test.YtjacadiaafcckabDoorTNxt
import Derived.Test.YtjacadiaafcckabDoorTWrite
import Derived.Test.YtjacadiaafcckabDoorTAdv
set_option linter.unusedSimpArgs false
set_option linter.unusedVariables false
namespace Go.Proofs.YtjacadiaafcckabDoor
open Go.RowKit Classical
def zw (W : Int) : Ck := ⟨0, 0, 0, 0, 0, false, false, false, false, false, 0, W, 0⟩
def zf (W : Int) : Ck := ⟨0, 0, 0, 0, 0, false, false, true, false, false, 0, W, 0⟩
def mk4 (j l : Int) : Int := (if 7457 ≤ j then 1 else 0) + (if 14913 ≤ j then 1 else 0) + (if 22371 ≤ j then 1 else 0) + (if l ≤ j then 1 else 0)
theorem wr_zw (cy : Int) : zeroC.wr 16407 0 cy = zw (3 + cy % 2) := by
  have h : zeroC.wr 16407 0 cy = zeroC.seq 0 cy := by unfold Ck.wr; rw [if_neg (by rw [zero_valid]; decide), if_pos rfl]
  rw [h]
  unfold Ck.seq zw
  rcases Int.emod_two_eq cy with e | e
  · rw [e]; rfl
  · rw [e]; rfl
theorem wr_zf (cy : Int) : zeroC.wr 16407 128 cy = zf (3 + cy % 2) := by
  have h : zeroC.wr 16407 128 cy = zeroC.seq 128 cy := by unfold Ck.wr; rw [if_neg (by rw [zero_valid]; decide), if_pos rfl]
  rw [h]
  unfold Ck.seq zf
  rcases Int.emod_two_eq cy with e | e
  · rw [e]; rfl
  · rw [e]; rfl
theorem zw_ok {W : Int} (hW : W = 3 ∨ W = 4) : (zw W).Ok := by
  rcases hW with rfl | rfl <;> exact ⟨by decide, by decide, by decide, by decide, by decide, by decide, by decide, by decide⟩
theorem zf_ok {W : Int} (hW : W = 3 ∨ W = 4) : (zf W).Ok := by
  rcases hW with rfl | rfl <;> exact ⟨by decide, by decide, by decide, by decide, by decide, by decide, by decide, by decide⟩
theorem zw_valid {W : Int} (hW : W = 3 ∨ W = 4) : (zw W).valid = true := by rcases hW with rfl | rfl <;> decide
theorem zf_valid {W : Int} (hW : W = 3 ∨ W = 4) : (zf W).valid = true := by rcases hW with rfl | rfl <;> decide
theorem zw_nxt {W : Int} (hW : W = 3 ∨ W = 4) : (zw W).nxt = W + 29828 := by rcases hW with rfl | rfl <;> decide
theorem zw_nxt2 {W : Int} (hW : W = 3 ∨ W = 4) : ((zw W).adv (W - 1)).nxt = 29829 := by rcases hW with rfl | rfl <;> decide
theorem firstM_0 (R m : Int) (h : 1 ≤ m) : firstM R m 0 = m := by unfold firstM; rw [if_neg (by omega)]; omega
theorem cnt4 (k j : Int) (k0 : 0 ≤ k) (j0 : 0 ≤ j) (j1 : j < 29830) : cnt false 0 (k * 29830 + j) = 4 * k + mk4 j 29829 := by
  unfold cnt
  rw [firstM_0 _ _ (by decide), firstM_0 _ _ (by decide), firstM_0 _ _ (by decide), firstM_0 _ _ (by decide)]
  unfold times mk4
  simp only [rdL, lastM, Bool.false_eq_true, if_false]
  have e : ∀ m : Int, 1 ≤ m → m < 29830 → (if k * 29830 + j < m then 0 else 1 + (k * 29830 + j - m) / 29830) = k + (if m ≤ j then 1 else 0) := fun m h1 h2 => by
    split <;> split <;> omega
  rw [e 7457 (by decide) (by decide), e 14913 (by decide) (by decide), e 22371 (by decide) (by decide), e 29829 (by decide) (by decide)]
  omega
theorem cnt5 (k j : Int) (k0 : 0 ≤ k) (j0 : 0 ≤ j) (j1 : j < 37282) : cnt true 0 (k * 37282 + j) = 4 * k + mk4 j 37281 := by
  unfold cnt
  rw [firstM_0 _ _ (by decide), firstM_0 _ _ (by decide), firstM_0 _ _ (by decide), firstM_0 _ _ (by decide)]
  unfold times mk4
  simp only [rdL, lastM, if_true]
  have e : ∀ m : Int, 1 ≤ m → m < 37282 → (if k * 37282 + j < m then 0 else 1 + (k * 37282 + j - m) / 37282) = k + (if m ≤ j then 1 else 0) := fun m h1 h2 => by
    split <;> split <;> omega
  rw [e 7457 (by decide) (by decide), e 14913 (by decide) (by decide), e 22371 (by decide) (by decide), e 37281 (by decide) (by decide)]
  omega
theorem mk4_bd (j l : Int) : 0 ≤ mk4 j l ∧ mk4 j l ≤ 4 := by unfold mk4; split <;> split <;> split <;> split <;> omega
theorem zw_cnt {W : Int} (hW : W = 3 ∨ W = 4) : cnt false (plc false 0) W = 0 := by rcases hW with rfl | rfl <;> decide
theorem zf_cnt {W : Int} (hW : W = 3 ∨ W = 4) : cnt true (plc true 0) W = 0 := by rcases hW with rfl | rfl <;> decide
theorem zw_toF {W : Int} (hW : W = 3 ∨ W = 4) : (zw W).toF = W + 29828 := by rcases hW with rfl | rfl <;> decide
/-- The clock of the law TimerFrames. -/
def frC (k j : Int) : Ck := ⟨0, 0, 0, 0, 0, false, false, false, false, decide (1 ≤ k ∨ 29828 ≤ j), j, 0, (4 * k + mk4 j 29829) % 64⟩
def fvC (k j : Int) : Ck := ⟨0, 0, 0, 0, 0, false, false, true, false, false, j, 0, (1 + 4 * k + mk4 j 37281) % 64⟩
theorem zw_adv {W : Int} (hW : W = 3 ∨ W = 4) (k j : Int) (k0 : 0 ≤ k) (j0 : 0 ≤ j) (j1 : j < 29830) : (zw W).adv (W + k * 29830 + j) = frC k j := by
  have e1 : (zw W).adv (W + k * 29830 + j) = (zw W).advS (W + k * 29830 + j) := by
    unfold Ck.adv; rw [if_pos ⟨by omega, zw_valid hW⟩]; rfl
  rw [e1]
  have hw : (zw W).wait = W := rfl
  have sf : (zw W).sF (W + k * 29830 + j) = decide (1 ≤ k ∨ 29828 ≤ j) := by
    unfold Ck.sF
    rw [zw_toF hW]
    show (false || (true && decide _)) = _
    rw [Bool.false_or, Bool.true_and, decide_eq_decide]
    omega
  by_cases h : k * 29830 + j = 0
  · have hn : W + k * 29830 + j = (zw W).wait := by rw [hw]; omega
    rw [hn] at sf ⊢
    rw [advS_e (zw W) (by rw [hw]; omega), sf]
    have hk : k = 0 := by omega
    have hj : j = 0 := by omega
    subst hk hj
    unfold frC
    show (⟨0, 0, 0, 0, 0, false, false, false, false, _, 0, 0, wb false ((0 + cnt false (plc false 0) W) % 64)⟩ : Ck) = _
    rw [zw_cnt hW]
    rfl
  · rw [advS_g (zw W) _ (by rw [hw]; omega) (by rw [hw]; omega), sf]
    unfold frC
    show (⟨0, 0, 0, 0, 0, false, false, false, false, _, (W + k * 29830 + j - W) % 29830, 0, (wb false ((0 + cnt false (plc false 0) W) % 64) + cnt false 0 (W + k * 29830 + j - W)) % 64⟩ : Ck) = _
    rw [zw_cnt hW, show W + k * 29830 + j - W = k * 29830 + j by omega, cnt4 k j k0 j0 j1, show (k * 29830 + j) % 29830 = j by omega, show wb false ((0 + 0) % 64) = 0 from rfl, Int.zero_add]
theorem zf_adv {W : Int} (hW : W = 3 ∨ W = 4) (k j : Int) (k0 : 0 ≤ k) (j0 : 0 ≤ j) (j1 : j < 37282) : (zf W).adv (W + k * 37282 + j) = fvC k j := by
  have e1 : (zf W).adv (W + k * 37282 + j) = (zf W).advS (W + k * 37282 + j) := by
    unfold Ck.adv; rw [if_pos ⟨by omega, zf_valid hW⟩]; rfl
  rw [e1]
  have hw : (zf W).wait = W := rfl
  have sf : ∀ m, (zf W).sF m = false := fun m => rfl
  by_cases h : k * 37282 + j = 0
  · have hn : W + k * 37282 + j = (zf W).wait := by rw [hw]; omega
    rw [hn]
    rw [advS_e (zf W) (by rw [hw]; omega), sf]
    have hk : k = 0 := by omega
    have hj : j = 0 := by omega
    subst hk hj
    unfold fvC
    show (⟨0, 0, 0, 0, 0, false, false, true, false, _, 0, 0, wb true ((0 + cnt true (plc true 0) W) % 64)⟩ : Ck) = _
    rw [zf_cnt hW]
    rfl
  · rw [advS_g (zf W) _ (by rw [hw]; omega) (by rw [hw]; omega), sf]
    unfold fvC
    show (⟨0, 0, 0, 0, 0, false, false, true, false, _, (W + k * 37282 + j - W) % 37282, 0, (wb true ((0 + cnt true (plc true 0) W) % 64) + cnt true 0 (W + k * 37282 + j - W)) % 64⟩ : Ck) = _
    rw [zf_cnt hW, show W + k * 37282 + j - W = k * 37282 + j by omega, cnt5 k j k0 j0 j1, show (k * 37282 + j) % 37282 = j by omega, show wb true ((0 + 0) % 64) = 1 from rfl, Int.add_assoc]
theorem frC_ok (k j : Int) (j0 : 0 ≤ j) (j1 : j < 29830) : (frC k j).Ok := ⟨by show (0:Int) ≤ 0 ∧ (0:Int) ≤ 65535; decide, by show (0:Int) ≤ 0 ∧ (0:Int) ≤ 65535; decide, by show (0:Int) ≤ 0 ∧ (0:Int) ≤ 65535; decide, by show (0:Int) ≤ 0 ∧ (0:Int) ≤ 255; decide, by show (0:Int) ≤ 0 ∧ (0:Int) ≤ 255; decide, ⟨j0, by show j ≤ 65535; omega⟩, by show (0:Int) ≤ 0 ∧ (0:Int) ≤ 255; decide, by show 0 ≤ (4 * k + mk4 j 29829) % 64 ∧ (4 * k + mk4 j 29829) % 64 ≤ 255; omega⟩
theorem fvC_ok (k j : Int) (j0 : 0 ≤ j) (j1 : j < 37282) : (fvC k j).Ok := ⟨by show (0:Int) ≤ 0 ∧ (0:Int) ≤ 65535; decide, by show (0:Int) ≤ 0 ∧ (0:Int) ≤ 65535; decide, by show (0:Int) ≤ 0 ∧ (0:Int) ≤ 65535; decide, by show (0:Int) ≤ 0 ∧ (0:Int) ≤ 255; decide, by show (0:Int) ≤ 0 ∧ (0:Int) ≤ 255; decide, ⟨j0, by show j ≤ 65535; omega⟩, by show (0:Int) ≤ 0 ∧ (0:Int) ≤ 255; decide, by show 0 ≤ (1 + 4 * k + mk4 j 37281) % 64 ∧ (1 + 4 * k + mk4 j 37281) % 64 ≤ 255; omega⟩
theorem frC_irq (k j : Int) (j0 : 0 ≤ j) (j1 : j < 29830) : (frC k j).irq = decide (1 ≤ k ∨ 29828 ≤ j) := by
  have hv : (frC k j).valid = true := by
    rw [Ck.valid_iff]
    exact ⟨by show (0:Int) ≤ 31; decide, by show (0:Int) < dv 0; decide, by show j ≤ 37281; omega, by show (0:Int) ≤ 4; decide, by show (4 * k + mk4 j 29829) % 64 ≤ 63; omega, fun h => Bool.noConfusion h, fun h => Bool.noConfusion h⟩
  unfold Ck.irq
  rw [hv]
  show (true && (decide (1 ≤ k ∨ 29828 ≤ j) || (false && _))) = _
  rw [Bool.true_and, Bool.false_and, Bool.or_false]
theorem fvC_valid (k j : Int) (j1 : j < 37282) : (fvC k j).valid = true := by
  rw [Ck.valid_iff]
  exact ⟨by show (0:Int) ≤ 31; decide, by show (0:Int) < dv 0; decide, by show j ≤ 37281; omega, by show (0:Int) ≤ 4; decide, by show (1 + 4 * k + mk4 j 37281) % 64 ≤ 63; omega, fun h => Bool.noConfusion h, fun h => Bool.noConfusion h⟩
theorem fvC_irq (k j : Int) (j1 : j < 37282) : (fvC k j).irq = false := by
  unfold Ck.irq
  rw [fvC_valid k j j1]
  rfl
theorem fvC_nxt (k j : Int) (j1 : j < 37282) : (fvC k j).nxt = 4611686018427387904 := by
  unfold Ck.nxt
  rw [if_neg (by rw [fvC_valid k j j1]; decide), if_neg (by rw [fvC_irq k j j1]; decide)]
  rfl
theorem and_32 (n : Int) : bits .and .i64 n 4294967295 = n % 4294967296 := by
  have key : (BitVec.ofInt 64 n &&& BitVec.ofInt 64 4294967295).toNat = (n % ((2 ^ 64 : Nat) : Int)).toNat % 2 ^ 32 := by
    rw [BitVec.toNat_and, BitVec.toNat_ofInt, BitVec.toNat_ofInt, show ((4294967295 : Int) % ((2 ^ 64 : Nat) : Int)).toNat = 2 ^ 32 - 1 from rfl, Nat.and_two_pow_sub_one_eq_mod]
  show IntKind.i64.wrap ((BitVec.ofInt 64 n &&& BitVec.ofInt 64 4294967295).toNat : Nat) = n % 4294967296
  rw [key]
  have h2 : (((n % ((2 ^ 64 : Nat) : Int)).toNat % 2 ^ 32 : Nat) : Int) = n % 4294967296 := by omega
  rw [h2]
  exact i64_in _ (by omega)
theorem marks_any (j l : Int) (w : World) :
    Calls Tryd.prog 16 #[.int .i64 j, .int .i64 l] w fun e w' => e = .returned (.int .i64 (mk4 j l)) ∧ w' = w := by
  unfold mk4
  by_cases h1 : 7457 ≤ j
  all_goals by_cases h2 : 14913 ≤ j
  all_goals by_cases h3 : 22371 ≤ j
  all_goals by_cases h4 : l ≤ j
  all_goals
    first | rw [if_pos h1] | rw [if_neg h1]
    first | rw [if_pos h2] | rw [if_neg h2]
    first | rw [if_pos h3] | rw [if_neg h3]
    first | rw [if_pos h4] | rw [if_neg h4]
    go_enter Tryd.func16, Tryd.ntmps16
    go_wp2
    go_ret
    exact ⟨rfl, rfl⟩
end Go.Proofs.YtjacadiaafcckabDoor
