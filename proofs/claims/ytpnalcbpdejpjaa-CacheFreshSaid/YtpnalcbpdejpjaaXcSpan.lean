/-
  Spans of places and their pages.
-/
import Derived.Test.YtpnalcbpdejpjaaXcNil
import Derived.BigQuiet
import Derived.Deep.QuietTactic
set_option linter.unusedSimpArgs false
set_option linter.unusedVariables false
namespace Go.Proofs.Ytpnalcbpdejpjaa
open Go.RowKit Classical
/-- Is there no such place? -/
def farB (place : Int) : Bool := decide (place < 0) || decide (1099511627776 < place)
def spF (place : Int) : Int := if farB place then 0 else place
def spN (place n : Int) : Int := if farB place then 0 else n
set_option maxRecDepth 100000 in
set_option maxHeartbeats 2000000 in
theorem spanFrom_any (place n : Int) (w : World) :
    Calls Try.prog 39 #[.int .i64 place, .int .i64 n] w fun e w' => e = .returned (.agg #[.int .i64 (spF place), .int .i64 (spN place n)]) ∧ Below w.heap.size w w' := by
  have hb0 : Below w.heap.size w (w.alloc (.cells #[.int .i64 0, .int .i64 0] 82)) := (Below.refl _ _).alloc (Nat.le_refl _) _
  have z0 : Blk (w.alloc (.cells #[.int .i64 0, .int .i64 0] 82)) w.heap.size #[.int .i64 0, .int .i64 0] 82 := Blk.new w _ _
  by_cases h : farB place = true
  · have HF : Hid (spF place = 0 ∧ spN place n = 0) := ⟨by unfold spF; rw [if_pos h], by unfold spN; rw [if_pos h]⟩
    unfold farB at h
    simp only [Bool.or_eq_true, decide_eq_true_eq] at h
    go_enter Try.func39, Try.ntmps39
    go_upto_region 1 with fail
    generalize w.alloc (.cells #[.int .i64 0, .int .i64 0] 82) = W0 at *
    go_cut [10] (fun v wx => v = .bool true ∧ wx = W0)
    case first =>
      by_cases h0 : place < 0
      · go_wp2
        go_meet
        exact ⟨rfl, rfl⟩
      · have h1 : 1099511627776 < place := h.resolve_left h0
        go_wp2
        go_meet
        exact ⟨rfl, rfl⟩
    case rest =>
    obtain ⟨rfl, hwc⟩ := hcut
    rw [hwc]
    clear hwc
    go_wp2_with (refine wpList_store_blk rfl 82 _ _ rfl w.heap.size #[.int .i64 0, .int .i64 0] #[.int .i64 0, .int .i64 0] 82 rfl rfl z0 rfl (by kernel_rfl) (by kernel_rfl) w.heap.size w (Nat.le_refl _) hb0 ?_; intro w5 z5 hb5 _)
    refine ret_agg1 (m := w.heap.size) (L := #[.int .i64 0, .int .i64 0]) Try.results39 (by kernel_rfl) (by kernel_rfl) z5 Try.underlying82 rfl (by kernel_rfl) ?_
    exact ⟨by rw [HF.out.1, HF.out.2], hb5⟩
  · have HF : Hid (spF place = place ∧ spN place n = n) := ⟨by unfold spF; rw [if_neg h], by unfold spN; rw [if_neg h]⟩
    unfold farB at h
    simp only [Bool.or_eq_true, decide_eq_true_eq, not_or] at h
    obtain ⟨h0, h1⟩ := h
    go_enter Try.func39, Try.ntmps39
    go_upto_region 1 with fail
    generalize w.alloc (.cells #[.int .i64 0, .int .i64 0] 82) = W0 at *
    go_wp2_with (refine wpList_store_blk rfl 82 _ _ rfl w.heap.size #[.int .i64 0, .int .i64 0] #[.int .i64 place, .int .i64 n] 82 rfl rfl z0 rfl (by kernel_rfl) (by kernel_rfl) w.heap.size w (Nat.le_refl _) hb0 ?_; intro w5 z5 hb5 _)
    refine ret_agg1 (m := w.heap.size) (L := #[.int .i64 place, .int .i64 n]) Try.results39 (by kernel_rfl) (by kernel_rfl) z5 Try.underlying82 rfl (by kernel_rfl) ?_
    exact ⟨by rw [HF.out.1, HF.out.2], hb5⟩
set_option maxRecDepth 100000 in
set_option maxHeartbeats 2000000 in
theorem pageOf_any (p : Int) (w : World) :
    Calls Try.prog 47 #[.int .i64 p] w fun e w' => e = .returned (.int .i64 (p / 256)) ∧ w' = w := by
  go_enter Try.func47, Try.ntmps47
  go_wp2
  go_ret
  exact ⟨rfl, rfl⟩
set_option maxRecDepth 100000 in
set_option maxHeartbeats 2000000 in
theorem has_any (f n p : Int) (w : World) (f0 : 0 ≤ f) (f1 : f ≤ 1099511627776) (p0 : -9223372036854775808 ≤ p) (p1 : p ≤ 9223372036854775807) :
    Calls Try.prog 49 #[.agg #[.int .i64 f, .int .i64 n], .int .i64 p] w fun e w' => e = .returned (.bool (decide (f ≤ p) && decide (p - f < n))) ∧ Below w.heap.size w w' := by
  by_cases h : f ≤ p
  · have HV : Hid ((decide (f ≤ p) && decide (p - f < n)) = decide (p - f < n)) := by unfold Hid; simp [h]
    go_enter Try.func49, Try.ntmps49
    go_wp2
    go_ret
    exact ⟨by rw [HV.out]; rfl, (Below.refl _ _).alloc (Nat.le_refl _) _⟩
  · have HV : Hid ((decide (f ≤ p) && decide (p - f < n)) = false) := by unfold Hid; simp [h]
    go_enter Try.func49, Try.ntmps49
    go_wp2
    go_ret
    exact ⟨by rw [HV.out]; rfl, (Below.refl _ _).alloc (Nat.le_refl _) _⟩
/-- The first page of a span, and the one behind its last. -/
def pg0 (f n : Int) : Int := if n = 0 then 0 else f / 256
def pg1 (f n : Int) : Int := if n = 0 then 0 else (f + n - 1) / 256 + 1
set_option maxRecDepth 100000 in
set_option maxHeartbeats 2000000 in
theorem pages_any (f n : Int) (w : World) (f0 : 0 ≤ f) (f1 : f ≤ 1099511627776) (n0 : 0 ≤ n) (n1 : n ≤ 140737488355328) :
    Calls Try.prog 64 #[.agg #[.int .i64 f, .int .i64 n]] w fun e w' => e = .returned (.tuple #[.int .i64 (pg0 f n), .int .i64 (pg1 f n)]) ∧ Below w.heap.size w w' := by
  by_cases h : n = 0
  · subst h
    go_enter Try.func64, Try.ntmps64
    go_wp2
    go_ret2
    exact ⟨rfl, (Below.refl _ _).alloc (Nat.le_refl _) _⟩
  · have HV : Hid (pg0 f n = f / 256 ∧ pg1 f n = (f + n - 1) / 256 + 1) := ⟨by unfold pg0; rw [if_neg h], by unfold pg1; rw [if_neg h]⟩
    have hz : (n == 0) = false := by simpa using h
    have PC : Hid (∀ (p : Int) W, Calls _ _ _ W _) := fun p W => pageOf_any p W
    go_enter Try.func64, Try.ntmps64
    go_upto_region 3 with fail
    go_quiet ((go_at_call 47; exact Calls.quiet_of_same (PC.out _ _)))
    go_wp2
    go_ret2
    exact ⟨by rw [HV.out.1, HV.out.2]; rfl, below_drawsX ((Below.refl _ _).alloc (Nat.le_refl _) _) _⟩
end Go.Proofs.Ytpnalcbpdejpjaa
