/-
  The document's sums.
-/
import Derived.Test.YthdmkmbgncbmgaaDoorARef2
import Derived.Test.YthdmkmbgncbmgaaDoorAArr
import Derived.Test.YthdmkmbgncbmgaaDoorATold
namespace Go.Proofs.YthdmkmbgncbmgaaDoor
open Go.RowKit Classical
set_option maxRecDepth 100000 in
set_option maxHeartbeats 1000000 in
theorem rsums_1 (a x y s m : Int) (F : Fl) (w : World) (_a0 : 0 ≤ a) (_a1 : a ≤ 255) (_x0 : 0 ≤ x) (_x1 : x ≤ 255) (_y0 : 0 ≤ y) (_y1 : y ≤ 255) (_m0 : 0 ≤ m) (_m1 : m ≤ 255) :
    Calls Tryd.prog 30 #[.int .i64 1, .agg #[.int .u8 a, .int .u8 x, .int .u8 y, .int .u8 s, .int .u8 (F.val : Nat), .int .u8 m]] w fun e w' => e = .returned (.tuple #[.agg #[.int .u8 (bits .and .u8 a m), .int .u8 (x), .int .u8 (y), .int .u8 (s), .int .u8 ((nzF (bits .and .u8 a m) F).val : Nat), .int .u8 (m)], .bool true]) ∧ Below w.heap.size w w' := by
  go_enter Tryd.func30, Tryd.ntmps30
  go_wp2_with (first | (go_at_call 73; refine (rnz_any _ _ _).mono ?_; rintro e w' ⟨rfl, rfl⟩))
  exact bodyPost_ret (v := .tuple #[.agg #[.int .u8 (bits .and .u8 a m), .int .u8 (x), .int .u8 (y), .int .u8 (s), .int .u8 ((nzF (bits .and .u8 a m) F).val : Nat), .int .u8 (m)], .bool true]) (by simp [results, Tryd.results30, go_sem]) rfl ⟨rfl, by repeat (first | exact Below.refl _ _ | refine Below.alloc ?_ (by simp <;> omega) _ | refine Below.setCell ?_ (by simp <;> omega) _)⟩
set_option maxRecDepth 100000 in
set_option maxHeartbeats 1000000 in
theorem rsums_57 (a x y s m : Int) (F : Fl) (w : World) (_a0 : 0 ≤ a) (_a1 : a ≤ 255) (_x0 : 0 ≤ x) (_x1 : x ≤ 255) (_y0 : 0 ≤ y) (_y1 : y ≤ 255) (_m0 : 0 ≤ m) (_m1 : m ≤ 255) :
    Calls Tryd.prog 30 #[.int .i64 57, .agg #[.int .u8 a, .int .u8 x, .int .u8 y, .int .u8 s, .int .u8 (F.val : Nat), .int .u8 m]] w fun e w' => e = .returned (.tuple #[.agg #[.int .u8 (bits .and .u8 a m), .int .u8 (x), .int .u8 (y), .int .u8 (s), .int .u8 (((nzF (bits .and .u8 a m) F).put 1 (decide (128 ≤ bits .and .u8 a m))).val : Nat), .int .u8 (m)], .bool true]) ∧ Below w.heap.size w w' := by
  go_enter Tryd.func30, Tryd.ntmps30
  go_wp2_with (first | (go_at_call 73; refine (rnz_any _ _ _).mono ?_; rintro e w' ⟨rfl, rfl⟩) | (go_at_call 75; refine (rputF_any _ _ _ _ (by decide)).mono ?_; rintro e w' ⟨rfl, rfl⟩))
  exact bodyPost_ret (v := .tuple #[.agg #[.int .u8 (bits .and .u8 a m), .int .u8 (x), .int .u8 (y), .int .u8 (s), .int .u8 (((nzF (bits .and .u8 a m) F).put 1 (decide (128 ≤ bits .and .u8 a m))).val : Nat), .int .u8 (m)], .bool true]) (by simp [results, Tryd.results30, go_sem]) rfl ⟨rfl, by repeat (first | exact Below.refl _ _ | refine Below.alloc ?_ (by simp <;> omega) _ | refine Below.setCell ?_ (by simp <;> omega) _)⟩
set_option maxRecDepth 100000 in
set_option maxHeartbeats 1000000 in
theorem rsums_56 (a x y s m : Int) (F : Fl) (w : World) (_a0 : 0 ≤ a) (_a1 : a ≤ 255) (_x0 : 0 ≤ x) (_x1 : x ≤ 255) (_y0 : 0 ≤ y) (_y1 : y ≤ 255) (_m0 : 0 ≤ m) (_m1 : m ≤ 255) :
    Calls Tryd.prog 30 #[.int .i64 56, .agg #[.int .u8 a, .int .u8 x, .int .u8 y, .int .u8 s, .int .u8 (F.val : Nat), .int .u8 m]] w fun e w' => e = .returned (.tuple #[.agg #[.int .u8 (shV 32 (bits .and .u8 a m) (nzF (bits .and .u8 a m) F).c), .int .u8 (x), .int .u8 (y), .int .u8 (s), .int .u8 ((shF 32 (bits .and .u8 a m) (nzF (bits .and .u8 a m) F)).val : Nat), .int .u8 (m)], .bool true]) ∧ Below w.heap.size w w' := by
  obtain ⟨t0, t1⟩ := and_bd a m _a0 _a1 _m0 _m1
  go_enter Tryd.func30, Tryd.ntmps30
  go_wp2_with (first | (go_at_call 73; refine (rnz_any _ _ _).mono ?_; rintro e w' ⟨rfl, rfl⟩) | (go_at_call 76; refine (rshift_any _ _ _ _ (by omega) (by omega)).mono ?_; rintro e w' ⟨rfl, rfl⟩))
  exact bodyPost_ret (v := .tuple #[.agg #[.int .u8 (shV 32 (bits .and .u8 a m) (nzF (bits .and .u8 a m) F).c), .int .u8 (x), .int .u8 (y), .int .u8 (s), .int .u8 ((shF 32 (bits .and .u8 a m) (nzF (bits .and .u8 a m) F)).val : Nat), .int .u8 (m)], .bool true]) (by simp [results, Tryd.results30, go_sem]) rfl ⟨rfl, by repeat (first | exact Below.refl _ _ | refine Below.alloc ?_ (by simp <;> omega) _ | refine Below.setCell ?_ (by simp <;> omega) _)⟩
set_option maxRecDepth 100000 in
set_option maxHeartbeats 1000000 in
theorem rsums_34 (a x y s m : Int) (F : Fl) (w : World) (_a0 : 0 ≤ a) (_a1 : a ≤ 255) (_x0 : 0 ≤ x) (_x1 : x ≤ 255) (_y0 : 0 ≤ y) (_y1 : y ≤ 255) (_m0 : 0 ≤ m) (_m1 : m ≤ 255) :
    Calls Tryd.prog 30 #[.int .i64 34, .agg #[.int .u8 a, .int .u8 x, .int .u8 y, .int .u8 s, .int .u8 (F.val : Nat), .int .u8 m]] w fun e w' => e = .returned (.tuple #[.agg #[.int .u8 (bits .or .u8 a m), .int .u8 (x), .int .u8 (y), .int .u8 (s), .int .u8 ((nzF (bits .or .u8 a m) F).val : Nat), .int .u8 (m)], .bool true]) ∧ Below w.heap.size w w' := by
  go_enter Tryd.func30, Tryd.ntmps30
  go_wp2_with (first | (go_at_call 73; refine (rnz_any _ _ _).mono ?_; rintro e w' ⟨rfl, rfl⟩))
  exact bodyPost_ret (v := .tuple #[.agg #[.int .u8 (bits .or .u8 a m), .int .u8 (x), .int .u8 (y), .int .u8 (s), .int .u8 ((nzF (bits .or .u8 a m) F).val : Nat), .int .u8 (m)], .bool true]) (by simp [results, Tryd.results30, go_sem]) rfl ⟨rfl, by repeat (first | exact Below.refl _ _ | refine Below.alloc ?_ (by simp <;> omega) _ | refine Below.setCell ?_ (by simp <;> omega) _)⟩
set_option maxRecDepth 100000 in
set_option maxHeartbeats 1000000 in
theorem rsums_23 (a x y s m : Int) (F : Fl) (w : World) (_a0 : 0 ≤ a) (_a1 : a ≤ 255) (_x0 : 0 ≤ x) (_x1 : x ≤ 255) (_y0 : 0 ≤ y) (_y1 : y ≤ 255) (_m0 : 0 ≤ m) (_m1 : m ≤ 255) :
    Calls Tryd.prog 30 #[.int .i64 23, .agg #[.int .u8 a, .int .u8 x, .int .u8 y, .int .u8 s, .int .u8 (F.val : Nat), .int .u8 m]] w fun e w' => e = .returned (.tuple #[.agg #[.int .u8 (bits .xor .u8 a m), .int .u8 (x), .int .u8 (y), .int .u8 (s), .int .u8 ((nzF (bits .xor .u8 a m) F).val : Nat), .int .u8 (m)], .bool true]) ∧ Below w.heap.size w w' := by
  go_enter Tryd.func30, Tryd.ntmps30
  go_wp2_with (first | (go_at_call 73; refine (rnz_any _ _ _).mono ?_; rintro e w' ⟨rfl, rfl⟩))
  exact bodyPost_ret (v := .tuple #[.agg #[.int .u8 (bits .xor .u8 a m), .int .u8 (x), .int .u8 (y), .int .u8 (s), .int .u8 ((nzF (bits .xor .u8 a m) F).val : Nat), .int .u8 (m)], .bool true]) (by simp [results, Tryd.results30, go_sem]) rfl ⟨rfl, by repeat (first | exact Below.refl _ _ | refine Below.alloc ?_ (by simp <;> omega) _ | refine Below.setCell ?_ (by simp <;> omega) _)⟩
set_option maxRecDepth 100000 in
set_option maxHeartbeats 1000000 in
theorem rsums_6 (a x y s m : Int) (F : Fl) (w : World) (_a0 : 0 ≤ a) (_a1 : a ≤ 255) (_x0 : 0 ≤ x) (_x1 : x ≤ 255) (_y0 : 0 ≤ y) (_y1 : y ≤ 255) (_m0 : 0 ≤ m) (_m1 : m ≤ 255) :
    Calls Tryd.prog 30 #[.int .i64 6, .agg #[.int .u8 a, .int .u8 x, .int .u8 y, .int .u8 s, .int .u8 (F.val : Nat), .int .u8 m]] w fun e w' => e = .returned (.tuple #[.agg #[.int .u8 (a), .int .u8 (x), .int .u8 (y), .int .u8 (s), .int .u8 ((((F.put 128 (decide (128 ≤ m))).put 64 (bitN m 6)).put 2 (bits .and .u8 a m == 0)).val : Nat), .int .u8 (m)], .bool true]) ∧ Below w.heap.size w w' := by
  have hwm : IntKind.i64.wrap m = m := by rw [IntKind.wrap_i64]; omega
  go_enter Tryd.func30, Tryd.ntmps30
  go_wp2_with (first | (go_at_call 75; refine (rputF_any _ _ _ _ (by decide)).mono ?_; rintro e w' ⟨rfl, rfl⟩) | (go_at_call 77; refine (bitN_any _ _ _ (by omega) (by omega) (by decide)).mono ?_; rintro e w' ⟨rfl, rfl⟩))
  go_region_with (first | (go_at_call 75; refine (rputF_any _ _ _ _ (by decide)).mono ?_; rintro e w' ⟨rfl, rfl⟩) | (go_at_call 77; refine (bitN_any _ _ _ (by omega) (by omega) (by decide)).mono ?_; rintro e w' ⟨rfl, rfl⟩))
  all_goals
    go_wp2_with (first | (go_at_call 75; refine (rputF_any _ _ _ _ (by decide)).mono ?_; rintro e w' ⟨rfl, rfl⟩) | (go_at_call 77; refine (bitN_any _ _ _ (by omega) (by omega) (by decide)).mono ?_; rintro e w' ⟨rfl, rfl⟩))
    exact bodyPost_ret (v := .tuple #[.agg #[.int .u8 (a), .int .u8 (x), .int .u8 (y), .int .u8 (s), .int .u8 ((((F.put 128 (decide (128 ≤ m))).put 64 (bitN m 6)).put 2 (bits .and .u8 a m == 0)).val : Nat), .int .u8 (m)], .bool true]) (by simp [results, Tryd.results30, go_sem]) rfl ⟨rfl, by repeat (first | exact Below.refl _ _ | refine Below.alloc ?_ (by simp <;> omega) _ | refine Below.drew ?_ | refine Below.setCell ?_ (by simp <;> omega) _)⟩
set_option maxRecDepth 100000 in
set_option maxHeartbeats 1000000 in
theorem rsums_0 (a x y s m : Int) (F : Fl) (w : World) (_a0 : 0 ≤ a) (_a1 : a ≤ 255) (_x0 : 0 ≤ x) (_x1 : x ≤ 255) (_y0 : 0 ≤ y) (_y1 : y ≤ 255) (_m0 : 0 ≤ m) (_m1 : m ≤ 255) :
    Calls Tryd.prog 30 #[.int .i64 0, .agg #[.int .u8 a, .int .u8 x, .int .u8 y, .int .u8 s, .int .u8 (F.val : Nat), .int .u8 m]] w fun e w' => e = .returned (.tuple #[.agg #[.int .u8 (adcV a m F), .int .u8 (x), .int .u8 (y), .int .u8 (s), .int .u8 ((adcF a m F).val : Nat), .int .u8 (m)], .bool true]) ∧ Below w.heap.size w w' := by
  go_enter Tryd.func30, Tryd.ntmps30
  go_wp2_with (first | (go_at_call 78; refine (radc_any _ _ _ _ (by omega) (by omega) (by omega) (by omega)).mono ?_; rintro e w' ⟨rfl, rfl⟩))
  exact bodyPost_ret (v := .tuple #[.agg #[.int .u8 (adcV a m F), .int .u8 (x), .int .u8 (y), .int .u8 (s), .int .u8 ((adcF a m F).val : Nat), .int .u8 (m)], .bool true]) (by simp [results, Tryd.results30, go_sem]) rfl ⟨rfl, by repeat (first | exact Below.refl _ _ | refine Below.alloc ?_ (by simp <;> omega) _ | refine Below.setCell ?_ (by simp <;> omega) _)⟩
set_option maxRecDepth 100000 in
set_option maxHeartbeats 1000000 in
theorem rsums_43 (a x y s m : Int) (F : Fl) (w : World) (_a0 : 0 ≤ a) (_a1 : a ≤ 255) (_x0 : 0 ≤ x) (_x1 : x ≤ 255) (_y0 : 0 ≤ y) (_y1 : y ≤ 255) (_m0 : 0 ≤ m) (_m1 : m ≤ 255) :
    Calls Tryd.prog 30 #[.int .i64 43, .agg #[.int .u8 a, .int .u8 x, .int .u8 y, .int .u8 s, .int .u8 (F.val : Nat), .int .u8 m]] w fun e w' => e = .returned (.tuple #[.agg #[.int .u8 (sbcV a m F), .int .u8 (x), .int .u8 (y), .int .u8 (s), .int .u8 ((sbcF a m F).val : Nat), .int .u8 (m)], .bool true]) ∧ Below w.heap.size w w' := by
  go_enter Tryd.func30, Tryd.ntmps30
  go_wp2_with (first | (go_at_call 79; refine (rsbc_any _ _ _ _ (by omega) (by omega) (by omega) (by omega)).mono ?_; rintro e w' ⟨rfl, rfl⟩))
  exact bodyPost_ret (v := .tuple #[.agg #[.int .u8 (sbcV a m F), .int .u8 (x), .int .u8 (y), .int .u8 (s), .int .u8 ((sbcF a m F).val : Nat), .int .u8 (m)], .bool true]) (by simp [results, Tryd.results30, go_sem]) rfl ⟨rfl, by repeat (first | exact Below.refl _ _ | refine Below.alloc ?_ (by simp <;> omega) _ | refine Below.setCell ?_ (by simp <;> omega) _)⟩
end Go.Proofs.YthdmkmbgncbmgaaDoor
