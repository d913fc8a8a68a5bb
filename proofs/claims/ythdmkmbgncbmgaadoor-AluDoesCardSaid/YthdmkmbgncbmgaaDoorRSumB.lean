/-
  The document's sums.
-/
import Derived.Test.YthdmkmbgncbmgaaDoorARef2
import Derived.Test.YthdmkmbgncbmgaaDoorAArr
import Derived.Test.YthdmkmbgncbmgaaDoorATold
namespace Go.Proofs.YthdmkmbgncbmgaaDoor
open Go.RowKit Classical
set_option maxRecDepth 100000 in
set_option maxHeartbeats 1000000 in
theorem rsums_58 (a x y s m : Int) (F : Fl) (w : World) (_a0 : 0 ≤ a) (_a1 : a ≤ 255) (_x0 : 0 ≤ x) (_x1 : x ≤ 255) (_y0 : 0 ≤ y) (_y1 : y ≤ 255) (_m0 : 0 ≤ m) (_m1 : m ≤ 255) :
    Calls Tryd.prog 30 #[.int .i64 58, .agg #[.int .u8 a, .int .u8 x, .int .u8 y, .int .u8 s, .int .u8 (F.val : Nat), .int .u8 m]] w fun e w' => e = .returned (.tuple #[.agg #[.int .u8 (arrV (bits .and .u8 a m) F), .int .u8 (x), .int .u8 (y), .int .u8 (s), .int .u8 ((arrF (bits .and .u8 a m) F).val : Nat), .int .u8 (m)], .bool true]) ∧ Below w.heap.size w w' := by
  go_enter Tryd.func30, Tryd.ntmps30
  go_wp2_with (first | (go_at_call 80; refine (rarr_any _ _ _ _ (by omega) (by omega) (by omega) (by omega)).mono ?_; rintro e w' ⟨rfl, rfl⟩))
  exact bodyPost_ret (v := .tuple #[.agg #[.int .u8 (arrV (bits .and .u8 a m) F), .int .u8 (x), .int .u8 (y), .int .u8 (s), .int .u8 ((arrF (bits .and .u8 a m) F).val : Nat), .int .u8 (m)], .bool true]) (by simp [results, Tryd.results30, go_sem]) rfl ⟨rfl, by repeat (first | exact Below.refl _ _ | refine Below.alloc ?_ (by simp <;> omega) _ | refine Below.setCell ?_ (by simp <;> omega) _)⟩
set_option maxRecDepth 100000 in
set_option maxHeartbeats 1000000 in
theorem rsums_17 (a x y s m : Int) (F : Fl) (w : World) (_a0 : 0 ≤ a) (_a1 : a ≤ 255) (_x0 : 0 ≤ x) (_x1 : x ≤ 255) (_y0 : 0 ≤ y) (_y1 : y ≤ 255) (_m0 : 0 ≤ m) (_m1 : m ≤ 255) :
    Calls Tryd.prog 30 #[.int .i64 17, .agg #[.int .u8 a, .int .u8 x, .int .u8 y, .int .u8 s, .int .u8 (F.val : Nat), .int .u8 m]] w fun e w' => e = .returned (.tuple #[.agg #[.int .u8 (a), .int .u8 (x), .int .u8 (y), .int .u8 (s), .int .u8 ((nzF ((a - m) % 256) (F.put 1 (decide (m ≤ a)))).val : Nat), .int .u8 (m)], .bool true]) ∧ Below w.heap.size w w' := by
  go_enter Tryd.func30, Tryd.ntmps30
  go_wp2_with (first | (go_at_call 81; refine (rcmp_any _ _ _ _ (by omega) (by omega) (by omega) (by omega)).mono ?_; rintro e w' ⟨rfl, rfl⟩))
  exact bodyPost_ret (v := .tuple #[.agg #[.int .u8 (a), .int .u8 (x), .int .u8 (y), .int .u8 (s), .int .u8 ((nzF ((a - m) % 256) (F.put 1 (decide (m ≤ a)))).val : Nat), .int .u8 (m)], .bool true]) (by simp [results, Tryd.results30, go_sem]) rfl ⟨rfl, by repeat (first | exact Below.refl _ _ | refine Below.alloc ?_ (by simp <;> omega) _ | refine Below.setCell ?_ (by simp <;> omega) _)⟩
set_option maxRecDepth 100000 in
set_option maxHeartbeats 1000000 in
theorem rsums_18 (a x y s m : Int) (F : Fl) (w : World) (_a0 : 0 ≤ a) (_a1 : a ≤ 255) (_x0 : 0 ≤ x) (_x1 : x ≤ 255) (_y0 : 0 ≤ y) (_y1 : y ≤ 255) (_m0 : 0 ≤ m) (_m1 : m ≤ 255) :
    Calls Tryd.prog 30 #[.int .i64 18, .agg #[.int .u8 a, .int .u8 x, .int .u8 y, .int .u8 s, .int .u8 (F.val : Nat), .int .u8 m]] w fun e w' => e = .returned (.tuple #[.agg #[.int .u8 (a), .int .u8 (x), .int .u8 (y), .int .u8 (s), .int .u8 ((nzF ((x - m) % 256) (F.put 1 (decide (m ≤ x)))).val : Nat), .int .u8 (m)], .bool true]) ∧ Below w.heap.size w w' := by
  go_enter Tryd.func30, Tryd.ntmps30
  go_wp2_with (first | (go_at_call 81; refine (rcmp_any _ _ _ _ (by omega) (by omega) (by omega) (by omega)).mono ?_; rintro e w' ⟨rfl, rfl⟩))
  exact bodyPost_ret (v := .tuple #[.agg #[.int .u8 (a), .int .u8 (x), .int .u8 (y), .int .u8 (s), .int .u8 ((nzF ((x - m) % 256) (F.put 1 (decide (m ≤ x)))).val : Nat), .int .u8 (m)], .bool true]) (by simp [results, Tryd.results30, go_sem]) rfl ⟨rfl, by repeat (first | exact Below.refl _ _ | refine Below.alloc ?_ (by simp <;> omega) _ | refine Below.setCell ?_ (by simp <;> omega) _)⟩
set_option maxRecDepth 100000 in
set_option maxHeartbeats 1000000 in
theorem rsums_19 (a x y s m : Int) (F : Fl) (w : World) (_a0 : 0 ≤ a) (_a1 : a ≤ 255) (_x0 : 0 ≤ x) (_x1 : x ≤ 255) (_y0 : 0 ≤ y) (_y1 : y ≤ 255) (_m0 : 0 ≤ m) (_m1 : m ≤ 255) :
    Calls Tryd.prog 30 #[.int .i64 19, .agg #[.int .u8 a, .int .u8 x, .int .u8 y, .int .u8 s, .int .u8 (F.val : Nat), .int .u8 m]] w fun e w' => e = .returned (.tuple #[.agg #[.int .u8 (a), .int .u8 (x), .int .u8 (y), .int .u8 (s), .int .u8 ((nzF ((y - m) % 256) (F.put 1 (decide (m ≤ y)))).val : Nat), .int .u8 (m)], .bool true]) ∧ Below w.heap.size w w' := by
  go_enter Tryd.func30, Tryd.ntmps30
  go_wp2_with (first | (go_at_call 81; refine (rcmp_any _ _ _ _ (by omega) (by omega) (by omega) (by omega)).mono ?_; rintro e w' ⟨rfl, rfl⟩))
  exact bodyPost_ret (v := .tuple #[.agg #[.int .u8 (a), .int .u8 (x), .int .u8 (y), .int .u8 (s), .int .u8 ((nzF ((y - m) % 256) (F.put 1 (decide (m ≤ y)))).val : Nat), .int .u8 (m)], .bool true]) (by simp [results, Tryd.results30, go_sem]) rfl ⟨rfl, by repeat (first | exact Below.refl _ _ | refine Below.alloc ?_ (by simp <;> omega) _ | refine Below.setCell ?_ (by simp <;> omega) _)⟩
set_option maxRecDepth 100000 in
set_option maxHeartbeats 1000000 in
theorem rsums_66 (a x y s m : Int) (F : Fl) (w : World) (_a0 : 0 ≤ a) (_a1 : a ≤ 255) (_x0 : 0 ≤ x) (_x1 : x ≤ 255) (_y0 : 0 ≤ y) (_y1 : y ≤ 255) (_m0 : 0 ≤ m) (_m1 : m ≤ 255) :
    Calls Tryd.prog 30 #[.int .i64 66, .agg #[.int .u8 a, .int .u8 x, .int .u8 y, .int .u8 s, .int .u8 (F.val : Nat), .int .u8 m]] w fun e w' => e = .returned (.tuple #[.agg #[.int .u8 (a), .int .u8 ((bits .and .u8 a x - m) % 256), .int .u8 (y), .int .u8 (s), .int .u8 ((nzF ((bits .and .u8 a x - m) % 256) (F.put 1 (decide (m ≤ bits .and .u8 a x)))).val : Nat), .int .u8 (m)], .bool true]) ∧ Below w.heap.size w w' := by
  obtain ⟨t0, t1⟩ := and_bd a x _a0 _a1 _x0 _x1
  go_enter Tryd.func30, Tryd.ntmps30
  go_wp2_with (first | (go_at_call 81; refine (rcmp_any _ _ _ _ (by omega) (by omega) (by omega) (by omega)).mono ?_; rintro e w' ⟨rfl, rfl⟩) | (go_at_call 82; refine (rest_any _ _ _ (by decide) (by omega) (by omega)).mono ?_; rintro e w' ⟨rfl, rfl⟩))
  exact bodyPost_ret (v := .tuple #[.agg #[.int .u8 (a), .int .u8 ((bits .and .u8 a x - m) % 256), .int .u8 (y), .int .u8 (s), .int .u8 ((nzF ((bits .and .u8 a x - m) % 256) (F.put 1 (decide (m ≤ bits .and .u8 a x)))).val : Nat), .int .u8 (m)], .bool true]) (by simp [results, Tryd.results30, go_sem]) rfl ⟨rfl, by repeat (first | exact Below.refl _ _ | refine Below.alloc ?_ (by simp <;> omega) _ | refine Below.setCell ?_ (by simp <;> omega) _)⟩
set_option maxRecDepth 100000 in
set_option maxHeartbeats 1000000 in
theorem rsums_no (op a x y s m : Int) (F : Fl) (w : World) (d1 : (op == 1) = false) (d57 : (op == 57) = false) (d56 : (op == 56) = false) (d34 : (op == 34) = false) (d23 : (op == 23) = false) (d6 : (op == 6) = false) (d0 : (op == 0) = false) (d43 : (op == 43) = false) (d58 : (op == 58) = false) (d17 : (op == 17) = false) (d18 : (op == 18) = false) (d19 : (op == 19) = false) (d66 : (op == 66) = false) :
    Calls Tryd.prog 30 #[.int .i64 op, .agg #[.int .u8 a, .int .u8 x, .int .u8 y, .int .u8 s, .int .u8 (F.val : Nat), .int .u8 m]] w fun e w' => e = .returned (.tuple #[.agg #[.int .u8 (a), .int .u8 (x), .int .u8 (y), .int .u8 (s), .int .u8 ((F).val : Nat), .int .u8 (m)], .bool false]) ∧ Below w.heap.size w w' := by
  go_enter Tryd.func30, Tryd.ntmps30
  go_wp2
  exact bodyPost_ret (v := .tuple #[.agg #[.int .u8 (a), .int .u8 (x), .int .u8 (y), .int .u8 (s), .int .u8 ((F).val : Nat), .int .u8 (m)], .bool false]) (by simp [results, Tryd.results30, go_sem]) rfl ⟨rfl, by repeat (first | exact Below.refl _ _ | refine Below.alloc ?_ (by simp <;> omega) _ | refine Below.setCell ?_ (by simp <;> omega) _)⟩
end Go.Proofs.YthdmkmbgncbmgaaDoor
