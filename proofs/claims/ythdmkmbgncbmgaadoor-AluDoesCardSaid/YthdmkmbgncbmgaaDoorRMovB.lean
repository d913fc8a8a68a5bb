/-
  The document's transfers.
-/
import Derived.Test.YthdmkmbgncbmgaaDoorARef2
import Derived.Test.YthdmkmbgncbmgaaDoorAArr
import Derived.Test.YthdmkmbgncbmgaaDoorATold
namespace Go.Proofs.YthdmkmbgncbmgaaDoor
open Go.RowKit Classical
set_option maxRecDepth 100000 in
set_option maxHeartbeats 1000000 in
theorem rtransfers_50 (a x y s m : Int) (F : Fl) (w : World) (_a0 : 0 ≤ a) (_a1 : a ≤ 255) (_x0 : 0 ≤ x) (_x1 : x ≤ 255) (_y0 : 0 ≤ y) (_y1 : y ≤ 255) (_m0 : 0 ≤ m) (_m1 : m ≤ 255) :
    Calls Tryd.prog 74 #[.int .i64 50, .agg #[.int .u8 a, .int .u8 x, .int .u8 y, .int .u8 s, .int .u8 (F.val : Nat), .int .u8 m]] w fun e w' => e = .returned (.tuple #[.agg #[.int .u8 (a), .int .u8 (a), .int .u8 (y), .int .u8 (s), .int .u8 ((nzF (a) F).val : Nat), .int .u8 (m)], .bool true]) ∧ Below w.heap.size w w' := by
  go_enter Tryd.func74, Tryd.ntmps74
  go_wp2_with (first | (go_at_call 73; refine (rnz_any _ _ _).mono ?_; rintro e w' ⟨rfl, rfl⟩))
  exact bodyPost_ret (v := .tuple #[.agg #[.int .u8 (a), .int .u8 (a), .int .u8 (y), .int .u8 (s), .int .u8 ((nzF (a) F).val : Nat), .int .u8 (m)], .bool true]) (by simp [results, Tryd.results74, go_sem]) rfl ⟨rfl, by repeat (first | exact Below.refl _ _ | refine Below.alloc ?_ (by simp <;> omega) _ | refine Below.setCell ?_ (by simp <;> omega) _)⟩
set_option maxRecDepth 100000 in
set_option maxHeartbeats 1000000 in
theorem rtransfers_51 (a x y s m : Int) (F : Fl) (w : World) (_a0 : 0 ≤ a) (_a1 : a ≤ 255) (_x0 : 0 ≤ x) (_x1 : x ≤ 255) (_y0 : 0 ≤ y) (_y1 : y ≤ 255) (_m0 : 0 ≤ m) (_m1 : m ≤ 255) :
    Calls Tryd.prog 74 #[.int .i64 51, .agg #[.int .u8 a, .int .u8 x, .int .u8 y, .int .u8 s, .int .u8 (F.val : Nat), .int .u8 m]] w fun e w' => e = .returned (.tuple #[.agg #[.int .u8 (a), .int .u8 (x), .int .u8 (a), .int .u8 (s), .int .u8 ((nzF (a) F).val : Nat), .int .u8 (m)], .bool true]) ∧ Below w.heap.size w w' := by
  go_enter Tryd.func74, Tryd.ntmps74
  go_wp2_with (first | (go_at_call 73; refine (rnz_any _ _ _).mono ?_; rintro e w' ⟨rfl, rfl⟩))
  exact bodyPost_ret (v := .tuple #[.agg #[.int .u8 (a), .int .u8 (x), .int .u8 (a), .int .u8 (s), .int .u8 ((nzF (a) F).val : Nat), .int .u8 (m)], .bool true]) (by simp [results, Tryd.results74, go_sem]) rfl ⟨rfl, by repeat (first | exact Below.refl _ _ | refine Below.alloc ?_ (by simp <;> omega) _ | refine Below.setCell ?_ (by simp <;> omega) _)⟩
set_option maxRecDepth 100000 in
set_option maxHeartbeats 1000000 in
theorem rtransfers_53 (a x y s m : Int) (F : Fl) (w : World) (_a0 : 0 ≤ a) (_a1 : a ≤ 255) (_x0 : 0 ≤ x) (_x1 : x ≤ 255) (_y0 : 0 ≤ y) (_y1 : y ≤ 255) (_m0 : 0 ≤ m) (_m1 : m ≤ 255) :
    Calls Tryd.prog 74 #[.int .i64 53, .agg #[.int .u8 a, .int .u8 x, .int .u8 y, .int .u8 s, .int .u8 (F.val : Nat), .int .u8 m]] w fun e w' => e = .returned (.tuple #[.agg #[.int .u8 (x), .int .u8 (x), .int .u8 (y), .int .u8 (s), .int .u8 ((nzF (x) F).val : Nat), .int .u8 (m)], .bool true]) ∧ Below w.heap.size w w' := by
  go_enter Tryd.func74, Tryd.ntmps74
  go_wp2_with (first | (go_at_call 73; refine (rnz_any _ _ _).mono ?_; rintro e w' ⟨rfl, rfl⟩))
  exact bodyPost_ret (v := .tuple #[.agg #[.int .u8 (x), .int .u8 (x), .int .u8 (y), .int .u8 (s), .int .u8 ((nzF (x) F).val : Nat), .int .u8 (m)], .bool true]) (by simp [results, Tryd.results74, go_sem]) rfl ⟨rfl, by repeat (first | exact Below.refl _ _ | refine Below.alloc ?_ (by simp <;> omega) _ | refine Below.setCell ?_ (by simp <;> omega) _)⟩
set_option maxRecDepth 100000 in
set_option maxHeartbeats 1000000 in
theorem rtransfers_55 (a x y s m : Int) (F : Fl) (w : World) (_a0 : 0 ≤ a) (_a1 : a ≤ 255) (_x0 : 0 ≤ x) (_x1 : x ≤ 255) (_y0 : 0 ≤ y) (_y1 : y ≤ 255) (_m0 : 0 ≤ m) (_m1 : m ≤ 255) :
    Calls Tryd.prog 74 #[.int .i64 55, .agg #[.int .u8 a, .int .u8 x, .int .u8 y, .int .u8 s, .int .u8 (F.val : Nat), .int .u8 m]] w fun e w' => e = .returned (.tuple #[.agg #[.int .u8 (y), .int .u8 (x), .int .u8 (y), .int .u8 (s), .int .u8 ((nzF (y) F).val : Nat), .int .u8 (m)], .bool true]) ∧ Below w.heap.size w w' := by
  go_enter Tryd.func74, Tryd.ntmps74
  go_wp2_with (first | (go_at_call 73; refine (rnz_any _ _ _).mono ?_; rintro e w' ⟨rfl, rfl⟩))
  exact bodyPost_ret (v := .tuple #[.agg #[.int .u8 (y), .int .u8 (x), .int .u8 (y), .int .u8 (s), .int .u8 ((nzF (y) F).val : Nat), .int .u8 (m)], .bool true]) (by simp [results, Tryd.results74, go_sem]) rfl ⟨rfl, by repeat (first | exact Below.refl _ _ | refine Below.alloc ?_ (by simp <;> omega) _ | refine Below.setCell ?_ (by simp <;> omega) _)⟩
set_option maxRecDepth 100000 in
set_option maxHeartbeats 1000000 in
theorem rtransfers_52 (a x y s m : Int) (F : Fl) (w : World) (_a0 : 0 ≤ a) (_a1 : a ≤ 255) (_x0 : 0 ≤ x) (_x1 : x ≤ 255) (_y0 : 0 ≤ y) (_y1 : y ≤ 255) (_m0 : 0 ≤ m) (_m1 : m ≤ 255) :
    Calls Tryd.prog 74 #[.int .i64 52, .agg #[.int .u8 a, .int .u8 x, .int .u8 y, .int .u8 s, .int .u8 (F.val : Nat), .int .u8 m]] w fun e w' => e = .returned (.tuple #[.agg #[.int .u8 (a), .int .u8 (s), .int .u8 (y), .int .u8 (s), .int .u8 ((nzF (s) F).val : Nat), .int .u8 (m)], .bool true]) ∧ Below w.heap.size w w' := by
  go_enter Tryd.func74, Tryd.ntmps74
  go_wp2_with (first | (go_at_call 73; refine (rnz_any _ _ _).mono ?_; rintro e w' ⟨rfl, rfl⟩))
  exact bodyPost_ret (v := .tuple #[.agg #[.int .u8 (a), .int .u8 (s), .int .u8 (y), .int .u8 (s), .int .u8 ((nzF (s) F).val : Nat), .int .u8 (m)], .bool true]) (by simp [results, Tryd.results74, go_sem]) rfl ⟨rfl, by repeat (first | exact Below.refl _ _ | refine Below.alloc ?_ (by simp <;> omega) _ | refine Below.setCell ?_ (by simp <;> omega) _)⟩
set_option maxRecDepth 100000 in
set_option maxHeartbeats 1000000 in
theorem rtransfers_54 (a x y s m : Int) (F : Fl) (w : World) (_a0 : 0 ≤ a) (_a1 : a ≤ 255) (_x0 : 0 ≤ x) (_x1 : x ≤ 255) (_y0 : 0 ≤ y) (_y1 : y ≤ 255) (_m0 : 0 ≤ m) (_m1 : m ≤ 255) :
    Calls Tryd.prog 74 #[.int .i64 54, .agg #[.int .u8 a, .int .u8 x, .int .u8 y, .int .u8 s, .int .u8 (F.val : Nat), .int .u8 m]] w fun e w' => e = .returned (.tuple #[.agg #[.int .u8 (a), .int .u8 (x), .int .u8 (y), .int .u8 (x), .int .u8 ((F).val : Nat), .int .u8 (m)], .bool true]) ∧ Below w.heap.size w w' := by
  go_enter Tryd.func74, Tryd.ntmps74
  go_wp2
  exact bodyPost_ret (v := .tuple #[.agg #[.int .u8 (a), .int .u8 (x), .int .u8 (y), .int .u8 (x), .int .u8 ((F).val : Nat), .int .u8 (m)], .bool true]) (by simp [results, Tryd.results74, go_sem]) rfl ⟨rfl, by repeat (first | exact Below.refl _ _ | refine Below.alloc ?_ (by simp <;> omega) _ | refine Below.setCell ?_ (by simp <;> omega) _)⟩
set_option maxRecDepth 100000 in
set_option maxHeartbeats 1000000 in
theorem rtransfers_no (op a x y s m : Int) (F : Fl) (w : World) (d50 : (op == 50) = false) (d51 : (op == 51) = false) (d53 : (op == 53) = false) (d55 : (op == 55) = false) (d52 : (op == 52) = false) (d54 : (op == 54) = false) :
    Calls Tryd.prog 74 #[.int .i64 op, .agg #[.int .u8 a, .int .u8 x, .int .u8 y, .int .u8 s, .int .u8 (F.val : Nat), .int .u8 m]] w fun e w' => e = .returned (.tuple #[.agg #[.int .u8 (a), .int .u8 (x), .int .u8 (y), .int .u8 (s), .int .u8 ((F).val : Nat), .int .u8 (m)], .bool false]) ∧ Below w.heap.size w w' := by
  go_enter Tryd.func74, Tryd.ntmps74
  go_wp2
  exact bodyPost_ret (v := .tuple #[.agg #[.int .u8 (a), .int .u8 (x), .int .u8 (y), .int .u8 (s), .int .u8 ((F).val : Nat), .int .u8 (m)], .bool false]) (by simp [results, Tryd.results74, go_sem]) rfl ⟨rfl, by repeat (first | exact Below.refl _ _ | refine Below.alloc ?_ (by simp <;> omega) _ | refine Below.setCell ?_ (by simp <;> omega) _)⟩
end Go.Proofs.YthdmkmbgncbmgaaDoor
