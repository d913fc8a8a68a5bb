/-
  The document's indexes.
-/
import Derived.Test.YthdmkmbgncbmgaaDoorARef2
import Derived.Test.YthdmkmbgncbmgaaDoorAArr
import Derived.Test.YthdmkmbgncbmgaaDoorATold
namespace Go.Proofs.YthdmkmbgncbmgaaDoor
open Go.RowKit Classical
/-- One more or one less. -/
def stp (v d : Int) : Int := if d = 1 then (v + 1) % 256 else (v - 1) % 256
theorem step_any (v d : Int) (w : World) (v0 : 0 ≤ v) (v1 : v ≤ 255) (hd : d ∈ [(1 : Int), -1]) :
    Calls Tryd.prog 83 #[.int .u8 v, .int .i64 d] w fun e w' => e = .returned (.int .u8 (stp v d)) ∧ w' = w := by
  simp only [List.mem_cons, List.not_mem_nil, or_false] at hd
  rcases hd with rfl | rfl
  all_goals
    go_enter Tryd.func83, Tryd.ntmps83
    go_wp2_with (go_at_call 82; refine (rest_any _ _ _ (by decide) (by omega) (by omega)).mono ?_; rintro e w' ⟨rfl, rfl⟩)
    go_ret
    exact ⟨congrArg (fun z => Ending.returned (.int .u8 z)) (by unfold stp; simp <;> omega), rfl⟩
set_option maxRecDepth 100000 in
set_option maxHeartbeats 1000000 in
theorem rindexes_25 (a x y s m : Int) (F : Fl) (w : World) (_a0 : 0 ≤ a) (_a1 : a ≤ 255) (_x0 : 0 ≤ x) (_x1 : x ≤ 255) (_y0 : 0 ≤ y) (_y1 : y ≤ 255) (_m0 : 0 ≤ m) (_m1 : m ≤ 255) :
    Calls Tryd.prog 84 #[.int .i64 25, .agg #[.int .u8 a, .int .u8 x, .int .u8 y, .int .u8 s, .int .u8 (F.val : Nat), .int .u8 m]] w fun e w' => e = .returned (.tuple #[.agg #[.int .u8 (a), .int .u8 ((x + 1) % 256), .int .u8 (y), .int .u8 (s), .int .u8 ((nzF ((x + 1) % 256) F).val : Nat), .int .u8 (m)], .bool true]) ∧ Below w.heap.size w w' := by
  have hst1 : ∀ v : Int, stp v 1 = (v + 1) % 256 := fun _ => rfl
  have hst2 : ∀ v : Int, stp v (-1) = (v - 1) % 256 := fun _ => rfl
  go_enter Tryd.func84, Tryd.ntmps84
  go_wp2_with (first | (go_at_call 83; refine (step_any _ _ _ (by omega) (by omega) (by decide)).mono ?_; rintro e w' ⟨rfl, rfl⟩) | (go_at_call 73; refine (rnz_any _ _ _).mono ?_; rintro e w' ⟨rfl, rfl⟩))
  exact bodyPost_ret (v := .tuple #[.agg #[.int .u8 (a), .int .u8 ((x + 1) % 256), .int .u8 (y), .int .u8 (s), .int .u8 ((nzF ((x + 1) % 256) F).val : Nat), .int .u8 (m)], .bool true]) (by simp [results, Tryd.results84, go_sem]) rfl ⟨rfl, by repeat (first | exact Below.refl _ _ | refine Below.alloc ?_ (by simp <;> omega) _ | refine Below.setCell ?_ (by simp <;> omega) _)⟩
set_option maxRecDepth 100000 in
set_option maxHeartbeats 1000000 in
theorem rindexes_21 (a x y s m : Int) (F : Fl) (w : World) (_a0 : 0 ≤ a) (_a1 : a ≤ 255) (_x0 : 0 ≤ x) (_x1 : x ≤ 255) (_y0 : 0 ≤ y) (_y1 : y ≤ 255) (_m0 : 0 ≤ m) (_m1 : m ≤ 255) :
    Calls Tryd.prog 84 #[.int .i64 21, .agg #[.int .u8 a, .int .u8 x, .int .u8 y, .int .u8 s, .int .u8 (F.val : Nat), .int .u8 m]] w fun e w' => e = .returned (.tuple #[.agg #[.int .u8 (a), .int .u8 ((x - 1) % 256), .int .u8 (y), .int .u8 (s), .int .u8 ((nzF ((x - 1) % 256) F).val : Nat), .int .u8 (m)], .bool true]) ∧ Below w.heap.size w w' := by
  have hst1 : ∀ v : Int, stp v 1 = (v + 1) % 256 := fun _ => rfl
  have hst2 : ∀ v : Int, stp v (-1) = (v - 1) % 256 := fun _ => rfl
  go_enter Tryd.func84, Tryd.ntmps84
  go_wp2_with (first | (go_at_call 83; refine (step_any _ _ _ (by omega) (by omega) (by decide)).mono ?_; rintro e w' ⟨rfl, rfl⟩) | (go_at_call 73; refine (rnz_any _ _ _).mono ?_; rintro e w' ⟨rfl, rfl⟩))
  exact bodyPost_ret (v := .tuple #[.agg #[.int .u8 (a), .int .u8 ((x - 1) % 256), .int .u8 (y), .int .u8 (s), .int .u8 ((nzF ((x - 1) % 256) F).val : Nat), .int .u8 (m)], .bool true]) (by simp [results, Tryd.results84, go_sem]) rfl ⟨rfl, by repeat (first | exact Below.refl _ _ | refine Below.alloc ?_ (by simp <;> omega) _ | refine Below.setCell ?_ (by simp <;> omega) _)⟩
set_option maxRecDepth 100000 in
set_option maxHeartbeats 1000000 in
theorem rindexes_26 (a x y s m : Int) (F : Fl) (w : World) (_a0 : 0 ≤ a) (_a1 : a ≤ 255) (_x0 : 0 ≤ x) (_x1 : x ≤ 255) (_y0 : 0 ≤ y) (_y1 : y ≤ 255) (_m0 : 0 ≤ m) (_m1 : m ≤ 255) :
    Calls Tryd.prog 84 #[.int .i64 26, .agg #[.int .u8 a, .int .u8 x, .int .u8 y, .int .u8 s, .int .u8 (F.val : Nat), .int .u8 m]] w fun e w' => e = .returned (.tuple #[.agg #[.int .u8 (a), .int .u8 (x), .int .u8 ((y + 1) % 256), .int .u8 (s), .int .u8 ((nzF ((y + 1) % 256) F).val : Nat), .int .u8 (m)], .bool true]) ∧ Below w.heap.size w w' := by
  have hst1 : ∀ v : Int, stp v 1 = (v + 1) % 256 := fun _ => rfl
  have hst2 : ∀ v : Int, stp v (-1) = (v - 1) % 256 := fun _ => rfl
  go_enter Tryd.func84, Tryd.ntmps84
  go_wp2_with (first | (go_at_call 83; refine (step_any _ _ _ (by omega) (by omega) (by decide)).mono ?_; rintro e w' ⟨rfl, rfl⟩) | (go_at_call 73; refine (rnz_any _ _ _).mono ?_; rintro e w' ⟨rfl, rfl⟩))
  exact bodyPost_ret (v := .tuple #[.agg #[.int .u8 (a), .int .u8 (x), .int .u8 ((y + 1) % 256), .int .u8 (s), .int .u8 ((nzF ((y + 1) % 256) F).val : Nat), .int .u8 (m)], .bool true]) (by simp [results, Tryd.results84, go_sem]) rfl ⟨rfl, by repeat (first | exact Below.refl _ _ | refine Below.alloc ?_ (by simp <;> omega) _ | refine Below.setCell ?_ (by simp <;> omega) _)⟩
set_option maxRecDepth 100000 in
set_option maxHeartbeats 1000000 in
theorem rindexes_22 (a x y s m : Int) (F : Fl) (w : World) (_a0 : 0 ≤ a) (_a1 : a ≤ 255) (_x0 : 0 ≤ x) (_x1 : x ≤ 255) (_y0 : 0 ≤ y) (_y1 : y ≤ 255) (_m0 : 0 ≤ m) (_m1 : m ≤ 255) :
    Calls Tryd.prog 84 #[.int .i64 22, .agg #[.int .u8 a, .int .u8 x, .int .u8 y, .int .u8 s, .int .u8 (F.val : Nat), .int .u8 m]] w fun e w' => e = .returned (.tuple #[.agg #[.int .u8 (a), .int .u8 (x), .int .u8 ((y - 1) % 256), .int .u8 (s), .int .u8 ((nzF ((y - 1) % 256) F).val : Nat), .int .u8 (m)], .bool true]) ∧ Below w.heap.size w w' := by
  have hst1 : ∀ v : Int, stp v 1 = (v + 1) % 256 := fun _ => rfl
  have hst2 : ∀ v : Int, stp v (-1) = (v - 1) % 256 := fun _ => rfl
  go_enter Tryd.func84, Tryd.ntmps84
  go_wp2_with (first | (go_at_call 83; refine (step_any _ _ _ (by omega) (by omega) (by decide)).mono ?_; rintro e w' ⟨rfl, rfl⟩) | (go_at_call 73; refine (rnz_any _ _ _).mono ?_; rintro e w' ⟨rfl, rfl⟩))
  exact bodyPost_ret (v := .tuple #[.agg #[.int .u8 (a), .int .u8 (x), .int .u8 ((y - 1) % 256), .int .u8 (s), .int .u8 ((nzF ((y - 1) % 256) F).val : Nat), .int .u8 (m)], .bool true]) (by simp [results, Tryd.results84, go_sem]) rfl ⟨rfl, by repeat (first | exact Below.refl _ _ | refine Below.alloc ?_ (by simp <;> omega) _ | refine Below.setCell ?_ (by simp <;> omega) _)⟩
set_option maxRecDepth 100000 in
set_option maxHeartbeats 1000000 in
theorem rindexes_no (op a x y s m : Int) (F : Fl) (w : World) (d25 : (op == 25) = false) (d21 : (op == 21) = false) (d26 : (op == 26) = false) (d22 : (op == 22) = false) :
    Calls Tryd.prog 84 #[.int .i64 op, .agg #[.int .u8 a, .int .u8 x, .int .u8 y, .int .u8 s, .int .u8 (F.val : Nat), .int .u8 m]] w fun e w' => e = .returned (.tuple #[.agg #[.int .u8 (a), .int .u8 (x), .int .u8 (y), .int .u8 (s), .int .u8 ((F).val : Nat), .int .u8 (m)], .bool false]) ∧ Below w.heap.size w w' := by
  go_enter Tryd.func84, Tryd.ntmps84
  go_wp2
  exact bodyPost_ret (v := .tuple #[.agg #[.int .u8 (a), .int .u8 (x), .int .u8 (y), .int .u8 (s), .int .u8 ((F).val : Nat), .int .u8 (m)], .bool false]) (by simp [results, Tryd.results84, go_sem]) rfl ⟨rfl, by repeat (first | exact Below.refl _ _ | refine Below.alloc ?_ (by simp <;> omega) _ | refine Below.setCell ?_ (by simp <;> omega) _)⟩
end Go.Proofs.YthdmkmbgncbmgaaDoor
