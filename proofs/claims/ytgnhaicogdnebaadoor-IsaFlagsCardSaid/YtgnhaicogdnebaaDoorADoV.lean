/-
  What Do makes of an Alu: ANC.
-/
import Derived.Test.YtgnhaicogdnebaaDoorADoC
namespace Go.Proofs.YtgnhaicogdnebaaDoor
open Go.RowKit
theorem told_x (a x y s m v : Int) (F : Fl) (w : World) :
    Calls Tryd.prog 41 #[.agg #[.int .u8 a, .int .u8 x, .int .u8 y, .int .u8 s, .int .u8 (F.val : Nat), .int .u8 m], .int .u8 v] w fun e w' => e = .returned (.agg #[.int .u8 (a), .int .u8 (x), .int .u8 (y), .int .u8 (s), .int .u8 ((nzF v F).val : Nat), .int .u8 (m)]) ∧ w' = (w.alloc (.cells #[.int .u8 (a), .int .u8 (x), .int .u8 (y), .int .u8 (s), .int .u8 ((nzF v F).val : Nat), .int .u8 (m)] 23)).alloc (.cells #[.int .u8 (a), .int .u8 (x), .int .u8 (y), .int .u8 (s), .int .u8 ((nzF v F).val : Nat), .int .u8 (m)] 23) := by
  go_enter Tryd.func41, Tryd.ntmps41
  go_wp2_with (go_at_call 38; refine (nz_any _ _ _).mono ?_; rintro e w' ⟨rfl, rfl⟩)
  exact bodyPost_ret (v := .agg #[.int .u8 (a), .int .u8 (x), .int .u8 (y), .int .u8 (s), .int .u8 ((nzF v F).val : Nat), .int .u8 (m)]) (by simp [results, Tryd.results41, go_sem]) rfl ⟨rfl, rfl⟩
set_option maxHeartbeats 1000000 in
theorem combine1_x (a x y s m : Int) (F : Fl) (w : World) :
    Calls Tryd.prog 63 #[.agg #[.int .u8 a, .int .u8 x, .int .u8 y, .int .u8 s, .int .u8 (F.val : Nat), .int .u8 m]] w fun e w' => e = .returned (.agg #[.int .u8 (bits .and .u8 a m), .int .u8 (x), .int .u8 (y), .int .u8 (s), .int .u8 ((nzF (bits .and .u8 a m) F).val : Nat), .int .u8 (m)]) ∧ w' = (((w.alloc (.cells #[.int .u8 (bits .and .u8 a m), .int .u8 (x), .int .u8 (y), .int .u8 (s), .int .u8 ((F).val : Nat), .int .u8 (m)] 23)).alloc (.cells #[.int .u8 (bits .and .u8 a m), .int .u8 (x), .int .u8 (y), .int .u8 (s), .int .u8 ((nzF (bits .and .u8 a m) F).val : Nat), .int .u8 (m)] 23)).alloc (.cells #[.int .u8 (bits .and .u8 a m), .int .u8 (x), .int .u8 (y), .int .u8 (s), .int .u8 ((nzF (bits .and .u8 a m) F).val : Nat), .int .u8 (m)] 23)).alloc (.cells #[.int .u8 (bits .and .u8 a m), .int .u8 (x), .int .u8 (y), .int .u8 (s), .int .u8 ((nzF (bits .and .u8 a m) F).val : Nat), .int .u8 (m)] 23) := by
  go_enter Tryd.func63, Tryd.ntmps63
  go_wp2_with (go_at_call 41; refine (told_x _ _ _ _ _ _ _ _).mono ?_; rintro e w1 ⟨rfl, rfl⟩)
  exact bodyPost_ret (v := .agg #[.int .u8 (bits .and .u8 a m), .int .u8 (x), .int .u8 (y), .int .u8 (s), .int .u8 ((nzF (bits .and .u8 a m) F).val : Nat), .int .u8 (m)]) (by simp [results, Tryd.results63, go_sem]) rfl ⟨rfl, rfl⟩
set_option maxHeartbeats 1000000 in
theorem test_57 (a x y s m : Int) (F : Fl) (w : World) :
    Calls Tryd.prog 34 #[.int .i64 57, .agg #[.int .u8 a, .int .u8 x, .int .u8 y, .int .u8 s, .int .u8 (F.val : Nat), .int .u8 m]] w fun e w' => e = .returned (.agg #[.int .u8 (bits .and .u8 a m), .int .u8 (x), .int .u8 (y), .int .u8 (s), .int .u8 (((nzF (bits .and .u8 a m) F).put 1 (decide (128 ≤ bits .and .u8 a m))).val : Nat), .int .u8 (m)]) ∧ Below w.heap.size w w' := by
  go_enter Tryd.func34, Tryd.ntmps34
  go_wp2
  go_region_with (first
    | (go_at_call 30; refine (combine_1 _).mono ?_; rintro e w1 ⟨rfl, rfl⟩)
    | (go_at_call 63; refine (combine1_x _ _ _ _ _ _ _).mono ?_; rintro e w1 ⟨rfl, rfl⟩))
  all_goals
    go_wp2_with (go_at_call 39; refine (putF_any _ _ _ _ (by decide)).mono ?_; rintro e w' ⟨rfl, rfl⟩)
    exact bodyPost_ret (v := .agg #[.int .u8 (bits .and .u8 a m), .int .u8 (x), .int .u8 (y), .int .u8 (s), .int .u8 (((nzF (bits .and .u8 a m) F).put 1 (decide (128 ≤ bits .and .u8 a m))).val : Nat), .int .u8 (m)]) (by simp [results, Tryd.results34, go_sem]) rfl ⟨rfl, by repeat (first | exact Below.refl _ _ | refine Below.alloc ?_ (by simp <;> omega) _ | refine Below.drew ?_ | refine Below.setCell ?_ (by simp <;> omega) _)⟩
set_option maxHeartbeats 4000000 in
theorem do_57 (a x y s m : Int) (F : Fl) (w : World) :
    Calls Tryd.prog 16 #[.int .i64 57, .agg #[.int .u8 a, .int .u8 x, .int .u8 y, .int .u8 s, .int .u8 (F.val : Nat), .int .u8 m]] w fun e w' => e = .returned (.agg #[.int .u8 (bits .and .u8 a m), .int .u8 (x), .int .u8 (y), .int .u8 (s), .int .u8 (((nzF (bits .and .u8 a m) F).put 1 (decide (128 ≤ bits .and .u8 a m))).val : Nat), .int .u8 (m)]) ∧ Below w.heap.size w w' := by
  go_enter Tryd.func16, Tryd.ntmps16
  go_wp2_with (go_at_call 34; refine (test_57 _ _ _ _ _ _ _).mono ?_; rintro e w1 ⟨rfl, hb1⟩; obtain ⟨hc1, hf1⟩ := bcell hb1)
  refine bodyPost_ret (v := .agg #[.int .u8 (bits .and .u8 a m), .int .u8 (x), .int .u8 (y), .int .u8 (s), .int .u8 (((nzF (bits .and .u8 a m) F).put 1 (decide (128 ≤ bits .and .u8 a m))).val : Nat), .int .u8 (m)]) (by simp [results, Tryd.results16, go_sem, hc1]) rfl ⟨rfl, ?_⟩
  clear hc1 hf1
  have hs := hb1.size
  simp at hs
  repeat (refine Below.setCell ?_ (by simp) _)
  exact (((Below.refl _ _).alloc (Nat.le_refl _) _).alloc (by simp) _).trans (hb1.mono (by simp; omega))
end Go.Proofs.YtgnhaicogdnebaaDoor
