/-
  What Do makes of an Alu: ALR.
-/
import Derived.Test.YtgnhaicogdnebaaDoorAClo3
namespace Go.Proofs.YtgnhaicogdnebaaDoor
open Go.RowKit
theorem acc_x (op a x y s m : Int) (F : Fl) (w : World) (h0 : 0 ≤ a) (h1 : a ≤ 255) :
    Calls Tryd.prog 15 #[.int .i64 op, .agg #[.int .u8 a, .int .u8 x, .int .u8 y, .int .u8 s, .int .u8 (F.val : Nat), .int .u8 m]] w fun e w' => e = .returned (.agg #[.int .u8 (shV op a F.c), .int .u8 (x), .int .u8 (y), .int .u8 (s), .int .u8 ((shF op a F).val : Nat), .int .u8 (m)]) ∧ w' = (w.alloc (.cells #[.int .u8 (shV op a F.c), .int .u8 (x), .int .u8 (y), .int .u8 (s), .int .u8 ((shF op a F).val : Nat), .int .u8 (m)] 23)).alloc (.cells #[.int .u8 (shV op a F.c), .int .u8 (x), .int .u8 (y), .int .u8 (s), .int .u8 ((shF op a F).val : Nat), .int .u8 (m)] 23) := by
  go_enter Tryd.func15, Tryd.ntmps15
  go_wp2_with (go_at_call 25; refine (shift_any _ _ _ _ (by omega) (by omega)).mono ?_; rintro e w' ⟨rfl, rfl⟩)
  exact bodyPost_ret (v := .agg #[.int .u8 (shV op a F.c), .int .u8 (x), .int .u8 (y), .int .u8 (s), .int .u8 ((shF op a F).val : Nat), .int .u8 (m)]) (by simp [results, Tryd.results15, go_sem]) rfl ⟨rfl, rfl⟩
set_option maxHeartbeats 1000000 in
theorem test_56 (a x y s m : Int) (F : Fl) (w : World) (a0 : 0 ≤ a) (a1 : a ≤ 255) (m0 : 0 ≤ m) (m1 : m ≤ 255) :
    Calls Tryd.prog 34 #[.int .i64 56, .agg #[.int .u8 a, .int .u8 x, .int .u8 y, .int .u8 s, .int .u8 (F.val : Nat), .int .u8 m]] w fun e w' => e = .returned (.agg #[.int .u8 (shV 32 (bits .and .u8 a m) F.c), .int .u8 (x), .int .u8 (y), .int .u8 (s), .int .u8 ((shF 32 (bits .and .u8 a m) F).val : Nat), .int .u8 (m)]) ∧ Below w.heap.size w w' := by
  obtain ⟨t0, t1⟩ := and_bd a m a0 a1 m0 m1
  generalize ht : bits .and .u8 a m = t at *
  go_enter Tryd.func34, Tryd.ntmps34
  go_wp2_with (go_at_call 15; refine (acc_x _ _ _ _ _ _ _ _ (by omega) (by omega)).mono ?_; rintro e w1 ⟨rfl, rfl⟩)
  exact bodyPost_ret (v := .agg #[.int .u8 (shV 32 (t) F.c), .int .u8 (x), .int .u8 (y), .int .u8 (s), .int .u8 ((shF 32 (t) F).val : Nat), .int .u8 (m)]) (by simp [results, Tryd.results34, go_sem]) rfl ⟨rfl, by repeat (first | exact Below.refl _ _ | refine Below.alloc ?_ (by simp <;> omega) _ | refine Below.drew ?_ | refine Below.setCell ?_ (by simp <;> omega) _)⟩
set_option maxHeartbeats 4000000 in
theorem do_56 (a x y s m : Int) (F : Fl) (w : World) (a0 : 0 ≤ a) (a1 : a ≤ 255) (m0 : 0 ≤ m) (m1 : m ≤ 255) :
    Calls Tryd.prog 16 #[.int .i64 56, .agg #[.int .u8 a, .int .u8 x, .int .u8 y, .int .u8 s, .int .u8 (F.val : Nat), .int .u8 m]] w fun e w' => e = .returned (.agg #[.int .u8 (shV 32 (bits .and .u8 a m) F.c), .int .u8 (x), .int .u8 (y), .int .u8 (s), .int .u8 ((shF 32 (bits .and .u8 a m) F).val : Nat), .int .u8 (m)]) ∧ Below w.heap.size w w' := by
  go_enter Tryd.func16, Tryd.ntmps16
  go_wp2_with (go_at_call 34; refine (test_56 _ _ _ _ _ _ _ (by omega) (by omega) (by omega) (by omega)).mono ?_; rintro e w1 ⟨rfl, hb1⟩; obtain ⟨hc1, hf1⟩ := bcell hb1)
  refine bodyPost_ret (v := .agg #[.int .u8 (shV 32 (bits .and .u8 a m) F.c), .int .u8 (x), .int .u8 (y), .int .u8 (s), .int .u8 ((shF 32 (bits .and .u8 a m) F).val : Nat), .int .u8 (m)]) (by simp [results, Tryd.results16, go_sem, hc1]) rfl ⟨rfl, ?_⟩
  clear hc1 hf1
  have hs := hb1.size
  simp at hs
  repeat (refine Below.setCell ?_ (by simp) _)
  exact (((Below.refl _ _).alloc (Nat.le_refl _) _).alloc (by simp) _).trans (hb1.mono (by simp; omega))
end Go.Proofs.YtgnhaicogdnebaaDoor
