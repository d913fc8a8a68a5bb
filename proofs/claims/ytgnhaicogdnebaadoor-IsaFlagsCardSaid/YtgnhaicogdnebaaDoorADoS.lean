/-
  What Do makes of an Alu: SBX.
-/
import Derived.Test.YtgnhaicogdnebaaDoorAClo3
namespace Go.Proofs.YtgnhaicogdnebaaDoor
open Go.RowKit
set_option maxHeartbeats 4000000 in
theorem test_66 (a x y s m : Int) (F : Fl) (w : World) :
    Calls Tryd.prog 34 #[.int .i64 66, .agg #[.int .u8 a, .int .u8 x, .int .u8 y, .int .u8 s, .int .u8 (F.val : Nat), .int .u8 m]] w fun e w' => e = .returned (.agg #[.int .u8 (a), .int .u8 ((bits .and .u8 a x - m) % 256), .int .u8 (y), .int .u8 (s), .int .u8 ((nzF ((bits .and .u8 a x - m) % 256) (F.put 1 (decide (m ≤ bits .and .u8 a x)))).val : Nat), .int .u8 (m)]) ∧ Below w.heap.size w w' := by
  go_enter Tryd.func34, Tryd.ntmps34
  go_wp2
  go_region_with (go_at_call 76; refine (cmp_any _ _ _ _).mono ?_; rintro e w' ⟨rfl, rfl⟩)
  all_goals
    go_wp2
    exact bodyPost_ret (v := .agg #[.int .u8 (a), .int .u8 ((bits .and .u8 a x - m) % 256), .int .u8 (y), .int .u8 (s), .int .u8 ((nzF ((bits .and .u8 a x - m) % 256) (F.put 1 (decide (m ≤ bits .and .u8 a x)))).val : Nat), .int .u8 (m)]) (by simp [results, Tryd.results34, go_sem]) rfl ⟨rfl, by repeat (first | exact Below.refl _ _ | refine Below.alloc ?_ (by simp <;> omega) _ | refine Below.drew ?_ | refine Below.setCell ?_ (by simp <;> omega) _)⟩
set_option maxHeartbeats 4000000 in
theorem do_66 (a x y s m : Int) (F : Fl) (w : World) :
    Calls Tryd.prog 16 #[.int .i64 66, .agg #[.int .u8 a, .int .u8 x, .int .u8 y, .int .u8 s, .int .u8 (F.val : Nat), .int .u8 m]] w fun e w' => e = .returned (.agg #[.int .u8 (a), .int .u8 ((bits .and .u8 a x - m) % 256), .int .u8 (y), .int .u8 (s), .int .u8 ((nzF ((bits .and .u8 a x - m) % 256) (F.put 1 (decide (m ≤ bits .and .u8 a x)))).val : Nat), .int .u8 (m)]) ∧ Below w.heap.size w w' := by
  go_enter Tryd.func16, Tryd.ntmps16
  go_wp2_with (go_at_call 34; refine (test_66 _ _ _ _ _ _ _).mono ?_; rintro e w1 ⟨rfl, hb1⟩; obtain ⟨hc1, hf1⟩ := bcell hb1)
  refine bodyPost_ret (v := .agg #[.int .u8 (a), .int .u8 ((bits .and .u8 a x - m) % 256), .int .u8 (y), .int .u8 (s), .int .u8 ((nzF ((bits .and .u8 a x - m) % 256) (F.put 1 (decide (m ≤ bits .and .u8 a x)))).val : Nat), .int .u8 (m)]) (by simp [results, Tryd.results16, go_sem, hc1]) rfl ⟨rfl, ?_⟩
  clear hc1 hf1
  have hs := hb1.size
  simp at hs
  repeat (refine Below.setCell ?_ (by simp) _)
  exact (((Below.refl _ _).alloc (Nat.le_refl _) _).alloc (by simp) _).trans (hb1.mono (by simp; omega))
end Go.Proofs.YtgnhaicogdnebaaDoor
