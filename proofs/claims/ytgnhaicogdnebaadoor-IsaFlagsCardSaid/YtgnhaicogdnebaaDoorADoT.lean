/-
  What Do makes of an Alu: comparisons and their kin.
-/
import Derived.Test.YtgnhaicogdnebaaDoorADoC
import Derived.Test.YtgnhaicogdnebaaDoorAClo3
namespace Go.Proofs.YtgnhaicogdnebaaDoor
open Go.RowKit
theorem acc_any (op a x y s m : Int) (F : Fl) (w : World) (h0 : 0 ≤ a) (h1 : a ≤ 255) :
    Calls Tryd.prog 15 #[.int .i64 op, .agg #[.int .u8 a, .int .u8 x, .int .u8 y, .int .u8 s, .int .u8 (F.val : Nat), .int .u8 m]] w fun e w' => e = .returned (.agg #[.int .u8 (shV op a F.c), .int .u8 (x), .int .u8 (y), .int .u8 (s), .int .u8 ((shF op a F).val : Nat), .int .u8 (m)]) ∧ Below w.heap.size w w' := by
  go_enter Tryd.func15, Tryd.ntmps15
  go_wp2_with (go_at_call 25; refine (shift_any _ _ _ _ (by omega) (by omega)).mono ?_; rintro e w' ⟨rfl, rfl⟩)
  exact bodyPost_ret (v := .agg #[.int .u8 (shV op a F.c), .int .u8 (x), .int .u8 (y), .int .u8 (s), .int .u8 ((shF op a F).val : Nat), .int .u8 (m)]) (by simp [results, Tryd.results15, go_sem]) rfl ⟨rfl, ((Below.refl _ _).alloc (Nat.le_refl _) _).alloc (by simp) _⟩
set_option maxHeartbeats 4000000 in
theorem test_17 (a x y s m : Int) (F : Fl) (w : World) :
    Calls Tryd.prog 34 #[.int .i64 17, .agg #[.int .u8 a, .int .u8 x, .int .u8 y, .int .u8 s, .int .u8 (F.val : Nat), .int .u8 m]] w fun e w' => e = .returned (.agg #[.int .u8 (a), .int .u8 (x), .int .u8 (y), .int .u8 (s), .int .u8 ((nzF ((a - m) % 256) (F.put 1 (decide (m ≤ a)))).val : Nat), .int .u8 (m)]) ∧ Below w.heap.size w w' := by
  go_enter Tryd.func34, Tryd.ntmps34
  go_wp2_with (first | (go_at_call 76; refine (cmp_any _ _ _ _).mono ?_; rintro e w' ⟨rfl, rfl⟩) | (go_at_call 39; refine (putF_any _ _ _ _ (by decide)).mono ?_; rintro e w' ⟨rfl, rfl⟩))
  exact bodyPost_ret (v := .agg #[.int .u8 (a), .int .u8 (x), .int .u8 (y), .int .u8 (s), .int .u8 ((nzF ((a - m) % 256) (F.put 1 (decide (m ≤ a)))).val : Nat), .int .u8 (m)]) (by simp [results, Tryd.results34, go_sem]) rfl ⟨rfl, ((Below.refl _ _).alloc (Nat.le_refl _) _).alloc (by simp) _⟩
set_option maxHeartbeats 4000000 in
theorem test_18 (a x y s m : Int) (F : Fl) (w : World) :
    Calls Tryd.prog 34 #[.int .i64 18, .agg #[.int .u8 a, .int .u8 x, .int .u8 y, .int .u8 s, .int .u8 (F.val : Nat), .int .u8 m]] w fun e w' => e = .returned (.agg #[.int .u8 (a), .int .u8 (x), .int .u8 (y), .int .u8 (s), .int .u8 ((nzF ((x - m) % 256) (F.put 1 (decide (m ≤ x)))).val : Nat), .int .u8 (m)]) ∧ Below w.heap.size w w' := by
  go_enter Tryd.func34, Tryd.ntmps34
  go_wp2_with (first | (go_at_call 76; refine (cmp_any _ _ _ _).mono ?_; rintro e w' ⟨rfl, rfl⟩) | (go_at_call 39; refine (putF_any _ _ _ _ (by decide)).mono ?_; rintro e w' ⟨rfl, rfl⟩))
  exact bodyPost_ret (v := .agg #[.int .u8 (a), .int .u8 (x), .int .u8 (y), .int .u8 (s), .int .u8 ((nzF ((x - m) % 256) (F.put 1 (decide (m ≤ x)))).val : Nat), .int .u8 (m)]) (by simp [results, Tryd.results34, go_sem]) rfl ⟨rfl, ((Below.refl _ _).alloc (Nat.le_refl _) _).alloc (by simp) _⟩
set_option maxHeartbeats 4000000 in
theorem test_19 (a x y s m : Int) (F : Fl) (w : World) :
    Calls Tryd.prog 34 #[.int .i64 19, .agg #[.int .u8 a, .int .u8 x, .int .u8 y, .int .u8 s, .int .u8 (F.val : Nat), .int .u8 m]] w fun e w' => e = .returned (.agg #[.int .u8 (a), .int .u8 (x), .int .u8 (y), .int .u8 (s), .int .u8 ((nzF ((y - m) % 256) (F.put 1 (decide (m ≤ y)))).val : Nat), .int .u8 (m)]) ∧ Below w.heap.size w w' := by
  go_enter Tryd.func34, Tryd.ntmps34
  go_wp2_with (first | (go_at_call 76; refine (cmp_any _ _ _ _).mono ?_; rintro e w' ⟨rfl, rfl⟩) | (go_at_call 39; refine (putF_any _ _ _ _ (by decide)).mono ?_; rintro e w' ⟨rfl, rfl⟩))
  exact bodyPost_ret (v := .agg #[.int .u8 (a), .int .u8 (x), .int .u8 (y), .int .u8 (s), .int .u8 ((nzF ((y - m) % 256) (F.put 1 (decide (m ≤ y)))).val : Nat), .int .u8 (m)]) (by simp [results, Tryd.results34, go_sem]) rfl ⟨rfl, ((Below.refl _ _).alloc (Nat.le_refl _) _).alloc (by simp) _⟩
set_option maxHeartbeats 4000000 in
theorem test_6 (a x y s m : Int) (F : Fl) (w : World) :
    Calls Tryd.prog 34 #[.int .i64 6, .agg #[.int .u8 a, .int .u8 x, .int .u8 y, .int .u8 s, .int .u8 (F.val : Nat), .int .u8 m]] w fun e w' => e = .returned (.agg #[.int .u8 (a), .int .u8 (x), .int .u8 (y), .int .u8 (s), .int .u8 ((((F.put 2 (bits .and .u8 a m == 0)).put 128 (bits .and .u8 m 128 != 0)).put 64 (bits .and .u8 m 64 != 0)).val : Nat), .int .u8 (m)]) ∧ Below w.heap.size w w' := by
  go_enter Tryd.func34, Tryd.ntmps34
  go_wp2_with (first | (go_at_call 76; refine (cmp_any _ _ _ _).mono ?_; rintro e w' ⟨rfl, rfl⟩) | (go_at_call 39; refine (putF_any _ _ _ _ (by decide)).mono ?_; rintro e w' ⟨rfl, rfl⟩))
  exact bodyPost_ret (v := .agg #[.int .u8 (a), .int .u8 (x), .int .u8 (y), .int .u8 (s), .int .u8 ((((F.put 2 (bits .and .u8 a m == 0)).put 128 (bits .and .u8 m 128 != 0)).put 64 (bits .and .u8 m 64 != 0)).val : Nat), .int .u8 (m)]) (by simp [results, Tryd.results34, go_sem]) rfl ⟨rfl, ((Below.refl _ _).alloc (Nat.le_refl _) _).alloc (by simp) _⟩
set_option maxHeartbeats 4000000 in
theorem do_17 (a x y s m : Int) (F : Fl) (w : World) :
    Calls Tryd.prog 16 #[.int .i64 17, .agg #[.int .u8 a, .int .u8 x, .int .u8 y, .int .u8 s, .int .u8 (F.val : Nat), .int .u8 m]] w fun e w' => e = .returned (.agg #[.int .u8 (a), .int .u8 (x), .int .u8 (y), .int .u8 (s), .int .u8 ((nzF ((a - m) % 256) (F.put 1 (decide (m ≤ a)))).val : Nat), .int .u8 (m)]) ∧ Below w.heap.size w w' := by
  go_enter Tryd.func16, Tryd.ntmps16
  go_wp2_with (go_at_call 34; refine (test_17 _ _ _ _ _ _ _).mono ?_; rintro e w1 ⟨rfl, hb1⟩; obtain ⟨hc1, hf1⟩ := bcell hb1)
  refine bodyPost_ret (v := .agg #[.int .u8 (a), .int .u8 (x), .int .u8 (y), .int .u8 (s), .int .u8 ((nzF ((a - m) % 256) (F.put 1 (decide (m ≤ a)))).val : Nat), .int .u8 (m)]) (by simp [results, Tryd.results16, go_sem, hc1]) rfl ⟨rfl, ?_⟩
  clear hc1 hf1
  have hs := hb1.size
  simp at hs
  repeat (refine Below.setCell ?_ (by simp) _)
  exact (((Below.refl _ _).alloc (Nat.le_refl _) _).alloc (by simp) _).trans (hb1.mono (by simp; omega))
set_option maxHeartbeats 4000000 in
theorem do_18 (a x y s m : Int) (F : Fl) (w : World) :
    Calls Tryd.prog 16 #[.int .i64 18, .agg #[.int .u8 a, .int .u8 x, .int .u8 y, .int .u8 s, .int .u8 (F.val : Nat), .int .u8 m]] w fun e w' => e = .returned (.agg #[.int .u8 (a), .int .u8 (x), .int .u8 (y), .int .u8 (s), .int .u8 ((nzF ((x - m) % 256) (F.put 1 (decide (m ≤ x)))).val : Nat), .int .u8 (m)]) ∧ Below w.heap.size w w' := by
  go_enter Tryd.func16, Tryd.ntmps16
  go_wp2_with (go_at_call 34; refine (test_18 _ _ _ _ _ _ _).mono ?_; rintro e w1 ⟨rfl, hb1⟩; obtain ⟨hc1, hf1⟩ := bcell hb1)
  refine bodyPost_ret (v := .agg #[.int .u8 (a), .int .u8 (x), .int .u8 (y), .int .u8 (s), .int .u8 ((nzF ((x - m) % 256) (F.put 1 (decide (m ≤ x)))).val : Nat), .int .u8 (m)]) (by simp [results, Tryd.results16, go_sem, hc1]) rfl ⟨rfl, ?_⟩
  clear hc1 hf1
  have hs := hb1.size
  simp at hs
  repeat (refine Below.setCell ?_ (by simp) _)
  exact (((Below.refl _ _).alloc (Nat.le_refl _) _).alloc (by simp) _).trans (hb1.mono (by simp; omega))
set_option maxHeartbeats 4000000 in
theorem do_19 (a x y s m : Int) (F : Fl) (w : World) :
    Calls Tryd.prog 16 #[.int .i64 19, .agg #[.int .u8 a, .int .u8 x, .int .u8 y, .int .u8 s, .int .u8 (F.val : Nat), .int .u8 m]] w fun e w' => e = .returned (.agg #[.int .u8 (a), .int .u8 (x), .int .u8 (y), .int .u8 (s), .int .u8 ((nzF ((y - m) % 256) (F.put 1 (decide (m ≤ y)))).val : Nat), .int .u8 (m)]) ∧ Below w.heap.size w w' := by
  go_enter Tryd.func16, Tryd.ntmps16
  go_wp2_with (go_at_call 34; refine (test_19 _ _ _ _ _ _ _).mono ?_; rintro e w1 ⟨rfl, hb1⟩; obtain ⟨hc1, hf1⟩ := bcell hb1)
  refine bodyPost_ret (v := .agg #[.int .u8 (a), .int .u8 (x), .int .u8 (y), .int .u8 (s), .int .u8 ((nzF ((y - m) % 256) (F.put 1 (decide (m ≤ y)))).val : Nat), .int .u8 (m)]) (by simp [results, Tryd.results16, go_sem, hc1]) rfl ⟨rfl, ?_⟩
  clear hc1 hf1
  have hs := hb1.size
  simp at hs
  repeat (refine Below.setCell ?_ (by simp) _)
  exact (((Below.refl _ _).alloc (Nat.le_refl _) _).alloc (by simp) _).trans (hb1.mono (by simp; omega))
set_option maxHeartbeats 4000000 in
theorem do_6 (a x y s m : Int) (F : Fl) (w : World) :
    Calls Tryd.prog 16 #[.int .i64 6, .agg #[.int .u8 a, .int .u8 x, .int .u8 y, .int .u8 s, .int .u8 (F.val : Nat), .int .u8 m]] w fun e w' => e = .returned (.agg #[.int .u8 (a), .int .u8 (x), .int .u8 (y), .int .u8 (s), .int .u8 ((((F.put 2 (bits .and .u8 a m == 0)).put 128 (bits .and .u8 m 128 != 0)).put 64 (bits .and .u8 m 64 != 0)).val : Nat), .int .u8 (m)]) ∧ Below w.heap.size w w' := by
  go_enter Tryd.func16, Tryd.ntmps16
  go_wp2_with (go_at_call 34; refine (test_6 _ _ _ _ _ _ _).mono ?_; rintro e w1 ⟨rfl, hb1⟩; obtain ⟨hc1, hf1⟩ := bcell hb1)
  refine bodyPost_ret (v := .agg #[.int .u8 (a), .int .u8 (x), .int .u8 (y), .int .u8 (s), .int .u8 ((((F.put 2 (bits .and .u8 a m == 0)).put 128 (bits .and .u8 m 128 != 0)).put 64 (bits .and .u8 m 64 != 0)).val : Nat), .int .u8 (m)]) (by simp [results, Tryd.results16, go_sem, hc1]) rfl ⟨rfl, ?_⟩
  clear hc1 hf1
  have hs := hb1.size
  simp at hs
  repeat (refine Below.setCell ?_ (by simp) _)
  exact (((Below.refl _ _).alloc (Nat.le_refl _) _).alloc (by simp) _).trans (hb1.mono (by simp; omega))
end Go.Proofs.YtgnhaicogdnebaaDoor
