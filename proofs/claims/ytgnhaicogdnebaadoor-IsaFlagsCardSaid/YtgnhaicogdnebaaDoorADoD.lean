/-
  What Do makes of an Alu, operation by operation.
-/
import Derived.Test.YtgnhaicogdnebaaDoorAClo1
import Derived.Test.YtgnhaicogdnebaaDoorAClo2
import Derived.Test.YtgnhaicogdnebaaDoorAClo3
namespace Go.Proofs.YtgnhaicogdnebaaDoor
open Go.RowKit
theorem combine_34 (w : World) : Calls Tryd.prog 30 #[.int .i64 34] w fun e w' => e = .returned (.func (.func 64) #[] #[]) ∧ w' = w := by
  go_enter Tryd.func30, Tryd.ntmps30
  go_wp2
  go_ret
  exact ⟨rfl, rfl⟩
set_option maxHeartbeats 4000000 in
theorem do_34 (a x y s m : Int) (F : Fl) (w : World) :
    Calls Tryd.prog 16 #[.int .i64 34, .agg #[.int .u8 a, .int .u8 x, .int .u8 y, .int .u8 s, .int .u8 (F.val : Nat), .int .u8 m]] w fun e w' => e = .returned (.agg #[.int .u8 (bits .or .u8 a m), .int .u8 (x), .int .u8 (y), .int .u8 (s), .int .u8 ((nzF (bits .or .u8 a m) F).val : Nat), .int .u8 (m)]) ∧ Below w.heap.size w w' := by
  go_enter Tryd.func16, Tryd.ntmps16
  go_wp2
  go_region_with (first
    | (go_at_call 30; refine (combine_34 _).mono ?_; rintro e w1 ⟨rfl, rfl⟩)
    | (go_at_call 64; refine (combine2 _ _ _ _ _ _ _).mono ?_; rintro e w1 ⟨rfl, hb1⟩; obtain ⟨hc1, hf1⟩ := bcell hb1))
  all_goals
    go_wp2
    refine bodyPost_ret (v := .agg #[.int .u8 (bits .or .u8 a m), .int .u8 (x), .int .u8 (y), .int .u8 (s), .int .u8 ((nzF (bits .or .u8 a m) F).val : Nat), .int .u8 (m)]) (by simp [results, Tryd.results16, go_sem, hc1]) rfl ⟨rfl, ?_⟩
    clear hc1 hf1
    have hs := hb1.size
    simp at hs
    repeat (refine Below.setCell ?_ (by simp) _)
    exact (((((Below.refl _ _).alloc (Nat.le_refl _) _).alloc (by simp) _).drew)).trans (hb1.mono (by simp; omega))
theorem combine_23 (w : World) : Calls Tryd.prog 30 #[.int .i64 23] w fun e w' => e = .returned (.func (.func 65) #[] #[]) ∧ w' = w := by
  go_enter Tryd.func30, Tryd.ntmps30
  go_wp2
  go_ret
  exact ⟨rfl, rfl⟩
set_option maxHeartbeats 4000000 in
theorem do_23 (a x y s m : Int) (F : Fl) (w : World) :
    Calls Tryd.prog 16 #[.int .i64 23, .agg #[.int .u8 a, .int .u8 x, .int .u8 y, .int .u8 s, .int .u8 (F.val : Nat), .int .u8 m]] w fun e w' => e = .returned (.agg #[.int .u8 (bits .xor .u8 a m), .int .u8 (x), .int .u8 (y), .int .u8 (s), .int .u8 ((nzF (bits .xor .u8 a m) F).val : Nat), .int .u8 (m)]) ∧ Below w.heap.size w w' := by
  go_enter Tryd.func16, Tryd.ntmps16
  go_wp2
  go_region_with (first
    | (go_at_call 30; refine (combine_23 _).mono ?_; rintro e w1 ⟨rfl, rfl⟩)
    | (go_at_call 65; refine (combine3 _ _ _ _ _ _ _).mono ?_; rintro e w1 ⟨rfl, hb1⟩; obtain ⟨hc1, hf1⟩ := bcell hb1))
  all_goals
    go_wp2
    refine bodyPost_ret (v := .agg #[.int .u8 (bits .xor .u8 a m), .int .u8 (x), .int .u8 (y), .int .u8 (s), .int .u8 ((nzF (bits .xor .u8 a m) F).val : Nat), .int .u8 (m)]) (by simp [results, Tryd.results16, go_sem, hc1]) rfl ⟨rfl, ?_⟩
    clear hc1 hf1
    have hs := hb1.size
    simp at hs
    repeat (refine Below.setCell ?_ (by simp) _)
    exact (((((Below.refl _ _).alloc (Nat.le_refl _) _).alloc (by simp) _).drew)).trans (hb1.mono (by simp; omega))
theorem add_0 (w : World) : Calls Tryd.prog 31 #[.int .i64 0] w fun e w' => e = .returned (.func (.func 66) #[] #[]) ∧ w' = w := by
  go_enter Tryd.func31, Tryd.ntmps31
  go_wp2
  go_ret
  exact ⟨rfl, rfl⟩
set_option maxHeartbeats 4000000 in
theorem do_0 (a x y s m : Int) (F : Fl) (w : World) (a0 : 0 ≤ a) (a1 : a ≤ 255) (m0 : 0 ≤ m) (m1 : m ≤ 255) :
    Calls Tryd.prog 16 #[.int .i64 0, .agg #[.int .u8 a, .int .u8 x, .int .u8 y, .int .u8 s, .int .u8 (F.val : Nat), .int .u8 m]] w fun e w' => e = .returned (.agg #[.int .u8 (adcV a m F), .int .u8 (x), .int .u8 (y), .int .u8 (s), .int .u8 ((adcF a m F).val : Nat), .int .u8 (m)]) ∧ Below w.heap.size w w' := by
  go_enter Tryd.func16, Tryd.ntmps16
  go_wp2
  go_region_with (first
    | (go_at_call 31; refine (add_0 _).mono ?_; rintro e w1 ⟨rfl, rfl⟩)
    | (go_at_call 66; refine (add1 _ _ _ _ _ _ _ (by omega) (by omega) (by omega) (by omega)).mono ?_; rintro e w1 ⟨rfl, hb1⟩; obtain ⟨hc1, hf1⟩ := bcell hb1))
  all_goals
    go_wp2
    refine bodyPost_ret (v := .agg #[.int .u8 (adcV a m F), .int .u8 (x), .int .u8 (y), .int .u8 (s), .int .u8 ((adcF a m F).val : Nat), .int .u8 (m)]) (by simp [results, Tryd.results16, go_sem, hc1]) rfl ⟨rfl, ?_⟩
    clear hc1 hf1
    have hs := hb1.size
    simp at hs
    repeat (refine Below.setCell ?_ (by simp) _)
    exact (((((Below.refl _ _).alloc (Nat.le_refl _) _).alloc (by simp) _).drew)).trans (hb1.mono (by simp; omega))
theorem add_43 (w : World) : Calls Tryd.prog 31 #[.int .i64 43] w fun e w' => e = .returned (.func (.func 68) #[] #[]) ∧ w' = w := by
  go_enter Tryd.func31, Tryd.ntmps31
  go_wp2
  go_ret
  exact ⟨rfl, rfl⟩
set_option maxHeartbeats 4000000 in
theorem do_43 (a x y s m : Int) (F : Fl) (w : World) (a0 : 0 ≤ a) (a1 : a ≤ 255) (m0 : 0 ≤ m) (m1 : m ≤ 255) :
    Calls Tryd.prog 16 #[.int .i64 43, .agg #[.int .u8 a, .int .u8 x, .int .u8 y, .int .u8 s, .int .u8 (F.val : Nat), .int .u8 m]] w fun e w' => e = .returned (.agg #[.int .u8 (sbcV a m F), .int .u8 (x), .int .u8 (y), .int .u8 (s), .int .u8 ((sbcF a m F).val : Nat), .int .u8 (m)]) ∧ Below w.heap.size w w' := by
  go_enter Tryd.func16, Tryd.ntmps16
  go_wp2
  go_region_with (first
    | (go_at_call 31; refine (add_43 _).mono ?_; rintro e w1 ⟨rfl, rfl⟩)
    | (go_at_call 68; refine (add2 _ _ _ _ _ _ _ (by omega) (by omega) (by omega) (by omega)).mono ?_; rintro e w1 ⟨rfl, hb1⟩; obtain ⟨hc1, hf1⟩ := bcell hb1))
  all_goals
    go_wp2
    refine bodyPost_ret (v := .agg #[.int .u8 (sbcV a m F), .int .u8 (x), .int .u8 (y), .int .u8 (s), .int .u8 ((sbcF a m F).val : Nat), .int .u8 (m)]) (by simp [results, Tryd.results16, go_sem, hc1]) rfl ⟨rfl, ?_⟩
    clear hc1 hf1
    have hs := hb1.size
    simp at hs
    repeat (refine Below.setCell ?_ (by simp) _)
    exact (((((Below.refl _ _).alloc (Nat.le_refl _) _).alloc (by simp) _).drew)).trans (hb1.mono (by simp; omega))
theorem add_58 (w : World) : Calls Tryd.prog 31 #[.int .i64 58] w fun e w' => e = .returned (.func (.func 70) #[] #[]) ∧ w' = w := by
  go_enter Tryd.func31, Tryd.ntmps31
  go_wp2
  go_ret
  exact ⟨rfl, rfl⟩
set_option maxHeartbeats 4000000 in
theorem do_58 (a x y s m : Int) (F : Fl) (w : World) (a0 : 0 ≤ a) (a1 : a ≤ 255) (m0 : 0 ≤ m) (m1 : m ≤ 255) :
    Calls Tryd.prog 16 #[.int .i64 58, .agg #[.int .u8 a, .int .u8 x, .int .u8 y, .int .u8 s, .int .u8 (F.val : Nat), .int .u8 m]] w fun e w' => e = .returned (.agg #[.int .u8 (arrV (bits .and .u8 a m) F), .int .u8 (x), .int .u8 (y), .int .u8 (s), .int .u8 ((arrF (bits .and .u8 a m) F).val : Nat), .int .u8 (m)]) ∧ Below w.heap.size w w' := by
  go_enter Tryd.func16, Tryd.ntmps16
  go_wp2
  go_region_with (first
    | (go_at_call 31; refine (add_58 _).mono ?_; rintro e w1 ⟨rfl, rfl⟩)
    | (go_at_call 70; refine (add3 _ _ _ _ _ _ _ (by omega) (by omega) (by omega) (by omega)).mono ?_; rintro e w1 ⟨rfl, hb1⟩; obtain ⟨hc1, hf1⟩ := bcell hb1))
  all_goals
    go_wp2
    refine bodyPost_ret (v := .agg #[.int .u8 (arrV (bits .and .u8 a m) F), .int .u8 (x), .int .u8 (y), .int .u8 (s), .int .u8 ((arrF (bits .and .u8 a m) F).val : Nat), .int .u8 (m)]) (by simp [results, Tryd.results16, go_sem, hc1]) rfl ⟨rfl, ?_⟩
    clear hc1 hf1
    have hs := hb1.size
    simp at hs
    repeat (refine Below.setCell ?_ (by simp) _)
    exact (((((Below.refl _ _).alloc (Nat.le_refl _) _).alloc (by simp) _).drew)).trans (hb1.mono (by simp; omega))
theorem shift_2 (w : World) : Calls Tryd.prog 32 #[.int .i64 2] w fun e w' => e = .returned (.func (.func 72) #[] #[.pointer (some ⟨w.heap.size, 0, none⟩)]) ∧ w' = w.alloc (.cells #[.int .i64 2] 24) := by
  go_enter Tryd.func32, Tryd.ntmps32
  go_wp2
  go_ret
  exact ⟨rfl, rfl⟩
set_option maxHeartbeats 4000000 in
theorem do_2 (a x y s m : Int) (F : Fl) (w : World) (m0 : 0 ≤ m) (m1 : m ≤ 255) :
    Calls Tryd.prog 16 #[.int .i64 2, .agg #[.int .u8 a, .int .u8 x, .int .u8 y, .int .u8 s, .int .u8 (F.val : Nat), .int .u8 m]] w fun e w' => e = .returned (.agg #[.int .u8 (a), .int .u8 (x), .int .u8 (y), .int .u8 (s), .int .u8 ((shF 2 m F).val : Nat), .int .u8 (shV 2 m F.c)]) ∧ Below w.heap.size w w' := by
  go_enter Tryd.func16, Tryd.ntmps16
  go_wp2
  go_region_with (first
    | (go_at_call 32; refine (shift_2 _).mono ?_; rintro e w1 ⟨rfl, rfl⟩)
    | (go_at_call 72; refine (shift1 2 _ _ _ _ _ _ _ _ (by omega) (by omega) (by simp [go_sem])).mono ?_; rintro e w1 ⟨rfl, hb1⟩; obtain ⟨hc1, hf1⟩ := bcell hb1))
  all_goals
    go_wp2
    refine bodyPost_ret (v := .agg #[.int .u8 (a), .int .u8 (x), .int .u8 (y), .int .u8 (s), .int .u8 ((shF 2 m F).val : Nat), .int .u8 (shV 2 m F.c)]) (by simp [results, Tryd.results16, go_sem, hc1]) rfl ⟨rfl, ?_⟩
    clear hc1 hf1
    have hs := hb1.size
    simp at hs
    repeat (refine Below.setCell ?_ (by simp) _)
    exact (((((Below.refl _ _).alloc (Nat.le_refl _) _).alloc (by simp) _).drew).alloc (by simp; omega) _).trans (hb1.mono (by simp; omega))
theorem shift_32 (w : World) : Calls Tryd.prog 32 #[.int .i64 32] w fun e w' => e = .returned (.func (.func 72) #[] #[.pointer (some ⟨w.heap.size, 0, none⟩)]) ∧ w' = w.alloc (.cells #[.int .i64 32] 24) := by
  go_enter Tryd.func32, Tryd.ntmps32
  go_wp2
  go_ret
  exact ⟨rfl, rfl⟩
set_option maxHeartbeats 4000000 in
theorem do_32 (a x y s m : Int) (F : Fl) (w : World) (m0 : 0 ≤ m) (m1 : m ≤ 255) :
    Calls Tryd.prog 16 #[.int .i64 32, .agg #[.int .u8 a, .int .u8 x, .int .u8 y, .int .u8 s, .int .u8 (F.val : Nat), .int .u8 m]] w fun e w' => e = .returned (.agg #[.int .u8 (a), .int .u8 (x), .int .u8 (y), .int .u8 (s), .int .u8 ((shF 32 m F).val : Nat), .int .u8 (shV 32 m F.c)]) ∧ Below w.heap.size w w' := by
  go_enter Tryd.func16, Tryd.ntmps16
  go_wp2
  go_region_with (first
    | (go_at_call 32; refine (shift_32 _).mono ?_; rintro e w1 ⟨rfl, rfl⟩)
    | (go_at_call 72; refine (shift1 32 _ _ _ _ _ _ _ _ (by omega) (by omega) (by simp [go_sem])).mono ?_; rintro e w1 ⟨rfl, hb1⟩; obtain ⟨hc1, hf1⟩ := bcell hb1))
  all_goals
    go_wp2
    refine bodyPost_ret (v := .agg #[.int .u8 (a), .int .u8 (x), .int .u8 (y), .int .u8 (s), .int .u8 ((shF 32 m F).val : Nat), .int .u8 (shV 32 m F.c)]) (by simp [results, Tryd.results16, go_sem, hc1]) rfl ⟨rfl, ?_⟩
    clear hc1 hf1
    have hs := hb1.size
    simp at hs
    repeat (refine Below.setCell ?_ (by simp) _)
    exact (((((Below.refl _ _).alloc (Nat.le_refl _) _).alloc (by simp) _).drew).alloc (by simp; omega) _).trans (hb1.mono (by simp; omega))
theorem shift_39 (w : World) : Calls Tryd.prog 32 #[.int .i64 39] w fun e w' => e = .returned (.func (.func 72) #[] #[.pointer (some ⟨w.heap.size, 0, none⟩)]) ∧ w' = w.alloc (.cells #[.int .i64 39] 24) := by
  go_enter Tryd.func32, Tryd.ntmps32
  go_wp2
  go_ret
  exact ⟨rfl, rfl⟩
set_option maxHeartbeats 4000000 in
theorem do_39 (a x y s m : Int) (F : Fl) (w : World) (m0 : 0 ≤ m) (m1 : m ≤ 255) :
    Calls Tryd.prog 16 #[.int .i64 39, .agg #[.int .u8 a, .int .u8 x, .int .u8 y, .int .u8 s, .int .u8 (F.val : Nat), .int .u8 m]] w fun e w' => e = .returned (.agg #[.int .u8 (a), .int .u8 (x), .int .u8 (y), .int .u8 (s), .int .u8 ((shF 39 m F).val : Nat), .int .u8 (shV 39 m F.c)]) ∧ Below w.heap.size w w' := by
  go_enter Tryd.func16, Tryd.ntmps16
  go_wp2
  go_region_with (first
    | (go_at_call 32; refine (shift_39 _).mono ?_; rintro e w1 ⟨rfl, rfl⟩)
    | (go_at_call 72; refine (shift1 39 _ _ _ _ _ _ _ _ (by omega) (by omega) (by simp [go_sem])).mono ?_; rintro e w1 ⟨rfl, hb1⟩; obtain ⟨hc1, hf1⟩ := bcell hb1))
  all_goals
    go_wp2
    refine bodyPost_ret (v := .agg #[.int .u8 (a), .int .u8 (x), .int .u8 (y), .int .u8 (s), .int .u8 ((shF 39 m F).val : Nat), .int .u8 (shV 39 m F.c)]) (by simp [results, Tryd.results16, go_sem, hc1]) rfl ⟨rfl, ?_⟩
    clear hc1 hf1
    have hs := hb1.size
    simp at hs
    repeat (refine Below.setCell ?_ (by simp) _)
    exact (((((Below.refl _ _).alloc (Nat.le_refl _) _).alloc (by simp) _).drew).alloc (by simp; omega) _).trans (hb1.mono (by simp; omega))
theorem shift_40 (w : World) : Calls Tryd.prog 32 #[.int .i64 40] w fun e w' => e = .returned (.func (.func 72) #[] #[.pointer (some ⟨w.heap.size, 0, none⟩)]) ∧ w' = w.alloc (.cells #[.int .i64 40] 24) := by
  go_enter Tryd.func32, Tryd.ntmps32
  go_wp2
  go_ret
  exact ⟨rfl, rfl⟩
set_option maxHeartbeats 4000000 in
theorem do_40 (a x y s m : Int) (F : Fl) (w : World) (m0 : 0 ≤ m) (m1 : m ≤ 255) :
    Calls Tryd.prog 16 #[.int .i64 40, .agg #[.int .u8 a, .int .u8 x, .int .u8 y, .int .u8 s, .int .u8 (F.val : Nat), .int .u8 m]] w fun e w' => e = .returned (.agg #[.int .u8 (a), .int .u8 (x), .int .u8 (y), .int .u8 (s), .int .u8 ((shF 40 m F).val : Nat), .int .u8 (shV 40 m F.c)]) ∧ Below w.heap.size w w' := by
  go_enter Tryd.func16, Tryd.ntmps16
  go_wp2
  go_region_with (first
    | (go_at_call 32; refine (shift_40 _).mono ?_; rintro e w1 ⟨rfl, rfl⟩)
    | (go_at_call 72; refine (shift1 40 _ _ _ _ _ _ _ _ (by omega) (by omega) (by simp [go_sem])).mono ?_; rintro e w1 ⟨rfl, hb1⟩; obtain ⟨hc1, hf1⟩ := bcell hb1))
  all_goals
    go_wp2
    refine bodyPost_ret (v := .agg #[.int .u8 (a), .int .u8 (x), .int .u8 (y), .int .u8 (s), .int .u8 ((shF 40 m F).val : Nat), .int .u8 (shV 40 m F.c)]) (by simp [results, Tryd.results16, go_sem, hc1]) rfl ⟨rfl, ?_⟩
    clear hc1 hf1
    have hs := hb1.size
    simp at hs
    repeat (refine Below.setCell ?_ (by simp) _)
    exact (((((Below.refl _ _).alloc (Nat.le_refl _) _).alloc (by simp) _).drew).alloc (by simp; omega) _).trans (hb1.mono (by simp; omega))
end Go.Proofs.YtgnhaicogdnebaaDoor
