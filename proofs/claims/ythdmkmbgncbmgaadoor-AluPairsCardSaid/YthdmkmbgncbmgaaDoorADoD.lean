/-
  What Do makes of an Alu, operation by operation.
-/
import Derived.Test.YthdmkmbgncbmgaaDoorAClo1
import Derived.Test.YthdmkmbgncbmgaaDoorAClo2
import Derived.Test.YthdmkmbgncbmgaaDoorAClo3
namespace Go.Proofs.YthdmkmbgncbmgaaDoor
open Go.RowKit
theorem combine_34 (w : World) : Calls Tryd.prog 22 #[.int .i64 34] w fun e w' => e = .returned (.func (.func 57) #[] #[]) ∧ w' = w := by
  go_enter Tryd.func22, Tryd.ntmps22
  go_wp2
  go_ret
  exact ⟨rfl, rfl⟩
set_option maxHeartbeats 4000000 in
theorem do_34 (a x y s m : Int) (F : Fl) (w : World) :
    Calls Tryd.prog 11 #[.int .i64 34, .agg #[.int .u8 a, .int .u8 x, .int .u8 y, .int .u8 s, .int .u8 (F.val : Nat), .int .u8 m]] w fun e w' => e = .returned (.agg #[.int .u8 (bits .or .u8 a m), .int .u8 (x), .int .u8 (y), .int .u8 (s), .int .u8 ((nzF (bits .or .u8 a m) F).val : Nat), .int .u8 (m)]) ∧ Below w.heap.size w w' := by
  go_enter Tryd.func11, Tryd.ntmps11
  go_wp2
  go_region_with (first
    | (go_at_call 22; refine (combine_34 _).mono ?_; rintro e w1 ⟨rfl, rfl⟩)
    | (go_at_call 57; refine (combine2 _ _ _ _ _ _ _).mono ?_; rintro e w1 ⟨rfl, hb1⟩; obtain ⟨hc1, hf1⟩ := bcell hb1))
  all_goals
    go_wp2
    refine bodyPost_ret (v := .agg #[.int .u8 (bits .or .u8 a m), .int .u8 (x), .int .u8 (y), .int .u8 (s), .int .u8 ((nzF (bits .or .u8 a m) F).val : Nat), .int .u8 (m)]) (by simp [results, Tryd.results11, go_sem, hc1]) rfl ⟨rfl, ?_⟩
    clear hc1 hf1
    have hs := hb1.size
    simp at hs
    repeat (refine Below.setCell ?_ (by simp) _)
    exact (((((Below.refl _ _).alloc (Nat.le_refl _) _).alloc (by simp) _).drew)).trans (hb1.mono (by simp; omega))
theorem combine_23 (w : World) : Calls Tryd.prog 22 #[.int .i64 23] w fun e w' => e = .returned (.func (.func 58) #[] #[]) ∧ w' = w := by
  go_enter Tryd.func22, Tryd.ntmps22
  go_wp2
  go_ret
  exact ⟨rfl, rfl⟩
set_option maxHeartbeats 4000000 in
theorem do_23 (a x y s m : Int) (F : Fl) (w : World) :
    Calls Tryd.prog 11 #[.int .i64 23, .agg #[.int .u8 a, .int .u8 x, .int .u8 y, .int .u8 s, .int .u8 (F.val : Nat), .int .u8 m]] w fun e w' => e = .returned (.agg #[.int .u8 (bits .xor .u8 a m), .int .u8 (x), .int .u8 (y), .int .u8 (s), .int .u8 ((nzF (bits .xor .u8 a m) F).val : Nat), .int .u8 (m)]) ∧ Below w.heap.size w w' := by
  go_enter Tryd.func11, Tryd.ntmps11
  go_wp2
  go_region_with (first
    | (go_at_call 22; refine (combine_23 _).mono ?_; rintro e w1 ⟨rfl, rfl⟩)
    | (go_at_call 58; refine (combine3 _ _ _ _ _ _ _).mono ?_; rintro e w1 ⟨rfl, hb1⟩; obtain ⟨hc1, hf1⟩ := bcell hb1))
  all_goals
    go_wp2
    refine bodyPost_ret (v := .agg #[.int .u8 (bits .xor .u8 a m), .int .u8 (x), .int .u8 (y), .int .u8 (s), .int .u8 ((nzF (bits .xor .u8 a m) F).val : Nat), .int .u8 (m)]) (by simp [results, Tryd.results11, go_sem, hc1]) rfl ⟨rfl, ?_⟩
    clear hc1 hf1
    have hs := hb1.size
    simp at hs
    repeat (refine Below.setCell ?_ (by simp) _)
    exact (((((Below.refl _ _).alloc (Nat.le_refl _) _).alloc (by simp) _).drew)).trans (hb1.mono (by simp; omega))
theorem add_0 (w : World) : Calls Tryd.prog 23 #[.int .i64 0] w fun e w' => e = .returned (.func (.func 59) #[] #[]) ∧ w' = w := by
  go_enter Tryd.func23, Tryd.ntmps23
  go_wp2
  go_ret
  exact ⟨rfl, rfl⟩
set_option maxHeartbeats 4000000 in
theorem do_0 (a x y s m : Int) (F : Fl) (w : World) (a0 : 0 ≤ a) (a1 : a ≤ 255) (m0 : 0 ≤ m) (m1 : m ≤ 255) :
    Calls Tryd.prog 11 #[.int .i64 0, .agg #[.int .u8 a, .int .u8 x, .int .u8 y, .int .u8 s, .int .u8 (F.val : Nat), .int .u8 m]] w fun e w' => e = .returned (.agg #[.int .u8 (adcV a m F), .int .u8 (x), .int .u8 (y), .int .u8 (s), .int .u8 ((adcF a m F).val : Nat), .int .u8 (m)]) ∧ Below w.heap.size w w' := by
  go_enter Tryd.func11, Tryd.ntmps11
  go_wp2
  go_region_with (first
    | (go_at_call 23; refine (add_0 _).mono ?_; rintro e w1 ⟨rfl, rfl⟩)
    | (go_at_call 59; refine (add1 _ _ _ _ _ _ _ (by omega) (by omega) (by omega) (by omega)).mono ?_; rintro e w1 ⟨rfl, hb1⟩; obtain ⟨hc1, hf1⟩ := bcell hb1))
  all_goals
    go_wp2
    refine bodyPost_ret (v := .agg #[.int .u8 (adcV a m F), .int .u8 (x), .int .u8 (y), .int .u8 (s), .int .u8 ((adcF a m F).val : Nat), .int .u8 (m)]) (by simp [results, Tryd.results11, go_sem, hc1]) rfl ⟨rfl, ?_⟩
    clear hc1 hf1
    have hs := hb1.size
    simp at hs
    repeat (refine Below.setCell ?_ (by simp) _)
    exact (((((Below.refl _ _).alloc (Nat.le_refl _) _).alloc (by simp) _).drew)).trans (hb1.mono (by simp; omega))
theorem add_43 (w : World) : Calls Tryd.prog 23 #[.int .i64 43] w fun e w' => e = .returned (.func (.func 61) #[] #[]) ∧ w' = w := by
  go_enter Tryd.func23, Tryd.ntmps23
  go_wp2
  go_ret
  exact ⟨rfl, rfl⟩
set_option maxHeartbeats 4000000 in
theorem do_43 (a x y s m : Int) (F : Fl) (w : World) (a0 : 0 ≤ a) (a1 : a ≤ 255) (m0 : 0 ≤ m) (m1 : m ≤ 255) :
    Calls Tryd.prog 11 #[.int .i64 43, .agg #[.int .u8 a, .int .u8 x, .int .u8 y, .int .u8 s, .int .u8 (F.val : Nat), .int .u8 m]] w fun e w' => e = .returned (.agg #[.int .u8 (sbcV a m F), .int .u8 (x), .int .u8 (y), .int .u8 (s), .int .u8 ((sbcF a m F).val : Nat), .int .u8 (m)]) ∧ Below w.heap.size w w' := by
  go_enter Tryd.func11, Tryd.ntmps11
  go_wp2
  go_region_with (first
    | (go_at_call 23; refine (add_43 _).mono ?_; rintro e w1 ⟨rfl, rfl⟩)
    | (go_at_call 61; refine (add2 _ _ _ _ _ _ _ (by omega) (by omega) (by omega) (by omega)).mono ?_; rintro e w1 ⟨rfl, hb1⟩; obtain ⟨hc1, hf1⟩ := bcell hb1))
  all_goals
    go_wp2
    refine bodyPost_ret (v := .agg #[.int .u8 (sbcV a m F), .int .u8 (x), .int .u8 (y), .int .u8 (s), .int .u8 ((sbcF a m F).val : Nat), .int .u8 (m)]) (by simp [results, Tryd.results11, go_sem, hc1]) rfl ⟨rfl, ?_⟩
    clear hc1 hf1
    have hs := hb1.size
    simp at hs
    repeat (refine Below.setCell ?_ (by simp) _)
    exact (((((Below.refl _ _).alloc (Nat.le_refl _) _).alloc (by simp) _).drew)).trans (hb1.mono (by simp; omega))
theorem add_58 (w : World) : Calls Tryd.prog 23 #[.int .i64 58] w fun e w' => e = .returned (.func (.func 63) #[] #[]) ∧ w' = w := by
  go_enter Tryd.func23, Tryd.ntmps23
  go_wp2
  go_ret
  exact ⟨rfl, rfl⟩
set_option maxHeartbeats 4000000 in
theorem do_58 (a x y s m : Int) (F : Fl) (w : World) (a0 : 0 ≤ a) (a1 : a ≤ 255) (m0 : 0 ≤ m) (m1 : m ≤ 255) :
    Calls Tryd.prog 11 #[.int .i64 58, .agg #[.int .u8 a, .int .u8 x, .int .u8 y, .int .u8 s, .int .u8 (F.val : Nat), .int .u8 m]] w fun e w' => e = .returned (.agg #[.int .u8 (arrV (bits .and .u8 a m) F), .int .u8 (x), .int .u8 (y), .int .u8 (s), .int .u8 ((arrF (bits .and .u8 a m) F).val : Nat), .int .u8 (m)]) ∧ Below w.heap.size w w' := by
  go_enter Tryd.func11, Tryd.ntmps11
  go_wp2
  go_region_with (first
    | (go_at_call 23; refine (add_58 _).mono ?_; rintro e w1 ⟨rfl, rfl⟩)
    | (go_at_call 63; refine (add3 _ _ _ _ _ _ _ (by omega) (by omega) (by omega) (by omega)).mono ?_; rintro e w1 ⟨rfl, hb1⟩; obtain ⟨hc1, hf1⟩ := bcell hb1))
  all_goals
    go_wp2
    refine bodyPost_ret (v := .agg #[.int .u8 (arrV (bits .and .u8 a m) F), .int .u8 (x), .int .u8 (y), .int .u8 (s), .int .u8 ((arrF (bits .and .u8 a m) F).val : Nat), .int .u8 (m)]) (by simp [results, Tryd.results11, go_sem, hc1]) rfl ⟨rfl, ?_⟩
    clear hc1 hf1
    have hs := hb1.size
    simp at hs
    repeat (refine Below.setCell ?_ (by simp) _)
    exact (((((Below.refl _ _).alloc (Nat.le_refl _) _).alloc (by simp) _).drew)).trans (hb1.mono (by simp; omega))
theorem shift_2 (w : World) : Calls Tryd.prog 24 #[.int .i64 2] w fun e w' => e = .returned (.func (.func 65) #[] #[.pointer (some ⟨w.heap.size, 0, none⟩)]) ∧ w' = w.alloc (.cells #[.int .i64 2] 25) := by
  go_enter Tryd.func24, Tryd.ntmps24
  go_wp2
  go_ret
  exact ⟨rfl, rfl⟩
set_option maxHeartbeats 4000000 in
theorem do_2 (a x y s m : Int) (F : Fl) (w : World) (m0 : 0 ≤ m) (m1 : m ≤ 255) :
    Calls Tryd.prog 11 #[.int .i64 2, .agg #[.int .u8 a, .int .u8 x, .int .u8 y, .int .u8 s, .int .u8 (F.val : Nat), .int .u8 m]] w fun e w' => e = .returned (.agg #[.int .u8 (a), .int .u8 (x), .int .u8 (y), .int .u8 (s), .int .u8 ((shF 2 m F).val : Nat), .int .u8 (shV 2 m F.c)]) ∧ Below w.heap.size w w' := by
  go_enter Tryd.func11, Tryd.ntmps11
  go_wp2
  go_region_with (first
    | (go_at_call 24; refine (shift_2 _).mono ?_; rintro e w1 ⟨rfl, rfl⟩)
    | (go_at_call 65; refine (shift1 2 _ _ _ _ _ _ _ _ (by omega) (by omega) (by simp [go_sem])).mono ?_; rintro e w1 ⟨rfl, hb1⟩; obtain ⟨hc1, hf1⟩ := bcell hb1))
  all_goals
    go_wp2
    refine bodyPost_ret (v := .agg #[.int .u8 (a), .int .u8 (x), .int .u8 (y), .int .u8 (s), .int .u8 ((shF 2 m F).val : Nat), .int .u8 (shV 2 m F.c)]) (by simp [results, Tryd.results11, go_sem, hc1]) rfl ⟨rfl, ?_⟩
    clear hc1 hf1
    have hs := hb1.size
    simp at hs
    repeat (refine Below.setCell ?_ (by simp) _)
    exact (((((Below.refl _ _).alloc (Nat.le_refl _) _).alloc (by simp) _).drew).alloc (by simp; omega) _).trans (hb1.mono (by simp; omega))
theorem shift_32 (w : World) : Calls Tryd.prog 24 #[.int .i64 32] w fun e w' => e = .returned (.func (.func 65) #[] #[.pointer (some ⟨w.heap.size, 0, none⟩)]) ∧ w' = w.alloc (.cells #[.int .i64 32] 25) := by
  go_enter Tryd.func24, Tryd.ntmps24
  go_wp2
  go_ret
  exact ⟨rfl, rfl⟩
set_option maxHeartbeats 4000000 in
theorem do_32 (a x y s m : Int) (F : Fl) (w : World) (m0 : 0 ≤ m) (m1 : m ≤ 255) :
    Calls Tryd.prog 11 #[.int .i64 32, .agg #[.int .u8 a, .int .u8 x, .int .u8 y, .int .u8 s, .int .u8 (F.val : Nat), .int .u8 m]] w fun e w' => e = .returned (.agg #[.int .u8 (a), .int .u8 (x), .int .u8 (y), .int .u8 (s), .int .u8 ((shF 32 m F).val : Nat), .int .u8 (shV 32 m F.c)]) ∧ Below w.heap.size w w' := by
  go_enter Tryd.func11, Tryd.ntmps11
  go_wp2
  go_region_with (first
    | (go_at_call 24; refine (shift_32 _).mono ?_; rintro e w1 ⟨rfl, rfl⟩)
    | (go_at_call 65; refine (shift1 32 _ _ _ _ _ _ _ _ (by omega) (by omega) (by simp [go_sem])).mono ?_; rintro e w1 ⟨rfl, hb1⟩; obtain ⟨hc1, hf1⟩ := bcell hb1))
  all_goals
    go_wp2
    refine bodyPost_ret (v := .agg #[.int .u8 (a), .int .u8 (x), .int .u8 (y), .int .u8 (s), .int .u8 ((shF 32 m F).val : Nat), .int .u8 (shV 32 m F.c)]) (by simp [results, Tryd.results11, go_sem, hc1]) rfl ⟨rfl, ?_⟩
    clear hc1 hf1
    have hs := hb1.size
    simp at hs
    repeat (refine Below.setCell ?_ (by simp) _)
    exact (((((Below.refl _ _).alloc (Nat.le_refl _) _).alloc (by simp) _).drew).alloc (by simp; omega) _).trans (hb1.mono (by simp; omega))
theorem shift_39 (w : World) : Calls Tryd.prog 24 #[.int .i64 39] w fun e w' => e = .returned (.func (.func 65) #[] #[.pointer (some ⟨w.heap.size, 0, none⟩)]) ∧ w' = w.alloc (.cells #[.int .i64 39] 25) := by
  go_enter Tryd.func24, Tryd.ntmps24
  go_wp2
  go_ret
  exact ⟨rfl, rfl⟩
set_option maxHeartbeats 4000000 in
theorem do_39 (a x y s m : Int) (F : Fl) (w : World) (m0 : 0 ≤ m) (m1 : m ≤ 255) :
    Calls Tryd.prog 11 #[.int .i64 39, .agg #[.int .u8 a, .int .u8 x, .int .u8 y, .int .u8 s, .int .u8 (F.val : Nat), .int .u8 m]] w fun e w' => e = .returned (.agg #[.int .u8 (a), .int .u8 (x), .int .u8 (y), .int .u8 (s), .int .u8 ((shF 39 m F).val : Nat), .int .u8 (shV 39 m F.c)]) ∧ Below w.heap.size w w' := by
  go_enter Tryd.func11, Tryd.ntmps11
  go_wp2
  go_region_with (first
    | (go_at_call 24; refine (shift_39 _).mono ?_; rintro e w1 ⟨rfl, rfl⟩)
    | (go_at_call 65; refine (shift1 39 _ _ _ _ _ _ _ _ (by omega) (by omega) (by simp [go_sem])).mono ?_; rintro e w1 ⟨rfl, hb1⟩; obtain ⟨hc1, hf1⟩ := bcell hb1))
  all_goals
    go_wp2
    refine bodyPost_ret (v := .agg #[.int .u8 (a), .int .u8 (x), .int .u8 (y), .int .u8 (s), .int .u8 ((shF 39 m F).val : Nat), .int .u8 (shV 39 m F.c)]) (by simp [results, Tryd.results11, go_sem, hc1]) rfl ⟨rfl, ?_⟩
    clear hc1 hf1
    have hs := hb1.size
    simp at hs
    repeat (refine Below.setCell ?_ (by simp) _)
    exact (((((Below.refl _ _).alloc (Nat.le_refl _) _).alloc (by simp) _).drew).alloc (by simp; omega) _).trans (hb1.mono (by simp; omega))
theorem shift_40 (w : World) : Calls Tryd.prog 24 #[.int .i64 40] w fun e w' => e = .returned (.func (.func 65) #[] #[.pointer (some ⟨w.heap.size, 0, none⟩)]) ∧ w' = w.alloc (.cells #[.int .i64 40] 25) := by
  go_enter Tryd.func24, Tryd.ntmps24
  go_wp2
  go_ret
  exact ⟨rfl, rfl⟩
set_option maxHeartbeats 4000000 in
theorem do_40 (a x y s m : Int) (F : Fl) (w : World) (m0 : 0 ≤ m) (m1 : m ≤ 255) :
    Calls Tryd.prog 11 #[.int .i64 40, .agg #[.int .u8 a, .int .u8 x, .int .u8 y, .int .u8 s, .int .u8 (F.val : Nat), .int .u8 m]] w fun e w' => e = .returned (.agg #[.int .u8 (a), .int .u8 (x), .int .u8 (y), .int .u8 (s), .int .u8 ((shF 40 m F).val : Nat), .int .u8 (shV 40 m F.c)]) ∧ Below w.heap.size w w' := by
  go_enter Tryd.func11, Tryd.ntmps11
  go_wp2
  go_region_with (first
    | (go_at_call 24; refine (shift_40 _).mono ?_; rintro e w1 ⟨rfl, rfl⟩)
    | (go_at_call 65; refine (shift1 40 _ _ _ _ _ _ _ _ (by omega) (by omega) (by simp [go_sem])).mono ?_; rintro e w1 ⟨rfl, hb1⟩; obtain ⟨hc1, hf1⟩ := bcell hb1))
  all_goals
    go_wp2
    refine bodyPost_ret (v := .agg #[.int .u8 (a), .int .u8 (x), .int .u8 (y), .int .u8 (s), .int .u8 ((shF 40 m F).val : Nat), .int .u8 (shV 40 m F.c)]) (by simp [results, Tryd.results11, go_sem, hc1]) rfl ⟨rfl, ?_⟩
    clear hc1 hf1
    have hs := hb1.size
    simp at hs
    repeat (refine Below.setCell ?_ (by simp) _)
    exact (((((Below.refl _ _).alloc (Nat.le_refl _) _).alloc (by simp) _).drew).alloc (by simp; omega) _).trans (hb1.mono (by simp; omega))
end Go.Proofs.YthdmkmbgncbmgaaDoor
