/-
  What Do makes of an Alu, operation by operation.
-/
import Derived.Test.YthdmkmbgncbmgaaDoorAClo1
import Derived.Test.YthdmkmbgncbmgaaDoorAClo2
import Derived.Test.YthdmkmbgncbmgaaDoorAClo3
namespace Go.Proofs.YthdmkmbgncbmgaaDoor
open Go.RowKit
theorem transfer_53 (w : World) : Calls Tryd.prog 19 #[.int .i64 53] w fun e w' => e = .returned (.func (.func 42) #[] #[]) ∧ w' = w := by
  go_enter Tryd.func19, Tryd.ntmps19
  go_wp2
  go_ret
  exact ⟨rfl, rfl⟩
set_option maxHeartbeats 4000000 in
theorem do_53 (a x y s m : Int) (F : Fl) (w : World) :
    Calls Tryd.prog 11 #[.int .i64 53, .agg #[.int .u8 a, .int .u8 x, .int .u8 y, .int .u8 s, .int .u8 (F.val : Nat), .int .u8 m]] w fun e w' => e = .returned (.agg #[.int .u8 (x), .int .u8 (x), .int .u8 (y), .int .u8 (s), .int .u8 ((nzF (x) F).val : Nat), .int .u8 (m)]) ∧ Below w.heap.size w w' := by
  go_enter Tryd.func11, Tryd.ntmps11
  go_wp2
  go_region_with (first
    | (go_at_call 19; refine (transfer_53 _).mono ?_; rintro e w1 ⟨rfl, rfl⟩)
    | (go_at_call 42; refine (transfer3 _ _ _ _ _ _ _).mono ?_; rintro e w1 ⟨rfl, hb1⟩; obtain ⟨hc1, hf1⟩ := bcell hb1))
  all_goals
    go_wp2
    refine bodyPost_ret (v := .agg #[.int .u8 (x), .int .u8 (x), .int .u8 (y), .int .u8 (s), .int .u8 ((nzF (x) F).val : Nat), .int .u8 (m)]) (by simp [results, Tryd.results11, go_sem, hc1]) rfl ⟨rfl, ?_⟩
    clear hc1 hf1
    have hs := hb1.size
    simp at hs
    repeat (refine Below.setCell ?_ (by simp) _)
    exact (((((Below.refl _ _).alloc (Nat.le_refl _) _).alloc (by simp) _).drew)).trans (hb1.mono (by simp; omega))
theorem transfer_55 (w : World) : Calls Tryd.prog 19 #[.int .i64 55] w fun e w' => e = .returned (.func (.func 43) #[] #[]) ∧ w' = w := by
  go_enter Tryd.func19, Tryd.ntmps19
  go_wp2
  go_ret
  exact ⟨rfl, rfl⟩
set_option maxHeartbeats 4000000 in
theorem do_55 (a x y s m : Int) (F : Fl) (w : World) :
    Calls Tryd.prog 11 #[.int .i64 55, .agg #[.int .u8 a, .int .u8 x, .int .u8 y, .int .u8 s, .int .u8 (F.val : Nat), .int .u8 m]] w fun e w' => e = .returned (.agg #[.int .u8 (y), .int .u8 (x), .int .u8 (y), .int .u8 (s), .int .u8 ((nzF (y) F).val : Nat), .int .u8 (m)]) ∧ Below w.heap.size w w' := by
  go_enter Tryd.func11, Tryd.ntmps11
  go_wp2
  go_region_with (first
    | (go_at_call 19; refine (transfer_55 _).mono ?_; rintro e w1 ⟨rfl, rfl⟩)
    | (go_at_call 43; refine (transfer4 _ _ _ _ _ _ _).mono ?_; rintro e w1 ⟨rfl, hb1⟩; obtain ⟨hc1, hf1⟩ := bcell hb1))
  all_goals
    go_wp2
    refine bodyPost_ret (v := .agg #[.int .u8 (y), .int .u8 (x), .int .u8 (y), .int .u8 (s), .int .u8 ((nzF (y) F).val : Nat), .int .u8 (m)]) (by simp [results, Tryd.results11, go_sem, hc1]) rfl ⟨rfl, ?_⟩
    clear hc1 hf1
    have hs := hb1.size
    simp at hs
    repeat (refine Below.setCell ?_ (by simp) _)
    exact (((((Below.refl _ _).alloc (Nat.le_refl _) _).alloc (by simp) _).drew)).trans (hb1.mono (by simp; omega))
theorem transfer_52 (w : World) : Calls Tryd.prog 19 #[.int .i64 52] w fun e w' => e = .returned (.func (.func 44) #[] #[]) ∧ w' = w := by
  go_enter Tryd.func19, Tryd.ntmps19
  go_wp2
  go_ret
  exact ⟨rfl, rfl⟩
set_option maxHeartbeats 4000000 in
theorem do_52 (a x y s m : Int) (F : Fl) (w : World) :
    Calls Tryd.prog 11 #[.int .i64 52, .agg #[.int .u8 a, .int .u8 x, .int .u8 y, .int .u8 s, .int .u8 (F.val : Nat), .int .u8 m]] w fun e w' => e = .returned (.agg #[.int .u8 (a), .int .u8 (s), .int .u8 (y), .int .u8 (s), .int .u8 ((nzF (s) F).val : Nat), .int .u8 (m)]) ∧ Below w.heap.size w w' := by
  go_enter Tryd.func11, Tryd.ntmps11
  go_wp2
  go_region_with (first
    | (go_at_call 19; refine (transfer_52 _).mono ?_; rintro e w1 ⟨rfl, rfl⟩)
    | (go_at_call 44; refine (transfer5 _ _ _ _ _ _ _).mono ?_; rintro e w1 ⟨rfl, hb1⟩; obtain ⟨hc1, hf1⟩ := bcell hb1))
  all_goals
    go_wp2
    refine bodyPost_ret (v := .agg #[.int .u8 (a), .int .u8 (s), .int .u8 (y), .int .u8 (s), .int .u8 ((nzF (s) F).val : Nat), .int .u8 (m)]) (by simp [results, Tryd.results11, go_sem, hc1]) rfl ⟨rfl, ?_⟩
    clear hc1 hf1
    have hs := hb1.size
    simp at hs
    repeat (refine Below.setCell ?_ (by simp) _)
    exact (((((Below.refl _ _).alloc (Nat.le_refl _) _).alloc (by simp) _).drew)).trans (hb1.mono (by simp; omega))
theorem transfer_54 (w : World) : Calls Tryd.prog 19 #[.int .i64 54] w fun e w' => e = .returned (.func (.func 45) #[] #[]) ∧ w' = w := by
  go_enter Tryd.func19, Tryd.ntmps19
  go_wp2
  go_ret
  exact ⟨rfl, rfl⟩
set_option maxHeartbeats 4000000 in
theorem do_54 (a x y s m : Int) (F : Fl) (w : World) :
    Calls Tryd.prog 11 #[.int .i64 54, .agg #[.int .u8 a, .int .u8 x, .int .u8 y, .int .u8 s, .int .u8 (F.val : Nat), .int .u8 m]] w fun e w' => e = .returned (.agg #[.int .u8 (a), .int .u8 (x), .int .u8 (y), .int .u8 (x), .int .u8 ((F).val : Nat), .int .u8 (m)]) ∧ Below w.heap.size w w' := by
  go_enter Tryd.func11, Tryd.ntmps11
  go_wp2
  go_region_with (first
    | (go_at_call 19; refine (transfer_54 _).mono ?_; rintro e w1 ⟨rfl, rfl⟩)
    | (go_at_call 45; refine (transfer6 _ _ _ _ _ _ _).mono ?_; rintro e w1 ⟨rfl, hb1⟩; obtain ⟨hc1, hf1⟩ := bcell hb1))
  all_goals
    go_wp2
    refine bodyPost_ret (v := .agg #[.int .u8 (a), .int .u8 (x), .int .u8 (y), .int .u8 (x), .int .u8 ((F).val : Nat), .int .u8 (m)]) (by simp [results, Tryd.results11, go_sem, hc1]) rfl ⟨rfl, ?_⟩
    clear hc1 hf1
    have hs := hb1.size
    simp at hs
    repeat (refine Below.setCell ?_ (by simp) _)
    exact (((((Below.refl _ _).alloc (Nat.le_refl _) _).alloc (by simp) _).drew)).trans (hb1.mono (by simp; omega))
theorem store_47 (w : World) : Calls Tryd.prog 20 #[.int .i64 47] w fun e w' => e = .returned (.func (.func 46) #[] #[]) ∧ w' = w := by
  go_enter Tryd.func20, Tryd.ntmps20
  go_wp2
  go_ret
  exact ⟨rfl, rfl⟩
set_option maxHeartbeats 4000000 in
theorem do_47 (a x y s m : Int) (F : Fl) (w : World) :
    Calls Tryd.prog 11 #[.int .i64 47, .agg #[.int .u8 a, .int .u8 x, .int .u8 y, .int .u8 s, .int .u8 (F.val : Nat), .int .u8 m]] w fun e w' => e = .returned (.agg #[.int .u8 (a), .int .u8 (x), .int .u8 (y), .int .u8 (s), .int .u8 ((F).val : Nat), .int .u8 (a)]) ∧ Below w.heap.size w w' := by
  go_enter Tryd.func11, Tryd.ntmps11
  go_wp2
  go_region_with (first
    | (go_at_call 20; refine (store_47 _).mono ?_; rintro e w1 ⟨rfl, rfl⟩)
    | (go_at_call 46; refine (store1 _ _ _ _ _ _ _).mono ?_; rintro e w1 ⟨rfl, hb1⟩; obtain ⟨hc1, hf1⟩ := bcell hb1))
  all_goals
    go_wp2
    refine bodyPost_ret (v := .agg #[.int .u8 (a), .int .u8 (x), .int .u8 (y), .int .u8 (s), .int .u8 ((F).val : Nat), .int .u8 (a)]) (by simp [results, Tryd.results11, go_sem, hc1]) rfl ⟨rfl, ?_⟩
    clear hc1 hf1
    have hs := hb1.size
    simp at hs
    repeat (refine Below.setCell ?_ (by simp) _)
    exact (((((Below.refl _ _).alloc (Nat.le_refl _) _).alloc (by simp) _).drew)).trans (hb1.mono (by simp; omega))
theorem store_35 (w : World) : Calls Tryd.prog 20 #[.int .i64 35] w fun e w' => e = .returned (.func (.func 46) #[] #[]) ∧ w' = w := by
  go_enter Tryd.func20, Tryd.ntmps20
  go_wp2
  go_ret
  exact ⟨rfl, rfl⟩
set_option maxHeartbeats 4000000 in
theorem do_35 (a x y s m : Int) (F : Fl) (w : World) :
    Calls Tryd.prog 11 #[.int .i64 35, .agg #[.int .u8 a, .int .u8 x, .int .u8 y, .int .u8 s, .int .u8 (F.val : Nat), .int .u8 m]] w fun e w' => e = .returned (.agg #[.int .u8 (a), .int .u8 (x), .int .u8 (y), .int .u8 (s), .int .u8 ((F).val : Nat), .int .u8 (a)]) ∧ Below w.heap.size w w' := by
  go_enter Tryd.func11, Tryd.ntmps11
  go_wp2
  go_region_with (first
    | (go_at_call 20; refine (store_35 _).mono ?_; rintro e w1 ⟨rfl, rfl⟩)
    | (go_at_call 46; refine (store1 _ _ _ _ _ _ _).mono ?_; rintro e w1 ⟨rfl, hb1⟩; obtain ⟨hc1, hf1⟩ := bcell hb1))
  all_goals
    go_wp2
    refine bodyPost_ret (v := .agg #[.int .u8 (a), .int .u8 (x), .int .u8 (y), .int .u8 (s), .int .u8 ((F).val : Nat), .int .u8 (a)]) (by simp [results, Tryd.results11, go_sem, hc1]) rfl ⟨rfl, ?_⟩
    clear hc1 hf1
    have hs := hb1.size
    simp at hs
    repeat (refine Below.setCell ?_ (by simp) _)
    exact (((((Below.refl _ _).alloc (Nat.le_refl _) _).alloc (by simp) _).drew)).trans (hb1.mono (by simp; omega))
theorem store_48 (w : World) : Calls Tryd.prog 20 #[.int .i64 48] w fun e w' => e = .returned (.func (.func 47) #[] #[]) ∧ w' = w := by
  go_enter Tryd.func20, Tryd.ntmps20
  go_wp2
  go_ret
  exact ⟨rfl, rfl⟩
set_option maxHeartbeats 4000000 in
theorem do_48 (a x y s m : Int) (F : Fl) (w : World) :
    Calls Tryd.prog 11 #[.int .i64 48, .agg #[.int .u8 a, .int .u8 x, .int .u8 y, .int .u8 s, .int .u8 (F.val : Nat), .int .u8 m]] w fun e w' => e = .returned (.agg #[.int .u8 (a), .int .u8 (x), .int .u8 (y), .int .u8 (s), .int .u8 ((F).val : Nat), .int .u8 (x)]) ∧ Below w.heap.size w w' := by
  go_enter Tryd.func11, Tryd.ntmps11
  go_wp2
  go_region_with (first
    | (go_at_call 20; refine (store_48 _).mono ?_; rintro e w1 ⟨rfl, rfl⟩)
    | (go_at_call 47; refine (store2 _ _ _ _ _ _ _).mono ?_; rintro e w1 ⟨rfl, hb1⟩; obtain ⟨hc1, hf1⟩ := bcell hb1))
  all_goals
    go_wp2
    refine bodyPost_ret (v := .agg #[.int .u8 (a), .int .u8 (x), .int .u8 (y), .int .u8 (s), .int .u8 ((F).val : Nat), .int .u8 (x)]) (by simp [results, Tryd.results11, go_sem, hc1]) rfl ⟨rfl, ?_⟩
    clear hc1 hf1
    have hs := hb1.size
    simp at hs
    repeat (refine Below.setCell ?_ (by simp) _)
    exact (((((Below.refl _ _).alloc (Nat.le_refl _) _).alloc (by simp) _).drew)).trans (hb1.mono (by simp; omega))
theorem store_49 (w : World) : Calls Tryd.prog 20 #[.int .i64 49] w fun e w' => e = .returned (.func (.func 48) #[] #[]) ∧ w' = w := by
  go_enter Tryd.func20, Tryd.ntmps20
  go_wp2
  go_ret
  exact ⟨rfl, rfl⟩
set_option maxHeartbeats 4000000 in
theorem do_49 (a x y s m : Int) (F : Fl) (w : World) :
    Calls Tryd.prog 11 #[.int .i64 49, .agg #[.int .u8 a, .int .u8 x, .int .u8 y, .int .u8 s, .int .u8 (F.val : Nat), .int .u8 m]] w fun e w' => e = .returned (.agg #[.int .u8 (a), .int .u8 (x), .int .u8 (y), .int .u8 (s), .int .u8 ((F).val : Nat), .int .u8 (y)]) ∧ Below w.heap.size w w' := by
  go_enter Tryd.func11, Tryd.ntmps11
  go_wp2
  go_region_with (first
    | (go_at_call 20; refine (store_49 _).mono ?_; rintro e w1 ⟨rfl, rfl⟩)
    | (go_at_call 48; refine (store3 _ _ _ _ _ _ _).mono ?_; rintro e w1 ⟨rfl, hb1⟩; obtain ⟨hc1, hf1⟩ := bcell hb1))
  all_goals
    go_wp2
    refine bodyPost_ret (v := .agg #[.int .u8 (a), .int .u8 (x), .int .u8 (y), .int .u8 (s), .int .u8 ((F).val : Nat), .int .u8 (y)]) (by simp [results, Tryd.results11, go_sem, hc1]) rfl ⟨rfl, ?_⟩
    clear hc1 hf1
    have hs := hb1.size
    simp at hs
    repeat (refine Below.setCell ?_ (by simp) _)
    exact (((((Below.refl _ _).alloc (Nat.le_refl _) _).alloc (by simp) _).drew)).trans (hb1.mono (by simp; omega))
theorem store_65 (w : World) : Calls Tryd.prog 20 #[.int .i64 65] w fun e w' => e = .returned (.func (.func 49) #[] #[]) ∧ w' = w := by
  go_enter Tryd.func20, Tryd.ntmps20
  go_wp2
  go_ret
  exact ⟨rfl, rfl⟩
set_option maxHeartbeats 4000000 in
theorem do_65 (a x y s m : Int) (F : Fl) (w : World) :
    Calls Tryd.prog 11 #[.int .i64 65, .agg #[.int .u8 a, .int .u8 x, .int .u8 y, .int .u8 s, .int .u8 (F.val : Nat), .int .u8 m]] w fun e w' => e = .returned (.agg #[.int .u8 (a), .int .u8 (x), .int .u8 (y), .int .u8 (s), .int .u8 ((F).val : Nat), .int .u8 (bits .and .u8 a x)]) ∧ Below w.heap.size w w' := by
  go_enter Tryd.func11, Tryd.ntmps11
  go_wp2
  go_region_with (first
    | (go_at_call 20; refine (store_65 _).mono ?_; rintro e w1 ⟨rfl, rfl⟩)
    | (go_at_call 49; refine (store4 _ _ _ _ _ _ _).mono ?_; rintro e w1 ⟨rfl, hb1⟩; obtain ⟨hc1, hf1⟩ := bcell hb1))
  all_goals
    go_wp2
    refine bodyPost_ret (v := .agg #[.int .u8 (a), .int .u8 (x), .int .u8 (y), .int .u8 (s), .int .u8 ((F).val : Nat), .int .u8 (bits .and .u8 a x)]) (by simp [results, Tryd.results11, go_sem, hc1]) rfl ⟨rfl, ?_⟩
    clear hc1 hf1
    have hs := hb1.size
    simp at hs
    repeat (refine Below.setCell ?_ (by simp) _)
    exact (((((Below.refl _ _).alloc (Nat.le_refl _) _).alloc (by simp) _).drew)).trans (hb1.mono (by simp; omega))
end Go.Proofs.YthdmkmbgncbmgaaDoor
