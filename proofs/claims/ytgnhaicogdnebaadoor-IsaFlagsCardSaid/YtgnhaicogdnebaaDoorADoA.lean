/-
  What Do makes of an Alu, operation by operation.
-/
import Derived.Test.YtgnhaicogdnebaaDoorAClo1
import Derived.Test.YtgnhaicogdnebaaDoorAClo2
import Derived.Test.YtgnhaicogdnebaaDoorAClo3
namespace Go.Proofs.YtgnhaicogdnebaaDoor
open Go.RowKit
theorem load_29 (w : World) : Calls Tryd.prog 26 #[.int .i64 29] w fun e w' => e = .returned (.func (.func 40) #[] #[]) ∧ w' = w := by
  go_enter Tryd.func26, Tryd.ntmps26
  go_wp2
  go_ret
  exact ⟨rfl, rfl⟩
set_option maxHeartbeats 4000000 in
theorem do_29 (a x y s m : Int) (F : Fl) (w : World) :
    Calls Tryd.prog 16 #[.int .i64 29, .agg #[.int .u8 a, .int .u8 x, .int .u8 y, .int .u8 s, .int .u8 (F.val : Nat), .int .u8 m]] w fun e w' => e = .returned (.agg #[.int .u8 (m), .int .u8 (x), .int .u8 (y), .int .u8 (s), .int .u8 ((nzF (m) F).val : Nat), .int .u8 (m)]) ∧ Below w.heap.size w w' := by
  go_enter Tryd.func16, Tryd.ntmps16
  go_wp2
  go_region_with (first
    | (go_at_call 26; refine (load_29 _).mono ?_; rintro e w1 ⟨rfl, rfl⟩)
    | (go_at_call 40; refine (load1 _ _ _ _ _ _ _).mono ?_; rintro e w1 ⟨rfl, hb1⟩; obtain ⟨hc1, hf1⟩ := bcell hb1))
  all_goals
    go_wp2
    refine bodyPost_ret (v := .agg #[.int .u8 (m), .int .u8 (x), .int .u8 (y), .int .u8 (s), .int .u8 ((nzF (m) F).val : Nat), .int .u8 (m)]) (by simp [results, Tryd.results16, go_sem, hc1]) rfl ⟨rfl, ?_⟩
    clear hc1 hf1
    have hs := hb1.size
    simp at hs
    repeat (refine Below.setCell ?_ (by simp) _)
    exact (((((Below.refl _ _).alloc (Nat.le_refl _) _).alloc (by simp) _).drew)).trans (hb1.mono (by simp; omega))
theorem load_37 (w : World) : Calls Tryd.prog 26 #[.int .i64 37] w fun e w' => e = .returned (.func (.func 40) #[] #[]) ∧ w' = w := by
  go_enter Tryd.func26, Tryd.ntmps26
  go_wp2
  go_ret
  exact ⟨rfl, rfl⟩
set_option maxHeartbeats 4000000 in
theorem do_37 (a x y s m : Int) (F : Fl) (w : World) :
    Calls Tryd.prog 16 #[.int .i64 37, .agg #[.int .u8 a, .int .u8 x, .int .u8 y, .int .u8 s, .int .u8 (F.val : Nat), .int .u8 m]] w fun e w' => e = .returned (.agg #[.int .u8 (m), .int .u8 (x), .int .u8 (y), .int .u8 (s), .int .u8 ((nzF (m) F).val : Nat), .int .u8 (m)]) ∧ Below w.heap.size w w' := by
  go_enter Tryd.func16, Tryd.ntmps16
  go_wp2
  go_region_with (first
    | (go_at_call 26; refine (load_37 _).mono ?_; rintro e w1 ⟨rfl, rfl⟩)
    | (go_at_call 40; refine (load1 _ _ _ _ _ _ _).mono ?_; rintro e w1 ⟨rfl, hb1⟩; obtain ⟨hc1, hf1⟩ := bcell hb1))
  all_goals
    go_wp2
    refine bodyPost_ret (v := .agg #[.int .u8 (m), .int .u8 (x), .int .u8 (y), .int .u8 (s), .int .u8 ((nzF (m) F).val : Nat), .int .u8 (m)]) (by simp [results, Tryd.results16, go_sem, hc1]) rfl ⟨rfl, ?_⟩
    clear hc1 hf1
    have hs := hb1.size
    simp at hs
    repeat (refine Below.setCell ?_ (by simp) _)
    exact (((((Below.refl _ _).alloc (Nat.le_refl _) _).alloc (by simp) _).drew)).trans (hb1.mono (by simp; omega))
theorem load_30 (w : World) : Calls Tryd.prog 26 #[.int .i64 30] w fun e w' => e = .returned (.func (.func 42) #[] #[]) ∧ w' = w := by
  go_enter Tryd.func26, Tryd.ntmps26
  go_wp2
  go_ret
  exact ⟨rfl, rfl⟩
set_option maxHeartbeats 4000000 in
theorem do_30 (a x y s m : Int) (F : Fl) (w : World) :
    Calls Tryd.prog 16 #[.int .i64 30, .agg #[.int .u8 a, .int .u8 x, .int .u8 y, .int .u8 s, .int .u8 (F.val : Nat), .int .u8 m]] w fun e w' => e = .returned (.agg #[.int .u8 (a), .int .u8 (m), .int .u8 (y), .int .u8 (s), .int .u8 ((nzF (m) F).val : Nat), .int .u8 (m)]) ∧ Below w.heap.size w w' := by
  go_enter Tryd.func16, Tryd.ntmps16
  go_wp2
  go_region_with (first
    | (go_at_call 26; refine (load_30 _).mono ?_; rintro e w1 ⟨rfl, rfl⟩)
    | (go_at_call 42; refine (load2 _ _ _ _ _ _ _).mono ?_; rintro e w1 ⟨rfl, hb1⟩; obtain ⟨hc1, hf1⟩ := bcell hb1))
  all_goals
    go_wp2
    refine bodyPost_ret (v := .agg #[.int .u8 (a), .int .u8 (m), .int .u8 (y), .int .u8 (s), .int .u8 ((nzF (m) F).val : Nat), .int .u8 (m)]) (by simp [results, Tryd.results16, go_sem, hc1]) rfl ⟨rfl, ?_⟩
    clear hc1 hf1
    have hs := hb1.size
    simp at hs
    repeat (refine Below.setCell ?_ (by simp) _)
    exact (((((Below.refl _ _).alloc (Nat.le_refl _) _).alloc (by simp) _).drew)).trans (hb1.mono (by simp; omega))
theorem load_31 (w : World) : Calls Tryd.prog 26 #[.int .i64 31] w fun e w' => e = .returned (.func (.func 43) #[] #[]) ∧ w' = w := by
  go_enter Tryd.func26, Tryd.ntmps26
  go_wp2
  go_ret
  exact ⟨rfl, rfl⟩
set_option maxHeartbeats 4000000 in
theorem do_31 (a x y s m : Int) (F : Fl) (w : World) :
    Calls Tryd.prog 16 #[.int .i64 31, .agg #[.int .u8 a, .int .u8 x, .int .u8 y, .int .u8 s, .int .u8 (F.val : Nat), .int .u8 m]] w fun e w' => e = .returned (.agg #[.int .u8 (a), .int .u8 (x), .int .u8 (m), .int .u8 (s), .int .u8 ((nzF (m) F).val : Nat), .int .u8 (m)]) ∧ Below w.heap.size w w' := by
  go_enter Tryd.func16, Tryd.ntmps16
  go_wp2
  go_region_with (first
    | (go_at_call 26; refine (load_31 _).mono ?_; rintro e w1 ⟨rfl, rfl⟩)
    | (go_at_call 43; refine (load3 _ _ _ _ _ _ _).mono ?_; rintro e w1 ⟨rfl, hb1⟩; obtain ⟨hc1, hf1⟩ := bcell hb1))
  all_goals
    go_wp2
    refine bodyPost_ret (v := .agg #[.int .u8 (a), .int .u8 (x), .int .u8 (m), .int .u8 (s), .int .u8 ((nzF (m) F).val : Nat), .int .u8 (m)]) (by simp [results, Tryd.results16, go_sem, hc1]) rfl ⟨rfl, ?_⟩
    clear hc1 hf1
    have hs := hb1.size
    simp at hs
    repeat (refine Below.setCell ?_ (by simp) _)
    exact (((((Below.refl _ _).alloc (Nat.le_refl _) _).alloc (by simp) _).drew)).trans (hb1.mono (by simp; omega))
theorem load_62 (w : World) : Calls Tryd.prog 26 #[.int .i64 62] w fun e w' => e = .returned (.func (.func 44) #[] #[]) ∧ w' = w := by
  go_enter Tryd.func26, Tryd.ntmps26
  go_wp2
  go_ret
  exact ⟨rfl, rfl⟩
set_option maxHeartbeats 4000000 in
theorem do_62 (a x y s m : Int) (F : Fl) (w : World) :
    Calls Tryd.prog 16 #[.int .i64 62, .agg #[.int .u8 a, .int .u8 x, .int .u8 y, .int .u8 s, .int .u8 (F.val : Nat), .int .u8 m]] w fun e w' => e = .returned (.agg #[.int .u8 (m), .int .u8 (m), .int .u8 (y), .int .u8 (s), .int .u8 ((nzF (m) F).val : Nat), .int .u8 (m)]) ∧ Below w.heap.size w w' := by
  go_enter Tryd.func16, Tryd.ntmps16
  go_wp2
  go_region_with (first
    | (go_at_call 26; refine (load_62 _).mono ?_; rintro e w1 ⟨rfl, rfl⟩)
    | (go_at_call 44; refine (load4 _ _ _ _ _ _ _).mono ?_; rintro e w1 ⟨rfl, hb1⟩; obtain ⟨hc1, hf1⟩ := bcell hb1))
  all_goals
    go_wp2
    refine bodyPost_ret (v := .agg #[.int .u8 (m), .int .u8 (m), .int .u8 (y), .int .u8 (s), .int .u8 ((nzF (m) F).val : Nat), .int .u8 (m)]) (by simp [results, Tryd.results16, go_sem, hc1]) rfl ⟨rfl, ?_⟩
    clear hc1 hf1
    have hs := hb1.size
    simp at hs
    repeat (refine Below.setCell ?_ (by simp) _)
    exact (((((Below.refl _ _).alloc (Nat.le_refl _) _).alloc (by simp) _).drew)).trans (hb1.mono (by simp; omega))
theorem load_61 (w : World) : Calls Tryd.prog 26 #[.int .i64 61] w fun e w' => e = .returned (.func (.func 45) #[] #[]) ∧ w' = w := by
  go_enter Tryd.func26, Tryd.ntmps26
  go_wp2
  go_ret
  exact ⟨rfl, rfl⟩
set_option maxHeartbeats 4000000 in
theorem do_61 (a x y s m : Int) (F : Fl) (w : World) :
    Calls Tryd.prog 16 #[.int .i64 61, .agg #[.int .u8 a, .int .u8 x, .int .u8 y, .int .u8 s, .int .u8 (F.val : Nat), .int .u8 m]] w fun e w' => e = .returned (.agg #[.int .u8 (bits .and .u8 s m), .int .u8 (bits .and .u8 s m), .int .u8 (y), .int .u8 (bits .and .u8 s m), .int .u8 ((nzF (bits .and .u8 s m) F).val : Nat), .int .u8 (m)]) ∧ Below w.heap.size w w' := by
  go_enter Tryd.func16, Tryd.ntmps16
  go_wp2
  go_region_with (first
    | (go_at_call 26; refine (load_61 _).mono ?_; rintro e w1 ⟨rfl, rfl⟩)
    | (go_at_call 45; refine (load5 _ _ _ _ _ _ _).mono ?_; rintro e w1 ⟨rfl, hb1⟩; obtain ⟨hc1, hf1⟩ := bcell hb1))
  all_goals
    go_wp2
    refine bodyPost_ret (v := .agg #[.int .u8 (bits .and .u8 s m), .int .u8 (bits .and .u8 s m), .int .u8 (y), .int .u8 (bits .and .u8 s m), .int .u8 ((nzF (bits .and .u8 s m) F).val : Nat), .int .u8 (m)]) (by simp [results, Tryd.results16, go_sem, hc1]) rfl ⟨rfl, ?_⟩
    clear hc1 hf1
    have hs := hb1.size
    simp at hs
    repeat (refine Below.setCell ?_ (by simp) _)
    exact (((((Below.refl _ _).alloc (Nat.le_refl _) _).alloc (by simp) _).drew)).trans (hb1.mono (by simp; omega))
theorem transfer_50 (w : World) : Calls Tryd.prog 27 #[.int .i64 50] w fun e w' => e = .returned (.func (.func 47) #[] #[]) ∧ w' = w := by
  go_enter Tryd.func27, Tryd.ntmps27
  go_wp2
  go_ret
  exact ⟨rfl, rfl⟩
set_option maxHeartbeats 4000000 in
theorem do_50 (a x y s m : Int) (F : Fl) (w : World) :
    Calls Tryd.prog 16 #[.int .i64 50, .agg #[.int .u8 a, .int .u8 x, .int .u8 y, .int .u8 s, .int .u8 (F.val : Nat), .int .u8 m]] w fun e w' => e = .returned (.agg #[.int .u8 (a), .int .u8 (a), .int .u8 (y), .int .u8 (s), .int .u8 ((nzF (a) F).val : Nat), .int .u8 (m)]) ∧ Below w.heap.size w w' := by
  go_enter Tryd.func16, Tryd.ntmps16
  go_wp2
  go_region_with (first
    | (go_at_call 27; refine (transfer_50 _).mono ?_; rintro e w1 ⟨rfl, rfl⟩)
    | (go_at_call 47; refine (transfer1 _ _ _ _ _ _ _).mono ?_; rintro e w1 ⟨rfl, hb1⟩; obtain ⟨hc1, hf1⟩ := bcell hb1))
  all_goals
    go_wp2
    refine bodyPost_ret (v := .agg #[.int .u8 (a), .int .u8 (a), .int .u8 (y), .int .u8 (s), .int .u8 ((nzF (a) F).val : Nat), .int .u8 (m)]) (by simp [results, Tryd.results16, go_sem, hc1]) rfl ⟨rfl, ?_⟩
    clear hc1 hf1
    have hs := hb1.size
    simp at hs
    repeat (refine Below.setCell ?_ (by simp) _)
    exact (((((Below.refl _ _).alloc (Nat.le_refl _) _).alloc (by simp) _).drew)).trans (hb1.mono (by simp; omega))
theorem transfer_51 (w : World) : Calls Tryd.prog 27 #[.int .i64 51] w fun e w' => e = .returned (.func (.func 48) #[] #[]) ∧ w' = w := by
  go_enter Tryd.func27, Tryd.ntmps27
  go_wp2
  go_ret
  exact ⟨rfl, rfl⟩
set_option maxHeartbeats 4000000 in
theorem do_51 (a x y s m : Int) (F : Fl) (w : World) :
    Calls Tryd.prog 16 #[.int .i64 51, .agg #[.int .u8 a, .int .u8 x, .int .u8 y, .int .u8 s, .int .u8 (F.val : Nat), .int .u8 m]] w fun e w' => e = .returned (.agg #[.int .u8 (a), .int .u8 (x), .int .u8 (a), .int .u8 (s), .int .u8 ((nzF (a) F).val : Nat), .int .u8 (m)]) ∧ Below w.heap.size w w' := by
  go_enter Tryd.func16, Tryd.ntmps16
  go_wp2
  go_region_with (first
    | (go_at_call 27; refine (transfer_51 _).mono ?_; rintro e w1 ⟨rfl, rfl⟩)
    | (go_at_call 48; refine (transfer2 _ _ _ _ _ _ _).mono ?_; rintro e w1 ⟨rfl, hb1⟩; obtain ⟨hc1, hf1⟩ := bcell hb1))
  all_goals
    go_wp2
    refine bodyPost_ret (v := .agg #[.int .u8 (a), .int .u8 (x), .int .u8 (a), .int .u8 (s), .int .u8 ((nzF (a) F).val : Nat), .int .u8 (m)]) (by simp [results, Tryd.results16, go_sem, hc1]) rfl ⟨rfl, ?_⟩
    clear hc1 hf1
    have hs := hb1.size
    simp at hs
    repeat (refine Below.setCell ?_ (by simp) _)
    exact (((((Below.refl _ _).alloc (Nat.le_refl _) _).alloc (by simp) _).drew)).trans (hb1.mono (by simp; omega))
end Go.Proofs.YtgnhaicogdnebaaDoor
