/-
  The document's counts: the pairs.
-/
import Derived.Test.YthdmkmbgncbmgaaDoorRCntA
import Derived.Test.YthdmkmbgncbmgaaDoorRSumA
import Derived.Test.YthdmkmbgncbmgaaDoorRSumB
namespace Go.Proofs.YthdmkmbgncbmgaaDoor
open Go.RowKit Classical
theorem sh_bd (op m : Int) (c : Bool) (h0 : 0 ≤ m) (h1 : m ≤ 255) : 0 ≤ shV op m c ∧ shV op m c ≤ 255 := by
  have := ci_bd c
  unfold shV
  omega
set_option maxRecDepth 100000 in
set_option maxHeartbeats 1000000 in
theorem rcounts_67 (a x y s m : Int) (F : Fl) (w : World) (_a0 : 0 ≤ a) (_a1 : a ≤ 255) (_x0 : 0 ≤ x) (_x1 : x ≤ 255) (_y0 : 0 ≤ y) (_y1 : y ≤ 255) (_m0 : 0 ≤ m) (_m1 : m ≤ 255) :
    Calls Tryd.prog 31 #[.int .i64 67, .agg #[.int .u8 a, .int .u8 x, .int .u8 y, .int .u8 s, .int .u8 (F.val : Nat), .int .u8 m]] w fun e w' => e = .returned (.tuple #[.agg #[.int .u8 (bits .or .u8 a (shV 2 m F.c)), .int .u8 (x), .int .u8 (y), .int .u8 (s), .int .u8 ((nzF (bits .or .u8 a (shV 2 m F.c)) (shF 2 m F)).val : Nat), .int .u8 (shV 2 m F.c)], .bool true]) ∧ Below w.heap.size w w' := by
  obtain ⟨sb0, sb1⟩ := sh_bd 2 m F.c _m0 _m1
  go_enter Tryd.func31, Tryd.ntmps31
  go_wp2_with (first | (go_at_call 30; refine (rsums_34 _ _ _ _ _ _ _ (by omega) (by omega) (by omega) (by omega) (by omega) (by omega) (by omega) (by omega)).mono ?_; rintro e w1 ⟨rfl, hb1⟩; obtain ⟨hc1, hf1⟩ := bcell hb1) | (go_at_call 76; refine (rshift_any _ _ _ _ (by omega) (by omega)).mono ?_; rintro e w' ⟨rfl, rfl⟩) | (go_at_call 83; refine (step_any _ _ _ (by omega) (by omega) (by decide)).mono ?_; rintro e w' ⟨rfl, rfl⟩) | (go_at_call 73; refine (rnz_any _ _ _).mono ?_; rintro e w' ⟨rfl, rfl⟩))
  refine bodyPost_ret (v := .tuple #[.agg #[.int .u8 (bits .or .u8 a (shV 2 m F.c)), .int .u8 (x), .int .u8 (y), .int .u8 (s), .int .u8 ((nzF (bits .or .u8 a (shV 2 m F.c)) (shF 2 m F)).val : Nat), .int .u8 (shV 2 m F.c)], .bool true]) (by simp [results, Tryd.results31, go_sem, hc1]) rfl ⟨rfl, ?_⟩
  clear hc1 hf1
  have hs := hb1.size
  simp at hs
  repeat (refine Below.setCell ?_ (by simp) _)
  exact (((Below.refl _ _).alloc (Nat.le_refl _) _).alloc (by simp) _).trans (hb1.mono (by simp; omega))
set_option maxRecDepth 100000 in
set_option maxHeartbeats 1000000 in
theorem rcounts_63 (a x y s m : Int) (F : Fl) (w : World) (_a0 : 0 ≤ a) (_a1 : a ≤ 255) (_x0 : 0 ≤ x) (_x1 : x ≤ 255) (_y0 : 0 ≤ y) (_y1 : y ≤ 255) (_m0 : 0 ≤ m) (_m1 : m ≤ 255) :
    Calls Tryd.prog 31 #[.int .i64 63, .agg #[.int .u8 a, .int .u8 x, .int .u8 y, .int .u8 s, .int .u8 (F.val : Nat), .int .u8 m]] w fun e w' => e = .returned (.tuple #[.agg #[.int .u8 (bits .and .u8 a (shV 39 m F.c)), .int .u8 (x), .int .u8 (y), .int .u8 (s), .int .u8 ((nzF (bits .and .u8 a (shV 39 m F.c)) (shF 39 m F)).val : Nat), .int .u8 (shV 39 m F.c)], .bool true]) ∧ Below w.heap.size w w' := by
  obtain ⟨sb0, sb1⟩ := sh_bd 39 m F.c _m0 _m1
  go_enter Tryd.func31, Tryd.ntmps31
  go_wp2_with (first | (go_at_call 30; refine (rsums_1 _ _ _ _ _ _ _ (by omega) (by omega) (by omega) (by omega) (by omega) (by omega) (by omega) (by omega)).mono ?_; rintro e w1 ⟨rfl, hb1⟩; obtain ⟨hc1, hf1⟩ := bcell hb1) | (go_at_call 76; refine (rshift_any _ _ _ _ (by omega) (by omega)).mono ?_; rintro e w' ⟨rfl, rfl⟩) | (go_at_call 83; refine (step_any _ _ _ (by omega) (by omega) (by decide)).mono ?_; rintro e w' ⟨rfl, rfl⟩) | (go_at_call 73; refine (rnz_any _ _ _).mono ?_; rintro e w' ⟨rfl, rfl⟩))
  refine bodyPost_ret (v := .tuple #[.agg #[.int .u8 (bits .and .u8 a (shV 39 m F.c)), .int .u8 (x), .int .u8 (y), .int .u8 (s), .int .u8 ((nzF (bits .and .u8 a (shV 39 m F.c)) (shF 39 m F)).val : Nat), .int .u8 (shV 39 m F.c)], .bool true]) (by simp [results, Tryd.results31, go_sem, hc1]) rfl ⟨rfl, ?_⟩
  clear hc1 hf1
  have hs := hb1.size
  simp at hs
  repeat (refine Below.setCell ?_ (by simp) _)
  exact (((Below.refl _ _).alloc (Nat.le_refl _) _).alloc (by simp) _).trans (hb1.mono (by simp; omega))
set_option maxRecDepth 100000 in
set_option maxHeartbeats 1000000 in
theorem rcounts_68 (a x y s m : Int) (F : Fl) (w : World) (_a0 : 0 ≤ a) (_a1 : a ≤ 255) (_x0 : 0 ≤ x) (_x1 : x ≤ 255) (_y0 : 0 ≤ y) (_y1 : y ≤ 255) (_m0 : 0 ≤ m) (_m1 : m ≤ 255) :
    Calls Tryd.prog 31 #[.int .i64 68, .agg #[.int .u8 a, .int .u8 x, .int .u8 y, .int .u8 s, .int .u8 (F.val : Nat), .int .u8 m]] w fun e w' => e = .returned (.tuple #[.agg #[.int .u8 (bits .xor .u8 a (shV 32 m F.c)), .int .u8 (x), .int .u8 (y), .int .u8 (s), .int .u8 ((nzF (bits .xor .u8 a (shV 32 m F.c)) (shF 32 m F)).val : Nat), .int .u8 (shV 32 m F.c)], .bool true]) ∧ Below w.heap.size w w' := by
  obtain ⟨sb0, sb1⟩ := sh_bd 32 m F.c _m0 _m1
  go_enter Tryd.func31, Tryd.ntmps31
  go_wp2_with (first | (go_at_call 30; refine (rsums_23 _ _ _ _ _ _ _ (by omega) (by omega) (by omega) (by omega) (by omega) (by omega) (by omega) (by omega)).mono ?_; rintro e w1 ⟨rfl, hb1⟩; obtain ⟨hc1, hf1⟩ := bcell hb1) | (go_at_call 76; refine (rshift_any _ _ _ _ (by omega) (by omega)).mono ?_; rintro e w' ⟨rfl, rfl⟩) | (go_at_call 83; refine (step_any _ _ _ (by omega) (by omega) (by decide)).mono ?_; rintro e w' ⟨rfl, rfl⟩) | (go_at_call 73; refine (rnz_any _ _ _).mono ?_; rintro e w' ⟨rfl, rfl⟩))
  refine bodyPost_ret (v := .tuple #[.agg #[.int .u8 (bits .xor .u8 a (shV 32 m F.c)), .int .u8 (x), .int .u8 (y), .int .u8 (s), .int .u8 ((nzF (bits .xor .u8 a (shV 32 m F.c)) (shF 32 m F)).val : Nat), .int .u8 (shV 32 m F.c)], .bool true]) (by simp [results, Tryd.results31, go_sem, hc1]) rfl ⟨rfl, ?_⟩
  clear hc1 hf1
  have hs := hb1.size
  simp at hs
  repeat (refine Below.setCell ?_ (by simp) _)
  exact (((Below.refl _ _).alloc (Nat.le_refl _) _).alloc (by simp) _).trans (hb1.mono (by simp; omega))
set_option maxRecDepth 100000 in
set_option maxHeartbeats 1000000 in
theorem rcounts_64 (a x y s m : Int) (F : Fl) (w : World) (_a0 : 0 ≤ a) (_a1 : a ≤ 255) (_x0 : 0 ≤ x) (_x1 : x ≤ 255) (_y0 : 0 ≤ y) (_y1 : y ≤ 255) (_m0 : 0 ≤ m) (_m1 : m ≤ 255) :
    Calls Tryd.prog 31 #[.int .i64 64, .agg #[.int .u8 a, .int .u8 x, .int .u8 y, .int .u8 s, .int .u8 (F.val : Nat), .int .u8 m]] w fun e w' => e = .returned (.tuple #[.agg #[.int .u8 (adcV a (shV 40 m F.c) (shF 40 m F)), .int .u8 (x), .int .u8 (y), .int .u8 (s), .int .u8 ((adcF a (shV 40 m F.c) (shF 40 m F)).val : Nat), .int .u8 (shV 40 m F.c)], .bool true]) ∧ Below w.heap.size w w' := by
  obtain ⟨sb0, sb1⟩ := sh_bd 40 m F.c _m0 _m1
  go_enter Tryd.func31, Tryd.ntmps31
  go_wp2_with (first | (go_at_call 30; refine (rsums_0 _ _ _ _ _ _ _ (by omega) (by omega) (by omega) (by omega) (by omega) (by omega) (by omega) (by omega)).mono ?_; rintro e w1 ⟨rfl, hb1⟩; obtain ⟨hc1, hf1⟩ := bcell hb1) | (go_at_call 76; refine (rshift_any _ _ _ _ (by omega) (by omega)).mono ?_; rintro e w' ⟨rfl, rfl⟩) | (go_at_call 83; refine (step_any _ _ _ (by omega) (by omega) (by decide)).mono ?_; rintro e w' ⟨rfl, rfl⟩) | (go_at_call 73; refine (rnz_any _ _ _).mono ?_; rintro e w' ⟨rfl, rfl⟩))
  refine bodyPost_ret (v := .tuple #[.agg #[.int .u8 (adcV a (shV 40 m F.c) (shF 40 m F)), .int .u8 (x), .int .u8 (y), .int .u8 (s), .int .u8 ((adcF a (shV 40 m F.c) (shF 40 m F)).val : Nat), .int .u8 (shV 40 m F.c)], .bool true]) (by simp [results, Tryd.results31, go_sem, hc1]) rfl ⟨rfl, ?_⟩
  clear hc1 hf1
  have hs := hb1.size
  simp at hs
  repeat (refine Below.setCell ?_ (by simp) _)
  exact (((Below.refl _ _).alloc (Nat.le_refl _) _).alloc (by simp) _).trans (hb1.mono (by simp; omega))
set_option maxRecDepth 100000 in
set_option maxHeartbeats 1000000 in
theorem rcounts_59 (a x y s m : Int) (F : Fl) (w : World) (_a0 : 0 ≤ a) (_a1 : a ≤ 255) (_x0 : 0 ≤ x) (_x1 : x ≤ 255) (_y0 : 0 ≤ y) (_y1 : y ≤ 255) (_m0 : 0 ≤ m) (_m1 : m ≤ 255) :
    Calls Tryd.prog 31 #[.int .i64 59, .agg #[.int .u8 a, .int .u8 x, .int .u8 y, .int .u8 s, .int .u8 (F.val : Nat), .int .u8 m]] w fun e w' => e = .returned (.tuple #[.agg #[.int .u8 (a), .int .u8 (x), .int .u8 (y), .int .u8 (s), .int .u8 ((nzF ((a - (m - 1) % 256) % 256) (F.put 1 (decide ((m - 1) % 256 ≤ a)))).val : Nat), .int .u8 ((m - 1) % 256)], .bool true]) ∧ Below w.heap.size w w' := by
  have hst1 : ∀ v : Int, stp v 1 = (v + 1) % 256 := fun _ => rfl
  have hst2 : ∀ v : Int, stp v (-1) = (v - 1) % 256 := fun _ => rfl
  go_enter Tryd.func31, Tryd.ntmps31
  go_wp2_with (first | (go_at_call 30; refine (rsums_17 _ _ _ _ _ _ _ (by omega) (by omega) (by omega) (by omega) (by omega) (by omega) (by omega) (by omega)).mono ?_; rintro e w1 ⟨rfl, hb1⟩; obtain ⟨hc1, hf1⟩ := bcell hb1) | (go_at_call 76; refine (rshift_any _ _ _ _ (by omega) (by omega)).mono ?_; rintro e w' ⟨rfl, rfl⟩) | (go_at_call 83; refine (step_any _ _ _ (by omega) (by omega) (by decide)).mono ?_; rintro e w' ⟨rfl, rfl⟩) | (go_at_call 73; refine (rnz_any _ _ _).mono ?_; rintro e w' ⟨rfl, rfl⟩))
  refine bodyPost_ret (v := .tuple #[.agg #[.int .u8 (a), .int .u8 (x), .int .u8 (y), .int .u8 (s), .int .u8 ((nzF ((a - (m - 1) % 256) % 256) (F.put 1 (decide ((m - 1) % 256 ≤ a)))).val : Nat), .int .u8 ((m - 1) % 256)], .bool true]) (by simp [results, Tryd.results31, go_sem, hc1]) rfl ⟨rfl, ?_⟩
  clear hc1 hf1
  have hs := hb1.size
  simp at hs
  repeat (refine Below.setCell ?_ (by simp) _)
  exact (((Below.refl _ _).alloc (Nat.le_refl _) _).alloc (by simp) _).trans (hb1.mono (by simp; omega))
set_option maxRecDepth 100000 in
set_option maxHeartbeats 1000000 in
theorem rcounts_60 (a x y s m : Int) (F : Fl) (w : World) (_a0 : 0 ≤ a) (_a1 : a ≤ 255) (_x0 : 0 ≤ x) (_x1 : x ≤ 255) (_y0 : 0 ≤ y) (_y1 : y ≤ 255) (_m0 : 0 ≤ m) (_m1 : m ≤ 255) :
    Calls Tryd.prog 31 #[.int .i64 60, .agg #[.int .u8 a, .int .u8 x, .int .u8 y, .int .u8 s, .int .u8 (F.val : Nat), .int .u8 m]] w fun e w' => e = .returned (.tuple #[.agg #[.int .u8 (sbcV a ((m + 1) % 256) F), .int .u8 (x), .int .u8 (y), .int .u8 (s), .int .u8 ((sbcF a ((m + 1) % 256) F).val : Nat), .int .u8 ((m + 1) % 256)], .bool true]) ∧ Below w.heap.size w w' := by
  have hst1 : ∀ v : Int, stp v 1 = (v + 1) % 256 := fun _ => rfl
  have hst2 : ∀ v : Int, stp v (-1) = (v - 1) % 256 := fun _ => rfl
  go_enter Tryd.func31, Tryd.ntmps31
  go_wp2_with (first | (go_at_call 30; refine (rsums_43 _ _ _ _ _ _ _ (by omega) (by omega) (by omega) (by omega) (by omega) (by omega) (by omega) (by omega)).mono ?_; rintro e w1 ⟨rfl, hb1⟩; obtain ⟨hc1, hf1⟩ := bcell hb1) | (go_at_call 76; refine (rshift_any _ _ _ _ (by omega) (by omega)).mono ?_; rintro e w' ⟨rfl, rfl⟩) | (go_at_call 83; refine (step_any _ _ _ (by omega) (by omega) (by decide)).mono ?_; rintro e w' ⟨rfl, rfl⟩) | (go_at_call 73; refine (rnz_any _ _ _).mono ?_; rintro e w' ⟨rfl, rfl⟩))
  refine bodyPost_ret (v := .tuple #[.agg #[.int .u8 (sbcV a ((m + 1) % 256) F), .int .u8 (x), .int .u8 (y), .int .u8 (s), .int .u8 ((sbcF a ((m + 1) % 256) F).val : Nat), .int .u8 ((m + 1) % 256)], .bool true]) (by simp [results, Tryd.results31, go_sem, hc1]) rfl ⟨rfl, ?_⟩
  clear hc1 hf1
  have hs := hb1.size
  simp at hs
  repeat (refine Below.setCell ?_ (by simp) _)
  exact (((Below.refl _ _).alloc (Nat.le_refl _) _).alloc (by simp) _).trans (hb1.mono (by simp; omega))
end Go.Proofs.YthdmkmbgncbmgaaDoor
