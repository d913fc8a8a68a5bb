/-
  The document's moves.
-/
import Derived.Test.YthdmkmbgncbmgaaDoorRMovB
namespace Go.Proofs.YthdmkmbgncbmgaaDoor
open Go.RowKit Classical
set_option maxRecDepth 100000 in
set_option maxHeartbeats 1000000 in
theorem rmoves_50 (a x y s m : Int) (F : Fl) (w : World) (_a0 : 0 ≤ a) (_a1 : a ≤ 255) (_x0 : 0 ≤ x) (_x1 : x ≤ 255) (_y0 : 0 ≤ y) (_y1 : y ≤ 255) (_m0 : 0 ≤ m) (_m1 : m ≤ 255) :
    Calls Tryd.prog 29 #[.int .i64 50, .agg #[.int .u8 a, .int .u8 x, .int .u8 y, .int .u8 s, .int .u8 (F.val : Nat), .int .u8 m]] w fun e w' => e = .returned (.tuple #[.agg #[.int .u8 (a), .int .u8 (a), .int .u8 (y), .int .u8 (s), .int .u8 ((nzF (a) F).val : Nat), .int .u8 (m)], .bool true]) ∧ Below w.heap.size w w' := by
  go_enter Tryd.func29, Tryd.ntmps29
  go_wp2_with (first | (go_at_call 74; refine (rtransfers_50 _ _ _ _ _ _ _ (by omega) (by omega) (by omega) (by omega) (by omega) (by omega) (by omega) (by omega)).mono ?_; rintro e w1 ⟨rfl, hb1⟩; obtain ⟨hc1, hf1⟩ := bcell hb1) | (go_at_call 76; refine (rshift_any _ _ _ _ (by omega) (by omega)).mono ?_; rintro e w' ⟨rfl, rfl⟩) | (go_at_call 83; refine (step_any _ _ _ (by omega) (by omega) (by decide)).mono ?_; rintro e w' ⟨rfl, rfl⟩) | (go_at_call 73; refine (rnz_any _ _ _).mono ?_; rintro e w' ⟨rfl, rfl⟩))
  refine bodyPost_ret (v := .tuple #[.agg #[.int .u8 (a), .int .u8 (a), .int .u8 (y), .int .u8 (s), .int .u8 ((nzF (a) F).val : Nat), .int .u8 (m)], .bool true]) (by simp [results, Tryd.results29, go_sem, hc1]) rfl ⟨rfl, ?_⟩
  clear hc1 hf1
  have hs := hb1.size
  simp at hs
  repeat (refine Below.setCell ?_ (by simp) _)
  exact (((Below.refl _ _).alloc (Nat.le_refl _) _).alloc (by simp) _).trans (hb1.mono (by simp; omega))
set_option maxRecDepth 100000 in
set_option maxHeartbeats 1000000 in
theorem rmoves_51 (a x y s m : Int) (F : Fl) (w : World) (_a0 : 0 ≤ a) (_a1 : a ≤ 255) (_x0 : 0 ≤ x) (_x1 : x ≤ 255) (_y0 : 0 ≤ y) (_y1 : y ≤ 255) (_m0 : 0 ≤ m) (_m1 : m ≤ 255) :
    Calls Tryd.prog 29 #[.int .i64 51, .agg #[.int .u8 a, .int .u8 x, .int .u8 y, .int .u8 s, .int .u8 (F.val : Nat), .int .u8 m]] w fun e w' => e = .returned (.tuple #[.agg #[.int .u8 (a), .int .u8 (x), .int .u8 (a), .int .u8 (s), .int .u8 ((nzF (a) F).val : Nat), .int .u8 (m)], .bool true]) ∧ Below w.heap.size w w' := by
  go_enter Tryd.func29, Tryd.ntmps29
  go_wp2_with (first | (go_at_call 74; refine (rtransfers_51 _ _ _ _ _ _ _ (by omega) (by omega) (by omega) (by omega) (by omega) (by omega) (by omega) (by omega)).mono ?_; rintro e w1 ⟨rfl, hb1⟩; obtain ⟨hc1, hf1⟩ := bcell hb1) | (go_at_call 76; refine (rshift_any _ _ _ _ (by omega) (by omega)).mono ?_; rintro e w' ⟨rfl, rfl⟩) | (go_at_call 83; refine (step_any _ _ _ (by omega) (by omega) (by decide)).mono ?_; rintro e w' ⟨rfl, rfl⟩) | (go_at_call 73; refine (rnz_any _ _ _).mono ?_; rintro e w' ⟨rfl, rfl⟩))
  refine bodyPost_ret (v := .tuple #[.agg #[.int .u8 (a), .int .u8 (x), .int .u8 (a), .int .u8 (s), .int .u8 ((nzF (a) F).val : Nat), .int .u8 (m)], .bool true]) (by simp [results, Tryd.results29, go_sem, hc1]) rfl ⟨rfl, ?_⟩
  clear hc1 hf1
  have hs := hb1.size
  simp at hs
  repeat (refine Below.setCell ?_ (by simp) _)
  exact (((Below.refl _ _).alloc (Nat.le_refl _) _).alloc (by simp) _).trans (hb1.mono (by simp; omega))
set_option maxRecDepth 100000 in
set_option maxHeartbeats 1000000 in
theorem rmoves_53 (a x y s m : Int) (F : Fl) (w : World) (_a0 : 0 ≤ a) (_a1 : a ≤ 255) (_x0 : 0 ≤ x) (_x1 : x ≤ 255) (_y0 : 0 ≤ y) (_y1 : y ≤ 255) (_m0 : 0 ≤ m) (_m1 : m ≤ 255) :
    Calls Tryd.prog 29 #[.int .i64 53, .agg #[.int .u8 a, .int .u8 x, .int .u8 y, .int .u8 s, .int .u8 (F.val : Nat), .int .u8 m]] w fun e w' => e = .returned (.tuple #[.agg #[.int .u8 (x), .int .u8 (x), .int .u8 (y), .int .u8 (s), .int .u8 ((nzF (x) F).val : Nat), .int .u8 (m)], .bool true]) ∧ Below w.heap.size w w' := by
  go_enter Tryd.func29, Tryd.ntmps29
  go_wp2_with (first | (go_at_call 74; refine (rtransfers_53 _ _ _ _ _ _ _ (by omega) (by omega) (by omega) (by omega) (by omega) (by omega) (by omega) (by omega)).mono ?_; rintro e w1 ⟨rfl, hb1⟩; obtain ⟨hc1, hf1⟩ := bcell hb1) | (go_at_call 76; refine (rshift_any _ _ _ _ (by omega) (by omega)).mono ?_; rintro e w' ⟨rfl, rfl⟩) | (go_at_call 83; refine (step_any _ _ _ (by omega) (by omega) (by decide)).mono ?_; rintro e w' ⟨rfl, rfl⟩) | (go_at_call 73; refine (rnz_any _ _ _).mono ?_; rintro e w' ⟨rfl, rfl⟩))
  refine bodyPost_ret (v := .tuple #[.agg #[.int .u8 (x), .int .u8 (x), .int .u8 (y), .int .u8 (s), .int .u8 ((nzF (x) F).val : Nat), .int .u8 (m)], .bool true]) (by simp [results, Tryd.results29, go_sem, hc1]) rfl ⟨rfl, ?_⟩
  clear hc1 hf1
  have hs := hb1.size
  simp at hs
  repeat (refine Below.setCell ?_ (by simp) _)
  exact (((Below.refl _ _).alloc (Nat.le_refl _) _).alloc (by simp) _).trans (hb1.mono (by simp; omega))
set_option maxRecDepth 100000 in
set_option maxHeartbeats 1000000 in
theorem rmoves_55 (a x y s m : Int) (F : Fl) (w : World) (_a0 : 0 ≤ a) (_a1 : a ≤ 255) (_x0 : 0 ≤ x) (_x1 : x ≤ 255) (_y0 : 0 ≤ y) (_y1 : y ≤ 255) (_m0 : 0 ≤ m) (_m1 : m ≤ 255) :
    Calls Tryd.prog 29 #[.int .i64 55, .agg #[.int .u8 a, .int .u8 x, .int .u8 y, .int .u8 s, .int .u8 (F.val : Nat), .int .u8 m]] w fun e w' => e = .returned (.tuple #[.agg #[.int .u8 (y), .int .u8 (x), .int .u8 (y), .int .u8 (s), .int .u8 ((nzF (y) F).val : Nat), .int .u8 (m)], .bool true]) ∧ Below w.heap.size w w' := by
  go_enter Tryd.func29, Tryd.ntmps29
  go_wp2_with (first | (go_at_call 74; refine (rtransfers_55 _ _ _ _ _ _ _ (by omega) (by omega) (by omega) (by omega) (by omega) (by omega) (by omega) (by omega)).mono ?_; rintro e w1 ⟨rfl, hb1⟩; obtain ⟨hc1, hf1⟩ := bcell hb1) | (go_at_call 76; refine (rshift_any _ _ _ _ (by omega) (by omega)).mono ?_; rintro e w' ⟨rfl, rfl⟩) | (go_at_call 83; refine (step_any _ _ _ (by omega) (by omega) (by decide)).mono ?_; rintro e w' ⟨rfl, rfl⟩) | (go_at_call 73; refine (rnz_any _ _ _).mono ?_; rintro e w' ⟨rfl, rfl⟩))
  refine bodyPost_ret (v := .tuple #[.agg #[.int .u8 (y), .int .u8 (x), .int .u8 (y), .int .u8 (s), .int .u8 ((nzF (y) F).val : Nat), .int .u8 (m)], .bool true]) (by simp [results, Tryd.results29, go_sem, hc1]) rfl ⟨rfl, ?_⟩
  clear hc1 hf1
  have hs := hb1.size
  simp at hs
  repeat (refine Below.setCell ?_ (by simp) _)
  exact (((Below.refl _ _).alloc (Nat.le_refl _) _).alloc (by simp) _).trans (hb1.mono (by simp; omega))
set_option maxRecDepth 100000 in
set_option maxHeartbeats 1000000 in
theorem rmoves_52 (a x y s m : Int) (F : Fl) (w : World) (_a0 : 0 ≤ a) (_a1 : a ≤ 255) (_x0 : 0 ≤ x) (_x1 : x ≤ 255) (_y0 : 0 ≤ y) (_y1 : y ≤ 255) (_m0 : 0 ≤ m) (_m1 : m ≤ 255) :
    Calls Tryd.prog 29 #[.int .i64 52, .agg #[.int .u8 a, .int .u8 x, .int .u8 y, .int .u8 s, .int .u8 (F.val : Nat), .int .u8 m]] w fun e w' => e = .returned (.tuple #[.agg #[.int .u8 (a), .int .u8 (s), .int .u8 (y), .int .u8 (s), .int .u8 ((nzF (s) F).val : Nat), .int .u8 (m)], .bool true]) ∧ Below w.heap.size w w' := by
  go_enter Tryd.func29, Tryd.ntmps29
  go_wp2_with (first | (go_at_call 74; refine (rtransfers_52 _ _ _ _ _ _ _ (by omega) (by omega) (by omega) (by omega) (by omega) (by omega) (by omega) (by omega)).mono ?_; rintro e w1 ⟨rfl, hb1⟩; obtain ⟨hc1, hf1⟩ := bcell hb1) | (go_at_call 76; refine (rshift_any _ _ _ _ (by omega) (by omega)).mono ?_; rintro e w' ⟨rfl, rfl⟩) | (go_at_call 83; refine (step_any _ _ _ (by omega) (by omega) (by decide)).mono ?_; rintro e w' ⟨rfl, rfl⟩) | (go_at_call 73; refine (rnz_any _ _ _).mono ?_; rintro e w' ⟨rfl, rfl⟩))
  refine bodyPost_ret (v := .tuple #[.agg #[.int .u8 (a), .int .u8 (s), .int .u8 (y), .int .u8 (s), .int .u8 ((nzF (s) F).val : Nat), .int .u8 (m)], .bool true]) (by simp [results, Tryd.results29, go_sem, hc1]) rfl ⟨rfl, ?_⟩
  clear hc1 hf1
  have hs := hb1.size
  simp at hs
  repeat (refine Below.setCell ?_ (by simp) _)
  exact (((Below.refl _ _).alloc (Nat.le_refl _) _).alloc (by simp) _).trans (hb1.mono (by simp; omega))
set_option maxRecDepth 100000 in
set_option maxHeartbeats 1000000 in
theorem rmoves_54 (a x y s m : Int) (F : Fl) (w : World) (_a0 : 0 ≤ a) (_a1 : a ≤ 255) (_x0 : 0 ≤ x) (_x1 : x ≤ 255) (_y0 : 0 ≤ y) (_y1 : y ≤ 255) (_m0 : 0 ≤ m) (_m1 : m ≤ 255) :
    Calls Tryd.prog 29 #[.int .i64 54, .agg #[.int .u8 a, .int .u8 x, .int .u8 y, .int .u8 s, .int .u8 (F.val : Nat), .int .u8 m]] w fun e w' => e = .returned (.tuple #[.agg #[.int .u8 (a), .int .u8 (x), .int .u8 (y), .int .u8 (x), .int .u8 ((F).val : Nat), .int .u8 (m)], .bool true]) ∧ Below w.heap.size w w' := by
  go_enter Tryd.func29, Tryd.ntmps29
  go_wp2_with (first | (go_at_call 74; refine (rtransfers_54 _ _ _ _ _ _ _ (by omega) (by omega) (by omega) (by omega) (by omega) (by omega) (by omega) (by omega)).mono ?_; rintro e w1 ⟨rfl, hb1⟩; obtain ⟨hc1, hf1⟩ := bcell hb1) | (go_at_call 76; refine (rshift_any _ _ _ _ (by omega) (by omega)).mono ?_; rintro e w' ⟨rfl, rfl⟩) | (go_at_call 83; refine (step_any _ _ _ (by omega) (by omega) (by decide)).mono ?_; rintro e w' ⟨rfl, rfl⟩) | (go_at_call 73; refine (rnz_any _ _ _).mono ?_; rintro e w' ⟨rfl, rfl⟩))
  refine bodyPost_ret (v := .tuple #[.agg #[.int .u8 (a), .int .u8 (x), .int .u8 (y), .int .u8 (x), .int .u8 ((F).val : Nat), .int .u8 (m)], .bool true]) (by simp [results, Tryd.results29, go_sem, hc1]) rfl ⟨rfl, ?_⟩
  clear hc1 hf1
  have hs := hb1.size
  simp at hs
  repeat (refine Below.setCell ?_ (by simp) _)
  exact (((Below.refl _ _).alloc (Nat.le_refl _) _).alloc (by simp) _).trans (hb1.mono (by simp; omega))
set_option maxRecDepth 100000 in
set_option maxHeartbeats 1000000 in
theorem rmoves_no (op a x y s m : Int) (F : Fl) (w : World) (d29 : (op == 29) = false) (d37 : (op == 37) = false) (d30 : (op == 30) = false) (d31 : (op == 31) = false) (d62 : (op == 62) = false) (d61 : (op == 61) = false) (d47 : (op == 47) = false) (d35 : (op == 35) = false) (d48 : (op == 48) = false) (d49 : (op == 49) = false) (d65 : (op == 65) = false) (d50 : (op == 50) = false) (d51 : (op == 51) = false) (d53 : (op == 53) = false) (d55 : (op == 55) = false) (d52 : (op == 52) = false) (d54 : (op == 54) = false) :
    Calls Tryd.prog 29 #[.int .i64 op, .agg #[.int .u8 a, .int .u8 x, .int .u8 y, .int .u8 s, .int .u8 (F.val : Nat), .int .u8 m]] w fun e w' => e = .returned (.tuple #[.agg #[.int .u8 (a), .int .u8 (x), .int .u8 (y), .int .u8 (s), .int .u8 ((F).val : Nat), .int .u8 (m)], .bool false]) ∧ Below w.heap.size w w' := by
  go_enter Tryd.func29, Tryd.ntmps29
  go_wp2_with (first | (go_at_call 74; refine (rtransfers_no _ _ _ _ _ _ _ _ (by assumption) (by assumption) (by assumption) (by assumption) (by assumption) (by assumption)).mono ?_; rintro e w1 ⟨rfl, hb1⟩; obtain ⟨hc1, hf1⟩ := bcell hb1))
  refine bodyPost_ret (v := .tuple #[.agg #[.int .u8 (a), .int .u8 (x), .int .u8 (y), .int .u8 (s), .int .u8 ((F).val : Nat), .int .u8 (m)], .bool false]) (by simp [results, Tryd.results29, go_sem, hc1]) rfl ⟨rfl, ?_⟩
  clear hc1 hf1
  have hs := hb1.size
  simp at hs
  repeat (refine Below.setCell ?_ (by simp) _)
  exact (((Below.refl _ _).alloc (Nat.le_refl _) _).alloc (by simp) _).trans (hb1.mono (by simp; omega))
end Go.Proofs.YthdmkmbgncbmgaaDoor
