/-
  What Do makes of an Alu: the undocumented pairs.
-/
import Derived.Test.YtgnhaicogdnebaaDoorADoP
namespace Go.Proofs.YtgnhaicogdnebaaDoor
open Go.RowKit
set_option maxHeartbeats 4000000 in
theorem pair1_63 (a x y s m : Int) (F : Fl) (b1 b2 : Nat) (w : World) (_a0 : 0 ≤ a) (_a1 : a ≤ 255) (_m0 : 0 ≤ m) (_m1 : m ≤ 255) (bo : Nat) (ho : w.cell? ⟨bo, 0, none⟩ = some (.int .i64 39)) (h1 : w.cell? ⟨b1, 0, none⟩ = some (.func (.func 63) #[] #[])) (h2 : w.cell? ⟨b2, 0, none⟩ = some (.func (.func 72) #[] #[.pointer (some ⟨bo, 0, none⟩)])) :
    Calls Tryd.prog 82 #[.agg #[.int .u8 a, .int .u8 x, .int .u8 y, .int .u8 s, .int .u8 (F.val : Nat), .int .u8 m], .pointer (some ⟨b1, 0, none⟩), .pointer (some ⟨b2, 0, none⟩)] w fun e w' => e = .returned (.agg #[.int .u8 (bits .and .u8 a (shV 39 m F.c)), .int .u8 (x), .int .u8 (y), .int .u8 (s), .int .u8 ((nzF (bits .and .u8 a (shV 39 m F.c)) (shF 39 m F)).val : Nat), .int .u8 (shV 39 m F.c)]) ∧ Below w.heap.size w w' := by
  have hl1 : b1 < w.heap.size := cell_lt h1
  have hl2 : b2 < w.heap.size := cell_lt h2
  obtain ⟨n0, n1⟩ := sh_bd 39 m F.c _m0 _m1
  have hlo : bo < w.heap.size := cell_lt ho
  go_enter Tryd.func82, Tryd.ntmps82
  go_wp2
  go_region_with (first
    | (go_at_call 72; refine (shift1 39 _ _ _ _ _ _ _ _ (by omega) (by omega) (by simp [go_sem, ho, hlo])).mono ?_; rintro e w1 ⟨rfl, hb1⟩; obtain ⟨hc1, hf1⟩ := bcell hb1; have hz1 := hb1.size; simp at hz1; have hz2 : w.heap.size + 1 < w1.heap.size := (by omega); have B1 : Below w.heap.size w w1 := ((((Below.refl _ _).alloc (Nat.le_refl _) _).alloc (by simp) _).drew).trans (hb1.mono (by simp; omega)); have q1 := (B1.cell (p := ⟨b1, 0, none⟩) hl1).trans h1)
    | (go_at_call 63; refine (combine1 _ _ _ _ _ _ _).mono ?_; rintro e w2 ⟨rfl, hb2⟩; obtain ⟨hc2, hf2⟩ := bcell hb2))
  all_goals
    go_wp2
    refine bodyPost_ret (v := .agg #[.int .u8 (bits .and .u8 a (shV 39 m F.c)), .int .u8 (x), .int .u8 (y), .int .u8 (s), .int .u8 ((nzF (bits .and .u8 a (shV 39 m F.c)) (shF 39 m F)).val : Nat), .int .u8 (shV 39 m F.c)]) (by simp [results, Tryd.results82, go_sem, hc1, hc2, hz2]) rfl ⟨rfl, ?_⟩
    clear hc1 hf1 hc2 hf2
    repeat (refine Below.setCell ?_ (by simp) _)
    exact B1.trans (hb2.mono (by omega))
set_option maxHeartbeats 4000000 in
theorem dopair_63 (a x y s m : Int) (F : Fl) (w : World) (a0 : 0 ≤ a) (a1 : a ≤ 255) (m0 : 0 ≤ m) (m1 : m ≤ 255) :
    Calls Tryd.prog 33 #[.int .i64 63, .agg #[.int .u8 a, .int .u8 x, .int .u8 y, .int .u8 s, .int .u8 (F.val : Nat), .int .u8 m]] w fun e w' => e = .returned (.agg #[.int .u8 (bits .and .u8 a (shV 39 m F.c)), .int .u8 (x), .int .u8 (y), .int .u8 (s), .int .u8 ((nzF (bits .and .u8 a (shV 39 m F.c)) (shF 39 m F)).val : Nat), .int .u8 (shV 39 m F.c)]) ∧ Below w.heap.size w w' := by
  go_enter Tryd.func33, Tryd.ntmps33
  go_wp2
  go_region_with (first
    | (go_at_call 32; refine (shift_39 _).mono ?_; rintro e w1 ⟨rfl, rfl⟩)
    | (go_at_call 30; refine (combine_1 _).mono ?_; rintro e w1 ⟨rfl, rfl⟩)
    | (go_at_call 73; refine (pair_any _ _ _ _ _ _ _).mono ?_; rintro e w1 ⟨rfl, rfl⟩)
    | (go_at_call 82; refine (pair1_63 _ _ _ _ _ _ _ _ _ (by omega) (by omega) (by omega) (by omega) (w.heap.size + 1 + 1) (by first | (simp [go_sem]; done) | (go_simp; done)) (by first | (simp [go_sem]; done) | (go_simp; done)) (by first | (simp [go_sem]; done) | (go_simp; done))).mono ?_; rintro e w1 ⟨rfl, hb1⟩; obtain ⟨hc1, hf1⟩ := bcell hb1))
  all_goals
    go_wp2
    refine bodyPost_ret (v := .agg #[.int .u8 (bits .and .u8 a (shV 39 m F.c)), .int .u8 (x), .int .u8 (y), .int .u8 (s), .int .u8 ((nzF (bits .and .u8 a (shV 39 m F.c)) (shF 39 m F)).val : Nat), .int .u8 (shV 39 m F.c)]) (by simp [results, Tryd.results33, go_sem, hc1]) rfl ⟨rfl, ?_⟩
    clear hc1 hf1
    have hs := hb1.size
    simp at hs
    repeat (refine Below.setCell ?_ (by simp) _)
    exact (((((((Below.refl _ _).alloc (Nat.le_refl _) _).alloc (by simp) _).drew).alloc (by simp; omega) _).alloc (by simp; omega) _).alloc (by simp; omega) _).trans (hb1.mono (by simp; omega))
set_option maxHeartbeats 4000000 in
theorem do_63 (a x y s m : Int) (F : Fl) (w : World) (a0 : 0 ≤ a) (a1 : a ≤ 255) (m0 : 0 ≤ m) (m1 : m ≤ 255) :
    Calls Tryd.prog 16 #[.int .i64 63, .agg #[.int .u8 a, .int .u8 x, .int .u8 y, .int .u8 s, .int .u8 (F.val : Nat), .int .u8 m]] w fun e w' => e = .returned (.agg #[.int .u8 (bits .and .u8 a (shV 39 m F.c)), .int .u8 (x), .int .u8 (y), .int .u8 (s), .int .u8 ((nzF (bits .and .u8 a (shV 39 m F.c)) (shF 39 m F)).val : Nat), .int .u8 (shV 39 m F.c)]) ∧ Below w.heap.size w w' := by
  go_enter Tryd.func16, Tryd.ntmps16
  go_wp2_with (go_at_call 33; refine (dopair_63 _ _ _ _ _ _ _ (by omega) (by omega) (by omega) (by omega)).mono ?_; rintro e w1 ⟨rfl, hb1⟩; obtain ⟨hc1, hf1⟩ := bcell hb1)
  refine bodyPost_ret (v := .agg #[.int .u8 (bits .and .u8 a (shV 39 m F.c)), .int .u8 (x), .int .u8 (y), .int .u8 (s), .int .u8 ((nzF (bits .and .u8 a (shV 39 m F.c)) (shF 39 m F)).val : Nat), .int .u8 (shV 39 m F.c)]) (by simp [results, Tryd.results16, go_sem, hc1]) rfl ⟨rfl, ?_⟩
  clear hc1 hf1
  have hs := hb1.size
  simp at hs
  repeat (refine Below.setCell ?_ (by simp) _)
  exact (((Below.refl _ _).alloc (Nat.le_refl _) _).alloc (by simp) _).trans (hb1.mono (by simp; omega))
set_option maxHeartbeats 4000000 in
theorem pair1_68 (a x y s m : Int) (F : Fl) (b1 b2 : Nat) (w : World) (_a0 : 0 ≤ a) (_a1 : a ≤ 255) (_m0 : 0 ≤ m) (_m1 : m ≤ 255) (bo : Nat) (ho : w.cell? ⟨bo, 0, none⟩ = some (.int .i64 32)) (h1 : w.cell? ⟨b1, 0, none⟩ = some (.func (.func 65) #[] #[])) (h2 : w.cell? ⟨b2, 0, none⟩ = some (.func (.func 72) #[] #[.pointer (some ⟨bo, 0, none⟩)])) :
    Calls Tryd.prog 82 #[.agg #[.int .u8 a, .int .u8 x, .int .u8 y, .int .u8 s, .int .u8 (F.val : Nat), .int .u8 m], .pointer (some ⟨b1, 0, none⟩), .pointer (some ⟨b2, 0, none⟩)] w fun e w' => e = .returned (.agg #[.int .u8 (bits .xor .u8 a (shV 32 m F.c)), .int .u8 (x), .int .u8 (y), .int .u8 (s), .int .u8 ((nzF (bits .xor .u8 a (shV 32 m F.c)) (shF 32 m F)).val : Nat), .int .u8 (shV 32 m F.c)]) ∧ Below w.heap.size w w' := by
  have hl1 : b1 < w.heap.size := cell_lt h1
  have hl2 : b2 < w.heap.size := cell_lt h2
  obtain ⟨n0, n1⟩ := sh_bd 32 m F.c _m0 _m1
  have hlo : bo < w.heap.size := cell_lt ho
  go_enter Tryd.func82, Tryd.ntmps82
  go_wp2
  go_region_with (first
    | (go_at_call 72; refine (shift1 32 _ _ _ _ _ _ _ _ (by omega) (by omega) (by simp [go_sem, ho, hlo])).mono ?_; rintro e w1 ⟨rfl, hb1⟩; obtain ⟨hc1, hf1⟩ := bcell hb1; have hz1 := hb1.size; simp at hz1; have hz2 : w.heap.size + 1 < w1.heap.size := (by omega); have B1 : Below w.heap.size w w1 := ((((Below.refl _ _).alloc (Nat.le_refl _) _).alloc (by simp) _).drew).trans (hb1.mono (by simp; omega)); have q1 := (B1.cell (p := ⟨b1, 0, none⟩) hl1).trans h1)
    | (go_at_call 65; refine (combine3 _ _ _ _ _ _ _).mono ?_; rintro e w2 ⟨rfl, hb2⟩; obtain ⟨hc2, hf2⟩ := bcell hb2))
  all_goals
    go_wp2
    refine bodyPost_ret (v := .agg #[.int .u8 (bits .xor .u8 a (shV 32 m F.c)), .int .u8 (x), .int .u8 (y), .int .u8 (s), .int .u8 ((nzF (bits .xor .u8 a (shV 32 m F.c)) (shF 32 m F)).val : Nat), .int .u8 (shV 32 m F.c)]) (by simp [results, Tryd.results82, go_sem, hc1, hc2, hz2]) rfl ⟨rfl, ?_⟩
    clear hc1 hf1 hc2 hf2
    repeat (refine Below.setCell ?_ (by simp) _)
    exact B1.trans (hb2.mono (by omega))
set_option maxHeartbeats 4000000 in
theorem dopair_68 (a x y s m : Int) (F : Fl) (w : World) (a0 : 0 ≤ a) (a1 : a ≤ 255) (m0 : 0 ≤ m) (m1 : m ≤ 255) :
    Calls Tryd.prog 33 #[.int .i64 68, .agg #[.int .u8 a, .int .u8 x, .int .u8 y, .int .u8 s, .int .u8 (F.val : Nat), .int .u8 m]] w fun e w' => e = .returned (.agg #[.int .u8 (bits .xor .u8 a (shV 32 m F.c)), .int .u8 (x), .int .u8 (y), .int .u8 (s), .int .u8 ((nzF (bits .xor .u8 a (shV 32 m F.c)) (shF 32 m F)).val : Nat), .int .u8 (shV 32 m F.c)]) ∧ Below w.heap.size w w' := by
  go_enter Tryd.func33, Tryd.ntmps33
  go_wp2
  go_region_with (first
    | (go_at_call 32; refine (shift_32 _).mono ?_; rintro e w1 ⟨rfl, rfl⟩)
    | (go_at_call 30; refine (combine_23 _).mono ?_; rintro e w1 ⟨rfl, rfl⟩)
    | (go_at_call 73; refine (pair_any _ _ _ _ _ _ _).mono ?_; rintro e w1 ⟨rfl, rfl⟩)
    | (go_at_call 82; refine (pair1_68 _ _ _ _ _ _ _ _ _ (by omega) (by omega) (by omega) (by omega) (w.heap.size + 1 + 1) (by first | (simp [go_sem]; done) | (go_simp; done)) (by first | (simp [go_sem]; done) | (go_simp; done)) (by first | (simp [go_sem]; done) | (go_simp; done))).mono ?_; rintro e w1 ⟨rfl, hb1⟩; obtain ⟨hc1, hf1⟩ := bcell hb1))
  all_goals
    go_wp2
    refine bodyPost_ret (v := .agg #[.int .u8 (bits .xor .u8 a (shV 32 m F.c)), .int .u8 (x), .int .u8 (y), .int .u8 (s), .int .u8 ((nzF (bits .xor .u8 a (shV 32 m F.c)) (shF 32 m F)).val : Nat), .int .u8 (shV 32 m F.c)]) (by simp [results, Tryd.results33, go_sem, hc1]) rfl ⟨rfl, ?_⟩
    clear hc1 hf1
    have hs := hb1.size
    simp at hs
    repeat (refine Below.setCell ?_ (by simp) _)
    exact (((((((Below.refl _ _).alloc (Nat.le_refl _) _).alloc (by simp) _).drew).alloc (by simp; omega) _).alloc (by simp; omega) _).alloc (by simp; omega) _).trans (hb1.mono (by simp; omega))
set_option maxHeartbeats 4000000 in
theorem do_68 (a x y s m : Int) (F : Fl) (w : World) (a0 : 0 ≤ a) (a1 : a ≤ 255) (m0 : 0 ≤ m) (m1 : m ≤ 255) :
    Calls Tryd.prog 16 #[.int .i64 68, .agg #[.int .u8 a, .int .u8 x, .int .u8 y, .int .u8 s, .int .u8 (F.val : Nat), .int .u8 m]] w fun e w' => e = .returned (.agg #[.int .u8 (bits .xor .u8 a (shV 32 m F.c)), .int .u8 (x), .int .u8 (y), .int .u8 (s), .int .u8 ((nzF (bits .xor .u8 a (shV 32 m F.c)) (shF 32 m F)).val : Nat), .int .u8 (shV 32 m F.c)]) ∧ Below w.heap.size w w' := by
  go_enter Tryd.func16, Tryd.ntmps16
  go_wp2_with (go_at_call 33; refine (dopair_68 _ _ _ _ _ _ _ (by omega) (by omega) (by omega) (by omega)).mono ?_; rintro e w1 ⟨rfl, hb1⟩; obtain ⟨hc1, hf1⟩ := bcell hb1)
  refine bodyPost_ret (v := .agg #[.int .u8 (bits .xor .u8 a (shV 32 m F.c)), .int .u8 (x), .int .u8 (y), .int .u8 (s), .int .u8 ((nzF (bits .xor .u8 a (shV 32 m F.c)) (shF 32 m F)).val : Nat), .int .u8 (shV 32 m F.c)]) (by simp [results, Tryd.results16, go_sem, hc1]) rfl ⟨rfl, ?_⟩
  clear hc1 hf1
  have hs := hb1.size
  simp at hs
  repeat (refine Below.setCell ?_ (by simp) _)
  exact (((Below.refl _ _).alloc (Nat.le_refl _) _).alloc (by simp) _).trans (hb1.mono (by simp; omega))
end Go.Proofs.YtgnhaicogdnebaaDoor
