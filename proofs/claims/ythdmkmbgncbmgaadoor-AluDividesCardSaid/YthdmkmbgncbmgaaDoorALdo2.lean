/-
  The laws' own do.
-/
import Derived.Test.YthdmkmbgncbmgaaDoorALdo
import Derived.Test.YthdmkmbgncbmgaaDoorADoC
import Derived.Test.YthdmkmbgncbmgaaDoorADoD
namespace Go.Proofs.YthdmkmbgncbmgaaDoor
open Go.RowKit
set_option maxHeartbeats 1000000 in
theorem ldo_0 (a x y s m v : Int) (F : Fl) (w : World) (a0 : 0 ≤ a) (a1 : a ≤ 255) (v0 : 0 ≤ v) (v1 : v ≤ 255) :
    Calls Tryd.prog 9 #[.int .i64 0, .agg #[.int .u8 a, .int .u8 x, .int .u8 y, .int .u8 s, .int .u8 (F.val : Nat), .int .u8 m], .int .u8 v] w fun e w' => e = .returned (.agg #[.int .u8 (adcV a v F), .int .u8 (x), .int .u8 (y), .int .u8 (s), .int .u8 ((adcF a v F).val : Nat), .int .u8 (v)]) ∧ Below w.heap.size w w' := by
  go_enter Tryd.func9, Tryd.ntmps9
  go_wp2_with (go_at_call 11; refine (do_0 _ _ _ _ _ _ _ (by omega) (by omega) (by omega) (by omega)).mono ?_; rintro e w1 ⟨rfl, hb1⟩; obtain ⟨hc1, hf1⟩ := bcell hb1)
  refine bodyPost_ret (v := .agg #[.int .u8 (adcV a v F), .int .u8 (x), .int .u8 (y), .int .u8 (s), .int .u8 ((adcF a v F).val : Nat), .int .u8 (v)]) (by simp [results, Tryd.results9, go_sem, hc1]) rfl ⟨rfl, ?_⟩
  clear hc1 hf1
  have hs := hb1.size
  simp at hs
  repeat (refine Below.setCell ?_ (by simp) _)
  exact (((Below.refl _ _).alloc (Nat.le_refl _) _).alloc (by simp) _).trans (hb1.mono (by simp; omega))
set_option maxHeartbeats 1000000 in
theorem ldo_2 (a x y s m v : Int) (F : Fl) (w : World) (v0 : 0 ≤ v) (v1 : v ≤ 255) :
    Calls Tryd.prog 9 #[.int .i64 2, .agg #[.int .u8 a, .int .u8 x, .int .u8 y, .int .u8 s, .int .u8 (F.val : Nat), .int .u8 m], .int .u8 v] w fun e w' => e = .returned (.agg #[.int .u8 (a), .int .u8 (x), .int .u8 (y), .int .u8 (s), .int .u8 ((shF 2 v F).val : Nat), .int .u8 (shV 2 v F.c)]) ∧ Below w.heap.size w w' := by
  go_enter Tryd.func9, Tryd.ntmps9
  go_wp2_with (go_at_call 11; refine (do_2 _ _ _ _ _ _ _ (by omega) (by omega)).mono ?_; rintro e w1 ⟨rfl, hb1⟩; obtain ⟨hc1, hf1⟩ := bcell hb1)
  refine bodyPost_ret (v := .agg #[.int .u8 (a), .int .u8 (x), .int .u8 (y), .int .u8 (s), .int .u8 ((shF 2 v F).val : Nat), .int .u8 (shV 2 v F.c)]) (by simp [results, Tryd.results9, go_sem, hc1]) rfl ⟨rfl, ?_⟩
  clear hc1 hf1
  have hs := hb1.size
  simp at hs
  repeat (refine Below.setCell ?_ (by simp) _)
  exact (((Below.refl _ _).alloc (Nat.le_refl _) _).alloc (by simp) _).trans (hb1.mono (by simp; omega))
end Go.Proofs.YthdmkmbgncbmgaaDoor
