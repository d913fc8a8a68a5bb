/-
  The document's Do.
-/
import Derived.Test.YthdmkmbgncbmgaaDoorRDo0
namespace Go.Proofs.YthdmkmbgncbmgaaDoor
open Go.RowKit Classical
set_option maxRecDepth 100000 in
set_option maxHeartbeats 2000000 in
theorem rdo_moves (op a x y s p m o0 o1 o2 o3 o4 o5 : Int) (w : World) (h1 : (∀ W, Calls Tryd.prog 29 #[.int .i64 op, .agg #[.int .u8 a, .int .u8 x, .int .u8 y, .int .u8 s, .int .u8 p, .int .u8 m]] W fun e w' => e = .returned (.tuple #[.agg #[.int .u8 o0, .int .u8 o1, .int .u8 o2, .int .u8 o3, .int .u8 o4, .int .u8 o5], .bool true]) ∧ Below W.heap.size W w')) :
    Calls Tryd.prog 13 #[.int .i64 op, .agg #[.int .u8 a, .int .u8 x, .int .u8 y, .int .u8 s, .int .u8 p, .int .u8 m]] w fun e w' => e = .returned (.agg #[.int .u8 o0, .int .u8 o1, .int .u8 o2, .int .u8 o3, .int .u8 o4, .int .u8 o5]) ∧ Below w.heap.size w w' := by
  have HH : Hid _ := h1
  clear h1
  go_enter Tryd.func13, Tryd.ntmps13
  go_wp2_with (first | (go_at_call 29; refine (HH.out _).mono ?_; rintro e w1 ⟨rfl, hb1⟩; obtain ⟨hc1, hf1⟩ := bcell hb1; have hz1 := hb1.size; simp at hz1; have hy1 : w.heap.size + 1 < w1.heap.size := (by omega); have hx1 : w.heap.size < w1.heap.size := (by omega); have hn1 : ¬ w.heap.size + 1 = w1.heap.size := (by omega); have hm1 : ¬ w.heap.size = w1.heap.size := (by omega); have hp1 : w.heap.size + 1 < w1.heap.size + 1 := (by omega); have hq1 : w.heap.size < w1.heap.size + 1 := (by omega)))
  refine bodyPost_ret (v := .agg #[.int .u8 o0, .int .u8 o1, .int .u8 o2, .int .u8 o3, .int .u8 o4, .int .u8 o5]) (by simp [results, Tryd.results13, go_sem, hc1, hy1]) rfl ⟨rfl, ?_⟩
  clear hc1 hf1
  have B1 : Below w.heap.size w w1 := (((Below.refl _ _).alloc (Nat.le_refl _) _).alloc (by simp) _).trans (hb1.mono (by simp; omega))
  exact (below_set6 B1 (by omega) _ _ _ _ _ _).alloc (by simp; omega) _
set_option maxRecDepth 100000 in
set_option maxHeartbeats 2000000 in
theorem rdo_sums (op a x y s p m o0 o1 o2 o3 o4 o5 : Int) (w : World) (h1 : (∀ W, Calls Tryd.prog 29 #[.int .i64 op, .agg #[.int .u8 a, .int .u8 x, .int .u8 y, .int .u8 s, .int .u8 p, .int .u8 m]] W fun e w' => e = .returned (.tuple #[.agg #[.int .u8 a, .int .u8 x, .int .u8 y, .int .u8 s, .int .u8 p, .int .u8 m], .bool false]) ∧ Below W.heap.size W w')) (h2 : (∀ W, Calls Tryd.prog 30 #[.int .i64 op, .agg #[.int .u8 a, .int .u8 x, .int .u8 y, .int .u8 s, .int .u8 p, .int .u8 m]] W fun e w' => e = .returned (.tuple #[.agg #[.int .u8 o0, .int .u8 o1, .int .u8 o2, .int .u8 o3, .int .u8 o4, .int .u8 o5], .bool true]) ∧ Below W.heap.size W w')) :
    Calls Tryd.prog 13 #[.int .i64 op, .agg #[.int .u8 a, .int .u8 x, .int .u8 y, .int .u8 s, .int .u8 p, .int .u8 m]] w fun e w' => e = .returned (.agg #[.int .u8 o0, .int .u8 o1, .int .u8 o2, .int .u8 o3, .int .u8 o4, .int .u8 o5]) ∧ Below w.heap.size w w' := by
  have HH : Hid _ := (And.intro h1 h2)
  clear h1 h2
  go_enter Tryd.func13, Tryd.ntmps13
  go_wp2_with (first | (go_at_call 29; refine (HH.out.1 _).mono ?_; rintro e w1 ⟨rfl, hb1⟩; obtain ⟨hc1, hf1⟩ := bcell hb1; have hz1 := hb1.size; simp at hz1; have hy1 : w.heap.size + 1 < w1.heap.size := (by omega); have hx1 : w.heap.size < w1.heap.size := (by omega); have hn1 : ¬ w.heap.size + 1 = w1.heap.size := (by omega); have hm1 : ¬ w.heap.size = w1.heap.size := (by omega); have hp1 : w.heap.size + 1 < w1.heap.size + 1 := (by omega); have hq1 : w.heap.size < w1.heap.size + 1 := (by omega)) | (go_at_call 30; refine (HH.out.2 _).mono ?_; rintro e w2 ⟨rfl, hb2⟩; obtain ⟨hc2, hf2⟩ := bcell hb2; have hz2 := hb2.size; simp at hz2; have hy2 : w.heap.size + 1 < w2.heap.size := (by omega); have hx2 : w.heap.size < w2.heap.size := (by omega); have hn2 : ¬ w.heap.size + 1 = w2.heap.size := (by omega); have hm2 : ¬ w.heap.size = w2.heap.size := (by omega); have hp2 : w.heap.size + 1 < w2.heap.size + 1 := (by omega); have hq2 : w.heap.size < w2.heap.size + 1 := (by omega); have hy21 : w1.heap.size < w2.heap.size := (by omega)))
  refine bodyPost_ret (v := .agg #[.int .u8 o0, .int .u8 o1, .int .u8 o2, .int .u8 o3, .int .u8 o4, .int .u8 o5]) (by simp [results, Tryd.results13, go_sem, hc1, hy1, hp1, hc2]) rfl ⟨rfl, ?_⟩
  clear hc1 hf1 hc2 hf2
  have B1 : Below w.heap.size w w1 := (((Below.refl _ _).alloc (Nat.le_refl _) _).alloc (by simp) _).trans (hb1.mono (by simp; omega))
  have B2 : Below w.heap.size w w2 := (B1.alloc (by omega) _).trans (hb2.mono (by simp; omega))
  exact below_set6 (below_set6 B2 (by omega) _ _ _ _ _ _) (by omega) _ _ _ _ _ _
end Go.Proofs.YthdmkmbgncbmgaaDoor
