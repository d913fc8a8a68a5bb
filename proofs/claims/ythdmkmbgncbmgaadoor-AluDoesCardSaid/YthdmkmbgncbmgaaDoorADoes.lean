/-
  The law AluDoes by what both answer.
-/
import Derived.Test.YthdmkmbgncbmgaaDoorATold
import Derived.Test.YthdmkmbgncbmgaaDoorATab
namespace Go.Proofs.YthdmkmbgncbmgaaDoor
open Go.RowKit
set_option maxRecDepth 100000 in
set_option maxHeartbeats 2000000 in
theorem law_does (op a x y s p m o0 o1 o2 o3 o4 o5 : Int) (w : World) (T : STab w) (hA : (∀ W, STab W → Calls Tryd.prog 11 #[.int .i64 op, .agg #[.int .u8 a, .int .u8 x, .int .u8 y, .int .u8 s, .int .u8 p, .int .u8 m]] W fun e w' => e = .returned (.agg #[.int .u8 o0, .int .u8 o1, .int .u8 o2, .int .u8 o3, .int .u8 o4, .int .u8 o5]) ∧ Below W.heap.size W w')) (hR : (∀ W, Calls Tryd.prog 13 #[.int .i64 op, .agg #[.int .u8 a, .int .u8 x, .int .u8 y, .int .u8 s, .int .u8 p, .int .u8 m]] W fun e w' => e = .returned (.agg #[.int .u8 o0, .int .u8 o1, .int .u8 o2, .int .u8 o3, .int .u8 o4, .int .u8 o5]) ∧ Below W.heap.size W w')) :
    Calls Tryd.prog 5 #[.int .i64 op, .agg #[.int .u8 a, .int .u8 x, .int .u8 y, .int .u8 s, .int .u8 p, .int .u8 m]] w fun e w' => e = .returned (.bool true) ∧ Below w.heap.size w w' := by
  have HT : Hid _ := T.on (((Below.refl w.heap.size w).alloc (Nat.le_refl _) (.cells #[.int .u8 a, .int .u8 x, .int .u8 y, .int .u8 s, .int .u8 p, .int .u8 m] 23)).drew)
  have HA : Hid _ := hA
  have HR : Hid _ := hR
  clear T hA hR
  go_enter Tryd.func5, Tryd.ntmps5
  go_wp2
  go_region_with (first
    | (go_at_call 11; refine (HA.out _ HT.out).mono ?_; rintro e w1 ⟨rfl, hb1⟩; obtain ⟨hc1, hf1⟩ := bcell hb1)
    | (go_at_call 13; refine (HR.out _).mono ?_; rintro e w2 ⟨rfl, hb2⟩; obtain ⟨hc2, hf2⟩ := bcell hb2))
  all_goals
    clear hc1 hf1 hc2 hf2
    go_wp2
    go_ret
    exact ⟨rfl, ((((Below.refl _ _).alloc (Nat.le_refl _) _).drew).trans (hb1.mono (by simp))).trans (hb2.mono (by have := hb1.size; simp at this; omega))⟩
end Go.Proofs.YthdmkmbgncbmgaaDoor
