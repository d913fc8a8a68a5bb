/-
  The document's Do where counts answers.
-/
import Derived.Test.YthdmkmbgncbmgaaDoorALdo
import Derived.Deep.CutBlock
import Derived.Deep.DeepCutAuto
namespace Go.Proofs.YthdmkmbgncbmgaaDoor
open Go.RowKit Classical
theorem Blk.other {w : World} {b m : Nat} {cs : Array Value} (h : Blk w b cs) (hn : b ≠ m) (i : Nat) (v : Value) : Blk (w.setCell ⟨m, i, none⟩ v) b cs := (Below.heap_setCell w ⟨m, i, none⟩ v b hn).trans h
theorem Blk.old {w : World} {b : Nat} {cs : Array Value} (h : Blk w b cs) (o : Obj) : Blk (w.alloc o) b cs := (Below.heap_alloc w o b h.lt).trans h
theorem Blk.other6 {w : World} {b m : Nat} {cs : Array Value} (h : Blk w b cs) (hn : b ≠ m) (v0 v1 v2 v3 v4 v5 : Value) :
    Blk ((((((w.setCell ⟨m, 0, none⟩ v0).setCell ⟨m, 1, none⟩ v1).setCell ⟨m, 2, none⟩ v2).setCell ⟨m, 3, none⟩ v3).setCell ⟨m, 4, none⟩ v4).setCell ⟨m, 5, none⟩ v5) b cs :=
  (((((h.other hn 0 v0).other hn 1 v1).other hn 2 v2).other hn 3 v3).other hn 4 v4).other hn 5 v5
theorem size_set6 (w : World) (b : Nat) (v0 v1 v2 v3 v4 v5 : Value) : ((((((w.setCell ⟨b, 0, none⟩ v0).setCell ⟨b, 1, none⟩ v1).setCell ⟨b, 2, none⟩ v2).setCell ⟨b, 3, none⟩ v3).setCell ⟨b, 4, none⟩ v4).setCell ⟨b, 5, none⟩ v5).heap.size = w.heap.size := by simp
set_option maxRecDepth 100000 in
set_option maxHeartbeats 2000000 in
theorem rdo_counts (op a x y s p m o0 o1 o2 o3 o4 o5 : Int) (w : World) (h1 : (∀ W, Calls Tryd.prog 29 #[.int .i64 op, .agg #[.int .u8 a, .int .u8 x, .int .u8 y, .int .u8 s, .int .u8 p, .int .u8 m]] W fun e w' => e = .returned (.tuple #[.agg #[.int .u8 a, .int .u8 x, .int .u8 y, .int .u8 s, .int .u8 p, .int .u8 m], .bool false]) ∧ Below W.heap.size W w')) (h2 : (∀ W, Calls Tryd.prog 30 #[.int .i64 op, .agg #[.int .u8 a, .int .u8 x, .int .u8 y, .int .u8 s, .int .u8 p, .int .u8 m]] W fun e w' => e = .returned (.tuple #[.agg #[.int .u8 a, .int .u8 x, .int .u8 y, .int .u8 s, .int .u8 p, .int .u8 m], .bool false]) ∧ Below W.heap.size W w')) (h3 : (∀ W, Calls Tryd.prog 31 #[.int .i64 op, .agg #[.int .u8 a, .int .u8 x, .int .u8 y, .int .u8 s, .int .u8 p, .int .u8 m]] W fun e w' => e = .returned (.tuple #[.agg #[.int .u8 o0, .int .u8 o1, .int .u8 o2, .int .u8 o3, .int .u8 o4, .int .u8 o5], .bool true]) ∧ Below W.heap.size W w')) :
    Calls Tryd.prog 13 #[.int .i64 op, .agg #[.int .u8 a, .int .u8 x, .int .u8 y, .int .u8 s, .int .u8 p, .int .u8 m]] w fun e w' => e = .returned (.agg #[.int .u8 o0, .int .u8 o1, .int .u8 o2, .int .u8 o3, .int .u8 o4, .int .u8 o5]) ∧ Below w.heap.size w w' := by
  have HH : Hid _ := And.intro h1 (And.intro h2 h3)
  clear h1 h2 h3
  go_enter Tryd.func13, Tryd.ntmps13
  go_upto_region 7 with (first | (go_at_call 29; refine (HH.out.1 _).mono ?_; rintro e w1 ⟨rfl, hb1⟩; obtain ⟨hc1, hf1⟩ := bcell hb1; have hz1 := hb1.size; simp at hz1; have hy1 : w.heap.size + 1 < w1.heap.size := (by omega); have hx1 : w.heap.size < w1.heap.size := (by omega); have hn1 : ¬ w.heap.size + 1 = w1.heap.size := (by omega); have hm1 : ¬ w.heap.size = w1.heap.size := (by omega); have hp1 : w.heap.size + 1 < w1.heap.size + 1 := (by omega); have hq1 : w.heap.size < w1.heap.size + 1 := (by omega)) | (go_at_call 30; refine (HH.out.2.1 _).mono ?_; rintro e w2 ⟨rfl, hb2⟩; obtain ⟨hc2, hf2⟩ := bcell hb2; have hz2 := hb2.size; simp at hz2; have hy2 : w.heap.size + 1 < w2.heap.size := (by omega); have hx2 : w.heap.size < w2.heap.size := (by omega); have hn2 : ¬ w.heap.size + 1 = w2.heap.size := (by omega); have hm2 : ¬ w.heap.size = w2.heap.size := (by omega); have hp2 : w.heap.size + 1 < w2.heap.size + 1 := (by omega); have hq2 : w.heap.size < w2.heap.size + 1 := (by omega); have hy21 : w1.heap.size < w2.heap.size := (by omega)))
  have B1 : Below w.heap.size w w1 := (((Below.refl _ _).alloc (Nat.le_refl _) _).alloc (by simp) _).trans (hb1.mono (by simp; omega))
  have B2 : Below w.heap.size w w2 := (B1.alloc (by omega) _).trans (hb2.mono (by simp; omega))
  have z1 : Blk w1 (w.heap.size + 1) #[.int .u8 0, .int .u8 0, .int .u8 0, .int .u8 0, .int .u8 0, .int .u8 0] := by
    have z := Blk.new (w.alloc (.cells #[.int .u8 a, .int .u8 x, .int .u8 y, .int .u8 s, .int .u8 p, .int .u8 m] 23)) #[.int .u8 0, .int .u8 0, .int .u8 0, .int .u8 0, .int .u8 0, .int .u8 0]
    rw [show (w.alloc (.cells #[.int .u8 a, .int .u8 x, .int .u8 y, .int .u8 s, .int .u8 p, .int .u8 m] 23)).heap.size = w.heap.size + 1 by simp] at z
    exact z.below (by simp) hb1
  have z2 : Blk w2 (w.heap.size + 1) #[.int .u8 0, .int .u8 0, .int .u8 0, .int .u8 0, .int .u8 0, .int .u8 0] := (z1.old _).below (by simp; omega) hb2
  have y2 : Blk w2 w1.heap.size #[.int .u8 a, .int .u8 x, .int .u8 y, .int .u8 s, .int .u8 p, .int .u8 m] := (Blk.new w1 #[.int .u8 a, .int .u8 x, .int .u8 y, .int .u8 s, .int .u8 p, .int .u8 m]).below (by simp) hb2
  have HZ : Hid _ := z2
  have HY : Hid _ := y2
  have HB : Hid _ := B2
  clear z1 z2 y2 B1 B2
  go_cut [6] (fun ok wx => ok = .bool true ∧ Blk wx (w.heap.size + 1) #[.int .u8 0, .int .u8 0, .int .u8 0, .int .u8 0, .int .u8 0, .int .u8 0] ∧ Blk wx w1.heap.size #[.int .u8 o0, .int .u8 o1, .int .u8 o2, .int .u8 o3, .int .u8 o4, .int .u8 o5] ∧ Below w.heap.size w wx)
  case first =>
    go_wp2_with (go_at_call 31; refine (HH.out.2.2 _).mono ?_; rintro e w3 ⟨rfl, hb3⟩; obtain ⟨hc3, hf3⟩ := bcell hb3; have hz3 := hb3.size; simp at hz3; have hy3 : w.heap.size + 1 < w3.heap.size := (by omega); have hx3 : w.heap.size < w3.heap.size := (by omega); have hn3 : ¬ w.heap.size + 1 = w3.heap.size := (by omega); have hm3 : ¬ w.heap.size = w3.heap.size := (by omega); have hp3 : w.heap.size + 1 < w3.heap.size + 1 := (by omega); have hq3 : w.heap.size < w3.heap.size + 1 := (by omega); have hy31 : w1.heap.size < w3.heap.size := (by omega))
    go_meet
    have q4 : Blk w3 (w.heap.size + 1) #[.int .u8 0, .int .u8 0, .int .u8 0, .int .u8 0, .int .u8 0, .int .u8 0] := ((Blk.other6 HZ.out) (by omega) _ _ _ _ _ _).below (by rw [size_set6]; omega) hb3
    have q5 : Blk w3 w1.heap.size #[.int .u8 a, .int .u8 x, .int .u8 y, .int .u8 s, .int .u8 p, .int .u8 m] := ((Blk.set6 HY.out) _ _ _ _ _ _).below (by rw [size_set6]; omega) hb3
    exact ⟨rfl, q4.other6 (by omega) _ _ _ _ _ _, q5.set6 _ _ _ _ _ _, below_set6 ((below_set6 HB.out (by omega) _ _ _ _ _ _).trans (hb3.mono (by rw [size_set6]; omega))) (by omega) _ _ _ _ _ _⟩
  case rest =>
    clear hc1 hf1 hc2 hf2 HZ HY HB
    obtain ⟨rfl, k4, k5, hw⟩ := hcut
    have c4 := k4.cell
    have f4 := k4.free
    have c5 := k5.cell
    have f5 := k5.free
    go_wp2
    exact bodyPost_ret (v := .agg #[.int .u8 o0, .int .u8 o1, .int .u8 o2, .int .u8 o3, .int .u8 o4, .int .u8 o5]) (by simp [results, Tryd.results13, go_sem, c4]) rfl ⟨rfl, below_set6 hw (by omega) _ _ _ _ _ _⟩
end Go.Proofs.YthdmkmbgncbmgaaDoor
