/-
  What the document's New answers of a cartridge; conditions: what it looks at lies in the cartridge's cells, the lengths are below 2000000.
-/
import Derived.Test.YtpdpfobhbafmcaaNNew2
import Derived.Test.YtpdpfobhbafmcaaMSized
namespace Go.Proofs.Ytpdpfobhbafmcaa
open Go.RowKit Classical
theorem set_2 (b : Bd) (hr : b.r.length = 8) (v : Int) : b.cells.setIfInBounds 2 (.int .u8 v) = ({ b with hard := v } : Bd).cells := by
  obtain ⟨a0, a1, a2, a3, a4, a5, a6, a7, er⟩ := Bd.eight hr
  unfold Bd.cells
  rw [er]
  rfl
theorem set_3 (b : Bd) (hr : b.r.length = 8) (v : Bool) : b.cells.setIfInBounds 3 (.bool v) = ({ b with work := v } : Bd).cells := by
  obtain ⟨a0, a1, a2, a3, a4, a5, a6, a7, er⟩ := Bd.eight hr
  unfold Bd.cells
  rw [er]
  rfl
theorem set_5 (b : Bd) (hr : b.r.length = 8) (v : Int) : b.cells.setIfInBounds 5 (.int .i64 v) = ({ b with chr := v } : Bd).cells := by
  obtain ⟨a0, a1, a2, a3, a4, a5, a6, a7, er⟩ := Bd.eight hr
  unfold Bd.cells
  rw [er]
  rfl
theorem set_6 (b : Bd) (hr : b.r.length = 8) (v : Bool) : b.cells.setIfInBounds 6 (.bool v) = ({ b with chrRam := v } : Bd).cells := by
  obtain ⟨a0, a1, a2, a3, a4, a5, a6, a7, er⟩ := Bd.eight hr
  unfold Bd.cells
  rw [er]
  rfl
theorem set_7 (b : Bd) (hr : b.r.length = 8) (v : Int) : b.cells.setIfInBounds 7 (.int .u8 v) = ({ b with shift := v } : Bd).cells := by
  obtain ⟨a0, a1, a2, a3, a4, a5, a6, a7, er⟩ := Bd.eight hr
  unfold Bd.cells
  rw [er]
  rfl
theorem set_8 (b : Bd) (hr : b.r.length = 8) (v : Int) : b.cells.setIfInBounds 8 (.int .u8 v) = ({ b with ctrl := v } : Bd).cells := by
  obtain ⟨a0, a1, a2, a3, a4, a5, a6, a7, er⟩ := Bd.eight hr
  unfold Bd.cells
  rw [er]
  rfl
theorem set_12 (b : Bd) (hr : b.r.length = 8) (v : Int) : b.cells.setIfInBounds 12 (.int .i64 v) = ({ b with last := v } : Bd).cells := by
  obtain ⟨a0, a1, a2, a3, a4, a5, a6, a7, er⟩ := Bd.eight hr
  unfold Bd.cells
  rw [er]
  rfl
theorem set_24 (b : Bd) (hr : b.r.length = 8) (v : Int) : b.cells.setIfInBounds 24 (.int .u8 v) = ({ b with guard := v } : Bd).cells := by
  obtain ⟨a0, a1, a2, a3, a4, a5, a6, a7, er⟩ := Bd.eight hr
  unfold Bd.cells
  rw [er]
  rfl
theorem set_r (b : Bd) (hr : b.r.length = 8) : ((((((((b.cells.setIfInBounds 15 (.int .u8 0)).setIfInBounds 16 (.int .u8 2)).setIfInBounds 17 (.int .u8 4)).setIfInBounds 18 (.int .u8 5)).setIfInBounds 19 (.int .u8 6)).setIfInBounds 20 (.int .u8 7)).setIfInBounds 21 (.int .u8 0)).setIfInBounds 22 (.int .u8 1)) = ({ b with r := [0, 2, 4, 5, 6, 7, 0, 1] } : Bd).cells := by
  obtain ⟨a0, a1, a2, a3, a4, a5, a6, a7, er⟩ := Bd.eight hr
  unfold Bd.cells
  rw [er]
  simp
set_option maxRecDepth 100000 in
theorem rnew_bad1 (cs : Array Value) (mp sub ram nv : Int) (vert four : Bool) (x1 x2 : Option Addr) (p c k1 k2 : Nat) (C : IsN cs mp sub ram nv vert four x1 x2 p c k1 k2) (w : World) (hl : lst mp sub = false) :
    Calls Try.prog 8 #[.agg cs] w fun e w' => e = .returned (.tuple #[.agg Z31, .int .i64 20]) ∧ Below w.heap.size w w' := by
  have hsz := C.size
  have HS : Hid _ := hsz
  have CC : Hid _ := C
  go_enter Try.func8, Try.ntmps8
  go_upto_region 2 with fail
  change Code.wp _ _ _ _ (((w.alloc (.cells cs 33)).alloc (.cells Z31 27)).alloc (.cells Z31 27))
  have b0 : Blk (((w.alloc (.cells cs 33)).alloc (.cells Z31 27)).alloc (.cells Z31 27)) w.heap.size cs 33 := ((Blk.new w cs _).old _).old _
  have z0 : Blk (((w.alloc (.cells cs 33)).alloc (.cells Z31 27)).alloc (.cells Z31 27)) (w.heap.size + 1) Z31 27 := by
    have := (Blk.new (w.alloc (.cells cs 33)) Z31 27).old (.cells Z31 27)
    rwa [World.size_alloc] at this
  have y0 : Blk (((w.alloc (.cells cs 33)).alloc (.cells Z31 27)).alloc (.cells Z31 27)) (w.heap.size + 2) Z31 27 := by
    have := Blk.new ((w.alloc (.cells cs 33)).alloc (.cells Z31 27)) Z31 27
    rwa [World.size_alloc, World.size_alloc] at this
  have hb0 : Below w.heap.size w (((w.alloc (.cells cs 33)).alloc (.cells Z31 27)).alloc (.cells Z31 27)) := (((Below.refl _ _).alloc (Nat.le_refl _) _).alloc (by simp) _).alloc (by simp; omega) _
  generalize (((w.alloc (.cells cs 33)).alloc (.cells Z31 27)).alloc (.cells Z31 27)) = W0 at *
  have d1 := (b0.cell 1).trans C.h1
  have d2 := (b0.cell 2).trans C.h2
  have d3 := (b0.cell 3).trans C.h3
  have d4 := (b0.cell 4).trans C.h4
  have d11 := (b0.cell 11).trans C.h11
  have d12 := (b0.cell 12).trans C.h12
  have d16 := (b0.cell 16).trans C.h16
  have d17 := (b0.cell 17).trans C.h17
  clear C hsz
  go_wp2_with (first
    | (go_at_call 21; refine (refListed_any _ _ _).mono ?_; rintro e w' ⟨rfl, rfl⟩; rw [hl])
    | refine wpList_load_mid rfl 27 _ rfl (w.heap.size + 2) 0 rfl Z31.toList _ y0.range Try.underlying27 rfl (by exact Try.infoBoard) ?_
    | refine wpList_store_mid rfl 27 _ _ rfl (w.heap.size + 1) 0 Z31 rfl rfl (by exact z0.there _ rfl) (by exact Try.infoBoard) Z31_one ?_)
  exact ret_agg2 (m := w.heap.size + 1) (L := Z31) (x := .int .i64 20) Try.results8 (by rfl) (by rfl) (z0.setAll Z31 rfl) Try.underlying27 rfl (by exact Try.infoBoard) ⟨rfl, setCells_below (Nat.le_succ _) _ _ _ _ hb0⟩
set_option maxRecDepth 100000 in
theorem rnew_bad2 (cs : Array Value) (mp sub ram nv : Int) (vert four : Bool) (x1 x2 : Option Addr) (p c k1 k2 : Nat) (C : IsN cs mp sub ram nv vert four x1 x2 p c k1 k2) (w : World) (hl : lst mp sub = true) (hp : p ≤ 2000000) (hX : (((p : Int) % 16384 != 0) || (((p : Int) == 0) || decide (1048576 < (p : Int)))) = true) :
    Calls Try.prog 8 #[.agg cs] w fun e w' => e = .returned (.tuple #[.agg Z31, .int .i64 21]) ∧ Below w.heap.size w w' := by
  have hsz := C.size
  have HS : Hid _ := hsz
  have CC : Hid _ := C
  go_enter Try.func8, Try.ntmps8
  go_upto_region 2 with fail
  change Code.wp _ _ _ _ (((w.alloc (.cells cs 33)).alloc (.cells Z31 27)).alloc (.cells Z31 27))
  have b0 : Blk (((w.alloc (.cells cs 33)).alloc (.cells Z31 27)).alloc (.cells Z31 27)) w.heap.size cs 33 := ((Blk.new w cs _).old _).old _
  have z0 : Blk (((w.alloc (.cells cs 33)).alloc (.cells Z31 27)).alloc (.cells Z31 27)) (w.heap.size + 1) Z31 27 := by
    have := (Blk.new (w.alloc (.cells cs 33)) Z31 27).old (.cells Z31 27)
    rwa [World.size_alloc] at this
  have y0 : Blk (((w.alloc (.cells cs 33)).alloc (.cells Z31 27)).alloc (.cells Z31 27)) (w.heap.size + 2) Z31 27 := by
    have := Blk.new ((w.alloc (.cells cs 33)).alloc (.cells Z31 27)) Z31 27
    rwa [World.size_alloc, World.size_alloc] at this
  have hb0 : Below w.heap.size w (((w.alloc (.cells cs 33)).alloc (.cells Z31 27)).alloc (.cells Z31 27)) := (((Below.refl _ _).alloc (Nat.le_refl _) _).alloc (by simp) _).alloc (by simp; omega) _
  generalize (((w.alloc (.cells cs 33)).alloc (.cells Z31 27)).alloc (.cells Z31 27)) = W0 at *
  have d1 := (b0.cell 1).trans C.h1
  have d2 := (b0.cell 2).trans C.h2
  have d3 := (b0.cell 3).trans C.h3
  have d4 := (b0.cell 4).trans C.h4
  have d11 := (b0.cell 11).trans C.h11
  have d12 := (b0.cell 12).trans C.h12
  have d16 := (b0.cell 16).trans C.h16
  have d17 := (b0.cell 17).trans C.h17
  clear C hsz
  go_upto_region 4 with (go_at_call 21; refine (refListed_any _ _ _).mono ?_; rintro e w' ⟨rfl, rfl⟩; rw [hl])
  obtain ⟨W0, hW0⟩ : ∃ x, x = w' := ⟨w', rfl⟩
  subst hW0
  clear hl
  go_cut [29] (fun q wx => q = .bool (((p : Int) % 16384 != 0) || (((p : Int) == 0) || decide (1048576 < (p : Int)))) ∧ W0 = wx)
  case first =>
    clear hX
    by_cases c1 : (p : Int) % 16384 = 0
    · by_cases c2 : (p : Int) = 0
      · go_wp2
        go_meet
        exact ⟨by simp [c2], rfl⟩
      · go_wp2
        go_meet
        exact ⟨by first | rfl | simp [c1], rfl⟩
    · go_wp2
      go_meet
      exact ⟨by first | rfl | simp [c1], rfl⟩
  case rest =>
  obtain ⟨rfl, rfl⟩ := hcut
  rw [hX]
  clear hX
  go_wp2_with (first
    | refine wpList_load_mid rfl 27 _ rfl (w.heap.size + 2) 0 rfl Z31.toList _ y0.range Try.underlying27 rfl (by exact Try.infoBoard) ?_
    | refine wpList_store_mid rfl 27 _ _ rfl (w.heap.size + 1) 0 Z31 rfl rfl (by exact z0.there _ rfl) (by exact Try.infoBoard) Z31_one ?_)
  exact ret_agg2 (m := w.heap.size + 1) (L := Z31) (x := .int .i64 21) Try.results8 (by rfl) (by rfl) (z0.setAll Z31 rfl) Try.underlying27 rfl (by exact Try.infoBoard) ⟨rfl, setCells_below (Nat.le_succ _) _ _ _ _ hb0⟩
set_option maxRecDepth 100000 in
theorem rnew_bad3 (cs : Array Value) (mp sub ram nv : Int) (vert four : Bool) (x1 x2 : Option Addr) (p c k1 k2 : Nat) (C : IsN cs mp sub ram nv vert four x1 x2 p c k1 k2) (w : World) (hl : lst mp sub = true) (hp : p ≤ 2000000) (hc : c ≤ 2000000) (hX : (((p : Int) % 16384 != 0) || (((p : Int) == 0) || decide (1048576 < (p : Int)))) = false) (hY : (((c : Int) % 8192 != 0) || decide (524288 < (c : Int))) = true) :
    Calls Try.prog 8 #[.agg cs] w fun e w' => e = .returned (.tuple #[.agg Z31, .int .i64 21]) ∧ Below w.heap.size w w' := by
  have hsz := C.size
  have HS : Hid _ := hsz
  have CC : Hid _ := C
  go_enter Try.func8, Try.ntmps8
  go_upto_region 2 with fail
  change Code.wp _ _ _ _ (((w.alloc (.cells cs 33)).alloc (.cells Z31 27)).alloc (.cells Z31 27))
  have b0 : Blk (((w.alloc (.cells cs 33)).alloc (.cells Z31 27)).alloc (.cells Z31 27)) w.heap.size cs 33 := ((Blk.new w cs _).old _).old _
  have z0 : Blk (((w.alloc (.cells cs 33)).alloc (.cells Z31 27)).alloc (.cells Z31 27)) (w.heap.size + 1) Z31 27 := by
    have := (Blk.new (w.alloc (.cells cs 33)) Z31 27).old (.cells Z31 27)
    rwa [World.size_alloc] at this
  have y0 : Blk (((w.alloc (.cells cs 33)).alloc (.cells Z31 27)).alloc (.cells Z31 27)) (w.heap.size + 2) Z31 27 := by
    have := Blk.new ((w.alloc (.cells cs 33)).alloc (.cells Z31 27)) Z31 27
    rwa [World.size_alloc, World.size_alloc] at this
  have hb0 : Below w.heap.size w (((w.alloc (.cells cs 33)).alloc (.cells Z31 27)).alloc (.cells Z31 27)) := (((Below.refl _ _).alloc (Nat.le_refl _) _).alloc (by simp) _).alloc (by simp; omega) _
  generalize (((w.alloc (.cells cs 33)).alloc (.cells Z31 27)).alloc (.cells Z31 27)) = W0 at *
  have d1 := (b0.cell 1).trans C.h1
  have d2 := (b0.cell 2).trans C.h2
  have d3 := (b0.cell 3).trans C.h3
  have d4 := (b0.cell 4).trans C.h4
  have d11 := (b0.cell 11).trans C.h11
  have d12 := (b0.cell 12).trans C.h12
  have d16 := (b0.cell 16).trans C.h16
  have d17 := (b0.cell 17).trans C.h17
  clear C hsz
  go_upto_region 4 with (go_at_call 21; refine (refListed_any _ _ _).mono ?_; rintro e w' ⟨rfl, rfl⟩; rw [hl])
  obtain ⟨W0, hW0⟩ : ∃ x, x = w' := ⟨w', rfl⟩
  subst hW0
  clear hl
  go_cut [29] (fun q wx => q = .bool (((p : Int) % 16384 != 0) || (((p : Int) == 0) || decide (1048576 < (p : Int)))) ∧ W0 = wx)
  case first =>
    clear hX
    by_cases c1 : (p : Int) % 16384 = 0
    · by_cases c2 : (p : Int) = 0
      · go_wp2
        go_meet
        exact ⟨by simp [c2], rfl⟩
      · go_wp2
        go_meet
        exact ⟨by first | rfl | simp [c1], rfl⟩
    · go_wp2
      go_meet
      exact ⟨by first | rfl | simp [c1], rfl⟩
  case rest =>
  obtain ⟨rfl, rfl⟩ := hcut
  rw [hX]
  clear hX
  go_upto_region 6 with fail
  go_cut [41] (fun q wx => q = .bool (((c : Int) % 8192 != 0) || decide (524288 < (c : Int))) ∧ W0 = wx)
  case first =>
    clear hY
    by_cases c1 : (c : Int) % 8192 = 0
    · go_wp2
      go_meet
      exact ⟨by first | rfl | simp [c1], rfl⟩
    · go_wp2
      go_meet
      exact ⟨by first | rfl | simp [c1], rfl⟩
  case rest =>
  obtain ⟨rfl, rfl⟩ := hcut
  rw [hY]
  clear hY
  go_wp2_with (first
    | refine wpList_load_mid rfl 27 _ rfl (w.heap.size + 2) 0 rfl Z31.toList _ y0.range Try.underlying27 rfl (by exact Try.infoBoard) ?_
    | refine wpList_store_mid rfl 27 _ _ rfl (w.heap.size + 1) 0 Z31 rfl rfl (by exact z0.there _ rfl) (by exact Try.infoBoard) Z31_one ?_)
  exact ret_agg2 (m := w.heap.size + 1) (L := Z31) (x := .int .i64 21) Try.results8 (by rfl) (by rfl) (z0.setAll Z31 rfl) Try.underlying27 rfl (by exact Try.infoBoard) ⟨rfl, setCells_below (Nat.le_succ _) _ _ _ _ hb0⟩
end Go.Proofs.Ytpdpfobhbafmcaa
