/-
  What the document's New answers of a cartridge; conditions: what it looks at lies in the cartridge's cells, the lengths are below 2000000.
  What the document's New answers of a cartridge that fits; conditions: what it looks at lies in the cartridge's cells, the lengths are below 2000000.
  Both New answer alike; conditions: what they look at lies in the cartridge's cells, the lengths are below 2000000.
-/
import Derived.Test.YtggphgmpdanliaaNA
import Derived.Test.YtggphgmpdanliaaMSized
namespace Go.Proofs.Ytggphgmpdanliaa
open Go.RowKit Classical
theorem set_2 (b : Bd) (hr : b.r.length = 8) (v : Int) : b.cells.setIfInBounds 2 (.int .u8 v) = ({ b with hard := v } : Bd).cells := by
  obtain ⟨a0, a1, a2, a3, a4, a5, a6, a7, er⟩ := Bd.eight hr
  unfold Bd.cells
  rw [er]
  rfl
theorem set_3 (b : Bd) (hr : b.r.length = 8) (v : Bool) : b.cells.setIfInBounds 3 (.bool v) = ({ b with work := v } : Bd).cells := by
  obtain ⟨a0, a1, a2, a3, a4, a5, a6, a7, er⟩ := Bd.eight hr
  unfold Bd.cells
  rw [er]
  rfl
theorem set_5 (b : Bd) (hr : b.r.length = 8) (v : Int) : b.cells.setIfInBounds 5 (.int .i64 v) = ({ b with chr := v } : Bd).cells := by
  obtain ⟨a0, a1, a2, a3, a4, a5, a6, a7, er⟩ := Bd.eight hr
  unfold Bd.cells
  rw [er]
  rfl
theorem set_6 (b : Bd) (hr : b.r.length = 8) (v : Bool) : b.cells.setIfInBounds 6 (.bool v) = ({ b with chrRam := v } : Bd).cells := by
  obtain ⟨a0, a1, a2, a3, a4, a5, a6, a7, er⟩ := Bd.eight hr
  unfold Bd.cells
  rw [er]
  rfl
theorem set_7 (b : Bd) (hr : b.r.length = 8) (v : Int) : b.cells.setIfInBounds 7 (.int .u8 v) = ({ b with shift := v } : Bd).cells := by
  obtain ⟨a0, a1, a2, a3, a4, a5, a6, a7, er⟩ := Bd.eight hr
  unfold Bd.cells
  rw [er]
  rfl
theorem set_8 (b : Bd) (hr : b.r.length = 8) (v : Int) : b.cells.setIfInBounds 8 (.int .u8 v) = ({ b with ctrl := v } : Bd).cells := by
  obtain ⟨a0, a1, a2, a3, a4, a5, a6, a7, er⟩ := Bd.eight hr
  unfold Bd.cells
  rw [er]
  rfl
theorem set_12 (b : Bd) (hr : b.r.length = 8) (v : Int) : b.cells.setIfInBounds 12 (.int .i64 v) = ({ b with last := v } : Bd).cells := by
  obtain ⟨a0, a1, a2, a3, a4, a5, a6, a7, er⟩ := Bd.eight hr
  unfold Bd.cells
  rw [er]
  rfl
theorem set_24 (b : Bd) (hr : b.r.length = 8) (v : Int) : b.cells.setIfInBounds 24 (.int .u8 v) = ({ b with guard := v } : Bd).cells := by
  obtain ⟨a0, a1, a2, a3, a4, a5, a6, a7, er⟩ := Bd.eight hr
  unfold Bd.cells
  rw [er]
  rfl
theorem set_r (b : Bd) (hr : b.r.length = 8) : ((((((((b.cells.setIfInBounds 15 (.int .u8 0)).setIfInBounds 16 (.int .u8 2)).setIfInBounds 17 (.int .u8 4)).setIfInBounds 18 (.int .u8 5)).setIfInBounds 19 (.int .u8 6)).setIfInBounds 20 (.int .u8 7)).setIfInBounds 21 (.int .u8 0)).setIfInBounds 22 (.int .u8 1)) = ({ b with r := [0, 2, 4, 5, 6, 7, 0, 1] } : Bd).cells := by
  obtain ⟨a0, a1, a2, a3, a4, a5, a6, a7, er⟩ := Bd.eight hr
  unfold Bd.cells
  rw [er]
  simp
set_option maxRecDepth 100000 in
theorem rnew_bad1 (cs : Array Value) (mp sub ram nv : Int) (vert four : Bool) (x1 x2 : Option Addr) (p c k1 k2 : Nat) (C : IsN cs mp sub ram nv vert four x1 x2 p c k1 k2) (w : World) (hl : lst mp sub = false) :
    Calls Try.prog 36 #[.agg cs] w fun e w' => e = .returned (.tuple #[.agg Z31, .int .i64 20]) ∧ Below w.heap.size w w' := by
  have hsz := C.size
  have HS : Hid _ := hsz
  have CC : Hid _ := C
  go_enter Try.func36, Try.ntmps36
  go_upto_region 2 with fail
  change Code.wp _ _ _ _ (((w.alloc (.cells cs 67)).alloc (.cells Z31 28)).alloc (.cells Z31 28))
  have b0 : Blk (((w.alloc (.cells cs 67)).alloc (.cells Z31 28)).alloc (.cells Z31 28)) w.heap.size cs 67 := ((Blk.new w cs _).old _).old _
  have z0 : Blk (((w.alloc (.cells cs 67)).alloc (.cells Z31 28)).alloc (.cells Z31 28)) (w.heap.size + 1) Z31 28 := by
    have := (Blk.new (w.alloc (.cells cs 67)) Z31 28).old (.cells Z31 28)
    rwa [World.size_alloc] at this
  have y0 : Blk (((w.alloc (.cells cs 67)).alloc (.cells Z31 28)).alloc (.cells Z31 28)) (w.heap.size + 2) Z31 28 := by
    have := Blk.new ((w.alloc (.cells cs 67)).alloc (.cells Z31 28)) Z31 28
    rwa [World.size_alloc, World.size_alloc] at this
  have hb0 : Below w.heap.size w (((w.alloc (.cells cs 67)).alloc (.cells Z31 28)).alloc (.cells Z31 28)) := (((Below.refl _ _).alloc (Nat.le_refl _) _).alloc (by simp) _).alloc (by simp; omega) _
  generalize (((w.alloc (.cells cs 67)).alloc (.cells Z31 28)).alloc (.cells Z31 28)) = W0 at *
  have d1 := (b0.cell 1).trans C.h1
  have d2 := (b0.cell 2).trans C.h2
  have d3 := (b0.cell 3).trans C.h3
  have d4 := (b0.cell 4).trans C.h4
  have d11 := (b0.cell 11).trans C.h11
  have d12 := (b0.cell 12).trans C.h12
  have d16 := (b0.cell 16).trans C.h16
  have d17 := (b0.cell 17).trans C.h17
  clear C hsz
  go_wp2_with (first
    | (go_at_call 61; refine (refListed_any _ _ _).mono ?_; rintro e w' ⟨rfl, rfl⟩; rw [hl])
    | refine wpList_load_mid rfl 28 _ rfl (w.heap.size + 2) 0 rfl Z31.toList _ y0.range Try.underlying28 rfl (by exact Try.infoBoard) ?_
    | refine wpList_store_mid rfl 28 _ _ rfl (w.heap.size + 1) 0 Z31 rfl rfl (by exact z0.there _ rfl) (by exact Try.infoBoard) Z31_one ?_)
  exact ret_agg2 (m := w.heap.size + 1) (L := Z31) (x := .int .i64 20) Try.results36 (by rfl) (by rfl) (z0.setAll Z31 rfl) Try.underlying28 rfl (by exact Try.infoBoard) ⟨rfl, setCells_below (Nat.le_succ _) _ _ _ _ hb0⟩
set_option maxRecDepth 100000 in
theorem rnew_bad2 (cs : Array Value) (mp sub ram nv : Int) (vert four : Bool) (x1 x2 : Option Addr) (p c k1 k2 : Nat) (C : IsN cs mp sub ram nv vert four x1 x2 p c k1 k2) (w : World) (hl : lst mp sub = true) (hp : p ≤ 2000000) (hX : (((p : Int) % 16384 != 0) || (((p : Int) == 0) || decide (1048576 < (p : Int)))) = true) :
    Calls Try.prog 36 #[.agg cs] w fun e w' => e = .returned (.tuple #[.agg Z31, .int .i64 21]) ∧ Below w.heap.size w w' := by
  have hsz := C.size
  have HS : Hid _ := hsz
  have CC : Hid _ := C
  go_enter Try.func36, Try.ntmps36
  go_upto_region 2 with fail
  change Code.wp _ _ _ _ (((w.alloc (.cells cs 67)).alloc (.cells Z31 28)).alloc (.cells Z31 28))
  have b0 : Blk (((w.alloc (.cells cs 67)).alloc (.cells Z31 28)).alloc (.cells Z31 28)) w.heap.size cs 67 := ((Blk.new w cs _).old _).old _
  have z0 : Blk (((w.alloc (.cells cs 67)).alloc (.cells Z31 28)).alloc (.cells Z31 28)) (w.heap.size + 1) Z31 28 := by
    have := (Blk.new (w.alloc (.cells cs 67)) Z31 28).old (.cells Z31 28)
    rwa [World.size_alloc] at this
  have y0 : Blk (((w.alloc (.cells cs 67)).alloc (.cells Z31 28)).alloc (.cells Z31 28)) (w.heap.size + 2) Z31 28 := by
    have := Blk.new ((w.alloc (.cells cs 67)).alloc (.cells Z31 28)) Z31 28
    rwa [World.size_alloc, World.size_alloc] at this
  have hb0 : Below w.heap.size w (((w.alloc (.cells cs 67)).alloc (.cells Z31 28)).alloc (.cells Z31 28)) := (((Below.refl _ _).alloc (Nat.le_refl _) _).alloc (by simp) _).alloc (by simp; omega) _
  generalize (((w.alloc (.cells cs 67)).alloc (.cells Z31 28)).alloc (.cells Z31 28)) = W0 at *
  have d1 := (b0.cell 1).trans C.h1
  have d2 := (b0.cell 2).trans C.h2
  have d3 := (b0.cell 3).trans C.h3
  have d4 := (b0.cell 4).trans C.h4
  have d11 := (b0.cell 11).trans C.h11
  have d12 := (b0.cell 12).trans C.h12
  have d16 := (b0.cell 16).trans C.h16
  have d17 := (b0.cell 17).trans C.h17
  clear C hsz
  go_upto_region 4 with (go_at_call 61; refine (refListed_any _ _ _).mono ?_; rintro e w' ⟨rfl, rfl⟩; rw [hl])
  obtain ⟨W0, hW0⟩ : ∃ x, x = w' := ⟨w', rfl⟩
  subst hW0
  clear hl
  go_cut [29] (fun q wx => q = .bool (((p : Int) % 16384 != 0) || (((p : Int) == 0) || decide (1048576 < (p : Int)))) ∧ W0 = wx)
  case first =>
    clear hX
    by_cases c1 : (p : Int) % 16384 = 0
    · by_cases c2 : (p : Int) = 0
      · go_wp2
        go_meet
        exact ⟨by simp [c2], rfl⟩
      · go_wp2
        go_meet
        exact ⟨by first | rfl | simp [c1], rfl⟩
    · go_wp2
      go_meet
      exact ⟨by first | rfl | simp [c1], rfl⟩
  case rest =>
  obtain ⟨rfl, rfl⟩ := hcut
  rw [hX]
  clear hX
  go_wp2_with (first
    | refine wpList_load_mid rfl 28 _ rfl (w.heap.size + 2) 0 rfl Z31.toList _ y0.range Try.underlying28 rfl (by exact Try.infoBoard) ?_
    | refine wpList_store_mid rfl 28 _ _ rfl (w.heap.size + 1) 0 Z31 rfl rfl (by exact z0.there _ rfl) (by exact Try.infoBoard) Z31_one ?_)
  exact ret_agg2 (m := w.heap.size + 1) (L := Z31) (x := .int .i64 21) Try.results36 (by rfl) (by rfl) (z0.setAll Z31 rfl) Try.underlying28 rfl (by exact Try.infoBoard) ⟨rfl, setCells_below (Nat.le_succ _) _ _ _ _ hb0⟩
set_option maxRecDepth 100000 in
theorem rnew_bad3 (cs : Array Value) (mp sub ram nv : Int) (vert four : Bool) (x1 x2 : Option Addr) (p c k1 k2 : Nat) (C : IsN cs mp sub ram nv vert four x1 x2 p c k1 k2) (w : World) (hl : lst mp sub = true) (hp : p ≤ 2000000) (hc : c ≤ 2000000) (hX : (((p : Int) % 16384 != 0) || (((p : Int) == 0) || decide (1048576 < (p : Int)))) = false) (hY : (((c : Int) % 8192 != 0) || decide (524288 < (c : Int))) = true) :
    Calls Try.prog 36 #[.agg cs] w fun e w' => e = .returned (.tuple #[.agg Z31, .int .i64 21]) ∧ Below w.heap.size w w' := by
  have hsz := C.size
  have HS : Hid _ := hsz
  have CC : Hid _ := C
  go_enter Try.func36, Try.ntmps36
  go_upto_region 2 with fail
  change Code.wp _ _ _ _ (((w.alloc (.cells cs 67)).alloc (.cells Z31 28)).alloc (.cells Z31 28))
  have b0 : Blk (((w.alloc (.cells cs 67)).alloc (.cells Z31 28)).alloc (.cells Z31 28)) w.heap.size cs 67 := ((Blk.new w cs _).old _).old _
  have z0 : Blk (((w.alloc (.cells cs 67)).alloc (.cells Z31 28)).alloc (.cells Z31 28)) (w.heap.size + 1) Z31 28 := by
    have := (Blk.new (w.alloc (.cells cs 67)) Z31 28).old (.cells Z31 28)
    rwa [World.size_alloc] at this
  have y0 : Blk (((w.alloc (.cells cs 67)).alloc (.cells Z31 28)).alloc (.cells Z31 28)) (w.heap.size + 2) Z31 28 := by
    have := Blk.new ((w.alloc (.cells cs 67)).alloc (.cells Z31 28)) Z31 28
    rwa [World.size_alloc, World.size_alloc] at this
  have hb0 : Below w.heap.size w (((w.alloc (.cells cs 67)).alloc (.cells Z31 28)).alloc (.cells Z31 28)) := (((Below.refl _ _).alloc (Nat.le_refl _) _).alloc (by simp) _).alloc (by simp; omega) _
  generalize (((w.alloc (.cells cs 67)).alloc (.cells Z31 28)).alloc (.cells Z31 28)) = W0 at *
  have d1 := (b0.cell 1).trans C.h1
  have d2 := (b0.cell 2).trans C.h2
  have d3 := (b0.cell 3).trans C.h3
  have d4 := (b0.cell 4).trans C.h4
  have d11 := (b0.cell 11).trans C.h11
  have d12 := (b0.cell 12).trans C.h12
  have d16 := (b0.cell 16).trans C.h16
  have d17 := (b0.cell 17).trans C.h17
  clear C hsz
  go_upto_region 4 with (go_at_call 61; refine (refListed_any _ _ _).mono ?_; rintro e w' ⟨rfl, rfl⟩; rw [hl])
  obtain ⟨W0, hW0⟩ : ∃ x, x = w' := ⟨w', rfl⟩
  subst hW0
  clear hl
  go_cut [29] (fun q wx => q = .bool (((p : Int) % 16384 != 0) || (((p : Int) == 0) || decide (1048576 < (p : Int)))) ∧ W0 = wx)
  case first =>
    clear hX
    by_cases c1 : (p : Int) % 16384 = 0
    · by_cases c2 : (p : Int) = 0
      · go_wp2
        go_meet
        exact ⟨by simp [c2], rfl⟩
      · go_wp2
        go_meet
        exact ⟨by first | rfl | simp [c1], rfl⟩
    · go_wp2
      go_meet
      exact ⟨by first | rfl | simp [c1], rfl⟩
  case rest =>
  obtain ⟨rfl, rfl⟩ := hcut
  rw [hX]
  clear hX
  go_upto_region 6 with fail
  go_cut [41] (fun q wx => q = .bool (((c : Int) % 8192 != 0) || decide (524288 < (c : Int))) ∧ W0 = wx)
  case first =>
    clear hY
    by_cases c1 : (c : Int) % 8192 = 0
    · go_wp2
      go_meet
      exact ⟨by first | rfl | simp [c1], rfl⟩
    · go_wp2
      go_meet
      exact ⟨by first | rfl | simp [c1], rfl⟩
  case rest =>
  obtain ⟨rfl, rfl⟩ := hcut
  rw [hY]
  clear hY
  go_wp2_with (first
    | refine wpList_load_mid rfl 28 _ rfl (w.heap.size + 2) 0 rfl Z31.toList _ y0.range Try.underlying28 rfl (by exact Try.infoBoard) ?_
    | refine wpList_store_mid rfl 28 _ _ rfl (w.heap.size + 1) 0 Z31 rfl rfl (by exact z0.there _ rfl) (by exact Try.infoBoard) Z31_one ?_)
  exact ret_agg2 (m := w.heap.size + 1) (L := Z31) (x := .int .i64 21) Try.results36 (by rfl) (by rfl) (z0.setAll Z31 rfl) Try.underlying28 rfl (by exact Try.infoBoard) ⟨rfl, setCells_below (Nat.le_succ _) _ _ _ _ hb0⟩
end Go.Proofs.Ytggphgmpdanliaa
namespace Go.Proofs.Ytggphgmpdanliaa
open Go.RowKit Classical
/-- The board at first, and what each 'if' makes of it. -/
def rB0 (mp sub pp cc : Int) : Bd := { kind := mp, sub := sub, hard := 0, work := false, prg := 2 * pp, chr := 8 * cc, chrRam := false, shift := 0, ctrl := 0, chrA := 0, chrB := 0, prgR := 0, last := 0, latch := 0, sel := 0, r := [0, 0, 0, 0, 0, 0, 0, 0], turn := 0, guard := 0, iLatch := 0, iCount := 0, iLoad := false, iOn := false, irq := false, epoch := 0 }
def s1 (t : Bool) (b : Bd) : Bd := bif t then { b with hard := 1 } else b
def s2 (t : Bool) (b : Bd) : Bd := bif t then { b with hard := 4 } else b
def s3 (t : Bool) (b : Bd) : Bd := bif t then { b with chr := 8, chrRam := true } else b
def s4 (t : Bool) (b : Bd) : Bd := bif t then { b with work := true } else b
def s5 (t : Bool) (b : Bd) : Bd := bif t then { b with shift := 16, ctrl := 12, last := -2 } else b
def s6 (t : Bool) (b : Bd) : Bd := bif t then { b with r := [0, 2, 4, 5, 6, 7, 0, 1], guard := 128 } else b
theorem s1_r (t : Bool) (b : Bd) : (s1 t b).r = b.r := by cases t <;> rfl
theorem s1_kind (t : Bool) (b : Bd) : (s1 t b).kind = b.kind := by cases t <;> rfl
theorem s2_r (t : Bool) (b : Bd) : (s2 t b).r = b.r := by cases t <;> rfl
theorem s2_kind (t : Bool) (b : Bd) : (s2 t b).kind = b.kind := by cases t <;> rfl
theorem s3_r (t : Bool) (b : Bd) : (s3 t b).r = b.r := by cases t <;> rfl
theorem s3_kind (t : Bool) (b : Bd) : (s3 t b).kind = b.kind := by cases t <;> rfl
theorem s4_r (t : Bool) (b : Bd) : (s4 t b).r = b.r := by cases t <;> rfl
theorem s4_kind (t : Bool) (b : Bd) : (s4 t b).kind = b.kind := by cases t <;> rfl
theorem s5_r (t : Bool) (b : Bd) : (s5 t b).r = b.r := by cases t <;> rfl
theorem s5_kind (t : Bool) (b : Bd) : (s5 t b).kind = b.kind := by cases t <;> rfl
theorem s6_r (t : Bool) (b : Bd) (h : b.r.length = 8) : (s6 t b).r.length = 8 := by cases t <;> first | exact h | rfl
theorem s1_chr (t : Bool) (b : Bd) : (s1 t b).chr = b.chr := by cases t <;> rfl
theorem s2_chr (t : Bool) (b : Bd) : (s2 t b).chr = b.chr := by cases t <;> rfl
set_option maxRecDepth 100000 in
set_option maxHeartbeats 2000000 in
theorem rnew_ok (cs : Array Value) (mp sub ram nv : Int) (vert four : Bool) (x1 x2 : Option Addr) (p c k1 k2 : Nat) (C : IsN cs mp sub ram nv vert four x1 x2 p c k1 k2) (w : World) (hl : lst mp sub = true) (hp : p ≤ 2000000) (hc : c ≤ 2000000) (hX : (((p : Int) % 16384 != 0) || (((p : Int) == 0) || decide (1048576 < (p : Int)))) = false) (hY : (((c : Int) % 8192 != 0) || decide (524288 < (c : Int))) = false) :
    Calls Try.prog 36 #[.agg cs] w fun e w' => e = .returned (.tuple #[.agg (s6 (mp == 4) (s5 (mp == 1) (s4 (decide (0 < ram) || decide (0 < nv)) (s3 (8 * ((c : Int) / 8192) == 0) (s2 four (s1 vert (rB0 mp sub ((p : Int) / 16384) ((c : Int) / 8192)))))))).cells, .int .i64 0]) ∧ Below w.heap.size w w' := by
  have hsz := C.size
  have HS : Hid _ := hsz
  have CC : Hid _ := C
  go_enter Try.func36, Try.ntmps36
  go_upto_region 2 with fail
  change Code.wp _ _ _ _ (((w.alloc (.cells cs 67)).alloc (.cells Z31 28)).alloc (.cells Z31 28))
  have b0 : Blk (((w.alloc (.cells cs 67)).alloc (.cells Z31 28)).alloc (.cells Z31 28)) w.heap.size cs 67 := ((Blk.new w cs _).old _).old _
  have z0 : Blk (((w.alloc (.cells cs 67)).alloc (.cells Z31 28)).alloc (.cells Z31 28)) (w.heap.size + 1) Z31 28 := by
    have := (Blk.new (w.alloc (.cells cs 67)) Z31 28).old (.cells Z31 28)
    rwa [World.size_alloc] at this
  have y0 : Blk (((w.alloc (.cells cs 67)).alloc (.cells Z31 28)).alloc (.cells Z31 28)) (w.heap.size + 2) Z31 28 := by
    have := Blk.new ((w.alloc (.cells cs 67)).alloc (.cells Z31 28)) Z31 28
    rwa [World.size_alloc, World.size_alloc] at this
  have hb0 : Below w.heap.size w (((w.alloc (.cells cs 67)).alloc (.cells Z31 28)).alloc (.cells Z31 28)) := (((Below.refl _ _).alloc (Nat.le_refl _) _).alloc (by simp) _).alloc (by simp; omega) _
  generalize (((w.alloc (.cells cs 67)).alloc (.cells Z31 28)).alloc (.cells Z31 28)) = W0 at *
  have d1 := (b0.cell 1).trans C.h1
  have d2 := (b0.cell 2).trans C.h2
  have d3 := (b0.cell 3).trans C.h3
  have d4 := (b0.cell 4).trans C.h4
  have d11 := (b0.cell 11).trans C.h11
  have d12 := (b0.cell 12).trans C.h12
  have d16 := (b0.cell 16).trans C.h16
  have d17 := (b0.cell 17).trans C.h17
  clear C hsz
  go_upto_region 4 with (go_at_call 61; refine (refListed_any _ _ _).mono ?_; rintro e w' ⟨rfl, rfl⟩; rw [hl])
  obtain ⟨W0, hW0⟩ : ∃ x, x = w' := ⟨w', rfl⟩
  subst hW0
  clear hl
  go_cut [29] (fun q wx => q = .bool (((p : Int) % 16384 != 0) || (((p : Int) == 0) || decide (1048576 < (p : Int)))) ∧ W0 = wx)
  case first =>
    clear hX
    by_cases c1 : (p : Int) % 16384 = 0
    · by_cases c2 : (p : Int) = 0
      · go_wp2
        go_meet
        exact ⟨by simp [c2], rfl⟩
      · go_wp2
        go_meet
        exact ⟨by first | rfl | simp [c1], rfl⟩
    · go_wp2
      go_meet
      exact ⟨by first | rfl | simp [c1], rfl⟩
  case rest =>
  obtain ⟨rfl, rfl⟩ := hcut
  rw [hX]
  clear hX
  go_upto_region 6 with fail
  go_cut [41] (fun q wx => q = .bool (((c : Int) % 8192 != 0) || decide (524288 < (c : Int))) ∧ W0 = wx)
  case first =>
    clear hY
    by_cases c1 : (c : Int) % 8192 = 0
    · go_wp2
      go_meet
      exact ⟨by first | rfl | simp [c1], rfl⟩
    · go_wp2
      go_meet
      exact ⟨by first | rfl | simp [c1], rfl⟩
  case rest =>
  obtain ⟨rfl, rfl⟩ := hcut
  rw [hY]
  clear hY
  have pb : (0 : Int) ≤ ((p : Int) / 16384) ∧ ((p : Int) / 16384) ≤ 2000000 := by omega
  have cb : (0 : Int) ≤ ((c : Int) / 8192) ∧ ((c : Int) / 8192) ≤ 2000000 := by omega
  go_upto_region 8 with fail
  have z1 : Blk (W0.alloc (.cells Z31 28)) W0.heap.size Z31 28 := Blk.new W0 Z31 _
  have hlt0 := y0.lt
  go_cut [5] (fun v wx => ∃ q, v = .pointer (some ⟨q, 0, none⟩) ∧ w.heap.size + 2 < q ∧ Blk wx q (rB0 mp sub ((p : Int) / 16384) ((c : Int) / 8192)).cells 28 ∧ Blk wx w.heap.size cs 67 ∧ Blk wx (w.heap.size + 1) Z31 28 ∧ Below w.heap.size w wx)
  case first =>
    go_wp2_with (refine wpList_store_mid rfl 28 _ _ rfl W0.heap.size 0 (rB0 mp sub ((p : Int) / 16384) ((c : Int) / 8192)).cells rfl rfl (by exact z1.there _ rfl) (by exact Try.infoBoard) (by kernel_rfl) ?_)
    go_meet
    exact ⟨_, rfl, hlt0, z1.setAll _ rfl, (b0.old _).below (B := W0.heap.size) b0.lt (setCells_below (Nat.le_refl _) _ _ _ _ (Below.refl _ _)), (z0.old _).below (B := W0.heap.size) z0.lt (setCells_below (Nat.le_refl _) _ _ _ _ (Below.refl _ _)), setCells_below (by have := hb0.size; omega) _ _ _ _ (hb0.alloc hb0.size _)⟩
  case rest =>
  clear b0 z0 hb0 y0 z1 hlt0 d1 d2 d3 d4 d11 d12 d16 d17
  obtain ⟨q, rfl, hq, x0, b0, z0, hb0⟩ := hcut
  generalize hpp : (p : Int) / 16384 = pp at *
  generalize hcc : (c : Int) / 8192 = cc at *
  have PPH : Hid _ := hpp
  have CCH : Hid _ := hcc
  clear hpp hcc
  have R0 : Hid ((rB0 mp sub pp cc).r.length = 8) := rfl
  have D0 : Hid _ := isB (rB0 mp sub pp cc) R0.out
  have e3 := (b0.cell 3).trans CC.out.h3
  go_upto_if 59 with fail
  go_cut [] (fun wx => Blk wx q (s1 vert (rB0 mp sub pp cc)).cells 28 ∧ Blk wx w.heap.size cs 67 ∧ Blk wx (w.heap.size + 1) Z31 28 ∧ Below w.heap.size w wx)
  case first =>
    cases ht : vert
    · have HT : Hid _ := ht
      go_wp2
      go_meet
      exact ⟨by rw [HT.out]; exact x0, b0, z0, hb0⟩
    · have HT : Hid _ := ht
      have f2 := x0.free 2
      have g2 := (x0.cell 2).trans D0.out.h2
      go_wp2
      go_meet
      exact ⟨by rw [HT.out]; exact (by have h := (x0.set 2 (.int .u8 1)); rw [set_2 (rB0 mp sub pp cc) R0.out 1] at h; exact h), (Blk.other b0 (by omega) 2 _), (Blk.other z0 (by omega) 2 _), (Below.setCell (p := ⟨q, 2, none⟩) hb0 (by show w.heap.size ≤ q; omega) _)⟩
  case rest =>
  clear x0 b0 z0 hb0 R0 D0 e3
  obtain ⟨x0, b0, z0, hb0⟩ := hcut
  have R1 : Hid ((s1 vert (rB0 mp sub pp cc)).r.length = 8) := by rw [s1_r]; rfl
  have D1 : Hid _ := isB (s1 vert (rB0 mp sub pp cc)) R1.out
  have e3 := (b0.cell 4).trans CC.out.h4
  go_upto_if 62 with fail
  go_cut [] (fun wx => Blk wx q (s2 four (s1 vert (rB0 mp sub pp cc))).cells 28 ∧ Blk wx w.heap.size cs 67 ∧ Blk wx (w.heap.size + 1) Z31 28 ∧ Below w.heap.size w wx)
  case first =>
    cases ht : four
    · have HT : Hid _ := ht
      go_wp2
      go_meet
      exact ⟨by rw [HT.out]; exact x0, b0, z0, hb0⟩
    · have HT : Hid _ := ht
      have f2 := x0.free 2
      have g2 := (x0.cell 2).trans D1.out.h2
      go_wp2
      go_meet
      exact ⟨by rw [HT.out]; exact (by have h := (x0.set 2 (.int .u8 4)); rw [set_2 (s1 vert (rB0 mp sub pp cc)) R1.out 4] at h; exact h), (Blk.other b0 (by omega) 2 _), (Blk.other z0 (by omega) 2 _), (Below.setCell (p := ⟨q, 2, none⟩) hb0 (by show w.heap.size ≤ q; omega) _)⟩
  case rest =>
  clear x0 b0 z0 hb0 R1 D1 e3
  obtain ⟨x0, b0, z0, hb0⟩ := hcut
  have R2 : Hid ((s2 four (s1 vert (rB0 mp sub pp cc))).r.length = 8) := by rw [s2_r, s1_r]; rfl
  have D2 : Hid _ := isB (s2 four (s1 vert (rB0 mp sub pp cc))) R2.out
  have e5 : wc.cell? ⟨q, 5, none⟩ = some (.int .i64 (8 * cc)) := (x0.cell 5).trans (D2.out.h5.trans (by rw [s2_chr, s1_chr]; rfl))
  go_upto_if 66 with fail
  go_cut [] (fun wx => Blk wx q (s3 (8 * cc == 0) (s2 four (s1 vert (rB0 mp sub pp cc)))).cells 28 ∧ Blk wx w.heap.size cs 67 ∧ Blk wx (w.heap.size + 1) Z31 28 ∧ Below w.heap.size w wx)
  case first =>
    cases ht : (8 * cc == 0)
    · have HT : Hid _ := ht
      go_wp2
      go_meet
      exact ⟨by rw [HT.out]; exact x0, b0, z0, hb0⟩
    · have HT : Hid _ := ht
      have f5 := x0.free 5
      have f6 := x0.free 6
      have g5 := (x0.cell 5).trans D2.out.h5
      have g6 := (x0.cell 6).trans D2.out.h6
      go_wp2
      go_meet
      exact ⟨by rw [HT.out]; exact (by have h := ((x0.set 5 (.int .i64 8)).set 6 (.bool true)); rw [set_5 (s2 four (s1 vert (rB0 mp sub pp cc))) R2.out 8, set_6 { (s2 four (s1 vert (rB0 mp sub pp cc))) with chr := 8 } R2.out true] at h; exact h), (Blk.other (Blk.other b0 (by omega) 5 _) (by omega) 6 _), (Blk.other (Blk.other z0 (by omega) 5 _) (by omega) 6 _), (Below.setCell (p := ⟨q, 6, none⟩) (Below.setCell (p := ⟨q, 5, none⟩) hb0 (by show w.heap.size ≤ q; omega) _) (by show w.heap.size ≤ q; omega) _)⟩
  case rest =>
  clear x0 b0 z0 hb0 R2 D2 e5
  obtain ⟨x0, b0, z0, hb0⟩ := hcut
  have R3 : Hid ((s3 (8 * cc == 0) (s2 four (s1 vert (rB0 mp sub pp cc)))).r.length = 8) := by rw [s3_r, s2_r, s1_r]; rfl
  have D3 : Hid _ := isB (s3 (8 * cc == 0) (s2 four (s1 vert (rB0 mp sub pp cc)))) R3.out
  have e11 := (b0.cell 11).trans CC.out.h11
  have e12 := (b0.cell 12).trans CC.out.h12
  obtain ⟨W1, hW1⟩ : ∃ x, x = wc := ⟨wc, rfl⟩
  subst hW1
  go_upto_region 16 with fail
  go_cut [76] (fun v wx => v = .bool (decide (0 < ram) || decide (0 < nv)) ∧ W1 = wx)
  case first =>
    cases hr : decide (0 < ram)
    · have HR : Hid _ := hr
      go_wp2
      go_meet
      exact ⟨by first | rfl | (rw [HR.out]; rfl), rfl⟩
    · have HR : Hid _ := hr
      go_wp2
      go_meet
      exact ⟨by first | rfl | (rw [HR.out]; rfl), rfl⟩
  case rest =>
  obtain ⟨rfl, rfl⟩ := hcut
  obtain ⟨wc, hwc⟩ : ∃ x, x = W1 := ⟨W1, rfl⟩
  subst hwc
  go_upto_if 76 with fail
  go_cut [] (fun wx => Blk wx q (s4 (decide (0 < ram) || decide (0 < nv)) (s3 (8 * cc == 0) (s2 four (s1 vert (rB0 mp sub pp cc))))).cells 28 ∧ Blk wx w.heap.size cs 67 ∧ Blk wx (w.heap.size + 1) Z31 28 ∧ Below w.heap.size w wx)
  case first =>
    cases ht : (decide (0 < ram) || decide (0 < nv))
    · have HT : Hid _ := ht
      go_wp2
      go_meet
      exact ⟨by rw [HT.out]; exact x0, b0, z0, hb0⟩
    · have HT : Hid _ := ht
      have f3 := x0.free 3
      have g3 := (x0.cell 3).trans D3.out.h3
      go_wp2
      go_meet
      exact ⟨by rw [HT.out]; exact (by have h := (x0.set 3 (.bool true)); rw [set_3 (s3 (8 * cc == 0) (s2 four (s1 vert (rB0 mp sub pp cc)))) R3.out true] at h; exact h), (Blk.other b0 (by omega) 3 _), (Blk.other z0 (by omega) 3 _), (Below.setCell (p := ⟨q, 3, none⟩) hb0 (by show w.heap.size ≤ q; omega) _)⟩
  case rest =>
  clear x0 b0 z0 hb0 R3 D3 e11 e12
  obtain ⟨x0, b0, z0, hb0⟩ := hcut
  have R4 : Hid ((s4 (decide (0 < ram) || decide (0 < nv)) (s3 (8 * cc == 0) (s2 four (s1 vert (rB0 mp sub pp cc))))).r.length = 8) := by rw [s4_r, s3_r, s2_r, s1_r]; rfl
  have D4 : Hid _ := isB (s4 (decide (0 < ram) || decide (0 < nv)) (s3 (8 * cc == 0) (s2 four (s1 vert (rB0 mp sub pp cc))))) R4.out
  have e0 : wc.cell? ⟨q, 0, none⟩ = some (.int .i64 mp) := (x0.cell 0).trans (D4.out.h0.trans (congrArg (fun z => some (Value.int .i64 z)) (by rw [s4_kind, s3_kind, s2_kind, s1_kind]; rfl)))
  go_upto_if 80 with fail
  go_cut [] (fun wx => Blk wx q (s5 (mp == 1) (s4 (decide (0 < ram) || decide (0 < nv)) (s3 (8 * cc == 0) (s2 four (s1 vert (rB0 mp sub pp cc)))))).cells 28 ∧ Blk wx w.heap.size cs 67 ∧ Blk wx (w.heap.size + 1) Z31 28 ∧ Below w.heap.size w wx)
  case first =>
    cases ht : (mp == 1)
    · have HT : Hid _ := ht
      go_wp2
      go_meet
      exact ⟨by rw [HT.out]; exact x0, b0, z0, hb0⟩
    · have HT : Hid _ := ht
      have f7 := x0.free 7
      have f8 := x0.free 8
      have f12 := x0.free 12
      have g7 := (x0.cell 7).trans D4.out.h7
      have g8 := (x0.cell 8).trans D4.out.h8
      have g12 := (x0.cell 12).trans D4.out.h12
      go_wp2
      go_meet
      exact ⟨by rw [HT.out]; exact (by have h := (((x0.set 7 (.int .u8 16)).set 8 (.int .u8 12)).set 12 (.int .i64 (-2))); rw [set_7 (s4 (decide (0 < ram) || decide (0 < nv)) (s3 (8 * cc == 0) (s2 four (s1 vert (rB0 mp sub pp cc))))) R4.out 16, set_8 { (s4 (decide (0 < ram) || decide (0 < nv)) (s3 (8 * cc == 0) (s2 four (s1 vert (rB0 mp sub pp cc))))) with shift := 16 } R4.out 12, set_12 { (s4 (decide (0 < ram) || decide (0 < nv)) (s3 (8 * cc == 0) (s2 four (s1 vert (rB0 mp sub pp cc))))) with shift := 16, ctrl := 12 } R4.out (-2)] at h; exact h), (Blk.other (Blk.other (Blk.other b0 (by omega) 7 _) (by omega) 8 _) (by omega) 12 _), (Blk.other (Blk.other (Blk.other z0 (by omega) 7 _) (by omega) 8 _) (by omega) 12 _), (Below.setCell (p := ⟨q, 12, none⟩) (Below.setCell (p := ⟨q, 8, none⟩) (Below.setCell (p := ⟨q, 7, none⟩) hb0 (by show w.heap.size ≤ q; omega) _) (by show w.heap.size ≤ q; omega) _) (by show w.heap.size ≤ q; omega) _)⟩
  case rest =>
  clear x0 b0 z0 hb0 R4 D4 e0
  obtain ⟨x0, b0, z0, hb0⟩ := hcut
  have R5 : Hid ((s5 (mp == 1) (s4 (decide (0 < ram) || decide (0 < nv)) (s3 (8 * cc == 0) (s2 four (s1 vert (rB0 mp sub pp cc)))))).r.length = 8) := by rw [s5_r, s4_r, s3_r, s2_r, s1_r]; rfl
  have D5 : Hid _ := isB (s5 (mp == 1) (s4 (decide (0 < ram) || decide (0 < nv)) (s3 (8 * cc == 0) (s2 four (s1 vert (rB0 mp sub pp cc)))))) R5.out
  have e0 : wc.cell? ⟨q, 0, none⟩ = some (.int .i64 mp) := (x0.cell 0).trans (D5.out.h0.trans (congrArg (fun z => some (Value.int .i64 z)) (by rw [s5_kind, s4_kind, s3_kind, s2_kind, s1_kind]; rfl)))
  go_upto_if 86 with fail
  go_cut [] (fun wx => Blk wx q (s6 (mp == 4) (s5 (mp == 1) (s4 (decide (0 < ram) || decide (0 < nv)) (s3 (8 * cc == 0) (s2 four (s1 vert (rB0 mp sub pp cc))))))).cells 28 ∧ Blk wx w.heap.size cs 67 ∧ Blk wx (w.heap.size + 1) Z31 28 ∧ Below w.heap.size w wx)
  case first =>
    cases ht : (mp == 4)
    · have HT : Hid _ := ht
      go_wp2
      go_meet
      exact ⟨by rw [HT.out]; exact x0, b0, z0, hb0⟩
    · have HT : Hid _ := ht
      have f15 := x0.free 15
      have f16 := x0.free 16
      have f17 := x0.free 17
      have f18 := x0.free 18
      have f19 := x0.free 19
      have f20 := x0.free 20
      have f21 := x0.free 21
      have f22 := x0.free 22
      have f24 := x0.free 24
      have g24 := (x0.cell 24).trans D5.out.h24
      have g15 := (x0.cell 15).trans (D5.out.r 0 (by decide))
      have g16 := (x0.cell 16).trans (D5.out.r 1 (by decide))
      have g17 := (x0.cell 17).trans (D5.out.r 2 (by decide))
      have g18 := (x0.cell 18).trans (D5.out.r 3 (by decide))
      have g19 := (x0.cell 19).trans (D5.out.r 4 (by decide))
      have g20 := (x0.cell 20).trans (D5.out.r 5 (by decide))
      have g21 := (x0.cell 21).trans (D5.out.r 6 (by decide))
      have g22 := (x0.cell 22).trans (D5.out.r 7 (by decide))
      go_wp2
      go_meet
      exact ⟨by rw [HT.out]; exact (by have h := (((((((((x0.set 15 (.int .u8 0)).set 16 (.int .u8 2)).set 17 (.int .u8 4)).set 18 (.int .u8 5)).set 19 (.int .u8 6)).set 20 (.int .u8 7)).set 21 (.int .u8 0)).set 22 (.int .u8 1)).set 24 (.int .u8 128)); rw [set_r (s5 (mp == 1) (s4 (decide (0 < ram) || decide (0 < nv)) (s3 (8 * cc == 0) (s2 four (s1 vert (rB0 mp sub pp cc)))))) R5.out, set_24 { (s5 (mp == 1) (s4 (decide (0 < ram) || decide (0 < nv)) (s3 (8 * cc == 0) (s2 four (s1 vert (rB0 mp sub pp cc)))))) with r := [0, 2, 4, 5, 6, 7, 0, 1] } rfl 128] at h; exact h), (Blk.other (Blk.other (Blk.other (Blk.other (Blk.other (Blk.other (Blk.other (Blk.other (Blk.other b0 (by omega) 15 _) (by omega) 16 _) (by omega) 17 _) (by omega) 18 _) (by omega) 19 _) (by omega) 20 _) (by omega) 21 _) (by omega) 22 _) (by omega) 24 _), (Blk.other (Blk.other (Blk.other (Blk.other (Blk.other (Blk.other (Blk.other (Blk.other (Blk.other z0 (by omega) 15 _) (by omega) 16 _) (by omega) 17 _) (by omega) 18 _) (by omega) 19 _) (by omega) 20 _) (by omega) 21 _) (by omega) 22 _) (by omega) 24 _), (Below.setCell (p := ⟨q, 24, none⟩) (Below.setCell (p := ⟨q, 22, none⟩) (Below.setCell (p := ⟨q, 21, none⟩) (Below.setCell (p := ⟨q, 20, none⟩) (Below.setCell (p := ⟨q, 19, none⟩) (Below.setCell (p := ⟨q, 18, none⟩) (Below.setCell (p := ⟨q, 17, none⟩) (Below.setCell (p := ⟨q, 16, none⟩) (Below.setCell (p := ⟨q, 15, none⟩) hb0 (by show w.heap.size ≤ q; omega) _) (by show w.heap.size ≤ q; omega) _) (by show w.heap.size ≤ q; omega) _) (by show w.heap.size ≤ q; omega) _) (by show w.heap.size ≤ q; omega) _) (by show w.heap.size ≤ q; omega) _) (by show w.heap.size ≤ q; omega) _) (by show w.heap.size ≤ q; omega) _) (by show w.heap.size ≤ q; omega) _)⟩
  case rest =>
  clear x0 b0 z0 hb0 R5 D5 e0
  obtain ⟨x0, b0, z0, hb0⟩ := hcut
  have Hs : Hid _ := (isB (s6 (mp == 4) (s5 (mp == 1) (s4 (decide (0 < ram) || decide (0 < nv)) (s3 (8 * cc == 0) (s2 four (s1 vert (rB0 mp sub pp cc))))))) (s6_r _ _ (by rw [s5_r, s4_r, s3_r, s2_r, s1_r]; rfl))).size
  have H1 : Hid _ := (isB (s6 (mp == 4) (s5 (mp == 1) (s4 (decide (0 < ram) || decide (0 < nv)) (s3 (8 * cc == 0) (s2 four (s1 vert (rB0 mp sub pp cc))))))) (s6_r _ _ (by rw [s5_r, s4_r, s3_r, s2_r, s1_r]; rfl))).one
  generalize hL : (s6 (mp == 4) (s5 (mp == 1) (s4 (decide (0 < ram) || decide (0 < nv)) (s3 (8 * cc == 0) (s2 four (s1 vert (rB0 mp sub pp cc))))))).cells = L at *
  have HL : Hid _ := hL
  clear hL
  go_wp2_with (first
    | refine wpList_load_mid rfl 28 _ rfl q 0 rfl L.toList _ x0.range Try.underlying28 rfl (by rw [Array.length_toList, Hs.out]; exact Try.infoBoard) ?_
    | refine wpList_store_mid rfl 28 _ _ rfl (w.heap.size + 1) 0 L rfl rfl (by exact z0.there _ Hs.out.symm) (by rw [Hs.out]; exact Try.infoBoard) H1.out ?_)
  exact ret_agg2 (m := w.heap.size + 1) (L := L) (x := .int .i64 0) Try.results36 (by rfl) (by rfl) (z0.setAll L Hs.out) Try.underlying28 rfl (by rw [Hs.out]; exact Try.infoBoard) ⟨by rw [PPH.out, CCH.out, HL.out], setCells_below (Nat.le_succ _) _ _ _ _ hb0⟩
end Go.Proofs.Ytggphgmpdanliaa
namespace Go.Proofs.Ytggphgmpdanliaa
open Go.RowKit Classical
theorem zero_cells : (rB0 0 0 0 0).cells = Z31 := by kernel_rfl
theorem pre_eq (mp sub ram nv : Int) (vert four : Bool) (pp cc : Int) (hcc : 0 ≤ cc) :
    s4 (decide (0 < ram) || decide (0 < nv)) (s3 (8 * cc == 0) (s2 four (s1 vert (rB0 mp sub pp cc)))) = nB0 mp sub ram nv vert four pp cc := by
  have e1 : (8 * cc == 0) = (cc == 0) := by rw [Bool.eq_iff_iff]; simp only [beq_iff_eq]; omega
  rw [e1]
  unfold nB0
  generalize (decide (0 < ram) || decide (0 < nv)) = W
  by_cases c : cc = 0
  · subst c
    rw [show max (0 : Int) 1 = 1 by decide]
    cases vert <;> cases four <;> cases W <;> simp [s1, s2, s3, s4, rB0, hardV, Int.mul_comm]
  · have e2 : (cc == 0) = false := beq_eq_false_iff_ne.2 c
    have e3 : max cc 1 = cc := by omega
    rw [e2, e3]
    cases vert <;> cases four <;> cases W <;> simp [s1, s2, s3, s4, rB0, hardV, Int.mul_comm]
theorem X_no {p c : Nat} (hX : (((p : Int) % 16384 != 0) || (((p : Int) == 0) || decide (1048576 < (p : Int)))) = true) : (((p : Int) % 16384 == 0) && decide ((p : Int) / 16384 ≤ 64)) = false ∨ (((c : Int) % 8192 == 0) && decide ((c : Int) / 8192 ≤ 64)) = false ∨ p = 0 := by
  simp only [Bool.or_eq_true, bne_iff_ne, ne_eq, beq_iff_eq, decide_eq_true_eq] at hX
  rcases hX with h | h | h
  · left; simp [h]
  · right; right; omega
  · left
    by_cases h0 : (p : Int) % 16384 = 0
    · rw [decide_eq_false (by omega), Bool.and_false]
    · simp [h0]
theorem Y_no {c : Nat} (hY : (((c : Int) % 8192 != 0) || decide (524288 < (c : Int))) = true) : (((c : Int) % 8192 == 0) && decide ((c : Int) / 8192 ≤ 64)) = false := by
  simp only [Bool.or_eq_true, bne_iff_ne, ne_eq, decide_eq_true_eq] at hY
  rcases hY with h | h
  · simp [h]
  · by_cases h0 : (c : Int) % 8192 = 0
    · rw [decide_eq_false (by omega), Bool.and_false]
    · simp [h0]
theorem X_yes {p : Nat} (hX : (((p : Int) % 16384 != 0) || (((p : Int) == 0) || decide (1048576 < (p : Int)))) = false) : (((p : Int) % 16384 == 0) && decide ((p : Int) / 16384 ≤ 64)) = true ∧ ((p : Int) / 16384 == 0) = false := by
  simp only [Bool.or_eq_false_iff, bne_eq_false_iff_eq, beq_eq_false_iff_ne, ne_eq, decide_eq_false_iff_not] at hX
  obtain ⟨h1, h2, h3⟩ := hX
  exact ⟨by rw [h1, decide_eq_true (by omega)]; rfl, beq_eq_false_iff_ne.2 (by omega)⟩
theorem Y_yes {c : Nat} (hY : (((c : Int) % 8192 != 0) || decide (524288 < (c : Int))) = false) : (((c : Int) % 8192 == 0) && decide ((c : Int) / 8192 ≤ 64)) = true := by
  simp only [Bool.or_eq_false_iff, bne_eq_false_iff_eq, decide_eq_false_iff_not] at hY
  rw [hY.1, decide_eq_true (by omega)]; rfl
theorem lst_kinds' {k s : Int} (h : lst k s = true) : k = 0 ∨ k = 1 ∨ k = 2 ∨ k = 3 ∨ k = 4 ∨ k = 7 := by
  unfold lst at h
  by_cases h0 : k = 0
  · exact .inl h0
  by_cases h1 : k = 1
  · exact .inr (.inl h1)
  by_cases h2 : k = 2 ∨ k = 3 ∨ k = 7
  · omega
  by_cases h4 : k = 4
  · omega
  simp [h0, h1, h2, h4] at h
theorem new_0 (cs : Array Value) (sub ram nv : Int) (vert four : Bool) (x1 x2 : Option Addr) (p c k1 k2 : Nat) (C : IsN cs 0 sub ram nv vert four x1 x2 p c k1 k2) (w : World) (hl : lst 0 sub = true) (hp : p ≤ 2000000) (hc : c ≤ 2000000) (hX : (((p : Int) % 16384 != 0) || (((p : Int) == 0) || decide (1048576 < (p : Int)))) = false) (hY : (((c : Int) % 8192 != 0) || decide (524288 < (c : Int))) = false) :
    Calls Try.prog 34 #[.agg cs] w fun e w' => e = .returned (.tuple #[.agg (nB0 0 sub ram nv vert four ((p : Int) / 16384) ((c : Int) / 8192)).cells, .int .i64 0]) ∧ Below w.heap.size w w' :=
  new_ok cs 0 sub ram nv vert four x1 x2 p c k1 k2 C w hl hp hc (X_yes hX).1 (Y_yes hY) (X_yes hX).2 91 96 (k0c (nB0 0 sub ram nv vert four ((p : Int) / 16384) ((c : Int) / 8192))) (k0c (nB0 0 sub ram nv vert four ((p : Int) / 16384) ((c : Int) / 8192))) 88 (nB0 0 sub ram nv vert four ((p : Int) / 16384) ((c : Int) / 8192)) rfl
    (fun W => kindOf_0 W (nB0 0 sub ram nv vert four ((p : Int) / 16384) ((c : Int) / 8192)) rfl rfl) (fun _ _ => by kernel_rfl) (fun _ _ => by kernel_rfl) (fun W m K => (powerOn0 W m).mono (by rintro e w2 ⟨rfl, rfl⟩; exact ⟨rfl, Below.refl _ _, K⟩)) (fun W m K => plain_0 W (nB0 0 sub ram nv vert four ((p : Int) / 16384) ((c : Int) / 8192)) rfl m K)
theorem new_2 (cs : Array Value) (sub ram nv : Int) (vert four : Bool) (x1 x2 : Option Addr) (p c k1 k2 : Nat) (C : IsN cs 2 sub ram nv vert four x1 x2 p c k1 k2) (w : World) (hl : lst 2 sub = true) (hp : p ≤ 2000000) (hc : c ≤ 2000000) (hX : (((p : Int) % 16384 != 0) || (((p : Int) == 0) || decide (1048576 < (p : Int)))) = false) (hY : (((c : Int) % 8192 != 0) || decide (524288 < (c : Int))) = false) :
    Calls Try.prog 34 #[.agg cs] w fun e w' => e = .returned (.tuple #[.agg (nB0 2 sub ram nv vert four ((p : Int) / 16384) ((c : Int) / 8192)).cells, .int .i64 0]) ∧ Below w.heap.size w w' :=
  new_ok cs 2 sub ram nv vert four x1 x2 p c k1 k2 C w hl hp hc (X_yes hX).1 (Y_yes hY) (X_yes hX).2 100 104 (kLc (nB0 2 sub ram nv vert four ((p : Int) / 16384) ((c : Int) / 8192))) (kLc (nB0 2 sub ram nv vert four ((p : Int) / 16384) ((c : Int) / 8192))) 88 (nB0 2 sub ram nv vert four ((p : Int) / 16384) ((c : Int) / 8192)) rfl
    (fun W => kindOf_2 W (nB0 2 sub ram nv vert four ((p : Int) / 16384) ((c : Int) / 8192)) rfl rfl) (fun _ _ => by kernel_rfl) (fun _ _ => by kernel_rfl) (fun W m K => (powerOn0 W m).mono (by rintro e w2 ⟨rfl, rfl⟩; exact ⟨rfl, Below.refl _ _, K⟩)) (fun W m K => plain_2 W (nB0 2 sub ram nv vert four ((p : Int) / 16384) ((c : Int) / 8192)) rfl m K)
theorem new_3 (cs : Array Value) (sub ram nv : Int) (vert four : Bool) (x1 x2 : Option Addr) (p c k1 k2 : Nat) (C : IsN cs 3 sub ram nv vert four x1 x2 p c k1 k2) (w : World) (hl : lst 3 sub = true) (hp : p ≤ 2000000) (hc : c ≤ 2000000) (hX : (((p : Int) % 16384 != 0) || (((p : Int) == 0) || decide (1048576 < (p : Int)))) = false) (hY : (((c : Int) % 8192 != 0) || decide (524288 < (c : Int))) = false) :
    Calls Try.prog 34 #[.agg cs] w fun e w' => e = .returned (.tuple #[.agg (nB0 3 sub ram nv vert four ((p : Int) / 16384) ((c : Int) / 8192)).cells, .int .i64 0]) ∧ Below w.heap.size w w' :=
  new_ok cs 3 sub ram nv vert four x1 x2 p c k1 k2 C w hl hp hc (X_yes hX).1 (Y_yes hY) (X_yes hX).2 105 106 (kLc (nB0 3 sub ram nv vert four ((p : Int) / 16384) ((c : Int) / 8192))) (kLc (nB0 3 sub ram nv vert four ((p : Int) / 16384) ((c : Int) / 8192))) 88 (nB0 3 sub ram nv vert four ((p : Int) / 16384) ((c : Int) / 8192)) rfl
    (fun W => kindOf_3 W (nB0 3 sub ram nv vert four ((p : Int) / 16384) ((c : Int) / 8192)) rfl rfl) (fun _ _ => by kernel_rfl) (fun _ _ => by kernel_rfl) (fun W m K => (powerOn0 W m).mono (by rintro e w2 ⟨rfl, rfl⟩; exact ⟨rfl, Below.refl _ _, K⟩)) (fun W m K => plain_3 W (nB0 3 sub ram nv vert four ((p : Int) / 16384) ((c : Int) / 8192)) rfl m K)
theorem new_7 (cs : Array Value) (sub ram nv : Int) (vert four : Bool) (x1 x2 : Option Addr) (p c k1 k2 : Nat) (C : IsN cs 7 sub ram nv vert four x1 x2 p c k1 k2) (w : World) (hl : lst 7 sub = true) (hp : p ≤ 2000000) (hc : c ≤ 2000000) (hX : (((p : Int) % 16384 != 0) || (((p : Int) == 0) || decide (1048576 < (p : Int)))) = false) (hY : (((c : Int) % 8192 != 0) || decide (524288 < (c : Int))) = false) :
    Calls Try.prog 34 #[.agg cs] w fun e w' => e = .returned (.tuple #[.agg (nB0 7 sub ram nv vert four ((p : Int) / 16384) ((c : Int) / 8192)).cells, .int .i64 0]) ∧ Below w.heap.size w w' :=
  new_ok cs 7 sub ram nv vert four x1 x2 p c k1 k2 C w hl hp hc (X_yes hX).1 (Y_yes hY) (X_yes hX).2 112 113 (kLc (nB0 7 sub ram nv vert four ((p : Int) / 16384) ((c : Int) / 8192))) (kLc (nB0 7 sub ram nv vert four ((p : Int) / 16384) ((c : Int) / 8192))) 88 (nB0 7 sub ram nv vert four ((p : Int) / 16384) ((c : Int) / 8192)) rfl
    (fun W => kindOf_7 W (nB0 7 sub ram nv vert four ((p : Int) / 16384) ((c : Int) / 8192)) rfl rfl) (fun _ _ => by kernel_rfl) (fun _ _ => by kernel_rfl) (fun W m K => (powerOn0 W m).mono (by rintro e w2 ⟨rfl, rfl⟩; exact ⟨rfl, Below.refl _ _, K⟩)) (fun W m K => plain_7 W (nB0 7 sub ram nv vert four ((p : Int) / 16384) ((c : Int) / 8192)) rfl m K)
theorem new_1 (cs : Array Value) (sub ram nv : Int) (vert four : Bool) (x1 x2 : Option Addr) (p c k1 k2 : Nat) (C : IsN cs 1 sub ram nv vert four x1 x2 p c k1 k2) (w : World) (hl : lst 1 sub = true) (hp : p ≤ 2000000) (hc : c ≤ 2000000) (hX : (((p : Int) % 16384 != 0) || (((p : Int) == 0) || decide (1048576 < (p : Int)))) = false) (hY : (((c : Int) % 8192 != 0) || decide (524288 < (c : Int))) = false) :
    Calls Try.prog 34 #[.agg cs] w fun e w' => e = .returned (.tuple #[.agg ({ (nB0 1 sub ram nv vert four ((p : Int) / 16384) ((c : Int) / 8192)) with shift := 16, ctrl := 12, last := -2 } : Bd).cells, .int .i64 0]) ∧ Below w.heap.size w w' :=
  new_ok cs 1 sub ram nv vert four x1 x2 p c k1 k2 C w hl hp hc (X_yes hX).1 (Y_yes hY) (X_yes hX).2 97 99 (k1c (nB0 1 sub ram nv vert four ((p : Int) / 16384) ((c : Int) / 8192))) (k1c ({ (nB0 1 sub ram nv vert four ((p : Int) / 16384) ((c : Int) / 8192)) with shift := 16, ctrl := 12, last := -2 } : Bd)) 99 ({ (nB0 1 sub ram nv vert four ((p : Int) / 16384) ((c : Int) / 8192)) with shift := 16, ctrl := 12, last := -2 } : Bd) rfl
    (fun W => kindOf_1 W (nB0 1 sub ram nv vert four ((p : Int) / 16384) ((c : Int) / 8192)) rfl rfl) (fun _ _ => by kernel_rfl) (fun _ _ => by kernel_rfl) (fun W m K => powerOn1 W m (nB0 1 sub ram nv vert four ((p : Int) / 16384) ((c : Int) / 8192)) K) (fun W m K => plain_1 W ({ (nB0 1 sub ram nv vert four ((p : Int) / 16384) ((c : Int) / 8192)) with shift := 16, ctrl := 12, last := -2 } : Bd) rfl m K)
theorem new_4 (cs : Array Value) (sub ram nv : Int) (vert four : Bool) (x1 x2 : Option Addr) (p c k1 k2 : Nat) (C : IsN cs 4 sub ram nv vert four x1 x2 p c k1 k2) (w : World) (hl : lst 4 sub = true) (hp : p ≤ 2000000) (hc : c ≤ 2000000) (hX : (((p : Int) % 16384 != 0) || (((p : Int) == 0) || decide (1048576 < (p : Int)))) = false) (hY : (((c : Int) % 8192 != 0) || decide (524288 < (c : Int))) = false) :
    Calls Try.prog 34 #[.agg cs] w fun e w' => e = .returned (.tuple #[.agg ({ (nB0 4 sub ram nv vert four ((p : Int) / 16384) ((c : Int) / 8192)) with r := [0, 2, 4, 5, 6, 7, 0, 1], guard := 128 } : Bd).cells, .int .i64 0]) ∧ Below w.heap.size w w' :=
  new_ok cs 4 sub ram nv vert four x1 x2 p c k1 k2 C w hl hp hc (X_yes hX).1 (Y_yes hY) (X_yes hX).2 107 111 (k4c (nB0 4 sub ram nv vert four ((p : Int) / 16384) ((c : Int) / 8192))) (k4c ({ (nB0 4 sub ram nv vert four ((p : Int) / 16384) ((c : Int) / 8192)) with r := [0, 2, 4, 5, 6, 7, 0, 1], guard := 128 } : Bd)) 113 ({ (nB0 4 sub ram nv vert four ((p : Int) / 16384) ((c : Int) / 8192)) with r := [0, 2, 4, 5, 6, 7, 0, 1], guard := 128 } : Bd) rfl
    (fun W => kindOf_4 W (nB0 4 sub ram nv vert four ((p : Int) / 16384) ((c : Int) / 8192)) rfl rfl) (fun _ _ => by kernel_rfl) (fun _ _ => by kernel_rfl) (fun W m K => powerOn4 W m (nB0 4 sub ram nv vert four ((p : Int) / 16384) ((c : Int) / 8192)) rfl K) (fun W m K => plain_4 W ({ (nB0 4 sub ram nv vert four ((p : Int) / 16384) ((c : Int) / 8192)) with r := [0, 2, 4, 5, 6, 7, 0, 1], guard := 128 } : Bd) rfl m K)
theorem new_both (mp sub ram nv : Int) (vert four : Bool) (p c : Nat) (hp : p ≤ 2000000) (hc : c ≤ 2000000) : ∃ (D : Bd) (v : Int), D.r.length = 8 ∧
    ∀ (cs : Array Value) (x1 x2 : Option Addr) (k1 k2 : Nat), IsN cs mp sub ram nv vert four x1 x2 p c k1 k2 →
    (∀ W, Calls Try.prog 34 #[.agg cs] W fun e w' => e = .returned (.tuple #[.agg D.cells, .int .i64 v]) ∧ Below W.heap.size W w') ∧
    (∀ W, Calls Try.prog 36 #[.agg cs] W fun e w' => e = .returned (.tuple #[.agg D.cells, .int .i64 v]) ∧ Below W.heap.size W w') := by
  cases hl : lst mp sub
  · refine ⟨rB0 0 0 0 0, 20, rfl, fun cs x1 x2 k1 k2 C => ⟨fun W => ?_, fun W => ?_⟩⟩
    · rw [zero_cells]; exact new_bad1 cs mp sub ram nv vert four x1 x2 p c k1 k2 C W hl
    · rw [zero_cells]; exact rnew_bad1 cs mp sub ram nv vert four x1 x2 p c k1 k2 C W hl
  cases hX : (((p : Int) % 16384 != 0) || (((p : Int) == 0) || decide (1048576 < (p : Int))))
  · cases hY : (((c : Int) % 8192 != 0) || decide (524288 < (c : Int)))
    · have hcc : (0 : Int) ≤ (c : Int) / 8192 := by omega
      have hR := fun cs x1 x2 k1 k2 C W => rnew_ok cs mp sub ram nv vert four x1 x2 p c k1 k2 C W hl hp hc hX hY
      rw [pre_eq mp sub ram nv vert four _ _ hcc] at hR
      rcases lst_kinds' hl with hk | hk | hk | hk | hk | hk
      · subst hk
        exact ⟨_, 0, rfl, fun cs x1 x2 k1 k2 C => ⟨fun W => new_0 cs sub ram nv vert four x1 x2 p c k1 k2 C W hl hp hc hX hY, hR cs x1 x2 k1 k2 C⟩⟩
      · subst hk
        exact ⟨_, 0, rfl, fun cs x1 x2 k1 k2 C => ⟨fun W => new_1 cs sub ram nv vert four x1 x2 p c k1 k2 C W hl hp hc hX hY, hR cs x1 x2 k1 k2 C⟩⟩
      · subst hk
        exact ⟨_, 0, rfl, fun cs x1 x2 k1 k2 C => ⟨fun W => new_2 cs sub ram nv vert four x1 x2 p c k1 k2 C W hl hp hc hX hY, hR cs x1 x2 k1 k2 C⟩⟩
      · subst hk
        exact ⟨_, 0, rfl, fun cs x1 x2 k1 k2 C => ⟨fun W => new_3 cs sub ram nv vert four x1 x2 p c k1 k2 C W hl hp hc hX hY, hR cs x1 x2 k1 k2 C⟩⟩
      · subst hk
        exact ⟨_, 0, rfl, fun cs x1 x2 k1 k2 C => ⟨fun W => new_4 cs sub ram nv vert four x1 x2 p c k1 k2 C W hl hp hc hX hY, hR cs x1 x2 k1 k2 C⟩⟩
      · subst hk
        exact ⟨_, 0, rfl, fun cs x1 x2 k1 k2 C => ⟨fun W => new_7 cs sub ram nv vert four x1 x2 p c k1 k2 C W hl hp hc hX hY, hR cs x1 x2 k1 k2 C⟩⟩
    · refine ⟨rB0 0 0 0 0, 21, rfl, fun cs x1 x2 k1 k2 C => ⟨fun W => ?_, fun W => ?_⟩⟩
      · rw [zero_cells]; exact new_bad2 cs mp sub ram nv vert four x1 x2 p c k1 k2 C W hl hp hc _ _ rfl rfl (Or.inr (Or.inl (Y_no hY)))
      · rw [zero_cells]; exact rnew_bad3 cs mp sub ram nv vert four x1 x2 p c k1 k2 C W hl hp hc hX hY
  · refine ⟨rB0 0 0 0 0, 21, rfl, fun cs x1 x2 k1 k2 C => ⟨fun W => ?_, fun W => ?_⟩⟩
    · rw [zero_cells]; exact new_bad2 cs mp sub ram nv vert four x1 x2 p c k1 k2 C W hl hp hc _ _ rfl rfl (X_no hX)
    · rw [zero_cells]; exact rnew_bad2 cs mp sub ram nv vert four x1 x2 p c k1 k2 C W hl hp hX
end Go.Proofs.Ytggphgmpdanliaa
