/-
  What kindOf answers, kind by kind; conditions: the cells that it reads hold the board's numbers.
-/
import Derived.Test.YtokbnffofaeipaaMKind
namespace Go.Proofs.Ytokbnffofaeipaa
open Go.RowKit Classical
def k0c (b : Bd) : Array Value := #[.int .i64 b.sub, .int .u8 b.hard, .bool b.work, .bool b.chrRam, .int .i64 b.prg, .int .i64 b.chr, .int .i64 b.epoch]
def k1c (b : Bd) : Array Value := #[.int .i64 b.sub, .int .u8 b.hard, .bool b.work, .bool b.chrRam, .int .i64 b.prg, .int .i64 b.chr, .int .i64 b.epoch, .int .u8 b.shift, .int .u8 b.ctrl, .int .u8 b.chrA, .int .u8 b.chrB, .int .u8 b.prgR, .int .i64 b.last]
def kLc (b : Bd) : Array Value := #[.int .i64 b.sub, .int .u8 b.hard, .bool b.work, .bool b.chrRam, .int .i64 b.prg, .int .i64 b.chr, .int .i64 b.epoch, .int .u8 b.latch]
def k4c (b : Bd) : Array Value := (([.int .i64 b.sub, .int .u8 b.hard, .bool b.work, .bool b.chrRam, .int .i64 b.prg, .int .i64 b.chr, .int .i64 b.epoch, .int .u8 b.sel] : List Value) ++ (b.r.map (Value.int .u8) ++ ([.int .u8 b.turn, .int .u8 b.guard, .int .u8 b.iLatch, .int .u8 b.iCount, .bool b.iLoad, .bool b.iOn, .bool b.irq] : List Value))).toArray

set_option maxRecDepth 100000 in
set_option maxHeartbeats 1000000 in
theorem kindOf_1 (w : World) (b : Bd) (hr : b.r.length = 8) (hk : b.kind = 1) :
    Calls Try.prog 56 #[.agg b.cells] w fun e w' => ∃ m, e = .returned (.iface 79 (.pointer (some ⟨m, 0, none⟩))) ∧ w.heap.size ≤ m ∧ Below w.heap.size w w' ∧ Blk w' m (k1c b) 81 := by
  have C := isB b hr
  have SO := fun W => sharedOf_any W b hr
  generalize b.cells = cs at C SO
  have CC : Hid _ := C
  have hsz := C.size
  have HS : Hid _ := hsz
  have HO : Hid _ := SO
  clear SO
  go_enter Try.func56, Try.ntmps56
  go_upto_region 1 with fail
  have b0 : Blk (w.alloc (.cells cs 37)) w.heap.size cs 37 := Blk.new w cs _
  have hb0 : Below w.heap.size w (w.alloc (.cells cs 37)) := (Below.refl _ _).alloc (Nat.le_refl _) _
  generalize w.alloc (.cells cs 37) = W0 at *
  clear C hsz
  go_wp2_with (refine wpList_load_mid rfl 37 _ rfl w.heap.size 0 rfl cs.toList _ b0.range Try.underlying37 rfl (by rw [Array.length_toList, HS.out]; exact Try.infoBoard) ?_)
  refine (HO.out W0).mono ?_
  rintro e W1 ⟨rfl, hb1'⟩
  have hN : w.heap.size < W0.heap.size := b0.lt
  have hS : w.heap.size < W1.heap.size := by have := hb1'.size; omega
  have b1 := (b0.below hN hb1').old (.cells Z7 77)
  have hb1 : Below w.heap.size w (W1.alloc (.cells Z7 77)) := (hb0.trans (hb1'.mono (by omega))).alloc (by omega) _
  have z1 : Blk (W1.alloc (.cells Z7 77)) W1.heap.size Z7 77 := Blk.new W1 Z7 _
  clear hb0 hb1' b0
  go_upto_region 2 with (refine wpList_store_mid rfl 77 _ _ rfl W1.heap.size 0 (shc b) rfl rfl (by exact z1.there _ rfl) (by exact Try.infoShared) (shc_one b) ?_)
  have z2 := z1.setAll (shc b) rfl
  have b2 : Blk ((W1.alloc (.cells Z7 77)).setCells W1.heap.size 0 (shc b).toList) w.heap.size cs 37 := b1.below hS (setCells_below (Nat.le_refl _) _ _ _ _ (Below.refl _ _))
  have hb2 := setCells_below (show w.heap.size ≤ W1.heap.size by omega) (shc b).toList 0 _ _ hb1
  clear z1 b1 hb1
  generalize (W1.alloc (.cells Z7 77)).setCells W1.heap.size 0 (shc b).toList = W2 at *
  have hW2 : w.heap.size ≤ W2.heap.size := hb2.size
  have d0 : W2.cell? ⟨w.heap.size, 0, none⟩ = some (.int .i64 1) := (b2.cell 0).trans (CC.out.h0.trans (by rw [hk]))
  have d7 := (b2.cell 7).trans CC.out.h7
  have d8 := (b2.cell 8).trans CC.out.h8
  have d9 := (b2.cell 9).trans CC.out.h9
  have d10 := (b2.cell 10).trans CC.out.h10
  have d11 := (b2.cell 11).trans CC.out.h11
  have d12 := (b2.cell 12).trans CC.out.h12
  have ZR : Hid (W2.rangeAt W1.heap.size 0 [.int .i64 b.sub, .int .u8 b.hard, .bool b.work, .bool b.chrRam, .int .i64 b.prg, .int .i64 b.chr, .int .i64 b.epoch]) := z2.range
  clear hk b2 z2 HO HS CC hN hS hr
  go_wp2_with (first
    | refine wpList_load_mid rfl 77 _ rfl W1.heap.size 0 rfl [.int .i64 b.sub, .int .u8 b.hard, .bool b.work, .bool b.chrRam, .int .i64 b.prg, .int .i64 b.chr, .int .i64 b.epoch] _ ZR.out Try.underlying77 rfl (by exact Try.infoShared) ?_)
  go_ret
  refine ⟨_, rfl, hW2, hb2.alloc hW2 _, ?_⟩
  exact Blk.new W2 _ _

set_option maxRecDepth 100000 in
set_option maxHeartbeats 1000000 in
theorem kindOf_2 (w : World) (b : Bd) (hr : b.r.length = 8) (hk : b.kind = 2) :
    Calls Try.prog 56 #[.agg b.cells] w fun e w' => ∃ m, e = .returned (.iface 82 (.pointer (some ⟨m, 0, none⟩))) ∧ w.heap.size ≤ m ∧ Below w.heap.size w w' ∧ Blk w' m (kLc b) 86 := by
  have C := isB b hr
  have SO := fun W => sharedOf_any W b hr
  generalize b.cells = cs at C SO
  have CC : Hid _ := C
  have hsz := C.size
  have HS : Hid _ := hsz
  have HO : Hid _ := SO
  clear SO
  go_enter Try.func56, Try.ntmps56
  go_upto_region 1 with fail
  have b0 : Blk (w.alloc (.cells cs 37)) w.heap.size cs 37 := Blk.new w cs _
  have hb0 : Below w.heap.size w (w.alloc (.cells cs 37)) := (Below.refl _ _).alloc (Nat.le_refl _) _
  generalize w.alloc (.cells cs 37) = W0 at *
  clear C hsz
  go_wp2_with (refine wpList_load_mid rfl 37 _ rfl w.heap.size 0 rfl cs.toList _ b0.range Try.underlying37 rfl (by rw [Array.length_toList, HS.out]; exact Try.infoBoard) ?_)
  refine (HO.out W0).mono ?_
  rintro e W1 ⟨rfl, hb1'⟩
  have hN : w.heap.size < W0.heap.size := b0.lt
  have hS : w.heap.size < W1.heap.size := by have := hb1'.size; omega
  have b1 := (b0.below hN hb1').old (.cells Z7 77)
  have hb1 : Below w.heap.size w (W1.alloc (.cells Z7 77)) := (hb0.trans (hb1'.mono (by omega))).alloc (by omega) _
  have z1 : Blk (W1.alloc (.cells Z7 77)) W1.heap.size Z7 77 := Blk.new W1 Z7 _
  clear hb0 hb1' b0
  go_upto_region 2 with (refine wpList_store_mid rfl 77 _ _ rfl W1.heap.size 0 (shc b) rfl rfl (by exact z1.there _ rfl) (by exact Try.infoShared) (shc_one b) ?_)
  have z2 := z1.setAll (shc b) rfl
  have b2 : Blk ((W1.alloc (.cells Z7 77)).setCells W1.heap.size 0 (shc b).toList) w.heap.size cs 37 := b1.below hS (setCells_below (Nat.le_refl _) _ _ _ _ (Below.refl _ _))
  have hb2 := setCells_below (show w.heap.size ≤ W1.heap.size by omega) (shc b).toList 0 _ _ hb1
  clear z1 b1 hb1
  generalize (W1.alloc (.cells Z7 77)).setCells W1.heap.size 0 (shc b).toList = W2 at *
  have hW2 : w.heap.size ≤ W2.heap.size := hb2.size
  have d0 : W2.cell? ⟨w.heap.size, 0, none⟩ = some (.int .i64 2) := (b2.cell 0).trans (CC.out.h0.trans (by rw [hk]))
  have d13 := (b2.cell 13).trans CC.out.h13
  have ZR : Hid (W2.rangeAt W1.heap.size 0 [.int .i64 b.sub, .int .u8 b.hard, .bool b.work, .bool b.chrRam, .int .i64 b.prg, .int .i64 b.chr, .int .i64 b.epoch]) := z2.range
  clear hk b2 z2 HO HS CC hN hS hr
  go_wp2_with (first
    | refine wpList_load_mid rfl 77 _ rfl W1.heap.size 0 rfl [.int .i64 b.sub, .int .u8 b.hard, .bool b.work, .bool b.chrRam, .int .i64 b.prg, .int .i64 b.chr, .int .i64 b.epoch] _ ZR.out Try.underlying77 rfl (by exact Try.infoShared) ?_)
  go_ret
  refine ⟨_, rfl, hW2, hb2.alloc hW2 _, ?_⟩
  exact Blk.new W2 _ _

set_option maxRecDepth 100000 in
set_option maxHeartbeats 1000000 in
theorem kindOf_3 (w : World) (b : Bd) (hr : b.r.length = 8) (hk : b.kind = 3) :
    Calls Try.prog 56 #[.agg b.cells] w fun e w' => ∃ m, e = .returned (.iface 87 (.pointer (some ⟨m, 0, none⟩))) ∧ w.heap.size ≤ m ∧ Below w.heap.size w w' ∧ Blk w' m (kLc b) 88 := by
  have C := isB b hr
  have SO := fun W => sharedOf_any W b hr
  generalize b.cells = cs at C SO
  have CC : Hid _ := C
  have hsz := C.size
  have HS : Hid _ := hsz
  have HO : Hid _ := SO
  clear SO
  go_enter Try.func56, Try.ntmps56
  go_upto_region 1 with fail
  have b0 : Blk (w.alloc (.cells cs 37)) w.heap.size cs 37 := Blk.new w cs _
  have hb0 : Below w.heap.size w (w.alloc (.cells cs 37)) := (Below.refl _ _).alloc (Nat.le_refl _) _
  generalize w.alloc (.cells cs 37) = W0 at *
  clear C hsz
  go_wp2_with (refine wpList_load_mid rfl 37 _ rfl w.heap.size 0 rfl cs.toList _ b0.range Try.underlying37 rfl (by rw [Array.length_toList, HS.out]; exact Try.infoBoard) ?_)
  refine (HO.out W0).mono ?_
  rintro e W1 ⟨rfl, hb1'⟩
  have hN : w.heap.size < W0.heap.size := b0.lt
  have hS : w.heap.size < W1.heap.size := by have := hb1'.size; omega
  have b1 := (b0.below hN hb1').old (.cells Z7 77)
  have hb1 : Below w.heap.size w (W1.alloc (.cells Z7 77)) := (hb0.trans (hb1'.mono (by omega))).alloc (by omega) _
  have z1 : Blk (W1.alloc (.cells Z7 77)) W1.heap.size Z7 77 := Blk.new W1 Z7 _
  clear hb0 hb1' b0
  go_upto_region 2 with (refine wpList_store_mid rfl 77 _ _ rfl W1.heap.size 0 (shc b) rfl rfl (by exact z1.there _ rfl) (by exact Try.infoShared) (shc_one b) ?_)
  have z2 := z1.setAll (shc b) rfl
  have b2 : Blk ((W1.alloc (.cells Z7 77)).setCells W1.heap.size 0 (shc b).toList) w.heap.size cs 37 := b1.below hS (setCells_below (Nat.le_refl _) _ _ _ _ (Below.refl _ _))
  have hb2 := setCells_below (show w.heap.size ≤ W1.heap.size by omega) (shc b).toList 0 _ _ hb1
  clear z1 b1 hb1
  generalize (W1.alloc (.cells Z7 77)).setCells W1.heap.size 0 (shc b).toList = W2 at *
  have hW2 : w.heap.size ≤ W2.heap.size := hb2.size
  have d0 : W2.cell? ⟨w.heap.size, 0, none⟩ = some (.int .i64 3) := (b2.cell 0).trans (CC.out.h0.trans (by rw [hk]))
  have d13 := (b2.cell 13).trans CC.out.h13
  have ZR : Hid (W2.rangeAt W1.heap.size 0 [.int .i64 b.sub, .int .u8 b.hard, .bool b.work, .bool b.chrRam, .int .i64 b.prg, .int .i64 b.chr, .int .i64 b.epoch]) := z2.range
  clear hk b2 z2 HO HS CC hN hS hr
  go_wp2_with (first
    | refine wpList_load_mid rfl 77 _ rfl W1.heap.size 0 rfl [.int .i64 b.sub, .int .u8 b.hard, .bool b.work, .bool b.chrRam, .int .i64 b.prg, .int .i64 b.chr, .int .i64 b.epoch] _ ZR.out Try.underlying77 rfl (by exact Try.infoShared) ?_)
  go_ret
  refine ⟨_, rfl, hW2, hb2.alloc hW2 _, ?_⟩
  exact Blk.new W2 _ _

set_option maxRecDepth 100000 in
set_option maxHeartbeats 1000000 in
theorem kindOf_7 (w : World) (b : Bd) (hr : b.r.length = 8) (hk : b.kind = 7) :
    Calls Try.prog 56 #[.agg b.cells] w fun e w' => ∃ m, e = .returned (.iface 94 (.pointer (some ⟨m, 0, none⟩))) ∧ w.heap.size ≤ m ∧ Below w.heap.size w w' ∧ Blk w' m (kLc b) 95 := by
  have C := isB b hr
  have SO := fun W => sharedOf_any W b hr
  generalize b.cells = cs at C SO
  have CC : Hid _ := C
  have hsz := C.size
  have HS : Hid _ := hsz
  have HO : Hid _ := SO
  clear SO
  go_enter Try.func56, Try.ntmps56
  go_upto_region 1 with fail
  have b0 : Blk (w.alloc (.cells cs 37)) w.heap.size cs 37 := Blk.new w cs _
  have hb0 : Below w.heap.size w (w.alloc (.cells cs 37)) := (Below.refl _ _).alloc (Nat.le_refl _) _
  generalize w.alloc (.cells cs 37) = W0 at *
  clear C hsz
  go_wp2_with (refine wpList_load_mid rfl 37 _ rfl w.heap.size 0 rfl cs.toList _ b0.range Try.underlying37 rfl (by rw [Array.length_toList, HS.out]; exact Try.infoBoard) ?_)
  refine (HO.out W0).mono ?_
  rintro e W1 ⟨rfl, hb1'⟩
  have hN : w.heap.size < W0.heap.size := b0.lt
  have hS : w.heap.size < W1.heap.size := by have := hb1'.size; omega
  have b1 := (b0.below hN hb1').old (.cells Z7 77)
  have hb1 : Below w.heap.size w (W1.alloc (.cells Z7 77)) := (hb0.trans (hb1'.mono (by omega))).alloc (by omega) _
  have z1 : Blk (W1.alloc (.cells Z7 77)) W1.heap.size Z7 77 := Blk.new W1 Z7 _
  clear hb0 hb1' b0
  go_upto_region 2 with (refine wpList_store_mid rfl 77 _ _ rfl W1.heap.size 0 (shc b) rfl rfl (by exact z1.there _ rfl) (by exact Try.infoShared) (shc_one b) ?_)
  have z2 := z1.setAll (shc b) rfl
  have b2 : Blk ((W1.alloc (.cells Z7 77)).setCells W1.heap.size 0 (shc b).toList) w.heap.size cs 37 := b1.below hS (setCells_below (Nat.le_refl _) _ _ _ _ (Below.refl _ _))
  have hb2 := setCells_below (show w.heap.size ≤ W1.heap.size by omega) (shc b).toList 0 _ _ hb1
  clear z1 b1 hb1
  generalize (W1.alloc (.cells Z7 77)).setCells W1.heap.size 0 (shc b).toList = W2 at *
  have hW2 : w.heap.size ≤ W2.heap.size := hb2.size
  have d0 : W2.cell? ⟨w.heap.size, 0, none⟩ = some (.int .i64 7) := (b2.cell 0).trans (CC.out.h0.trans (by rw [hk]))
  have d13 := (b2.cell 13).trans CC.out.h13
  have ZR : Hid (W2.rangeAt W1.heap.size 0 [.int .i64 b.sub, .int .u8 b.hard, .bool b.work, .bool b.chrRam, .int .i64 b.prg, .int .i64 b.chr, .int .i64 b.epoch]) := z2.range
  clear hk b2 z2 HO HS CC hN hS hr
  go_wp2_with (first
    | refine wpList_load_mid rfl 77 _ rfl W1.heap.size 0 rfl [.int .i64 b.sub, .int .u8 b.hard, .bool b.work, .bool b.chrRam, .int .i64 b.prg, .int .i64 b.chr, .int .i64 b.epoch] _ ZR.out Try.underlying77 rfl (by exact Try.infoShared) ?_)
  go_ret
  refine ⟨_, rfl, hW2, hb2.alloc hW2 _, ?_⟩
  exact Blk.new W2 _ _

set_option maxRecDepth 100000 in
set_option maxHeartbeats 1000000 in
theorem kindOf_0 (w : World) (b : Bd) (hr : b.r.length = 8) (hk : b.kind = 0) :
    Calls Try.prog 56 #[.agg b.cells] w fun e w' => ∃ m, e = .returned (.iface 96 (.pointer (some ⟨m, 0, none⟩))) ∧ w.heap.size ≤ m ∧ Below w.heap.size w w' ∧ Blk w' m (k0c b) 98 := by
  have C := isB b hr
  have SO := fun W => sharedOf_any W b hr
  generalize b.cells = cs at C SO
  have CC : Hid _ := C
  have hsz := C.size
  have HS : Hid _ := hsz
  have HO : Hid _ := SO
  clear SO
  go_enter Try.func56, Try.ntmps56
  go_upto_region 1 with fail
  have b0 : Blk (w.alloc (.cells cs 37)) w.heap.size cs 37 := Blk.new w cs _
  have hb0 : Below w.heap.size w (w.alloc (.cells cs 37)) := (Below.refl _ _).alloc (Nat.le_refl _) _
  generalize w.alloc (.cells cs 37) = W0 at *
  clear C hsz
  go_wp2_with (refine wpList_load_mid rfl 37 _ rfl w.heap.size 0 rfl cs.toList _ b0.range Try.underlying37 rfl (by rw [Array.length_toList, HS.out]; exact Try.infoBoard) ?_)
  refine (HO.out W0).mono ?_
  rintro e W1 ⟨rfl, hb1'⟩
  have hN : w.heap.size < W0.heap.size := b0.lt
  have hS : w.heap.size < W1.heap.size := by have := hb1'.size; omega
  have b1 := (b0.below hN hb1').old (.cells Z7 77)
  have hb1 : Below w.heap.size w (W1.alloc (.cells Z7 77)) := (hb0.trans (hb1'.mono (by omega))).alloc (by omega) _
  have z1 : Blk (W1.alloc (.cells Z7 77)) W1.heap.size Z7 77 := Blk.new W1 Z7 _
  clear hb0 hb1' b0
  go_upto_region 2 with (refine wpList_store_mid rfl 77 _ _ rfl W1.heap.size 0 (shc b) rfl rfl (by exact z1.there _ rfl) (by exact Try.infoShared) (shc_one b) ?_)
  have z2 := z1.setAll (shc b) rfl
  have b2 : Blk ((W1.alloc (.cells Z7 77)).setCells W1.heap.size 0 (shc b).toList) w.heap.size cs 37 := b1.below hS (setCells_below (Nat.le_refl _) _ _ _ _ (Below.refl _ _))
  have hb2 := setCells_below (show w.heap.size ≤ W1.heap.size by omega) (shc b).toList 0 _ _ hb1
  clear z1 b1 hb1
  generalize (W1.alloc (.cells Z7 77)).setCells W1.heap.size 0 (shc b).toList = W2 at *
  have hW2 : w.heap.size ≤ W2.heap.size := hb2.size
  have d0 : W2.cell? ⟨w.heap.size, 0, none⟩ = some (.int .i64 0) := (b2.cell 0).trans (CC.out.h0.trans (by rw [hk]))
  have ZR : Hid (W2.rangeAt W1.heap.size 0 [.int .i64 b.sub, .int .u8 b.hard, .bool b.work, .bool b.chrRam, .int .i64 b.prg, .int .i64 b.chr, .int .i64 b.epoch]) := z2.range
  clear hk b2 z2 HO HS CC hN hS hr
  go_wp2_with (first
    | refine wpList_load_mid rfl 77 _ rfl W1.heap.size 0 rfl [.int .i64 b.sub, .int .u8 b.hard, .bool b.work, .bool b.chrRam, .int .i64 b.prg, .int .i64 b.chr, .int .i64 b.epoch] _ ZR.out Try.underlying77 rfl (by exact Try.infoShared) ?_)
  go_ret
  refine ⟨_, rfl, hW2, hb2.alloc hW2 _, ?_⟩
  exact Blk.new W2 _ _

set_option maxRecDepth 100000 in
set_option maxHeartbeats 1000000 in
theorem kindOf_4 (w : World) (b : Bd) (hr : b.r.length = 8) (hk : b.kind = 4) :
    Calls Try.prog 56 #[.agg b.cells] w fun e w' => ∃ m, e = .returned (.iface 89 (.pointer (some ⟨m, 0, none⟩))) ∧ w.heap.size ≤ m ∧ Below w.heap.size w w' ∧ Blk w' m (k4c b) 93 := by
  have C := isB b hr
  have SO := fun W => sharedOf_any W b hr
  generalize b.cells = cs at C SO
  have CC : Hid _ := C
  have hsz := C.size
  have HS : Hid _ := hsz
  have HO : Hid _ := SO
  clear SO
  go_enter Try.func56, Try.ntmps56
  go_upto_region 1 with fail
  have b0 : Blk (w.alloc (.cells cs 37)) w.heap.size cs 37 := Blk.new w cs _
  have hb0 : Below w.heap.size w (w.alloc (.cells cs 37)) := (Below.refl _ _).alloc (Nat.le_refl _) _
  generalize w.alloc (.cells cs 37) = W0 at *
  clear C hsz
  go_wp2_with (refine wpList_load_mid rfl 37 _ rfl w.heap.size 0 rfl cs.toList _ b0.range Try.underlying37 rfl (by rw [Array.length_toList, HS.out]; exact Try.infoBoard) ?_)
  refine (HO.out W0).mono ?_
  rintro e W1 ⟨rfl, hb1'⟩
  have hN : w.heap.size < W0.heap.size := b0.lt
  have hS : w.heap.size < W1.heap.size := by have := hb1'.size; omega
  have b1 := (b0.below hN hb1').old (.cells Z7 77)
  have hb1 : Below w.heap.size w (W1.alloc (.cells Z7 77)) := (hb0.trans (hb1'.mono (by omega))).alloc (by omega) _
  have z1 : Blk (W1.alloc (.cells Z7 77)) W1.heap.size Z7 77 := Blk.new W1 Z7 _
  clear hb0 hb1' b0
  go_upto_region 2 with (refine wpList_store_mid rfl 77 _ _ rfl W1.heap.size 0 (shc b) rfl rfl (by exact z1.there _ rfl) (by exact Try.infoShared) (shc_one b) ?_)
  have z2 := z1.setAll (shc b) rfl
  have b2 : Blk ((W1.alloc (.cells Z7 77)).setCells W1.heap.size 0 (shc b).toList) w.heap.size cs 37 := b1.below hS (setCells_below (Nat.le_refl _) _ _ _ _ (Below.refl _ _))
  have hb2 := setCells_below (show w.heap.size ≤ W1.heap.size by omega) (shc b).toList 0 _ _ hb1
  clear z1 b1 hb1
  generalize (W1.alloc (.cells Z7 77)).setCells W1.heap.size 0 (shc b).toList = W2 at *
  have hW2 : w.heap.size ≤ W2.heap.size := hb2.size
  have d0 : W2.cell? ⟨w.heap.size, 0, none⟩ = some (.int .i64 4) := (b2.cell 0).trans (CC.out.h0.trans (by rw [hk]))
  have d14 := (b2.cell 14).trans CC.out.h14
  have d23 := (b2.cell 23).trans CC.out.h23
  have d24 := (b2.cell 24).trans CC.out.h24
  have d25 := (b2.cell 25).trans CC.out.h25
  have d26 := (b2.cell 26).trans CC.out.h26
  have d27 := (b2.cell 27).trans CC.out.h27
  have d28 := (b2.cell 28).trans CC.out.h28
  have d29 := (b2.cell 29).trans CC.out.h29
  obtain ⟨a0, a1, a2, a3, a4, a5, a6, a7, er⟩ := Bd.eight hr
  have hR : W2.rangeAt w.heap.size 15 [.int .u8 a0, .int .u8 a1, .int .u8 a2, .int .u8 a3, .int .u8 a4, .int .u8 a5, .int .u8 a6, .int .u8 a7] := by
    intro j v hv
    rw [b2.cell (15 + j)]
    have hj : j < 8 := by have := (List.getElem?_eq_some_iff.1 hv).1; simpa using this
    rw [CC.out.r j hj, er]
    match j, hj with
    | 0, _ | 1, _ | 2, _ | 3, _ | 4, _ | 5, _ | 6, _ | 7, _ => simpa using hv
  have HR : Hid _ := hR
  have K4 : Hid (k4c b = #[.int .i64 b.sub, .int .u8 b.hard, .bool b.work, .bool b.chrRam, .int .i64 b.prg, .int .i64 b.chr, .int .i64 b.epoch, .int .u8 b.sel, .int .u8 a0, .int .u8 a1, .int .u8 a2, .int .u8 a3, .int .u8 a4, .int .u8 a5, .int .u8 a6, .int .u8 a7, .int .u8 b.turn, .int .u8 b.guard, .int .u8 b.iLatch, .int .u8 b.iCount, .bool b.iLoad, .bool b.iOn, .bool b.irq]) := by unfold Hid k4c; rw [er]; rfl
  clear er hR
  have ZR : Hid (W2.rangeAt W1.heap.size 0 [.int .i64 b.sub, .int .u8 b.hard, .bool b.work, .bool b.chrRam, .int .i64 b.prg, .int .i64 b.chr, .int .i64 b.epoch]) := z2.range
  clear hk b2 z2 HO HS CC hN hS hr
  go_wp2_with (first
    | refine wpList_load_mid rfl 77 _ rfl W1.heap.size 0 rfl [.int .i64 b.sub, .int .u8 b.hard, .bool b.work, .bool b.chrRam, .int .i64 b.prg, .int .i64 b.chr, .int .i64 b.epoch] _ ZR.out Try.underlying77 rfl (by exact Try.infoShared) ?_
    | refine wpList_load_mid rfl 35 _ rfl w.heap.size 15 rfl [.int .u8 a0, .int .u8 a1, .int .u8 a2, .int .u8 a3, .int .u8 a4, .int .u8 a5, .int .u8 a6, .int .u8 a7] _ HR.out Try.underlying35 rfl (by kernel_rfl) ?_)
  go_ret
  refine ⟨_, rfl, hW2, hb2.alloc hW2 _, ?_⟩
  exact (by rw [K4.out]; exact Blk.new W2 _ _)
end Go.Proofs.Ytokbnffofaeipaa
