/-
  What plain answers of the boards with a latch or none; conditions: the block holds the kind's cells.
-/
import Derived.Test.YtecaipakaaongaaMK
namespace Go.Proofs.Ytecaipakaaongaa
open Go.RowKit Classical
def nL (k : Int) (b : Bd) : Bd := { bare k b with latch := b.latch }

set_option maxRecDepth 100000 in
set_option maxHeartbeats 2000000 in
theorem plain_2 (W : World) (b : Bd) (_hr : b.r.length = 8) (m : Nat) (B : Blk W m (kLc b) 86) :
    Calls Try.prog 57 #[.iface 82 (.pointer (some ⟨m, 0, none⟩))] W fun e w' => e = .returned (.agg (nL 2 b).cells) ∧ Below W.heap.size W w' := by
  have hm := B.lt
  have S : Sh W m b := ⟨(B.cell 0).trans rfl, (B.cell 1).trans rfl, (B.cell 2).trans rfl, (B.cell 3).trans rfl, (B.cell 4).trans rfl, (B.cell 5).trans rfl, (B.cell 6).trans rfl⟩
  have tnrom : ∀ w : World, (Instr.typeAssert (.iface 82 (.pointer (some ⟨m, 0, none⟩))) 68 96 true).run Try.prog w = .ok (.tuple #[.pointer none, .bool false]) w := fun _ => by kernel_rfl
  have tmmc1 : ∀ w : World, (Instr.typeAssert (.iface 82 (.pointer (some ⟨m, 0, none⟩))) 68 79 true).run Try.prog w = .ok (.tuple #[.pointer none, .bool false]) w := fun _ => by kernel_rfl
  have ty : ∀ w : World, (Instr.typeAssert (.iface 82 (.pointer (some ⟨m, 0, none⟩))) 68 82 true).run Try.prog w = .ok (.tuple #[.pointer (some ⟨m, 0, none⟩), .bool true]) w := fun _ => by kernel_rfl
  have BH : Hid (Blk W m (kLc b) 86) := B
  have SH : Hid _ := S
  clear B S
  go_enter Try.func57, Try.ntmps57
  go_upto_region 2 with fail
  change Code.wp _ _ _ _ ((W.alloc (.cells Z31 37)).alloc (.cells Z31 37))
  have y0 : Blk ((W.alloc (.cells Z31 37)).alloc (.cells Z31 37)) W.heap.size Z31 37 := (Blk.new W Z31 _).old _
  have z0 : Blk ((W.alloc (.cells Z31 37)).alloc (.cells Z31 37)) (W.heap.size + 1) Z31 37 := by
    have := Blk.new (W.alloc (.cells Z31 37)) Z31 37
    rwa [World.size_alloc] at this
  have hb0 : Below W.heap.size W ((W.alloc (.cells Z31 37)).alloc (.cells Z31 37)) := ((Below.refl _ _).alloc (Nat.le_refl _) _).alloc (by simp) _
  generalize (W.alloc (.cells Z31 37)).alloc (.cells Z31 37) = W0 at *
  have hm0 : m < W0.heap.size := by have := hb0.size; omega
  have S0 : Sh W0 m b := ⟨(hb0.cell (p := ⟨m, 0, none⟩) hm).trans SH.out.c0, (hb0.cell (p := ⟨m, 1, none⟩) hm).trans SH.out.c1, (hb0.cell (p := ⟨m, 2, none⟩) hm).trans SH.out.c2, (hb0.cell (p := ⟨m, 3, none⟩) hm).trans SH.out.c3, (hb0.cell (p := ⟨m, 4, none⟩) hm).trans SH.out.c4, (hb0.cell (p := ⟨m, 5, none⟩) hm).trans SH.out.c5, (hb0.cell (p := ⟨m, 6, none⟩) hm).trans SH.out.c6⟩
  have SH0 : Hid _ := S0
  clear S0
  go_wp2_with fail
  refine (plainOf_any W0 m 2 b SH0.out hm0).mono ?_
  rintro e W1 ⟨rfl, hb1'⟩
  have hz := z0.lt
  have y1 := y0.below y0.lt hb1'
  have z1 := z0.below z0.lt hb1'
  have hb1 : Below W.heap.size W W1 := hb0.trans (hb1'.mono hb0.size)
  clear hb1' y0 z0 hb0 hm0 SH0 SH
  have Hs : Hid _ := (isB (bare 2 b) rfl).size
  have H1 : Hid _ := (isB (bare 2 b) rfl).one
  go_upto_region 13 with (refine wpList_store_mid rfl 37 _ _ rfl (W.heap.size + 1) 0 (bare 2 b).cells rfl rfl (by exact z1.there _ Hs.out.symm) (by rw [Hs.out]; exact Try.infoBoard) H1.out ?_)
  have z2 := z1.setAll (bare 2 b).cells Hs.out
  have y2 : Blk (W1.setCells (W.heap.size + 1) 0 (bare 2 b).cells.toList) W.heap.size Z31 37 := y1.below (B := W.heap.size + 1) (by omega) (setCells_below (Nat.le_refl _) _ _ _ _ (Below.refl _ _))
  have hb2 := setCells_below (show W.heap.size ≤ W.heap.size + 1 by omega) (bare 2 b).cells.toList 0 _ _ hb1
  clear z1 y1 hb1 H1 Hs
  generalize W1.setCells (W.heap.size + 1) 0 (bare 2 b).cells.toList = W2 at *
  have c7 : W2.cell? ⟨m, 7, none⟩ = some (.int .u8 b.latch) := (hb2.cell (p := ⟨m, 7, none⟩) hm).trans ((Blk.cell BH.out 7).trans rfl)
  have t13 : W2.cell? ⟨W.heap.size + 1, 13, none⟩ = some (.int .u8 0) := (z2.cell 13).trans rfl
  have f13 := z2.free 13
  have ne : ¬ m = W.heap.size + 1 := by omega
  have ZH : Hid (Blk W2 (W.heap.size + 1) (bare 2 b).cells 37) := z2
  have YH : Hid (Blk W2 W.heap.size Z31 37) := y2
  clear z2 y2
  simp only [Act.put]
  go_upto_region 27 with fail
  have EQ : Hid (((bare 2 b).cells.setIfInBounds 13 (.int .u8 b.latch)) = (nL 2 b).cells) := rfl
  have zz : Blk (W2.setCell ⟨W.heap.size + 1, 13, none⟩ (.int .u8 b.latch)) (W.heap.size + 1) ((bare 2 b).cells.setIfInBounds 13 (.int .u8 b.latch)) 37 := (Blk.set ZH.out 13 (.int .u8 b.latch))
  have yy : Blk (W2.setCell ⟨W.heap.size + 1, 13, none⟩ (.int .u8 b.latch)) W.heap.size Z31 37 := (Blk.other YH.out (m := W.heap.size + 1) (by omega) 13 (.int .u8 b.latch))
  have hbb := (hb2.setCell (p := ⟨W.heap.size + 1, 13, none⟩) (Nat.le_succ _) (.int .u8 b.latch))
  generalize (W2.setCell ⟨W.heap.size + 1, 13, none⟩ (.int .u8 b.latch)) = W3 at *
  have b9 := zz
  rw [EQ.out] at b9
  have Hs : Hid _ := (isB (nL 2 b) rfl).size
  have H1 : Hid _ := (isB (nL 2 b) rfl).one
  generalize hL : (nL 2 b).cells = L at *
  have HL : Hid _ := hL
  clear hL
  go_wp2_with (first
    | refine wpList_load_mid rfl 37 _ rfl (W.heap.size + 1) 0 rfl L.toList _ b9.range Try.underlying37 rfl (by rw [Array.length_toList, Hs.out]; exact Try.infoBoard) ?_
    | refine wpList_store_mid rfl 37 _ _ rfl W.heap.size 0 L rfl rfl (by exact yy.there _ Hs.out.symm) (by rw [Hs.out]; exact Try.infoBoard) H1.out ?_)
  exact ret_agg (m := W.heap.size) (L := L) Try.results57 (by rfl) (yy.setAll L Hs.out) Try.underlying37 rfl (by rw [Hs.out]; exact Try.infoBoard) ⟨by rw [HL.out], setCells_below (Nat.le_refl _) _ _ _ _ hbb⟩


set_option maxRecDepth 100000 in
set_option maxHeartbeats 2000000 in
theorem plain_3 (W : World) (b : Bd) (_hr : b.r.length = 8) (m : Nat) (B : Blk W m (kLc b) 88) :
    Calls Try.prog 57 #[.iface 87 (.pointer (some ⟨m, 0, none⟩))] W fun e w' => e = .returned (.agg (nL 3 b).cells) ∧ Below W.heap.size W w' := by
  have hm := B.lt
  have S : Sh W m b := ⟨(B.cell 0).trans rfl, (B.cell 1).trans rfl, (B.cell 2).trans rfl, (B.cell 3).trans rfl, (B.cell 4).trans rfl, (B.cell 5).trans rfl, (B.cell 6).trans rfl⟩
  have tnrom : ∀ w : World, (Instr.typeAssert (.iface 87 (.pointer (some ⟨m, 0, none⟩))) 68 96 true).run Try.prog w = .ok (.tuple #[.pointer none, .bool false]) w := fun _ => by kernel_rfl
  have tmmc1 : ∀ w : World, (Instr.typeAssert (.iface 87 (.pointer (some ⟨m, 0, none⟩))) 68 79 true).run Try.prog w = .ok (.tuple #[.pointer none, .bool false]) w := fun _ => by kernel_rfl
  have tuxrom : ∀ w : World, (Instr.typeAssert (.iface 87 (.pointer (some ⟨m, 0, none⟩))) 68 82 true).run Try.prog w = .ok (.tuple #[.pointer none, .bool false]) w := fun _ => by kernel_rfl
  have ty : ∀ w : World, (Instr.typeAssert (.iface 87 (.pointer (some ⟨m, 0, none⟩))) 68 87 true).run Try.prog w = .ok (.tuple #[.pointer (some ⟨m, 0, none⟩), .bool true]) w := fun _ => by kernel_rfl
  have BH : Hid (Blk W m (kLc b) 88) := B
  have SH : Hid _ := S
  clear B S
  go_enter Try.func57, Try.ntmps57
  go_upto_region 2 with fail
  change Code.wp _ _ _ _ ((W.alloc (.cells Z31 37)).alloc (.cells Z31 37))
  have y0 : Blk ((W.alloc (.cells Z31 37)).alloc (.cells Z31 37)) W.heap.size Z31 37 := (Blk.new W Z31 _).old _
  have z0 : Blk ((W.alloc (.cells Z31 37)).alloc (.cells Z31 37)) (W.heap.size + 1) Z31 37 := by
    have := Blk.new (W.alloc (.cells Z31 37)) Z31 37
    rwa [World.size_alloc] at this
  have hb0 : Below W.heap.size W ((W.alloc (.cells Z31 37)).alloc (.cells Z31 37)) := ((Below.refl _ _).alloc (Nat.le_refl _) _).alloc (by simp) _
  generalize (W.alloc (.cells Z31 37)).alloc (.cells Z31 37) = W0 at *
  have hm0 : m < W0.heap.size := by have := hb0.size; omega
  have S0 : Sh W0 m b := ⟨(hb0.cell (p := ⟨m, 0, none⟩) hm).trans SH.out.c0, (hb0.cell (p := ⟨m, 1, none⟩) hm).trans SH.out.c1, (hb0.cell (p := ⟨m, 2, none⟩) hm).trans SH.out.c2, (hb0.cell (p := ⟨m, 3, none⟩) hm).trans SH.out.c3, (hb0.cell (p := ⟨m, 4, none⟩) hm).trans SH.out.c4, (hb0.cell (p := ⟨m, 5, none⟩) hm).trans SH.out.c5, (hb0.cell (p := ⟨m, 6, none⟩) hm).trans SH.out.c6⟩
  have SH0 : Hid _ := S0
  clear S0
  go_wp2_with fail
  refine (plainOf_any W0 m 3 b SH0.out hm0).mono ?_
  rintro e W1 ⟨rfl, hb1'⟩
  have hz := z0.lt
  have y1 := y0.below y0.lt hb1'
  have z1 := z0.below z0.lt hb1'
  have hb1 : Below W.heap.size W W1 := hb0.trans (hb1'.mono hb0.size)
  clear hb1' y0 z0 hb0 hm0 SH0 SH
  have Hs : Hid _ := (isB (bare 3 b) rfl).size
  have H1 : Hid _ := (isB (bare 3 b) rfl).one
  go_upto_region 17 with (refine wpList_store_mid rfl 37 _ _ rfl (W.heap.size + 1) 0 (bare 3 b).cells rfl rfl (by exact z1.there _ Hs.out.symm) (by rw [Hs.out]; exact Try.infoBoard) H1.out ?_)
  have z2 := z1.setAll (bare 3 b).cells Hs.out
  have y2 : Blk (W1.setCells (W.heap.size + 1) 0 (bare 3 b).cells.toList) W.heap.size Z31 37 := y1.below (B := W.heap.size + 1) (by omega) (setCells_below (Nat.le_refl _) _ _ _ _ (Below.refl _ _))
  have hb2 := setCells_below (show W.heap.size ≤ W.heap.size + 1 by omega) (bare 3 b).cells.toList 0 _ _ hb1
  clear z1 y1 hb1 H1 Hs
  generalize W1.setCells (W.heap.size + 1) 0 (bare 3 b).cells.toList = W2 at *
  have c7 : W2.cell? ⟨m, 7, none⟩ = some (.int .u8 b.latch) := (hb2.cell (p := ⟨m, 7, none⟩) hm).trans ((Blk.cell BH.out 7).trans rfl)
  have t13 : W2.cell? ⟨W.heap.size + 1, 13, none⟩ = some (.int .u8 0) := (z2.cell 13).trans rfl
  have f13 := z2.free 13
  have ne : ¬ m = W.heap.size + 1 := by omega
  have ZH : Hid (Blk W2 (W.heap.size + 1) (bare 3 b).cells 37) := z2
  have YH : Hid (Blk W2 W.heap.size Z31 37) := y2
  clear z2 y2
  simp only [Act.put]
  go_upto_region 27 with fail
  have EQ : Hid (((bare 3 b).cells.setIfInBounds 13 (.int .u8 b.latch)) = (nL 3 b).cells) := rfl
  have zz : Blk (W2.setCell ⟨W.heap.size + 1, 13, none⟩ (.int .u8 b.latch)) (W.heap.size + 1) ((bare 3 b).cells.setIfInBounds 13 (.int .u8 b.latch)) 37 := (Blk.set ZH.out 13 (.int .u8 b.latch))
  have yy : Blk (W2.setCell ⟨W.heap.size + 1, 13, none⟩ (.int .u8 b.latch)) W.heap.size Z31 37 := (Blk.other YH.out (m := W.heap.size + 1) (by omega) 13 (.int .u8 b.latch))
  have hbb := (hb2.setCell (p := ⟨W.heap.size + 1, 13, none⟩) (Nat.le_succ _) (.int .u8 b.latch))
  generalize (W2.setCell ⟨W.heap.size + 1, 13, none⟩ (.int .u8 b.latch)) = W3 at *
  have b9 := zz
  rw [EQ.out] at b9
  have Hs : Hid _ := (isB (nL 3 b) rfl).size
  have H1 : Hid _ := (isB (nL 3 b) rfl).one
  generalize hL : (nL 3 b).cells = L at *
  have HL : Hid _ := hL
  clear hL
  go_wp2_with (first
    | refine wpList_load_mid rfl 37 _ rfl (W.heap.size + 1) 0 rfl L.toList _ b9.range Try.underlying37 rfl (by rw [Array.length_toList, Hs.out]; exact Try.infoBoard) ?_
    | refine wpList_store_mid rfl 37 _ _ rfl W.heap.size 0 L rfl rfl (by exact yy.there _ Hs.out.symm) (by rw [Hs.out]; exact Try.infoBoard) H1.out ?_)
  exact ret_agg (m := W.heap.size) (L := L) Try.results57 (by rfl) (yy.setAll L Hs.out) Try.underlying37 rfl (by rw [Hs.out]; exact Try.infoBoard) ⟨by rw [HL.out], setCells_below (Nat.le_refl _) _ _ _ _ hbb⟩


set_option maxRecDepth 100000 in
set_option maxHeartbeats 2000000 in
theorem plain_7 (W : World) (b : Bd) (_hr : b.r.length = 8) (m : Nat) (B : Blk W m (kLc b) 95) :
    Calls Try.prog 57 #[.iface 94 (.pointer (some ⟨m, 0, none⟩))] W fun e w' => e = .returned (.agg (nL 7 b).cells) ∧ Below W.heap.size W w' := by
  have hm := B.lt
  have S : Sh W m b := ⟨(B.cell 0).trans rfl, (B.cell 1).trans rfl, (B.cell 2).trans rfl, (B.cell 3).trans rfl, (B.cell 4).trans rfl, (B.cell 5).trans rfl, (B.cell 6).trans rfl⟩
  have tnrom : ∀ w : World, (Instr.typeAssert (.iface 94 (.pointer (some ⟨m, 0, none⟩))) 68 96 true).run Try.prog w = .ok (.tuple #[.pointer none, .bool false]) w := fun _ => by kernel_rfl
  have tmmc1 : ∀ w : World, (Instr.typeAssert (.iface 94 (.pointer (some ⟨m, 0, none⟩))) 68 79 true).run Try.prog w = .ok (.tuple #[.pointer none, .bool false]) w := fun _ => by kernel_rfl
  have tuxrom : ∀ w : World, (Instr.typeAssert (.iface 94 (.pointer (some ⟨m, 0, none⟩))) 68 82 true).run Try.prog w = .ok (.tuple #[.pointer none, .bool false]) w := fun _ => by kernel_rfl
  have tcnrom : ∀ w : World, (Instr.typeAssert (.iface 94 (.pointer (some ⟨m, 0, none⟩))) 68 87 true).run Try.prog w = .ok (.tuple #[.pointer none, .bool false]) w := fun _ => by kernel_rfl
  have tmmc3 : ∀ w : World, (Instr.typeAssert (.iface 94 (.pointer (some ⟨m, 0, none⟩))) 68 89 true).run Try.prog w = .ok (.tuple #[.pointer none, .bool false]) w := fun _ => by kernel_rfl
  have ty : ∀ w : World, (Instr.typeAssert (.iface 94 (.pointer (some ⟨m, 0, none⟩))) 68 94 true).run Try.prog w = .ok (.tuple #[.pointer (some ⟨m, 0, none⟩), .bool true]) w := fun _ => by kernel_rfl
  have BH : Hid (Blk W m (kLc b) 95) := B
  have SH : Hid _ := S
  clear B S
  go_enter Try.func57, Try.ntmps57
  go_upto_region 2 with fail
  change Code.wp _ _ _ _ ((W.alloc (.cells Z31 37)).alloc (.cells Z31 37))
  have y0 : Blk ((W.alloc (.cells Z31 37)).alloc (.cells Z31 37)) W.heap.size Z31 37 := (Blk.new W Z31 _).old _
  have z0 : Blk ((W.alloc (.cells Z31 37)).alloc (.cells Z31 37)) (W.heap.size + 1) Z31 37 := by
    have := Blk.new (W.alloc (.cells Z31 37)) Z31 37
    rwa [World.size_alloc] at this
  have hb0 : Below W.heap.size W ((W.alloc (.cells Z31 37)).alloc (.cells Z31 37)) := ((Below.refl _ _).alloc (Nat.le_refl _) _).alloc (by simp) _
  generalize (W.alloc (.cells Z31 37)).alloc (.cells Z31 37) = W0 at *
  have hm0 : m < W0.heap.size := by have := hb0.size; omega
  have S0 : Sh W0 m b := ⟨(hb0.cell (p := ⟨m, 0, none⟩) hm).trans SH.out.c0, (hb0.cell (p := ⟨m, 1, none⟩) hm).trans SH.out.c1, (hb0.cell (p := ⟨m, 2, none⟩) hm).trans SH.out.c2, (hb0.cell (p := ⟨m, 3, none⟩) hm).trans SH.out.c3, (hb0.cell (p := ⟨m, 4, none⟩) hm).trans SH.out.c4, (hb0.cell (p := ⟨m, 5, none⟩) hm).trans SH.out.c5, (hb0.cell (p := ⟨m, 6, none⟩) hm).trans SH.out.c6⟩
  have SH0 : Hid _ := S0
  clear S0
  go_wp2_with fail
  refine (plainOf_any W0 m 7 b SH0.out hm0).mono ?_
  rintro e W1 ⟨rfl, hb1'⟩
  have hz := z0.lt
  have y1 := y0.below y0.lt hb1'
  have z1 := z0.below z0.lt hb1'
  have hb1 : Below W.heap.size W W1 := hb0.trans (hb1'.mono hb0.size)
  clear hb1' y0 z0 hb0 hm0 SH0 SH
  have Hs : Hid _ := (isB (bare 7 b) rfl).size
  have H1 : Hid _ := (isB (bare 7 b) rfl).one
  go_upto_region 26 with (refine wpList_store_mid rfl 37 _ _ rfl (W.heap.size + 1) 0 (bare 7 b).cells rfl rfl (by exact z1.there _ Hs.out.symm) (by rw [Hs.out]; exact Try.infoBoard) H1.out ?_)
  have z2 := z1.setAll (bare 7 b).cells Hs.out
  have y2 : Blk (W1.setCells (W.heap.size + 1) 0 (bare 7 b).cells.toList) W.heap.size Z31 37 := y1.below (B := W.heap.size + 1) (by omega) (setCells_below (Nat.le_refl _) _ _ _ _ (Below.refl _ _))
  have hb2 := setCells_below (show W.heap.size ≤ W.heap.size + 1 by omega) (bare 7 b).cells.toList 0 _ _ hb1
  clear z1 y1 hb1 H1 Hs
  generalize W1.setCells (W.heap.size + 1) 0 (bare 7 b).cells.toList = W2 at *
  have c7 : W2.cell? ⟨m, 7, none⟩ = some (.int .u8 b.latch) := (hb2.cell (p := ⟨m, 7, none⟩) hm).trans ((Blk.cell BH.out 7).trans rfl)
  have t13 : W2.cell? ⟨W.heap.size + 1, 13, none⟩ = some (.int .u8 0) := (z2.cell 13).trans rfl
  have f13 := z2.free 13
  have ne : ¬ m = W.heap.size + 1 := by omega
  have ZH : Hid (Blk W2 (W.heap.size + 1) (bare 7 b).cells 37) := z2
  have YH : Hid (Blk W2 W.heap.size Z31 37) := y2
  clear z2 y2
  simp only [Act.put]
  go_upto_region 27 with fail
  have EQ : Hid (((bare 7 b).cells.setIfInBounds 13 (.int .u8 b.latch)) = (nL 7 b).cells) := rfl
  have zz : Blk (W2.setCell ⟨W.heap.size + 1, 13, none⟩ (.int .u8 b.latch)) (W.heap.size + 1) ((bare 7 b).cells.setIfInBounds 13 (.int .u8 b.latch)) 37 := (Blk.set ZH.out 13 (.int .u8 b.latch))
  have yy : Blk (W2.setCell ⟨W.heap.size + 1, 13, none⟩ (.int .u8 b.latch)) W.heap.size Z31 37 := (Blk.other YH.out (m := W.heap.size + 1) (by omega) 13 (.int .u8 b.latch))
  have hbb := (hb2.setCell (p := ⟨W.heap.size + 1, 13, none⟩) (Nat.le_succ _) (.int .u8 b.latch))
  generalize (W2.setCell ⟨W.heap.size + 1, 13, none⟩ (.int .u8 b.latch)) = W3 at *
  have b9 := zz
  rw [EQ.out] at b9
  have Hs : Hid _ := (isB (nL 7 b) rfl).size
  have H1 : Hid _ := (isB (nL 7 b) rfl).one
  generalize hL : (nL 7 b).cells = L at *
  have HL : Hid _ := hL
  clear hL
  go_wp2_with (first
    | refine wpList_load_mid rfl 37 _ rfl (W.heap.size + 1) 0 rfl L.toList _ b9.range Try.underlying37 rfl (by rw [Array.length_toList, Hs.out]; exact Try.infoBoard) ?_
    | refine wpList_store_mid rfl 37 _ _ rfl W.heap.size 0 L rfl rfl (by exact yy.there _ Hs.out.symm) (by rw [Hs.out]; exact Try.infoBoard) H1.out ?_)
  exact ret_agg (m := W.heap.size) (L := L) Try.results57 (by rfl) (yy.setAll L Hs.out) Try.underlying37 rfl (by rw [Hs.out]; exact Try.infoBoard) ⟨by rw [HL.out], setCells_below (Nat.le_refl _) _ _ _ _ hbb⟩


set_option maxRecDepth 100000 in
set_option maxHeartbeats 2000000 in
theorem plain_0 (W : World) (b : Bd) (_hr : b.r.length = 8) (m : Nat) (B : Blk W m (k0c b) 98) :
    Calls Try.prog 57 #[.iface 96 (.pointer (some ⟨m, 0, none⟩))] W fun e w' => e = .returned (.agg (bare 0 b).cells) ∧ Below W.heap.size W w' := by
  have hm := B.lt
  have S : Sh W m b := ⟨(B.cell 0).trans rfl, (B.cell 1).trans rfl, (B.cell 2).trans rfl, (B.cell 3).trans rfl, (B.cell 4).trans rfl, (B.cell 5).trans rfl, (B.cell 6).trans rfl⟩
  have ty : ∀ w : World, (Instr.typeAssert (.iface 96 (.pointer (some ⟨m, 0, none⟩))) 68 96 true).run Try.prog w = .ok (.tuple #[.pointer (some ⟨m, 0, none⟩), .bool true]) w := fun _ => by kernel_rfl
  have BH : Hid (Blk W m (k0c b) 98) := B
  have SH : Hid _ := S
  clear B S
  go_enter Try.func57, Try.ntmps57
  go_upto_region 2 with fail
  change Code.wp _ _ _ _ ((W.alloc (.cells Z31 37)).alloc (.cells Z31 37))
  have y0 : Blk ((W.alloc (.cells Z31 37)).alloc (.cells Z31 37)) W.heap.size Z31 37 := (Blk.new W Z31 _).old _
  have z0 : Blk ((W.alloc (.cells Z31 37)).alloc (.cells Z31 37)) (W.heap.size + 1) Z31 37 := by
    have := Blk.new (W.alloc (.cells Z31 37)) Z31 37
    rwa [World.size_alloc] at this
  have hb0 : Below W.heap.size W ((W.alloc (.cells Z31 37)).alloc (.cells Z31 37)) := ((Below.refl _ _).alloc (Nat.le_refl _) _).alloc (by simp) _
  generalize (W.alloc (.cells Z31 37)).alloc (.cells Z31 37) = W0 at *
  have hm0 : m < W0.heap.size := by have := hb0.size; omega
  have S0 : Sh W0 m b := ⟨(hb0.cell (p := ⟨m, 0, none⟩) hm).trans SH.out.c0, (hb0.cell (p := ⟨m, 1, none⟩) hm).trans SH.out.c1, (hb0.cell (p := ⟨m, 2, none⟩) hm).trans SH.out.c2, (hb0.cell (p := ⟨m, 3, none⟩) hm).trans SH.out.c3, (hb0.cell (p := ⟨m, 4, none⟩) hm).trans SH.out.c4, (hb0.cell (p := ⟨m, 5, none⟩) hm).trans SH.out.c5, (hb0.cell (p := ⟨m, 6, none⟩) hm).trans SH.out.c6⟩
  have SH0 : Hid _ := S0
  clear S0
  go_wp2_with fail
  refine (plainOf_any W0 m 0 b SH0.out hm0).mono ?_
  rintro e W1 ⟨rfl, hb1'⟩
  have hz := z0.lt
  have y1 := y0.below y0.lt hb1'
  have z1 := z0.below z0.lt hb1'
  have hb1 : Below W.heap.size W W1 := hb0.trans (hb1'.mono hb0.size)
  clear hb1' y0 z0 hb0 hm0 SH0 SH
  have Hs : Hid _ := (isB (bare 0 b) rfl).size
  have H1 : Hid _ := (isB (bare 0 b) rfl).one
  go_upto_region 27 with (refine wpList_store_mid rfl 37 _ _ rfl (W.heap.size + 1) 0 (bare 0 b).cells rfl rfl (by exact z1.there _ Hs.out.symm) (by rw [Hs.out]; exact Try.infoBoard) H1.out ?_)
  have z2 := z1.setAll (bare 0 b).cells Hs.out
  have y2 : Blk (W1.setCells (W.heap.size + 1) 0 (bare 0 b).cells.toList) W.heap.size Z31 37 := y1.below (B := W.heap.size + 1) (by omega) (setCells_below (Nat.le_refl _) _ _ _ _ (Below.refl _ _))
  have hb2 := setCells_below (show W.heap.size ≤ W.heap.size + 1 by omega) (bare 0 b).cells.toList 0 _ _ hb1
  clear z1 y1 hb1 H1 Hs
  generalize W1.setCells (W.heap.size + 1) 0 (bare 0 b).cells.toList = W2 at *
  have ZH : Hid (Blk W2 (W.heap.size + 1) (bare 0 b).cells 37) := z2
  have YH : Hid (Blk W2 W.heap.size Z31 37) := y2
  clear z2 y2
  simp only [Act.put]
  have EQ : Hid ((bare 0 b).cells = (bare 0 b).cells) := rfl
  have zz : Blk W2 (W.heap.size + 1) (bare 0 b).cells 37 := ZH.out
  have yy : Blk W2 W.heap.size Z31 37 := YH.out
  have hbb := hb2
  have b9 := zz
  clear EQ
  have Hs : Hid _ := (isB (bare 0 b) rfl).size
  have H1 : Hid _ := (isB (bare 0 b) rfl).one
  generalize hL : (bare 0 b).cells = L at *
  have HL : Hid _ := hL
  clear hL
  go_wp2_with (first
    | refine wpList_load_mid rfl 37 _ rfl (W.heap.size + 1) 0 rfl L.toList _ b9.range Try.underlying37 rfl (by rw [Array.length_toList, Hs.out]; exact Try.infoBoard) ?_
    | refine wpList_store_mid rfl 37 _ _ rfl W.heap.size 0 L rfl rfl (by exact yy.there _ Hs.out.symm) (by rw [Hs.out]; exact Try.infoBoard) H1.out ?_)
  exact ret_agg (m := W.heap.size) (L := L) Try.results57 (by rfl) (yy.setAll L Hs.out) Try.underlying37 rfl (by rw [Hs.out]; exact Try.infoBoard) ⟨by rw [HL.out], setCells_below (Nat.le_refl _) _ _ _ _ hbb⟩

end Go.Proofs.Ytecaipakaaongaa
