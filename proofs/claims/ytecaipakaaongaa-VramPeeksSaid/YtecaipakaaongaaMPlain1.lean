/-
  What plain answers of an MMC1; conditions: the block holds the kind's cells.
-/
import Derived.Test.YtecaipakaaongaaMK
namespace Go.Proofs.Ytecaipakaaongaa
open Go.RowKit Classical
def n1 (b : Bd) : Bd := { bare 1 b with shift := b.shift, ctrl := b.ctrl, chrA := b.chrA, chrB := b.chrB, prgR := b.prgR, last := b.last }

set_option maxRecDepth 100000 in
set_option maxHeartbeats 2000000 in
theorem plain_1 (W : World) (b : Bd) (_hr : b.r.length = 8) (m : Nat) (B : Blk W m (k1c b) 81) :
    Calls Try.prog 57 #[.iface 79 (.pointer (some ⟨m, 0, none⟩))] W fun e w' => e = .returned (.agg (n1 b).cells) ∧ Below W.heap.size W w' := by
  have hm := B.lt
  have S : Sh W m b := ⟨(B.cell 0).trans rfl, (B.cell 1).trans rfl, (B.cell 2).trans rfl, (B.cell 3).trans rfl, (B.cell 4).trans rfl, (B.cell 5).trans rfl, (B.cell 6).trans rfl⟩
  have tnrom : ∀ w : World, (Instr.typeAssert (.iface 79 (.pointer (some ⟨m, 0, none⟩))) 68 96 true).run Try.prog w = .ok (.tuple #[.pointer none, .bool false]) w := fun _ => by kernel_rfl
  have ty : ∀ w : World, (Instr.typeAssert (.iface 79 (.pointer (some ⟨m, 0, none⟩))) 68 79 true).run Try.prog w = .ok (.tuple #[.pointer (some ⟨m, 0, none⟩), .bool true]) w := fun _ => by kernel_rfl
  have BH : Hid (Blk W m (k1c b) 81) := B
  have SH : Hid _ := S
  clear B S
  go_enter Try.func57, Try.ntmps57
  go_upto_region 2 with fail
  change Code.wp _ _ _ _ ((W.alloc (.cells Z31 37)).alloc (.cells Z31 37))
  have y0 : Blk ((W.alloc (.cells Z31 37)).alloc (.cells Z31 37)) W.heap.size Z31 37 := (Blk.new W Z31 _).old _
  have z0 : Blk ((W.alloc (.cells Z31 37)).alloc (.cells Z31 37)) (W.heap.size + 1) Z31 37 := by
    have := Blk.new (W.alloc (.cells Z31 37)) Z31 37
    rwa [World.size_alloc] at this
  have hb0 : Below W.heap.size W ((W.alloc (.cells Z31 37)).alloc (.cells Z31 37)) := ((Below.refl _ _).alloc (Nat.le_refl _) _).alloc (by simp) _
  generalize (W.alloc (.cells Z31 37)).alloc (.cells Z31 37) = W0 at *
  have hm0 : m < W0.heap.size := by have := hb0.size; omega
  have S0 : Sh W0 m b := ⟨(hb0.cell (p := ⟨m, 0, none⟩) hm).trans SH.out.c0, (hb0.cell (p := ⟨m, 1, none⟩) hm).trans SH.out.c1, (hb0.cell (p := ⟨m, 2, none⟩) hm).trans SH.out.c2, (hb0.cell (p := ⟨m, 3, none⟩) hm).trans SH.out.c3, (hb0.cell (p := ⟨m, 4, none⟩) hm).trans SH.out.c4, (hb0.cell (p := ⟨m, 5, none⟩) hm).trans SH.out.c5, (hb0.cell (p := ⟨m, 6, none⟩) hm).trans SH.out.c6⟩
  have SH0 : Hid _ := S0
  clear S0
  go_wp2_with fail
  refine (plainOf_any W0 m 1 b SH0.out hm0).mono ?_
  rintro e W1 ⟨rfl, hb1'⟩
  have hz := z0.lt
  have y1 := y0.below y0.lt hb1'
  have z1 := z0.below z0.lt hb1'
  have hb1 : Below W.heap.size W W1 := hb0.trans (hb1'.mono hb0.size)
  clear hb1' y0 z0 hb0 hm0 SH0 SH
  have Hs : Hid _ := (isB (bare 1 b) rfl).size
  have H1 : Hid _ := (isB (bare 1 b) rfl).one
  go_upto_region 9 with (refine wpList_store_mid rfl 37 _ _ rfl (W.heap.size + 1) 0 (bare 1 b).cells rfl rfl (by exact z1.there _ Hs.out.symm) (by rw [Hs.out]; exact Try.infoBoard) H1.out ?_)
  have z2 := z1.setAll (bare 1 b).cells Hs.out
  have y2 : Blk (W1.setCells (W.heap.size + 1) 0 (bare 1 b).cells.toList) W.heap.size Z31 37 := y1.below (B := W.heap.size + 1) (by omega) (setCells_below (Nat.le_refl _) _ _ _ _ (Below.refl _ _))
  have hb2 := setCells_below (show W.heap.size ≤ W.heap.size + 1 by omega) (bare 1 b).cells.toList 0 _ _ hb1
  clear z1 y1 hb1 H1 Hs
  generalize W1.setCells (W.heap.size + 1) 0 (bare 1 b).cells.toList = W2 at *
  have c7 : W2.cell? ⟨m, 7, none⟩ = some (.int .u8 b.shift) := (hb2.cell (p := ⟨m, 7, none⟩) hm).trans ((Blk.cell BH.out 7).trans rfl)
  have t7 : W2.cell? ⟨W.heap.size + 1, 7, none⟩ = some (.int .u8 0) := (z2.cell 7).trans rfl
  have f7 := z2.free 7
  have c8 : W2.cell? ⟨m, 8, none⟩ = some (.int .u8 b.ctrl) := (hb2.cell (p := ⟨m, 8, none⟩) hm).trans ((Blk.cell BH.out 8).trans rfl)
  have t8 : W2.cell? ⟨W.heap.size + 1, 8, none⟩ = some (.int .u8 0) := (z2.cell 8).trans rfl
  have f8 := z2.free 8
  have c9 : W2.cell? ⟨m, 9, none⟩ = some (.int .u8 b.chrA) := (hb2.cell (p := ⟨m, 9, none⟩) hm).trans ((Blk.cell BH.out 9).trans rfl)
  have t9 : W2.cell? ⟨W.heap.size + 1, 9, none⟩ = some (.int .u8 0) := (z2.cell 9).trans rfl
  have f9 := z2.free 9
  have c10 : W2.cell? ⟨m, 10, none⟩ = some (.int .u8 b.chrB) := (hb2.cell (p := ⟨m, 10, none⟩) hm).trans ((Blk.cell BH.out 10).trans rfl)
  have t10 : W2.cell? ⟨W.heap.size + 1, 10, none⟩ = some (.int .u8 0) := (z2.cell 10).trans rfl
  have f10 := z2.free 10
  have c11 : W2.cell? ⟨m, 11, none⟩ = some (.int .u8 b.prgR) := (hb2.cell (p := ⟨m, 11, none⟩) hm).trans ((Blk.cell BH.out 11).trans rfl)
  have t11 : W2.cell? ⟨W.heap.size + 1, 11, none⟩ = some (.int .u8 0) := (z2.cell 11).trans rfl
  have f11 := z2.free 11
  have c12 : W2.cell? ⟨m, 12, none⟩ = some (.int .i64 b.last) := (hb2.cell (p := ⟨m, 12, none⟩) hm).trans ((Blk.cell BH.out 12).trans rfl)
  have t12 : W2.cell? ⟨W.heap.size + 1, 12, none⟩ = some (.int .i64 0) := (z2.cell 12).trans rfl
  have f12 := z2.free 12
  have ne : ¬ m = W.heap.size + 1 := by omega
  have ZH : Hid (Blk W2 (W.heap.size + 1) (bare 1 b).cells 37) := z2
  have YH : Hid (Blk W2 W.heap.size Z31 37) := y2
  clear z2 y2
  simp only [Act.put]
  go_region
  have EQ : Hid ((((((((bare 1 b).cells.setIfInBounds 7 (.int .u8 b.shift)).setIfInBounds 8 (.int .u8 b.ctrl)).setIfInBounds 9 (.int .u8 b.chrA)).setIfInBounds 10 (.int .u8 b.chrB)).setIfInBounds 11 (.int .u8 b.prgR)).setIfInBounds 12 (.int .i64 b.last)) = (n1 b).cells) := rfl
  have zz : Blk ((((((W2.setCell ⟨W.heap.size + 1, 7, none⟩ (.int .u8 b.shift)).setCell ⟨W.heap.size + 1, 8, none⟩ (.int .u8 b.ctrl)).setCell ⟨W.heap.size + 1, 9, none⟩ (.int .u8 b.chrA)).setCell ⟨W.heap.size + 1, 10, none⟩ (.int .u8 b.chrB)).setCell ⟨W.heap.size + 1, 11, none⟩ (.int .u8 b.prgR)).setCell ⟨W.heap.size + 1, 12, none⟩ (.int .i64 b.last)).drew (W.heap.size + 1) (((((((bare 1 b).cells.setIfInBounds 7 (.int .u8 b.shift)).setIfInBounds 8 (.int .u8 b.ctrl)).setIfInBounds 9 (.int .u8 b.chrA)).setIfInBounds 10 (.int .u8 b.chrB)).setIfInBounds 11 (.int .u8 b.prgR)).setIfInBounds 12 (.int .i64 b.last)) 37 := (Blk.drew (Blk.set (Blk.set (Blk.set (Blk.set (Blk.set (Blk.set ZH.out 7 (.int .u8 b.shift)) 8 (.int .u8 b.ctrl)) 9 (.int .u8 b.chrA)) 10 (.int .u8 b.chrB)) 11 (.int .u8 b.prgR)) 12 (.int .i64 b.last)))
  have yy : Blk ((((((W2.setCell ⟨W.heap.size + 1, 7, none⟩ (.int .u8 b.shift)).setCell ⟨W.heap.size + 1, 8, none⟩ (.int .u8 b.ctrl)).setCell ⟨W.heap.size + 1, 9, none⟩ (.int .u8 b.chrA)).setCell ⟨W.heap.size + 1, 10, none⟩ (.int .u8 b.chrB)).setCell ⟨W.heap.size + 1, 11, none⟩ (.int .u8 b.prgR)).setCell ⟨W.heap.size + 1, 12, none⟩ (.int .i64 b.last)).drew W.heap.size Z31 37 := (Blk.drew (Blk.other (Blk.other (Blk.other (Blk.other (Blk.other (Blk.other YH.out (m := W.heap.size + 1) (by omega) 7 (.int .u8 b.shift)) (m := W.heap.size + 1) (by omega) 8 (.int .u8 b.ctrl)) (m := W.heap.size + 1) (by omega) 9 (.int .u8 b.chrA)) (m := W.heap.size + 1) (by omega) 10 (.int .u8 b.chrB)) (m := W.heap.size + 1) (by omega) 11 (.int .u8 b.prgR)) (m := W.heap.size + 1) (by omega) 12 (.int .i64 b.last)))
  have hbb := (((((((hb2.setCell (p := ⟨W.heap.size + 1, 7, none⟩) (Nat.le_succ _) (.int .u8 b.shift)).setCell (p := ⟨W.heap.size + 1, 8, none⟩) (Nat.le_succ _) (.int .u8 b.ctrl)).setCell (p := ⟨W.heap.size + 1, 9, none⟩) (Nat.le_succ _) (.int .u8 b.chrA)).setCell (p := ⟨W.heap.size + 1, 10, none⟩) (Nat.le_succ _) (.int .u8 b.chrB)).setCell (p := ⟨W.heap.size + 1, 11, none⟩) (Nat.le_succ _) (.int .u8 b.prgR)).setCell (p := ⟨W.heap.size + 1, 12, none⟩) (Nat.le_succ _) (.int .i64 b.last))).drew
  generalize ((((((W2.setCell ⟨W.heap.size + 1, 7, none⟩ (.int .u8 b.shift)).setCell ⟨W.heap.size + 1, 8, none⟩ (.int .u8 b.ctrl)).setCell ⟨W.heap.size + 1, 9, none⟩ (.int .u8 b.chrA)).setCell ⟨W.heap.size + 1, 10, none⟩ (.int .u8 b.chrB)).setCell ⟨W.heap.size + 1, 11, none⟩ (.int .u8 b.prgR)).setCell ⟨W.heap.size + 1, 12, none⟩ (.int .i64 b.last)).drew = W3 at *
  have b9 := zz
  rw [EQ.out] at b9
  have Hs : Hid _ := (isB (n1 b) rfl).size
  have H1 : Hid _ := (isB (n1 b) rfl).one
  generalize hL : (n1 b).cells = L at *
  have HL : Hid _ := hL
  clear hL
  go_wp2_with (first
    | refine wpList_load_mid rfl 37 _ rfl (W.heap.size + 1) 0 rfl L.toList _ b9.range Try.underlying37 rfl (by rw [Array.length_toList, Hs.out]; exact Try.infoBoard) ?_
    | refine wpList_store_mid rfl 37 _ _ rfl W.heap.size 0 L rfl rfl (by exact yy.there _ Hs.out.symm) (by rw [Hs.out]; exact Try.infoBoard) H1.out ?_)
  exact ret_agg (m := W.heap.size) (L := L) Try.results57 (by rfl) (yy.setAll L Hs.out) Try.underlying37 rfl (by rw [Hs.out]; exact Try.infoBoard) ⟨by rw [HL.out], setCells_below (Nat.le_refl _) _ _ _ _ hbb⟩

end Go.Proofs.Ytecaipakaaongaa
