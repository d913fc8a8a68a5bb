/-
  What the document's Valid answers of an MMC3; conditions: the numbers fit their kinds.
-/
import Derived.Test.YtecaipakaaongaaMRefV1
import Derived.Test.YtecaipakaaongaaMOpen4
namespace Go.Proofs.Ytecaipakaaongaa
open Go.RowKit Classical
def r30 (b : Bd) : Bool := (bits .and .u8 b.sel 56 != 0) || (decide (1 < b.turn) || (bits .and .u8 b.guard 63 != 0))
def r32 (b : Bd) : Bool := (b.iLoad && (b.iCount != 0)) || (b.irq && !b.iOn)
theorem sel_bits : ∀ n : Nat, n < 256 → (bits .andNot .u8 n 199 == 0) = !(bits .and .u8 n 56 != 0) := by decide +kernel
theorem guard_bits : ∀ n : Nat, n < 256 → (bits .andNot .u8 n 192 == 0) = !(bits .and .u8 n 63 != 0) := by decide +kernel
theorem regs4_eq (b : Bd) (B : b.Wf) : regs4 b = (!r30 b && !r32 b) := by
  have e1 := sel_bits b.sel.toNat (by have := B.sel; omega)
  have e2 := guard_bits b.guard.toNat (by have := B.guard; omega)
  rw [Int.toNat_of_nonneg B.sel.1] at e1
  rw [Int.toNat_of_nonneg B.guard.1] at e2
  have e3 : decide (b.turn ≤ 1) = !decide (1 < b.turn) := by
    rw [Bool.eq_iff_iff]; simp only [decide_eq_true_eq, Bool.not_eq_true', decide_eq_false_iff_not]; omega
  unfold regs4 r30 r32 fitsV
  rw [e1, e2, e3]
  simp only [bne]
  cases (bits .and .u8 b.sel 56 == 0) <;> cases (bits .and .u8 b.guard 63 == 0) <;> cases decide (1 < b.turn) <;> cases b.iLoad <;> cases (b.iCount == 0) <;> cases b.irq <;> cases b.iOn <;> rfl

set_option maxRecDepth 100000 in
set_option maxHeartbeats 800000 in
theorem refValid_4 (w : World) (b : Bd) (B : b.Wf) (hk : b.kind = 4) :
    Calls Try.prog 26 #[.agg b.cells] w fun e w' => e = .returned (.bool (lst b.kind b.sub && val4 b)) ∧ Below w.heap.size w w' := by
  have hr := B.rlen
  have C := isB b hr
  have SO := fun W => sized_any W b hr
  generalize hcs : b.cells = cs at C SO
  have hsz := C.size
  have HS : Hid _ := hsz
  have HO : Hid _ := SO
  have HC : Hid _ := hcs
  have CC : Hid _ := C
  have BW : Hid _ := B
  clear SO hcs B
  go_enter Try.func26, Try.ntmps26
  go_upto_region 1 with fail
  have b0 : Blk (w.alloc (.cells cs 37)) w.heap.size cs 37 := Blk.new w cs _
  have hb0 : Below w.heap.size w (w.alloc (.cells cs 37)) := (Below.refl _ _).alloc (Nat.le_refl _) _
  generalize w.alloc (.cells cs 37) = W0 at *
  clear C hsz
  go_wp2_with (refine wpList_load_mid rfl 37 _ rfl w.heap.size 0 rfl cs.toList _ b0.range Try.underlying37 rfl (by rw [Array.length_toList, HS.out]; exact Try.infoBoard) ?_)
  refine (HO.out W0).mono ?_
  rintro e W1 ⟨rfl, hb1'⟩
  have hN : w.heap.size < W0.heap.size := b0.lt
  have hS : w.heap.size < W1.heap.size := by have := hb1'.size; omega
  have b1 := b0.below hN hb1'
  have hb1 : Below w.heap.size w W1 := hb0.trans (hb1'.mono (by omega))
  clear hb0 hb1' b0 hN
  cases HV : (lst b.kind b.sub && sizes b)
  · have HVH : Hid ((lst b.kind b.sub && sizes b) = false) := HV
    clear HV
    go_wp2
    go_ret
    exact ⟨by unfold val4; rw [sameB_dec]; rw [val_no HVH.out]; rfl, hb1⟩
  have HVH : Hid ((lst b.kind b.sub && sizes b) = true) := HV
  clear HV
  have d0 : W1.cell? ⟨w.heap.size, 0, none⟩ = some (.int .i64 4) := (b1.cell 0).trans (CC.out.h0.trans (by rw [hk]))
  have d1 := (b1.cell 1).trans CC.out.h1
  have d2 := (b1.cell 2).trans CC.out.h2
  have d3 := (b1.cell 3).trans CC.out.h3
  have d4 := (b1.cell 4).trans CC.out.h4
  have d5 := (b1.cell 5).trans CC.out.h5
  have d6 := (b1.cell 6).trans CC.out.h6
  have d30 := (b1.cell 30).trans CC.out.h30
  have hb2 : Below w.heap.size w (W1.alloc (.cells Z31 37)) := hb1.alloc (by omega) _
  have z1 : Blk (W1.alloc (.cells Z31 37)) W1.heap.size Z31 37 := Blk.new W1 Z31 _
  have b2 : Blk (W1.alloc (.cells Z31 37)) w.heap.size cs 37 := b1.old _
  have KH : Hid (b.kind = 4) := hk
  have Hs : Hid _ := (isB (bare 4 b) rfl).size
  have H1 : Hid _ := (isB (bare 4 b) rfl).one
  clear hb1 b1 hk
  go_upto_region 3 with fail
  go_cut [3] (fun v wx => v = .pointer (some ⟨W1.heap.size, 0, none⟩) ∧ Blk wx W1.heap.size (bare 4 b).cells 37 ∧ Blk wx w.heap.size cs 37 ∧ Below w.heap.size w wx)
  case first =>
    go_wp2_with (refine wpList_store_mid rfl 37 _ _ rfl W1.heap.size 0 (bare 4 b).cells rfl rfl (by exact z1.there _ Hs.out.symm) (by rw [Hs.out]; exact Try.infoBoard) H1.out ?_)
    go_meet
    exact ⟨rfl, z1.setAll (bare 4 b).cells Hs.out, b2.below hS (setCells_below (Nat.le_refl _) _ _ _ _ (Below.refl _ _)), setCells_below (show w.heap.size ≤ W1.heap.size by omega) (bare 4 b).cells.toList 0 _ _ hb2⟩
  obtain ⟨rfl, z2, b3, hb3⟩ := hcut
  clear z1 b2 hb2 d0 d1 d2 d3 d4 d5 d6 d30 Hs H1 HO
  obtain ⟨W2, hW2⟩ : ∃ x, x = wc := ⟨wc, rfl⟩
  subst hW2
  have d0 : W2.cell? ⟨w.heap.size, 0, none⟩ = some (.int .i64 4) := (b3.cell 0).trans (CC.out.h0.trans (by rw [KH.out]))
  have ne : ¬ w.heap.size = W1.heap.size := by omega
  obtain ⟨a0, a1, a2, a3, a4, a5, a6, a7, er⟩ := Bd.eight hr
  have ER : Hid _ := er
  clear er
  have c14 := (b3.cell 14).trans CC.out.h14
  have t14 : W2.cell? ⟨W1.heap.size, 14, none⟩ = some (.int .u8 0) := (z2.cell 14).trans rfl
  have f14 := z2.free 14
  have ZH : Hid (Blk W2 W1.heap.size (bare 4 b).cells 37) := z2
  have BH : Hid (Blk W2 w.heap.size cs 37) := b3
  clear z2 b3
  go_upto_region 22 with fail
  have zz : Blk (W2.setCell ⟨W1.heap.size, 14, none⟩ (.int .u8 b.sel)) W1.heap.size ((bare 4 b).cells.setIfInBounds 14 (.int .u8 b.sel)) 37 := (Blk.set ZH.out 14 (.int .u8 b.sel))
  have bb : Blk (W2.setCell ⟨W1.heap.size, 14, none⟩ (.int .u8 b.sel)) w.heap.size cs 37 := (Blk.other BH.out (m := W1.heap.size) (by omega) 14 (.int .u8 b.sel))
  have hbb := (hb3.setCell (p := ⟨W1.heap.size, 14, none⟩) (Nat.le_of_lt hS) (.int .u8 b.sel))
  generalize (W2.setCell ⟨W1.heap.size, 14, none⟩ (.int .u8 b.sel)) = W3 at *
  clear c14 t14 f14 hb3 ZH BH d0
  have hR : W3.rangeAt w.heap.size 15 [.int .u8 a0, .int .u8 a1, .int .u8 a2, .int .u8 a3, .int .u8 a4, .int .u8 a5, .int .u8 a6, .int .u8 a7] := by
    intro j v hv
    rw [bb.cell (15 + j)]
    have hj : j < 8 := by have := (List.getElem?_eq_some_iff.1 hv).1; simpa using this
    rw [CC.out.r j hj, ER.out]
    match j, hj with
    | 0, _ | 1, _ | 2, _ | 3, _ | 4, _ | 5, _ | 6, _ | 7, _ => simpa using hv
  have HR : Hid _ := hR
  have Z4 : Hid ((bare 4 b).cells.size = 31) := (isB (bare 4 b) rfl).size
  have HT : Hid _ := Blk.thereAt zz 15 8 (by simp only [Array.size_setIfInBounds]; rw [Z4.out]; omega)
  clear hR
  go_cut [] (fun wx => Blk wx W1.heap.size (writeAll ((bare 4 b).cells.setIfInBounds 14 (.int .u8 b.sel)) 15 [.int .u8 a0, .int .u8 a1, .int .u8 a2, .int .u8 a3, .int .u8 a4, .int .u8 a5, .int .u8 a6, .int .u8 a7]) 37 ∧ Blk wx w.heap.size cs 37 ∧ Below w.heap.size w wx)
  case first =>
    go_wp2_with (first
      | refine wpList_load_mid rfl 35 _ rfl w.heap.size 15 rfl [.int .u8 a0, .int .u8 a1, .int .u8 a2, .int .u8 a3, .int .u8 a4, .int .u8 a5, .int .u8 a6, .int .u8 a7] _ HR.out Try.underlying35 rfl (by kernel_rfl) ?_
      | refine wpList_store_mid rfl 35 _ _ rfl W1.heap.size 15 #[.int .u8 a0, .int .u8 a1, .int .u8 a2, .int .u8 a3, .int .u8 a4, .int .u8 a5, .int .u8 a6, .int .u8 a7] rfl rfl HT.out (by kernel_rfl) (by kernel_rfl) ?_)
    go_meet
    exact ⟨Blk.setCells [.int .u8 a0, .int .u8 a1, .int .u8 a2, .int .u8 a3, .int .u8 a4, .int .u8 a5, .int .u8 a6, .int .u8 a7] 15 _ _ zz, Blk.otherCells bb (by omega) [.int .u8 a0, .int .u8 a1, .int .u8 a2, .int .u8 a3, .int .u8 a4, .int .u8 a5, .int .u8 a6, .int .u8 a7] 15, setCells_below (Nat.le_of_lt hS) [.int .u8 a0, .int .u8 a1, .int .u8 a2, .int .u8 a3, .int .u8 a4, .int .u8 a5, .int .u8 a6, .int .u8 a7] 15 _ _ hbb⟩
  clear zz bb hbb HR HT
  obtain ⟨zz, bb, hbb⟩ := hcut
  obtain ⟨W4, hW4⟩ : ∃ x, x = wc := ⟨wc, rfl⟩
  subst hW4
  have c23 := (bb.cell 23).trans CC.out.h23
  have t23 : W4.cell? ⟨W1.heap.size, 23, none⟩ = some (.int .u8 0) := (zz.cell 23).trans (by kernel_rfl)
  have f23 := zz.free 23
  have c24 := (bb.cell 24).trans CC.out.h24
  have t24 : W4.cell? ⟨W1.heap.size, 24, none⟩ = some (.int .u8 0) := (zz.cell 24).trans (by kernel_rfl)
  have f24 := zz.free 24
  have c25 := (bb.cell 25).trans CC.out.h25
  have t25 : W4.cell? ⟨W1.heap.size, 25, none⟩ = some (.int .u8 0) := (zz.cell 25).trans (by kernel_rfl)
  have f25 := zz.free 25
  have c26 := (bb.cell 26).trans CC.out.h26
  have t26 : W4.cell? ⟨W1.heap.size, 26, none⟩ = some (.int .u8 0) := (zz.cell 26).trans (by kernel_rfl)
  have f26 := zz.free 26
  have c27 := (bb.cell 27).trans CC.out.h27
  have t27 : W4.cell? ⟨W1.heap.size, 27, none⟩ = some (.bool false) := (zz.cell 27).trans (by kernel_rfl)
  have f27 := zz.free 27
  have c28 := (bb.cell 28).trans CC.out.h28
  have t28 : W4.cell? ⟨W1.heap.size, 28, none⟩ = some (.bool false) := (zz.cell 28).trans (by kernel_rfl)
  have f28 := zz.free 28
  have c29 := (bb.cell 29).trans CC.out.h29
  have t29 : W4.cell? ⟨W1.heap.size, 29, none⟩ = some (.bool false) := (zz.cell 29).trans (by kernel_rfl)
  have f29 := zz.free 29
  have ZH : Hid (Blk W4 W1.heap.size (writeAll ((bare 4 b).cells.setIfInBounds 14 (.int .u8 b.sel)) 15 [.int .u8 a0, .int .u8 a1, .int .u8 a2, .int .u8 a3, .int .u8 a4, .int .u8 a5, .int .u8 a6, .int .u8 a7]) 37) := zz
  have BH : Hid (Blk W4 w.heap.size cs 37) := bb
  clear zz bb
  go_upto_region 30 with fail
  have EQ : Hid (((((((((writeAll ((bare 4 b).cells.setIfInBounds 14 (.int .u8 b.sel)) 15 [.int .u8 a0, .int .u8 a1, .int .u8 a2, .int .u8 a3, .int .u8 a4, .int .u8 a5, .int .u8 a6, .int .u8 a7]).setIfInBounds 23 (.int .u8 b.turn)).setIfInBounds 24 (.int .u8 b.guard)).setIfInBounds 25 (.int .u8 b.iLatch)).setIfInBounds 26 (.int .u8 b.iCount)).setIfInBounds 27 (.bool b.iLoad)).setIfInBounds 28 (.bool b.iOn)).setIfInBounds 29 (.bool b.irq)) = (n4 b).cells) := by unfold Hid n4 n4a Bd.cells; rw [ER.out]; kernel_rfl
  have zz : Blk (((((((W4.setCell ⟨W1.heap.size, 23, none⟩ (.int .u8 b.turn)).setCell ⟨W1.heap.size, 24, none⟩ (.int .u8 b.guard)).setCell ⟨W1.heap.size, 25, none⟩ (.int .u8 b.iLatch)).setCell ⟨W1.heap.size, 26, none⟩ (.int .u8 b.iCount)).setCell ⟨W1.heap.size, 27, none⟩ (.bool b.iLoad)).setCell ⟨W1.heap.size, 28, none⟩ (.bool b.iOn)).setCell ⟨W1.heap.size, 29, none⟩ (.bool b.irq)) W1.heap.size ((((((((writeAll ((bare 4 b).cells.setIfInBounds 14 (.int .u8 b.sel)) 15 [.int .u8 a0, .int .u8 a1, .int .u8 a2, .int .u8 a3, .int .u8 a4, .int .u8 a5, .int .u8 a6, .int .u8 a7]).setIfInBounds 23 (.int .u8 b.turn)).setIfInBounds 24 (.int .u8 b.guard)).setIfInBounds 25 (.int .u8 b.iLatch)).setIfInBounds 26 (.int .u8 b.iCount)).setIfInBounds 27 (.bool b.iLoad)).setIfInBounds 28 (.bool b.iOn)).setIfInBounds 29 (.bool b.irq)) 37 := (Blk.set (Blk.set (Blk.set (Blk.set (Blk.set (Blk.set (Blk.set ZH.out 23 (.int .u8 b.turn)) 24 (.int .u8 b.guard)) 25 (.int .u8 b.iLatch)) 26 (.int .u8 b.iCount)) 27 (.bool b.iLoad)) 28 (.bool b.iOn)) 29 (.bool b.irq))
  have bb : Blk (((((((W4.setCell ⟨W1.heap.size, 23, none⟩ (.int .u8 b.turn)).setCell ⟨W1.heap.size, 24, none⟩ (.int .u8 b.guard)).setCell ⟨W1.heap.size, 25, none⟩ (.int .u8 b.iLatch)).setCell ⟨W1.heap.size, 26, none⟩ (.int .u8 b.iCount)).setCell ⟨W1.heap.size, 27, none⟩ (.bool b.iLoad)).setCell ⟨W1.heap.size, 28, none⟩ (.bool b.iOn)).setCell ⟨W1.heap.size, 29, none⟩ (.bool b.irq)) w.heap.size cs 37 := (Blk.other (Blk.other (Blk.other (Blk.other (Blk.other (Blk.other (Blk.other BH.out (m := W1.heap.size) (by omega) 23 (.int .u8 b.turn)) (m := W1.heap.size) (by omega) 24 (.int .u8 b.guard)) (m := W1.heap.size) (by omega) 25 (.int .u8 b.iLatch)) (m := W1.heap.size) (by omega) 26 (.int .u8 b.iCount)) (m := W1.heap.size) (by omega) 27 (.bool b.iLoad)) (m := W1.heap.size) (by omega) 28 (.bool b.iOn)) (m := W1.heap.size) (by omega) 29 (.bool b.irq))
  have hbc := (((((((hbb.setCell (p := ⟨W1.heap.size, 23, none⟩) (Nat.le_of_lt hS) (.int .u8 b.turn)).setCell (p := ⟨W1.heap.size, 24, none⟩) (Nat.le_of_lt hS) (.int .u8 b.guard)).setCell (p := ⟨W1.heap.size, 25, none⟩) (Nat.le_of_lt hS) (.int .u8 b.iLatch)).setCell (p := ⟨W1.heap.size, 26, none⟩) (Nat.le_of_lt hS) (.int .u8 b.iCount)).setCell (p := ⟨W1.heap.size, 27, none⟩) (Nat.le_of_lt hS) (.bool b.iLoad)).setCell (p := ⟨W1.heap.size, 28, none⟩) (Nat.le_of_lt hS) (.bool b.iOn)).setCell (p := ⟨W1.heap.size, 29, none⟩) (Nat.le_of_lt hS) (.bool b.irq))
  generalize (((((((W4.setCell ⟨W1.heap.size, 23, none⟩ (.int .u8 b.turn)).setCell ⟨W1.heap.size, 24, none⟩ (.int .u8 b.guard)).setCell ⟨W1.heap.size, 25, none⟩ (.int .u8 b.iLatch)).setCell ⟨W1.heap.size, 26, none⟩ (.int .u8 b.iCount)).setCell ⟨W1.heap.size, 27, none⟩ (.bool b.iLoad)).setCell ⟨W1.heap.size, 28, none⟩ (.bool b.iOn)).setCell ⟨W1.heap.size, 29, none⟩ (.bool b.irq)) = W3 at *
  clear c23 t23 f23 c24 t24 f24 c25 t25 f25 c26 t26 f26 c27 t27 f27 c28 t28 f28 c29 t29 f29 ZH BH ne hbb
  rw [EQ.out] at zz
  clear EQ
  have c14 := (bb.cell 14).trans CC.out.h14
  have c23 := (bb.cell 23).trans CC.out.h23
  have c24 := (bb.cell 24).trans CC.out.h24
  have c26 := (bb.cell 26).trans CC.out.h26
  have c27 := (bb.cell 27).trans CC.out.h27
  have c28 := (bb.cell 28).trans CC.out.h28
  have c29 := (bb.cell 29).trans CC.out.h29
  have ZH : Hid (Blk W3 W1.heap.size (n4 b).cells 37) := zz
  have BH : Hid (Blk W3 w.heap.size cs 37) := bb
  have hbb := hbc
  clear zz bb hbc
  go_upto_region 30 with fail
  go_cut [132] (fun v wx => v = .bool (r30 b) ∧ W3 = wx)
  case first =>
    cases e1 : (bits .and .u8 b.sel 56 != 0)
    rotate_left
    · have H : Hid (r30 b = true) := by unfold Hid; simp only [r30, e1, Bool.true_or]
      go_wp2
      go_meet
      exact ⟨by rw [H.out], rfl⟩
    cases e2 : decide (1 < b.turn)
    rotate_left
    · have H : Hid (r30 b = true) := by unfold Hid; simp only [r30, e1, e2, Bool.true_or, Bool.false_or]
      go_wp2
      go_meet
      exact ⟨by rw [H.out], rfl⟩
    cases e3 : (bits .and .u8 b.guard 63 != 0)
    rotate_left
    · have H : Hid (r30 b = true) := by unfold Hid; simp only [r30, e1, e2, e3, Bool.false_or]
      go_wp2
      go_meet
      exact ⟨by rw [H.out], rfl⟩
    have H : Hid (r30 b = false) := by unfold Hid; simp only [r30, e1, e2, e3, Bool.false_or]
    go_wp2
    go_meet
    exact ⟨by rw [H.out], rfl⟩
  obtain ⟨rfl, rfl⟩ := hcut
  cases hr30 : r30 b
  rotate_left
  · have HX : Hid (r30 b = true) := hr30
    clear hr30
    go_wp2
    go_ret
    exact ⟨by unfold val4; rw [sameB_dec]; rw [regs4_eq b BW.out, HX.out, Bool.not_true, Bool.false_and, Bool.and_false, Bool.and_false, Bool.and_false]; rfl, hbb⟩
  have Hr30 : Hid (r30 b = false) := hr30
  clear hr30
  go_upto_region 32 with fail
  go_cut [148] (fun v wx => v = .bool (r32 b) ∧ W3 = wx)
  case first =>
    cases g1 : b.iLoad <;> cases g2 : (b.iCount != 0) <;> cases g3 : b.irq <;> cases g4 : b.iOn
    all_goals
      have H : Hid (r32 b = ((b.iLoad && (b.iCount != 0)) || (b.irq && !b.iOn))) := rfl
      rw [g1] at c27
      rw [g3] at c29
      rw [g4] at c28
      have G : Hid _ := And.intro g1 (And.intro g3 g4)
      clear g1 g3 g4
      go_wp2
      go_meet
      exact ⟨by rw [H.out, G.out.1, G.out.2.1, G.out.2.2, g2]; rfl, rfl⟩
  obtain ⟨rfl, rfl⟩ := hcut
  cases hr32 : r32 b
  rotate_left
  · have HX : Hid (r32 b = true) := hr32
    clear hr32
    go_wp2
    go_ret
    exact ⟨by unfold val4; rw [sameB_dec]; rw [regs4_eq b BW.out, HX.out, Bool.not_true, Bool.and_false, Bool.and_false, Bool.and_false, Bool.and_false]; rfl, hbb⟩
  have Hr32 : Hid (r32 b = false) := hr32
  clear hr32
  have zz : Blk _ _ _ _ := ZH.out
  have bb : Blk _ _ _ _ := BH.out
  clear c14 c23 c24 c26 c27 c28 c29 ZH BH
  have Hs : Hid _ := (isB (n4 b) hr).size
  go_wp2_with (first
    | refine wpList_load_mid rfl 37 _ rfl w.heap.size 0 rfl cs.toList _ bb.range Try.underlying37 rfl (by rw [Array.length_toList, HS.out]; exact Try.infoBoard) ?_
    | refine wpList_load_mid rfl 37 _ rfl W1.heap.size 0 rfl (n4 b).cells.toList _ zz.range Try.underlying37 rfl (by rw [Array.length_toList, Hs.out]; exact Try.infoBoard) ?_
    | refine Try.wpEqlB b (n4 b) hr hr _ _ _ rfl rfl (by rw [HC.out]; rfl) (by rfl) ?_)
  go_ret
  exact ⟨by have e := HVH.out; rw [Bool.and_eq_true] at e; unfold val4; rw [sameB_dec]; rw [regs4_eq b BW.out, Hr30.out, Hr32.out, e.1, e.2, show decide (n4 b = b) = decide (b = n4 b) from decide_eq_decide.2 eq_comm, Bool.true_and, Bool.not_false, Bool.true_and, Bool.true_and, Bool.and_true]; rfl, hbb⟩
end Go.Proofs.Ytecaipakaaongaa
