/-
  What the document's Valid answers, kind by kind; conditions: the numbers fit their kinds.
-/
import Derived.Test.YtecaipakaaongaaMSized
import Derived.Test.YtecaipakaaongaaMOpen
import Derived.Test.YtecaipakaaongaaMPlain1
import Derived.Test.YtecaipakaaongaaMPlainL
namespace Go.Proofs.Ytecaipakaaongaa
open Go.RowKit Classical
theorem Try.wpEqlB {ops : Array Oper} {rest : List Oper} {op : Oper} {a : Act} {w : World} {Q : Exit → Act → World → Prop} (b d : Bd) (hb : b.r.length = 8) (hd : d.r.length = 8) (x y : Operand) (z : TypeId) (ho : op.op = .binOp .eql 37 x y z) (hgd : op.guard = none)
    (hx : a.eval x = .agg b.cells) (hy : a.eval y = .agg d.cells) (h : wpList Try.prog ops Q rest (a.put op.dst (.bool (decide (b = d)))) w) : wpList Try.prog ops Q (op :: rest) a w :=
  wpList_plain hgd fun _ hK => by
    obtain ⟨dst, o, ty, pos, after, guard⟩ := op
    simp only at ho
    subst ho
    unfold Oper.wp
    rw [run_exec_binOp, hx, hy, run_eqGuard_agg w .eql 37 _ _ _ _ (by kernel_rfl), Result.andThen_ok, Try.eqlB w b d hb hd]
    exact hK _ _ h

set_option maxRecDepth 100000 in
set_option maxHeartbeats 800000 in
theorem refValid_2 (w : World) (b : Bd) (B : b.Wf) (hk : b.kind = 2) :
    Calls Try.prog 26 #[.agg b.cells] w fun e w' => e = .returned (.bool (lst b.kind b.sub && decide (nL 2 b = b) && sizes b)) ∧ Below w.heap.size w w' := by
  have hr := B.rlen
  have C := isB b hr
  have SO := fun W => sized_any W b hr
  generalize hcs : b.cells = cs at C SO
  have hsz := C.size
  have HS : Hid _ := hsz
  have HO : Hid _ := SO
  have HC : Hid _ := hcs
  have CC : Hid _ := C
  have BW : Hid _ := B
  clear SO hcs B
  go_enter Try.func26, Try.ntmps26
  go_upto_region 1 with fail
  have b0 : Blk (w.alloc (.cells cs 37)) w.heap.size cs 37 := Blk.new w cs _
  have hb0 : Below w.heap.size w (w.alloc (.cells cs 37)) := (Below.refl _ _).alloc (Nat.le_refl _) _
  generalize w.alloc (.cells cs 37) = W0 at *
  clear C hsz
  go_wp2_with (refine wpList_load_mid rfl 37 _ rfl w.heap.size 0 rfl cs.toList _ b0.range Try.underlying37 rfl (by rw [Array.length_toList, HS.out]; exact Try.infoBoard) ?_)
  refine (HO.out W0).mono ?_
  rintro e W1 ⟨rfl, hb1'⟩
  have hN : w.heap.size < W0.heap.size := b0.lt
  have hS : w.heap.size < W1.heap.size := by have := hb1'.size; omega
  have b1 := b0.below hN hb1'
  have hb1 : Below w.heap.size w W1 := hb0.trans (hb1'.mono (by omega))
  clear hb0 hb1' b0 hN
  cases HV : (lst b.kind b.sub && sizes b)
  · have HVH : Hid ((lst b.kind b.sub && sizes b) = false) := HV
    clear HV
    go_wp2
    go_ret
    exact ⟨by rw [Bool.and_right_comm, HVH.out]; rfl, hb1⟩
  have HVH : Hid ((lst b.kind b.sub && sizes b) = true) := HV
  clear HV
  have d0 : W1.cell? ⟨w.heap.size, 0, none⟩ = some (.int .i64 2) := (b1.cell 0).trans (CC.out.h0.trans (by rw [hk]))
  have d1 := (b1.cell 1).trans CC.out.h1
  have d2 := (b1.cell 2).trans CC.out.h2
  have d3 := (b1.cell 3).trans CC.out.h3
  have d4 := (b1.cell 4).trans CC.out.h4
  have d5 := (b1.cell 5).trans CC.out.h5
  have d6 := (b1.cell 6).trans CC.out.h6
  have d30 := (b1.cell 30).trans CC.out.h30
  have hb2 : Below w.heap.size w (W1.alloc (.cells Z31 37)) := hb1.alloc (by omega) _
  have z1 : Blk (W1.alloc (.cells Z31 37)) W1.heap.size Z31 37 := Blk.new W1 Z31 _
  have b2 : Blk (W1.alloc (.cells Z31 37)) w.heap.size cs 37 := b1.old _
  have KH : Hid (b.kind = 2) := hk
  have Hs : Hid _ := (isB (bare 2 b) rfl).size
  have H1 : Hid _ := (isB (bare 2 b) rfl).one
  clear hb1 b1 hk
  go_upto_region 3 with fail
  go_cut [3] (fun v wx => v = .pointer (some ⟨W1.heap.size, 0, none⟩) ∧ Blk wx W1.heap.size (bare 2 b).cells 37 ∧ Blk wx w.heap.size cs 37 ∧ Below w.heap.size w wx)
  case first =>
    go_wp2_with (refine wpList_store_mid rfl 37 _ _ rfl W1.heap.size 0 (bare 2 b).cells rfl rfl (by exact z1.there _ Hs.out.symm) (by rw [Hs.out]; exact Try.infoBoard) H1.out ?_)
    go_meet
    exact ⟨rfl, z1.setAll (bare 2 b).cells Hs.out, b2.below hS (setCells_below (Nat.le_refl _) _ _ _ _ (Below.refl _ _)), setCells_below (show w.heap.size ≤ W1.heap.size by omega) (bare 2 b).cells.toList 0 _ _ hb2⟩
  obtain ⟨rfl, z2, b3, hb3⟩ := hcut
  clear z1 b2 hb2 d0 d1 d2 d3 d4 d5 d6 d30 Hs H1 HO
  obtain ⟨W2, hW2⟩ : ∃ x, x = wc := ⟨wc, rfl⟩
  subst hW2
  have d0 : W2.cell? ⟨w.heap.size, 0, none⟩ = some (.int .i64 2) := (b3.cell 0).trans (CC.out.h0.trans (by rw [KH.out]))
  have ne : ¬ w.heap.size = W1.heap.size := by omega
  have c13 := (b3.cell 13).trans CC.out.h13
  have t13 : W2.cell? ⟨W1.heap.size, 13, none⟩ = some (.int .u8 0) := (z2.cell 13).trans rfl
  have f13 := z2.free 13
  have ZH : Hid (Blk W2 W1.heap.size (bare 2 b).cells 37) := z2
  have BH : Hid (Blk W2 w.heap.size cs 37) := b3
  clear z2 b3
  go_upto_region 34 with fail
  have EQ : Hid (((bare 2 b).cells.setIfInBounds 13 (.int .u8 b.latch)) = (nL 2 b).cells) := rfl
  have zz : Blk (W2.setCell ⟨W1.heap.size, 13, none⟩ (.int .u8 b.latch)) W1.heap.size ((bare 2 b).cells.setIfInBounds 13 (.int .u8 b.latch)) 37 := (Blk.set ZH.out 13 (.int .u8 b.latch))
  have bb : Blk (W2.setCell ⟨W1.heap.size, 13, none⟩ (.int .u8 b.latch)) w.heap.size cs 37 := (Blk.other BH.out (m := W1.heap.size) (by omega) 13 (.int .u8 b.latch))
  have hbb := (hb3.setCell (p := ⟨W1.heap.size, 13, none⟩) (Nat.le_of_lt hS) (.int .u8 b.latch))
  generalize (W2.setCell ⟨W1.heap.size, 13, none⟩ (.int .u8 b.latch)) = W3 at *
  clear c13 t13 f13 hb3 ZH BH d0 ne
  rw [EQ.out] at zz
  clear EQ
  have Hs : Hid _ := (isB (nL 2 b) rfl).size
  go_wp2_with (first
    | refine wpList_load_mid rfl 37 _ rfl w.heap.size 0 rfl cs.toList _ bb.range Try.underlying37 rfl (by rw [Array.length_toList, HS.out]; exact Try.infoBoard) ?_
    | refine wpList_load_mid rfl 37 _ rfl W1.heap.size 0 rfl (nL 2 b).cells.toList _ zz.range Try.underlying37 rfl (by rw [Array.length_toList, Hs.out]; exact Try.infoBoard) ?_
    | refine Try.wpEqlB b (nL 2 b) hr rfl _ _ _ rfl rfl (by rw [HC.out]; rfl) (by rfl) ?_)
  go_ret
  exact ⟨by rw [Bool.and_right_comm, HVH.out, Bool.true_and, show decide (nL 2 b = b) = decide (b = nL 2 b) from decide_eq_decide.2 eq_comm]; rfl, hbb⟩

set_option maxRecDepth 100000 in
set_option maxHeartbeats 800000 in
theorem refValid_3 (w : World) (b : Bd) (B : b.Wf) (hk : b.kind = 3) :
    Calls Try.prog 26 #[.agg b.cells] w fun e w' => e = .returned (.bool (lst b.kind b.sub && decide (nL 3 b = b) && sizes b)) ∧ Below w.heap.size w w' := by
  have hr := B.rlen
  have C := isB b hr
  have SO := fun W => sized_any W b hr
  generalize hcs : b.cells = cs at C SO
  have hsz := C.size
  have HS : Hid _ := hsz
  have HO : Hid _ := SO
  have HC : Hid _ := hcs
  have CC : Hid _ := C
  have BW : Hid _ := B
  clear SO hcs B
  go_enter Try.func26, Try.ntmps26
  go_upto_region 1 with fail
  have b0 : Blk (w.alloc (.cells cs 37)) w.heap.size cs 37 := Blk.new w cs _
  have hb0 : Below w.heap.size w (w.alloc (.cells cs 37)) := (Below.refl _ _).alloc (Nat.le_refl _) _
  generalize w.alloc (.cells cs 37) = W0 at *
  clear C hsz
  go_wp2_with (refine wpList_load_mid rfl 37 _ rfl w.heap.size 0 rfl cs.toList _ b0.range Try.underlying37 rfl (by rw [Array.length_toList, HS.out]; exact Try.infoBoard) ?_)
  refine (HO.out W0).mono ?_
  rintro e W1 ⟨rfl, hb1'⟩
  have hN : w.heap.size < W0.heap.size := b0.lt
  have hS : w.heap.size < W1.heap.size := by have := hb1'.size; omega
  have b1 := b0.below hN hb1'
  have hb1 : Below w.heap.size w W1 := hb0.trans (hb1'.mono (by omega))
  clear hb0 hb1' b0 hN
  cases HV : (lst b.kind b.sub && sizes b)
  · have HVH : Hid ((lst b.kind b.sub && sizes b) = false) := HV
    clear HV
    go_wp2
    go_ret
    exact ⟨by rw [Bool.and_right_comm, HVH.out]; rfl, hb1⟩
  have HVH : Hid ((lst b.kind b.sub && sizes b) = true) := HV
  clear HV
  have d0 : W1.cell? ⟨w.heap.size, 0, none⟩ = some (.int .i64 3) := (b1.cell 0).trans (CC.out.h0.trans (by rw [hk]))
  have d1 := (b1.cell 1).trans CC.out.h1
  have d2 := (b1.cell 2).trans CC.out.h2
  have d3 := (b1.cell 3).trans CC.out.h3
  have d4 := (b1.cell 4).trans CC.out.h4
  have d5 := (b1.cell 5).trans CC.out.h5
  have d6 := (b1.cell 6).trans CC.out.h6
  have d30 := (b1.cell 30).trans CC.out.h30
  have hb2 : Below w.heap.size w (W1.alloc (.cells Z31 37)) := hb1.alloc (by omega) _
  have z1 : Blk (W1.alloc (.cells Z31 37)) W1.heap.size Z31 37 := Blk.new W1 Z31 _
  have b2 : Blk (W1.alloc (.cells Z31 37)) w.heap.size cs 37 := b1.old _
  have KH : Hid (b.kind = 3) := hk
  have Hs : Hid _ := (isB (bare 3 b) rfl).size
  have H1 : Hid _ := (isB (bare 3 b) rfl).one
  clear hb1 b1 hk
  go_upto_region 3 with fail
  go_cut [3] (fun v wx => v = .pointer (some ⟨W1.heap.size, 0, none⟩) ∧ Blk wx W1.heap.size (bare 3 b).cells 37 ∧ Blk wx w.heap.size cs 37 ∧ Below w.heap.size w wx)
  case first =>
    go_wp2_with (refine wpList_store_mid rfl 37 _ _ rfl W1.heap.size 0 (bare 3 b).cells rfl rfl (by exact z1.there _ Hs.out.symm) (by rw [Hs.out]; exact Try.infoBoard) H1.out ?_)
    go_meet
    exact ⟨rfl, z1.setAll (bare 3 b).cells Hs.out, b2.below hS (setCells_below (Nat.le_refl _) _ _ _ _ (Below.refl _ _)), setCells_below (show w.heap.size ≤ W1.heap.size by omega) (bare 3 b).cells.toList 0 _ _ hb2⟩
  obtain ⟨rfl, z2, b3, hb3⟩ := hcut
  clear z1 b2 hb2 d0 d1 d2 d3 d4 d5 d6 d30 Hs H1 HO
  obtain ⟨W2, hW2⟩ : ∃ x, x = wc := ⟨wc, rfl⟩
  subst hW2
  have d0 : W2.cell? ⟨w.heap.size, 0, none⟩ = some (.int .i64 3) := (b3.cell 0).trans (CC.out.h0.trans (by rw [KH.out]))
  have ne : ¬ w.heap.size = W1.heap.size := by omega
  have c13 := (b3.cell 13).trans CC.out.h13
  have t13 : W2.cell? ⟨W1.heap.size, 13, none⟩ = some (.int .u8 0) := (z2.cell 13).trans rfl
  have f13 := z2.free 13
  have ZH : Hid (Blk W2 W1.heap.size (bare 3 b).cells 37) := z2
  have BH : Hid (Blk W2 w.heap.size cs 37) := b3
  clear z2 b3
  go_upto_region 34 with fail
  have EQ : Hid (((bare 3 b).cells.setIfInBounds 13 (.int .u8 b.latch)) = (nL 3 b).cells) := rfl
  have zz : Blk (W2.setCell ⟨W1.heap.size, 13, none⟩ (.int .u8 b.latch)) W1.heap.size ((bare 3 b).cells.setIfInBounds 13 (.int .u8 b.latch)) 37 := (Blk.set ZH.out 13 (.int .u8 b.latch))
  have bb : Blk (W2.setCell ⟨W1.heap.size, 13, none⟩ (.int .u8 b.latch)) w.heap.size cs 37 := (Blk.other BH.out (m := W1.heap.size) (by omega) 13 (.int .u8 b.latch))
  have hbb := (hb3.setCell (p := ⟨W1.heap.size, 13, none⟩) (Nat.le_of_lt hS) (.int .u8 b.latch))
  generalize (W2.setCell ⟨W1.heap.size, 13, none⟩ (.int .u8 b.latch)) = W3 at *
  clear c13 t13 f13 hb3 ZH BH d0 ne
  rw [EQ.out] at zz
  clear EQ
  have Hs : Hid _ := (isB (nL 3 b) rfl).size
  go_wp2_with (first
    | refine wpList_load_mid rfl 37 _ rfl w.heap.size 0 rfl cs.toList _ bb.range Try.underlying37 rfl (by rw [Array.length_toList, HS.out]; exact Try.infoBoard) ?_
    | refine wpList_load_mid rfl 37 _ rfl W1.heap.size 0 rfl (nL 3 b).cells.toList _ zz.range Try.underlying37 rfl (by rw [Array.length_toList, Hs.out]; exact Try.infoBoard) ?_
    | refine Try.wpEqlB b (nL 3 b) hr rfl _ _ _ rfl rfl (by rw [HC.out]; rfl) (by rfl) ?_)
  go_ret
  exact ⟨by rw [Bool.and_right_comm, HVH.out, Bool.true_and, show decide (nL 3 b = b) = decide (b = nL 3 b) from decide_eq_decide.2 eq_comm]; rfl, hbb⟩

set_option maxRecDepth 100000 in
set_option maxHeartbeats 800000 in
theorem refValid_7 (w : World) (b : Bd) (B : b.Wf) (hk : b.kind = 7) :
    Calls Try.prog 26 #[.agg b.cells] w fun e w' => e = .returned (.bool (lst b.kind b.sub && decide (nL 7 b = b) && sizes b)) ∧ Below w.heap.size w w' := by
  have hr := B.rlen
  have C := isB b hr
  have SO := fun W => sized_any W b hr
  generalize hcs : b.cells = cs at C SO
  have hsz := C.size
  have HS : Hid _ := hsz
  have HO : Hid _ := SO
  have HC : Hid _ := hcs
  have CC : Hid _ := C
  have BW : Hid _ := B
  clear SO hcs B
  go_enter Try.func26, Try.ntmps26
  go_upto_region 1 with fail
  have b0 : Blk (w.alloc (.cells cs 37)) w.heap.size cs 37 := Blk.new w cs _
  have hb0 : Below w.heap.size w (w.alloc (.cells cs 37)) := (Below.refl _ _).alloc (Nat.le_refl _) _
  generalize w.alloc (.cells cs 37) = W0 at *
  clear C hsz
  go_wp2_with (refine wpList_load_mid rfl 37 _ rfl w.heap.size 0 rfl cs.toList _ b0.range Try.underlying37 rfl (by rw [Array.length_toList, HS.out]; exact Try.infoBoard) ?_)
  refine (HO.out W0).mono ?_
  rintro e W1 ⟨rfl, hb1'⟩
  have hN : w.heap.size < W0.heap.size := b0.lt
  have hS : w.heap.size < W1.heap.size := by have := hb1'.size; omega
  have b1 := b0.below hN hb1'
  have hb1 : Below w.heap.size w W1 := hb0.trans (hb1'.mono (by omega))
  clear hb0 hb1' b0 hN
  cases HV : (lst b.kind b.sub && sizes b)
  · have HVH : Hid ((lst b.kind b.sub && sizes b) = false) := HV
    clear HV
    go_wp2
    go_ret
    exact ⟨by rw [Bool.and_right_comm, HVH.out]; rfl, hb1⟩
  have HVH : Hid ((lst b.kind b.sub && sizes b) = true) := HV
  clear HV
  have d0 : W1.cell? ⟨w.heap.size, 0, none⟩ = some (.int .i64 7) := (b1.cell 0).trans (CC.out.h0.trans (by rw [hk]))
  have d1 := (b1.cell 1).trans CC.out.h1
  have d2 := (b1.cell 2).trans CC.out.h2
  have d3 := (b1.cell 3).trans CC.out.h3
  have d4 := (b1.cell 4).trans CC.out.h4
  have d5 := (b1.cell 5).trans CC.out.h5
  have d6 := (b1.cell 6).trans CC.out.h6
  have d30 := (b1.cell 30).trans CC.out.h30
  have hb2 : Below w.heap.size w (W1.alloc (.cells Z31 37)) := hb1.alloc (by omega) _
  have z1 : Blk (W1.alloc (.cells Z31 37)) W1.heap.size Z31 37 := Blk.new W1 Z31 _
  have b2 : Blk (W1.alloc (.cells Z31 37)) w.heap.size cs 37 := b1.old _
  have KH : Hid (b.kind = 7) := hk
  have Hs : Hid _ := (isB (bare 7 b) rfl).size
  have H1 : Hid _ := (isB (bare 7 b) rfl).one
  clear hb1 b1 hk
  go_upto_region 3 with fail
  go_cut [3] (fun v wx => v = .pointer (some ⟨W1.heap.size, 0, none⟩) ∧ Blk wx W1.heap.size (bare 7 b).cells 37 ∧ Blk wx w.heap.size cs 37 ∧ Below w.heap.size w wx)
  case first =>
    go_wp2_with (refine wpList_store_mid rfl 37 _ _ rfl W1.heap.size 0 (bare 7 b).cells rfl rfl (by exact z1.there _ Hs.out.symm) (by rw [Hs.out]; exact Try.infoBoard) H1.out ?_)
    go_meet
    exact ⟨rfl, z1.setAll (bare 7 b).cells Hs.out, b2.below hS (setCells_below (Nat.le_refl _) _ _ _ _ (Below.refl _ _)), setCells_below (show w.heap.size ≤ W1.heap.size by omega) (bare 7 b).cells.toList 0 _ _ hb2⟩
  obtain ⟨rfl, z2, b3, hb3⟩ := hcut
  clear z1 b2 hb2 d0 d1 d2 d3 d4 d5 d6 d30 Hs H1 HO
  obtain ⟨W2, hW2⟩ : ∃ x, x = wc := ⟨wc, rfl⟩
  subst hW2
  have d0 : W2.cell? ⟨w.heap.size, 0, none⟩ = some (.int .i64 7) := (b3.cell 0).trans (CC.out.h0.trans (by rw [KH.out]))
  have ne : ¬ w.heap.size = W1.heap.size := by omega
  have c13 := (b3.cell 13).trans CC.out.h13
  have t13 : W2.cell? ⟨W1.heap.size, 13, none⟩ = some (.int .u8 0) := (z2.cell 13).trans rfl
  have f13 := z2.free 13
  have ZH : Hid (Blk W2 W1.heap.size (bare 7 b).cells 37) := z2
  have BH : Hid (Blk W2 w.heap.size cs 37) := b3
  clear z2 b3
  go_upto_region 34 with fail
  have EQ : Hid (((bare 7 b).cells.setIfInBounds 13 (.int .u8 b.latch)) = (nL 7 b).cells) := rfl
  have zz : Blk (W2.setCell ⟨W1.heap.size, 13, none⟩ (.int .u8 b.latch)) W1.heap.size ((bare 7 b).cells.setIfInBounds 13 (.int .u8 b.latch)) 37 := (Blk.set ZH.out 13 (.int .u8 b.latch))
  have bb : Blk (W2.setCell ⟨W1.heap.size, 13, none⟩ (.int .u8 b.latch)) w.heap.size cs 37 := (Blk.other BH.out (m := W1.heap.size) (by omega) 13 (.int .u8 b.latch))
  have hbb := (hb3.setCell (p := ⟨W1.heap.size, 13, none⟩) (Nat.le_of_lt hS) (.int .u8 b.latch))
  generalize (W2.setCell ⟨W1.heap.size, 13, none⟩ (.int .u8 b.latch)) = W3 at *
  clear c13 t13 f13 hb3 ZH BH d0 ne
  rw [EQ.out] at zz
  clear EQ
  have Hs : Hid _ := (isB (nL 7 b) rfl).size
  go_wp2_with (first
    | refine wpList_load_mid rfl 37 _ rfl w.heap.size 0 rfl cs.toList _ bb.range Try.underlying37 rfl (by rw [Array.length_toList, HS.out]; exact Try.infoBoard) ?_
    | refine wpList_load_mid rfl 37 _ rfl W1.heap.size 0 rfl (nL 7 b).cells.toList _ zz.range Try.underlying37 rfl (by rw [Array.length_toList, Hs.out]; exact Try.infoBoard) ?_
    | refine Try.wpEqlB b (nL 7 b) hr rfl _ _ _ rfl rfl (by rw [HC.out]; rfl) (by rfl) ?_)
  go_ret
  exact ⟨by rw [Bool.and_right_comm, HVH.out, Bool.true_and, show decide (nL 7 b = b) = decide (b = nL 7 b) from decide_eq_decide.2 eq_comm]; rfl, hbb⟩

set_option maxRecDepth 100000 in
set_option maxHeartbeats 800000 in
theorem refValid_0 (w : World) (b : Bd) (B : b.Wf) (hk : b.kind = 0) :
    Calls Try.prog 26 #[.agg b.cells] w fun e w' => e = .returned (.bool (lst b.kind b.sub && decide (bare 0 b = b) && sizes b)) ∧ Below w.heap.size w w' := by
  have hr := B.rlen
  have C := isB b hr
  have SO := fun W => sized_any W b hr
  generalize hcs : b.cells = cs at C SO
  have hsz := C.size
  have HS : Hid _ := hsz
  have HO : Hid _ := SO
  have HC : Hid _ := hcs
  have CC : Hid _ := C
  have BW : Hid _ := B
  clear SO hcs B
  go_enter Try.func26, Try.ntmps26
  go_upto_region 1 with fail
  have b0 : Blk (w.alloc (.cells cs 37)) w.heap.size cs 37 := Blk.new w cs _
  have hb0 : Below w.heap.size w (w.alloc (.cells cs 37)) := (Below.refl _ _).alloc (Nat.le_refl _) _
  generalize w.alloc (.cells cs 37) = W0 at *
  clear C hsz
  go_wp2_with (refine wpList_load_mid rfl 37 _ rfl w.heap.size 0 rfl cs.toList _ b0.range Try.underlying37 rfl (by rw [Array.length_toList, HS.out]; exact Try.infoBoard) ?_)
  refine (HO.out W0).mono ?_
  rintro e W1 ⟨rfl, hb1'⟩
  have hN : w.heap.size < W0.heap.size := b0.lt
  have hS : w.heap.size < W1.heap.size := by have := hb1'.size; omega
  have b1 := b0.below hN hb1'
  have hb1 : Below w.heap.size w W1 := hb0.trans (hb1'.mono (by omega))
  clear hb0 hb1' b0 hN
  cases HV : (lst b.kind b.sub && sizes b)
  · have HVH : Hid ((lst b.kind b.sub && sizes b) = false) := HV
    clear HV
    go_wp2
    go_ret
    exact ⟨by rw [Bool.and_right_comm, HVH.out]; rfl, hb1⟩
  have HVH : Hid ((lst b.kind b.sub && sizes b) = true) := HV
  clear HV
  have d0 : W1.cell? ⟨w.heap.size, 0, none⟩ = some (.int .i64 0) := (b1.cell 0).trans (CC.out.h0.trans (by rw [hk]))
  have d1 := (b1.cell 1).trans CC.out.h1
  have d2 := (b1.cell 2).trans CC.out.h2
  have d3 := (b1.cell 3).trans CC.out.h3
  have d4 := (b1.cell 4).trans CC.out.h4
  have d5 := (b1.cell 5).trans CC.out.h5
  have d6 := (b1.cell 6).trans CC.out.h6
  have d30 := (b1.cell 30).trans CC.out.h30
  have hb2 : Below w.heap.size w (W1.alloc (.cells Z31 37)) := hb1.alloc (by omega) _
  have z1 : Blk (W1.alloc (.cells Z31 37)) W1.heap.size Z31 37 := Blk.new W1 Z31 _
  have b2 : Blk (W1.alloc (.cells Z31 37)) w.heap.size cs 37 := b1.old _
  have KH : Hid (b.kind = 0) := hk
  have Hs : Hid _ := (isB (bare 0 b) rfl).size
  have H1 : Hid _ := (isB (bare 0 b) rfl).one
  clear hb1 b1 hk
  go_upto_region 3 with fail
  go_cut [3] (fun v wx => v = .pointer (some ⟨W1.heap.size, 0, none⟩) ∧ Blk wx W1.heap.size (bare 0 b).cells 37 ∧ Blk wx w.heap.size cs 37 ∧ Below w.heap.size w wx)
  case first =>
    go_wp2_with (refine wpList_store_mid rfl 37 _ _ rfl W1.heap.size 0 (bare 0 b).cells rfl rfl (by exact z1.there _ Hs.out.symm) (by rw [Hs.out]; exact Try.infoBoard) H1.out ?_)
    go_meet
    exact ⟨rfl, z1.setAll (bare 0 b).cells Hs.out, b2.below hS (setCells_below (Nat.le_refl _) _ _ _ _ (Below.refl _ _)), setCells_below (show w.heap.size ≤ W1.heap.size by omega) (bare 0 b).cells.toList 0 _ _ hb2⟩
  obtain ⟨rfl, z2, b3, hb3⟩ := hcut
  clear z1 b2 hb2 d0 d1 d2 d3 d4 d5 d6 d30 Hs H1 HO
  obtain ⟨W2, hW2⟩ : ∃ x, x = wc := ⟨wc, rfl⟩
  subst hW2
  have d0 : W2.cell? ⟨w.heap.size, 0, none⟩ = some (.int .i64 0) := (b3.cell 0).trans (CC.out.h0.trans (by rw [KH.out]))
  have ne : ¬ w.heap.size = W1.heap.size := by omega
  have ZH : Hid (Blk W2 W1.heap.size (bare 0 b).cells 37) := z2
  have BH : Hid (Blk W2 w.heap.size cs 37) := b3
  clear z2 b3
  go_upto_region 34 with fail
  have EQ : Hid ((bare 0 b).cells = (bare 0 b).cells) := rfl
  have zz : Blk W2 W1.heap.size (bare 0 b).cells 37 := ZH.out
  have bb : Blk W2 w.heap.size cs 37 := BH.out
  have hbb := hb3
  clear hb3 ZH BH d0 ne
  clear EQ
  have Hs : Hid _ := (isB (bare 0 b) rfl).size
  go_wp2_with (first
    | refine wpList_load_mid rfl 37 _ rfl w.heap.size 0 rfl cs.toList _ bb.range Try.underlying37 rfl (by rw [Array.length_toList, HS.out]; exact Try.infoBoard) ?_
    | refine wpList_load_mid rfl 37 _ rfl W1.heap.size 0 rfl (bare 0 b).cells.toList _ zz.range Try.underlying37 rfl (by rw [Array.length_toList, Hs.out]; exact Try.infoBoard) ?_
    | refine Try.wpEqlB b (bare 0 b) hr rfl _ _ _ rfl rfl (by rw [HC.out]; rfl) (by rfl) ?_)
  go_ret
  exact ⟨by rw [Bool.and_right_comm, HVH.out, Bool.true_and, show decide (bare 0 b = b) = decide (b = bare 0 b) from decide_eq_decide.2 eq_comm]; rfl, hbb⟩
end Go.Proofs.Ytecaipakaaongaa
