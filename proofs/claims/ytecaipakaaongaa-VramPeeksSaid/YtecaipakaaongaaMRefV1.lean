/-
  What the document's Valid answers of an MMC1; conditions: the numbers fit their kinds.
-/
import Derived.Test.YtecaipakaaongaaMRefV
import Derived.Test.YtecaipakaaongaaMOpen1
namespace Go.Proofs.Ytecaipakaaongaa
open Go.RowKit Classical
def r12 (b : Bd) : Bool := decide (b.shift < 1) || (decide (31 < b.shift) || (decide (31 < b.ctrl) || (decide (31 < b.chrA) || (decide (31 < b.chrB) || decide (31 < b.prgR)))))
def r14 (b : Bd) : Bool := decide (b.last < -2) || b.last == -1
theorem m2_le (x y n : Int) : (if y > x then y else x) ≤ n ↔ x ≤ n ∧ y ≤ n := by
  split <;> omega
theorem max5_le (a b c d e n : Int) : max5 a b c d e ≤ n ↔ (((a ≤ n ∧ b ≤ n) ∧ c ≤ n) ∧ d ≤ n) ∧ e ≤ n := by
  unfold max5
  simp only [m2_le]
theorem val_no {l d s g : Bool} (h : (l && s) = false) : (l && (d && (s && g))) = false := by
  cases l <;> cases s <;> cases d <;> simp_all
theorem regs1_eq (b : Bd) (B : b.Wf) : regs1 b = (!r12 b && !r14 b) := by
  have h0 := B.shift
  rw [Bool.eq_iff_iff]
  simp only [regs1, r12, r14, max5_le, Bool.and_eq_true, Bool.or_eq_true, Bool.not_eq_true', Bool.or_eq_false_iff, decide_eq_true_eq, decide_eq_false_iff_not, beq_iff_eq, beq_eq_false_iff_ne]
  omega

set_option maxRecDepth 100000 in
set_option maxHeartbeats 800000 in
theorem refValid_1 (w : World) (b : Bd) (B : b.Wf) (hk : b.kind = 1) :
    Calls Try.prog 26 #[.agg b.cells] w fun e w' => e = .returned (.bool (lst b.kind b.sub && val1 b)) ∧ Below w.heap.size w w' := by
  have hr := B.rlen
  have C := isB b hr
  have SO := fun W => sized_any W b hr
  generalize hcs : b.cells = cs at C SO
  have hsz := C.size
  have HS : Hid _ := hsz
  have HO : Hid _ := SO
  have HC : Hid _ := hcs
  have CC : Hid _ := C
  have BW : Hid _ := B
  clear SO hcs B
  go_enter Try.func26, Try.ntmps26
  go_upto_region 1 with fail
  have b0 : Blk (w.alloc (.cells cs 37)) w.heap.size cs 37 := Blk.new w cs _
  have hb0 : Below w.heap.size w (w.alloc (.cells cs 37)) := (Below.refl _ _).alloc (Nat.le_refl _) _
  generalize w.alloc (.cells cs 37) = W0 at *
  clear C hsz
  go_wp2_with (refine wpList_load_mid rfl 37 _ rfl w.heap.size 0 rfl cs.toList _ b0.range Try.underlying37 rfl (by rw [Array.length_toList, HS.out]; exact Try.infoBoard) ?_)
  refine (HO.out W0).mono ?_
  rintro e W1 ⟨rfl, hb1'⟩
  have hN : w.heap.size < W0.heap.size := b0.lt
  have hS : w.heap.size < W1.heap.size := by have := hb1'.size; omega
  have b1 := b0.below hN hb1'
  have hb1 : Below w.heap.size w W1 := hb0.trans (hb1'.mono (by omega))
  clear hb0 hb1' b0 hN
  cases HV : (lst b.kind b.sub && sizes b)
  · have HVH : Hid ((lst b.kind b.sub && sizes b) = false) := HV
    clear HV
    go_wp2
    go_ret
    exact ⟨by unfold val1; rw [sameB_dec]; rw [val_no HVH.out]; rfl, hb1⟩
  have HVH : Hid ((lst b.kind b.sub && sizes b) = true) := HV
  clear HV
  have d0 : W1.cell? ⟨w.heap.size, 0, none⟩ = some (.int .i64 1) := (b1.cell 0).trans (CC.out.h0.trans (by rw [hk]))
  have d1 := (b1.cell 1).trans CC.out.h1
  have d2 := (b1.cell 2).trans CC.out.h2
  have d3 := (b1.cell 3).trans CC.out.h3
  have d4 := (b1.cell 4).trans CC.out.h4
  have d5 := (b1.cell 5).trans CC.out.h5
  have d6 := (b1.cell 6).trans CC.out.h6
  have d30 := (b1.cell 30).trans CC.out.h30
  have hb2 : Below w.heap.size w (W1.alloc (.cells Z31 37)) := hb1.alloc (by omega) _
  have z1 : Blk (W1.alloc (.cells Z31 37)) W1.heap.size Z31 37 := Blk.new W1 Z31 _
  have b2 : Blk (W1.alloc (.cells Z31 37)) w.heap.size cs 37 := b1.old _
  have KH : Hid (b.kind = 1) := hk
  have Hs : Hid _ := (isB (bare 1 b) rfl).size
  have H1 : Hid _ := (isB (bare 1 b) rfl).one
  clear hb1 b1 hk
  go_upto_region 3 with fail
  go_cut [3] (fun v wx => v = .pointer (some ⟨W1.heap.size, 0, none⟩) ∧ Blk wx W1.heap.size (bare 1 b).cells 37 ∧ Blk wx w.heap.size cs 37 ∧ Below w.heap.size w wx)
  case first =>
    go_wp2_with (refine wpList_store_mid rfl 37 _ _ rfl W1.heap.size 0 (bare 1 b).cells rfl rfl (by exact z1.there _ Hs.out.symm) (by rw [Hs.out]; exact Try.infoBoard) H1.out ?_)
    go_meet
    exact ⟨rfl, z1.setAll (bare 1 b).cells Hs.out, b2.below hS (setCells_below (Nat.le_refl _) _ _ _ _ (Below.refl _ _)), setCells_below (show w.heap.size ≤ W1.heap.size by omega) (bare 1 b).cells.toList 0 _ _ hb2⟩
  obtain ⟨rfl, z2, b3, hb3⟩ := hcut
  clear z1 b2 hb2 d0 d1 d2 d3 d4 d5 d6 d30 Hs H1 HO
  obtain ⟨W2, hW2⟩ : ∃ x, x = wc := ⟨wc, rfl⟩
  subst hW2
  have d0 : W2.cell? ⟨w.heap.size, 0, none⟩ = some (.int .i64 1) := (b3.cell 0).trans (CC.out.h0.trans (by rw [KH.out]))
  have ne : ¬ w.heap.size = W1.heap.size := by omega
  have c7 := (b3.cell 7).trans CC.out.h7
  have t7 : W2.cell? ⟨W1.heap.size, 7, none⟩ = some (.int .u8 0) := (z2.cell 7).trans rfl
  have f7 := z2.free 7
  have c8 := (b3.cell 8).trans CC.out.h8
  have t8 : W2.cell? ⟨W1.heap.size, 8, none⟩ = some (.int .u8 0) := (z2.cell 8).trans rfl
  have f8 := z2.free 8
  have c9 := (b3.cell 9).trans CC.out.h9
  have t9 : W2.cell? ⟨W1.heap.size, 9, none⟩ = some (.int .u8 0) := (z2.cell 9).trans rfl
  have f9 := z2.free 9
  have c10 := (b3.cell 10).trans CC.out.h10
  have t10 : W2.cell? ⟨W1.heap.size, 10, none⟩ = some (.int .u8 0) := (z2.cell 10).trans rfl
  have f10 := z2.free 10
  have c11 := (b3.cell 11).trans CC.out.h11
  have t11 : W2.cell? ⟨W1.heap.size, 11, none⟩ = some (.int .u8 0) := (z2.cell 11).trans rfl
  have f11 := z2.free 11
  have c12 := (b3.cell 12).trans CC.out.h12
  have t12 : W2.cell? ⟨W1.heap.size, 12, none⟩ = some (.int .i64 0) := (z2.cell 12).trans rfl
  have f12 := z2.free 12
  have ZH : Hid (Blk W2 W1.heap.size (bare 1 b).cells 37) := z2
  have BH : Hid (Blk W2 w.heap.size cs 37) := b3
  clear z2 b3
  go_upto_region 12 with fail
  have EQ : Hid ((((((((bare 1 b).cells.setIfInBounds 7 (.int .u8 b.shift)).setIfInBounds 8 (.int .u8 b.ctrl)).setIfInBounds 9 (.int .u8 b.chrA)).setIfInBounds 10 (.int .u8 b.chrB)).setIfInBounds 11 (.int .u8 b.prgR)).setIfInBounds 12 (.int .i64 b.last)) = (n1 b).cells) := rfl
  have zz : Blk ((((((W2.setCell ⟨W1.heap.size, 7, none⟩ (.int .u8 b.shift)).setCell ⟨W1.heap.size, 8, none⟩ (.int .u8 b.ctrl)).setCell ⟨W1.heap.size, 9, none⟩ (.int .u8 b.chrA)).setCell ⟨W1.heap.size, 10, none⟩ (.int .u8 b.chrB)).setCell ⟨W1.heap.size, 11, none⟩ (.int .u8 b.prgR)).setCell ⟨W1.heap.size, 12, none⟩ (.int .i64 b.last)) W1.heap.size (((((((bare 1 b).cells.setIfInBounds 7 (.int .u8 b.shift)).setIfInBounds 8 (.int .u8 b.ctrl)).setIfInBounds 9 (.int .u8 b.chrA)).setIfInBounds 10 (.int .u8 b.chrB)).setIfInBounds 11 (.int .u8 b.prgR)).setIfInBounds 12 (.int .i64 b.last)) 37 := (Blk.set (Blk.set (Blk.set (Blk.set (Blk.set (Blk.set ZH.out 7 (.int .u8 b.shift)) 8 (.int .u8 b.ctrl)) 9 (.int .u8 b.chrA)) 10 (.int .u8 b.chrB)) 11 (.int .u8 b.prgR)) 12 (.int .i64 b.last))
  have bb : Blk ((((((W2.setCell ⟨W1.heap.size, 7, none⟩ (.int .u8 b.shift)).setCell ⟨W1.heap.size, 8, none⟩ (.int .u8 b.ctrl)).setCell ⟨W1.heap.size, 9, none⟩ (.int .u8 b.chrA)).setCell ⟨W1.heap.size, 10, none⟩ (.int .u8 b.chrB)).setCell ⟨W1.heap.size, 11, none⟩ (.int .u8 b.prgR)).setCell ⟨W1.heap.size, 12, none⟩ (.int .i64 b.last)) w.heap.size cs 37 := (Blk.other (Blk.other (Blk.other (Blk.other (Blk.other (Blk.other BH.out (m := W1.heap.size) (by omega) 7 (.int .u8 b.shift)) (m := W1.heap.size) (by omega) 8 (.int .u8 b.ctrl)) (m := W1.heap.size) (by omega) 9 (.int .u8 b.chrA)) (m := W1.heap.size) (by omega) 10 (.int .u8 b.chrB)) (m := W1.heap.size) (by omega) 11 (.int .u8 b.prgR)) (m := W1.heap.size) (by omega) 12 (.int .i64 b.last))
  have hbb := ((((((hb3.setCell (p := ⟨W1.heap.size, 7, none⟩) (Nat.le_of_lt hS) (.int .u8 b.shift)).setCell (p := ⟨W1.heap.size, 8, none⟩) (Nat.le_of_lt hS) (.int .u8 b.ctrl)).setCell (p := ⟨W1.heap.size, 9, none⟩) (Nat.le_of_lt hS) (.int .u8 b.chrA)).setCell (p := ⟨W1.heap.size, 10, none⟩) (Nat.le_of_lt hS) (.int .u8 b.chrB)).setCell (p := ⟨W1.heap.size, 11, none⟩) (Nat.le_of_lt hS) (.int .u8 b.prgR)).setCell (p := ⟨W1.heap.size, 12, none⟩) (Nat.le_of_lt hS) (.int .i64 b.last))
  generalize ((((((W2.setCell ⟨W1.heap.size, 7, none⟩ (.int .u8 b.shift)).setCell ⟨W1.heap.size, 8, none⟩ (.int .u8 b.ctrl)).setCell ⟨W1.heap.size, 9, none⟩ (.int .u8 b.chrA)).setCell ⟨W1.heap.size, 10, none⟩ (.int .u8 b.chrB)).setCell ⟨W1.heap.size, 11, none⟩ (.int .u8 b.prgR)).setCell ⟨W1.heap.size, 12, none⟩ (.int .i64 b.last)) = W3 at *
  clear c7 t7 f7 c8 t8 f8 c9 t9 f9 c10 t10 f10 c11 t11 f11 c12 t12 f12 hb3 ZH BH d0 ne
  rw [EQ.out] at zz
  clear EQ
  have c7 := (bb.cell 7).trans CC.out.h7
  have c8 := (bb.cell 8).trans CC.out.h8
  have c9 := (bb.cell 9).trans CC.out.h9
  have c10 := (bb.cell 10).trans CC.out.h10
  have c11 := (bb.cell 11).trans CC.out.h11
  have c12 := (bb.cell 12).trans CC.out.h12
  have ZH : Hid (Blk W3 W1.heap.size (n1 b).cells 37) := zz
  have BH : Hid (Blk W3 w.heap.size cs 37) := bb
  clear zz bb
  go_upto_region 12 with fail
  go_cut [73] (fun v wx => v = .bool (r12 b) ∧ W3 = wx)
  case first =>
    cases e1 : decide (b.shift < 1)
    rotate_left
    · have H : Hid (r12 b = true) := by unfold Hid; simp only [r12, e1, Bool.true_or]
      go_wp2
      go_meet
      exact ⟨by rw [H.out], rfl⟩
    cases e2 : decide (31 < b.shift)
    rotate_left
    · have H : Hid (r12 b = true) := by unfold Hid; simp only [r12, e1, e2, Bool.true_or, Bool.false_or]
      go_wp2
      go_meet
      exact ⟨by rw [H.out], rfl⟩
    cases e3 : decide (31 < b.ctrl)
    rotate_left
    · have H : Hid (r12 b = true) := by unfold Hid; simp only [r12, e1, e2, e3, Bool.true_or, Bool.false_or]
      go_wp2
      go_meet
      exact ⟨by rw [H.out], rfl⟩
    cases e4 : decide (31 < b.chrA)
    rotate_left
    · have H : Hid (r12 b = true) := by unfold Hid; simp only [r12, e1, e2, e3, e4, Bool.true_or, Bool.false_or]
      go_wp2
      go_meet
      exact ⟨by rw [H.out], rfl⟩
    cases e5 : decide (31 < b.chrB)
    rotate_left
    · have H : Hid (r12 b = true) := by unfold Hid; simp only [r12, e1, e2, e3, e4, e5, Bool.true_or, Bool.false_or]
      go_wp2
      go_meet
      exact ⟨by rw [H.out], rfl⟩
    cases e6 : decide (31 < b.prgR)
    rotate_left
    · have H : Hid (r12 b = true) := by unfold Hid; simp only [r12, e1, e2, e3, e4, e5, e6, Bool.false_or]
      go_wp2
      go_meet
      exact ⟨by rw [H.out], rfl⟩
    have H : Hid (r12 b = false) := by unfold Hid; simp only [r12, e1, e2, e3, e4, e5, e6, Bool.false_or]
    go_wp2
    go_meet
    exact ⟨by rw [H.out], rfl⟩
  obtain ⟨rfl, rfl⟩ := hcut
  cases hr12 : r12 b
  rotate_left
  · have HX : Hid (r12 b = true) := hr12
    clear hr12
    go_wp2
    go_ret
    exact ⟨by unfold val1; rw [sameB_dec]; rw [regs1_eq b BW.out, HX.out, Bool.not_true, Bool.false_and, Bool.and_false, Bool.and_false, Bool.and_false]; rfl, hbb⟩
  have Hr12 : Hid (r12 b = false) := hr12
  clear hr12
  go_upto_region 14 with fail
  go_cut [81] (fun v wx => v = .bool (r14 b) ∧ W3 = wx)
  case first =>
    cases e1 : decide (b.last < -2)
    rotate_left
    · have H : Hid (r14 b = true) := by unfold Hid; simp only [r14, e1, Bool.true_or]
      go_wp2
      go_meet
      exact ⟨by rw [H.out], rfl⟩
    cases e2 : (b.last == -1)
    rotate_left
    · have H : Hid (r14 b = true) := by unfold Hid; simp only [r14, e1, e2, Bool.false_or]
      go_wp2
      go_meet
      exact ⟨by rw [H.out], rfl⟩
    have H : Hid (r14 b = false) := by unfold Hid; simp only [r14, e1, e2, Bool.false_or]
    go_wp2
    go_meet
    exact ⟨by rw [H.out], rfl⟩
  obtain ⟨rfl, rfl⟩ := hcut
  cases hr14 : r14 b
  rotate_left
  · have HX : Hid (r14 b = true) := hr14
    clear hr14
    go_wp2
    go_ret
    exact ⟨by unfold val1; rw [sameB_dec]; rw [regs1_eq b BW.out, HX.out, Bool.not_true, Bool.and_false, Bool.and_false, Bool.and_false, Bool.and_false]; rfl, hbb⟩
  have Hr14 : Hid (r14 b = false) := hr14
  clear hr14
  have zz : Blk _ _ _ _ := ZH.out
  have bb : Blk _ _ _ _ := BH.out
  clear c7 c8 c9 c10 c11 c12 ZH BH
  have Hs : Hid _ := (isB (n1 b) rfl).size
  go_wp2_with (first
    | refine wpList_load_mid rfl 37 _ rfl w.heap.size 0 rfl cs.toList _ bb.range Try.underlying37 rfl (by rw [Array.length_toList, HS.out]; exact Try.infoBoard) ?_
    | refine wpList_load_mid rfl 37 _ rfl W1.heap.size 0 rfl (n1 b).cells.toList _ zz.range Try.underlying37 rfl (by rw [Array.length_toList, Hs.out]; exact Try.infoBoard) ?_
    | refine Try.wpEqlB b (n1 b) hr rfl _ _ _ rfl rfl (by rw [HC.out]; rfl) (by rfl) ?_)
  go_ret
  exact ⟨by have e := HVH.out; rw [Bool.and_eq_true] at e; unfold val1; rw [sameB_dec]; rw [regs1_eq b BW.out, Hr12.out, Hr14.out, e.1, e.2, show decide (n1 b = b) = decide (b = n1 b) from decide_eq_decide.2 eq_comm, Bool.true_and, Bool.not_false, Bool.true_and, Bool.true_and, Bool.and_true]; rfl, hbb⟩
end Go.Proofs.Ytecaipakaaongaa
