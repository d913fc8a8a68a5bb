/-
  What the document's ChrBank answers of every board.
-/
import Derived.Test.YtggphgmpdanliaaYRef3
set_option linter.unusedSimpArgs false
set_option linter.unusedVariables false
namespace Go.Proofs.Ytggphgmpdanliaa
open Go.RowKit
set_option maxRecDepth 100000 in
set_option maxHeartbeats 1000000 in
theorem rchr_none (w : World) (b : Bd) (x : Int) (B : b.Wf) (hv : validB b = false) :
    Calls Try.prog 31 #[.agg b.cells, .int .i64 x] w fun e w' => e = .returned (.int .i64 (-1)) ∧ Below w.heap.size w w' := by
  have C := isB b B.rlen
  have VA : ∀ W, Calls Try.prog 42 #[.agg b.cells] W fun e w' => e = .returned (.bool false) ∧ Below W.heap.size W w' := fun W => hv ▸ refValid_any W b B
  generalize b.cells = cs at *
  have HS : Hid _ := C.size
  have HVA : Hid _ := VA
  clear VA C hv
  go_enter Try.func31, Try.ntmps31
  go_upto_region 1 with fail
  have b0 : Blk (w.alloc (.cells cs 28)) w.heap.size cs 28 := Blk.new w cs _
  have hb0 : Below w.heap.size w (w.alloc (.cells cs 28)) := (Below.refl _ _).alloc (Nat.le_refl _) _
  generalize w.alloc (.cells cs 28) = W0 at *
  go_wp2_with (refine wpList_load_mid rfl 28 _ rfl w.heap.size 0 rfl cs.toList _ b0.range Try.underlying28 rfl (by rw [Array.length_toList, HS.out]; exact Try.infoBoard) ?_)
  refine (HVA.out W0).mono ?_
  rintro e W1 ⟨rfl, hb1'⟩
  have hb1 : Below w.heap.size w W1 := hb0.trans (hb1'.mono hb0.size)
  clear b0 hb0 hb1' HVA
  go_wp2
  go_ret
  exact ⟨rfl, hb1⟩
set_option maxRecDepth 100000 in
set_option maxHeartbeats 1000000 in
theorem rchr_low (w : World) (b : Bd) (x : Int) (hx : x < 0) (o : b.Ok) :
    Calls Try.prog 31 #[.agg b.cells, .int .i64 x] w fun e w' => e = .returned (.int .i64 (-1)) ∧ Below w.heap.size w w' := by
  have x0 : decide (x < 0) = true := decide_eq_true hx
  clear hx
  have C := isB b o.wf.rlen
  have VA : ∀ W, Calls Try.prog 42 #[.agg b.cells] W fun e w' => e = .returned (.bool true) ∧ Below W.heap.size W w' := fun W => o.val ▸ refValid_any W b o.wf
  generalize b.cells = cs at *
  have HS : Hid _ := C.size
  have HVA : Hid _ := VA
  clear o VA
  go_enter Try.func31, Try.ntmps31
  go_upto_region 1 with fail
  have b0 : Blk (w.alloc (.cells cs 28)) w.heap.size cs 28 := Blk.new w cs _
  have hb0 : Below w.heap.size w (w.alloc (.cells cs 28)) := (Below.refl _ _).alloc (Nat.le_refl _) _
  generalize w.alloc (.cells cs 28) = W0 at *
  go_wp2_with (refine wpList_load_mid rfl 28 _ rfl w.heap.size 0 rfl cs.toList _ b0.range Try.underlying28 rfl (by rw [Array.length_toList, HS.out]; exact Try.infoBoard) ?_)
  refine (HVA.out W0).mono ?_
  rintro e W1 ⟨rfl, hb1'⟩
  have hb1 : Below w.heap.size w W1 := hb0.trans (hb1'.mono hb0.size)
  have b1 := b0.below b0.lt hb1'
  clear C b0 hb0 hb1' HVA
  go_wp2
  go_ret
  exact ⟨rfl, hb1⟩
set_option maxRecDepth 100000 in
set_option maxHeartbeats 1000000 in
theorem rchr_high (w : World) (b : Bd) (x : Int) (hx : 7 < x) (o : b.Ok) :
    Calls Try.prog 31 #[.agg b.cells, .int .i64 x] w fun e w' => e = .returned (.int .i64 (-1)) ∧ Below w.heap.size w w' := by
  have x0 : decide (x < 0) = false := decide_eq_false (by omega)
  have x1 : decide (7 < x) = true := decide_eq_true hx
  clear hx
  have C := isB b o.wf.rlen
  have VA : ∀ W, Calls Try.prog 42 #[.agg b.cells] W fun e w' => e = .returned (.bool true) ∧ Below W.heap.size W w' := fun W => o.val ▸ refValid_any W b o.wf
  generalize b.cells = cs at *
  have HS : Hid _ := C.size
  have HVA : Hid _ := VA
  clear o VA
  go_enter Try.func31, Try.ntmps31
  go_upto_region 1 with fail
  have b0 : Blk (w.alloc (.cells cs 28)) w.heap.size cs 28 := Blk.new w cs _
  have hb0 : Below w.heap.size w (w.alloc (.cells cs 28)) := (Below.refl _ _).alloc (Nat.le_refl _) _
  generalize w.alloc (.cells cs 28) = W0 at *
  go_wp2_with (refine wpList_load_mid rfl 28 _ rfl w.heap.size 0 rfl cs.toList _ b0.range Try.underlying28 rfl (by rw [Array.length_toList, HS.out]; exact Try.infoBoard) ?_)
  refine (HVA.out W0).mono ?_
  rintro e W1 ⟨rfl, hb1'⟩
  have hb1 : Below w.heap.size w W1 := hb0.trans (hb1'.mono hb0.size)
  have b1 := b0.below b0.lt hb1'
  clear C b0 hb0 hb1' HVA
  go_wp2
  go_ret
  exact ⟨rfl, hb1⟩
set_option maxRecDepth 100000 in
set_option maxHeartbeats 1000000 in
theorem rchr_0 (w : World) (b : Bd) (x : Int) (n0 : 0 ≤ x) (n1 : x ≤ 7) (o : b.Ok) (hk : b.kind = 0 ∨ b.kind = 2 ∨ b.kind = 7) :
    Calls Try.prog 31 #[.agg b.cells, .int .i64 x] w fun e w' => e = .returned (.int .i64 (chrB b x)) ∧ Below w.heap.size w w' := by
  have x0 : decide (x < 0) = false := decide_eq_false (by omega)
  have x1 : decide (7 < x) = false := decide_eq_false (by omega)
  have p0 := o.c0
  have p1 := o.c1
  have pz : ¬ b.chr = 0 := by omega
  have E : chrB b x = x % b.chr := by rcases hk with hk | hk | hk <;> simp [chrB, chrN, hk]
  rw [E]
  clear E
  have M := mod_in (x) b.chr (n0) (by omega)
  obtain ⟨em, m0, m1⟩ := M
  have m2 : (x) % b.chr ≤ 512 := by omega
  generalize (x) % b.chr = rr at *
  clear p0 p1 m1
  have C := isB b o.wf.rlen
  have VA : ∀ W, Calls Try.prog 42 #[.agg b.cells] W fun e w' => e = .returned (.bool true) ∧ Below W.heap.size W w' := fun W => o.val ▸ refValid_any W b o.wf
  generalize b.cells = cs at *
  have HS : Hid _ := C.size
  have HVA : Hid _ := VA
  clear o VA
  go_enter Try.func31, Try.ntmps31
  go_upto_region 1 with fail
  have b0 : Blk (w.alloc (.cells cs 28)) w.heap.size cs 28 := Blk.new w cs _
  have hb0 : Below w.heap.size w (w.alloc (.cells cs 28)) := (Below.refl _ _).alloc (Nat.le_refl _) _
  generalize w.alloc (.cells cs 28) = W0 at *
  go_wp2_with (refine wpList_load_mid rfl 28 _ rfl w.heap.size 0 rfl cs.toList _ b0.range Try.underlying28 rfl (by rw [Array.length_toList, HS.out]; exact Try.infoBoard) ?_)
  refine (HVA.out W0).mono ?_
  rintro e W1 ⟨rfl, hb1'⟩
  have hb1 : Below w.heap.size w W1 := hb0.trans (hb1'.mono hb0.size)
  have b1 := b0.below b0.lt hb1'
  have d0 := (b1.cell 0).trans C.h0
  have d5 := (b1.cell 5).trans C.h5
  clear C b0 hb0 hb1' HVA
  rcases hk with hk | hk | hk
  all_goals
    rw [hk] at d0
    clear hk
    go_wp2
    go_ret
    exact ⟨rfl, hb1⟩
set_option maxRecDepth 100000 in
set_option maxHeartbeats 1000000 in
theorem rchr_3 (w : World) (b : Bd) (x : Int) (n0 : 0 ≤ x) (n1 : x ≤ 7) (o : b.Ok) (hk : b.kind = 3) :
    Calls Try.prog 31 #[.agg b.cells, .int .i64 x] w fun e w' => e = .returned (.int .i64 (chrB b x)) ∧ Below w.heap.size w w' := by
  have x0 : decide (x < 0) = false := decide_eq_false (by omega)
  have x1 : decide (7 < x) = false := decide_eq_false (by omega)
  have p0 := o.c0
  have p1 := o.c1
  have pz : ¬ b.chr = 0 := by omega
  have l0 := o.wf.latch.1
  have l1 := o.wf.latch.2
  have E : chrB b x = (8 * b.latch + x) % b.chr := by simp [chrB, chrN, hk]
  rw [E]
  clear E
  have M := mod_in (8 * b.latch + x) b.chr (by omega) (by omega)
  obtain ⟨em, m0, m1⟩ := M
  have m2 : (8 * b.latch + x) % b.chr ≤ 512 := by omega
  generalize (8 * b.latch + x) % b.chr = rr at *
  clear p0 p1 m1
  have C := isB b o.wf.rlen
  have VA : ∀ W, Calls Try.prog 42 #[.agg b.cells] W fun e w' => e = .returned (.bool true) ∧ Below W.heap.size W w' := fun W => o.val ▸ refValid_any W b o.wf
  generalize b.cells = cs at *
  have HS : Hid _ := C.size
  have HVA : Hid _ := VA
  clear o VA
  go_enter Try.func31, Try.ntmps31
  go_upto_region 1 with fail
  have b0 : Blk (w.alloc (.cells cs 28)) w.heap.size cs 28 := Blk.new w cs _
  have hb0 : Below w.heap.size w (w.alloc (.cells cs 28)) := (Below.refl _ _).alloc (Nat.le_refl _) _
  generalize w.alloc (.cells cs 28) = W0 at *
  go_wp2_with (refine wpList_load_mid rfl 28 _ rfl w.heap.size 0 rfl cs.toList _ b0.range Try.underlying28 rfl (by rw [Array.length_toList, HS.out]; exact Try.infoBoard) ?_)
  refine (HVA.out W0).mono ?_
  rintro e W1 ⟨rfl, hb1'⟩
  have hb1 : Below w.heap.size w W1 := hb0.trans (hb1'.mono hb0.size)
  have b1 := b0.below b0.lt hb1'
  have d0 := (b1.cell 0).trans C.h0
  have d5 := (b1.cell 5).trans C.h5
  have d13 := (b1.cell 13).trans C.h13
  clear C b0 hb0 hb1' HVA
  rw [hk] at d0
  go_wp2
  go_ret
  exact ⟨rfl, hb1⟩
set_option maxRecDepth 100000 in
set_option maxHeartbeats 1000000 in
theorem rchr_1a (w : World) (b : Bd) (x : Int) (n0 : 0 ≤ x) (n1 : x ≤ 7) (o : b.Ok) (hk : b.kind = 1) (hc : b.ctrl / 16 % 2 = 0) :
    Calls Try.prog 31 #[.agg b.cells, .int .i64 x] w fun e w' => e = .returned (.int .i64 (chrB b x)) ∧ Below w.heap.size w w' := by
  have x0 : decide (x < 0) = false := decide_eq_false (by omega)
  have x1 : decide (7 < x) = false := decide_eq_false (by omega)
  have p0 := o.c0
  have p1 := o.c1
  have pz : ¬ b.chr = 0 := by omega
  have a0 := o.wf.chrA.1
  have a1 := (o.r1 hk).2.2.2.1
  have e16 := bit16 o.wf.ctrl.1 o.wf.ctrl.2
  have q0 := o.wf.chrB.1
  have q1 := (o.r1 hk).2.2.2.2.1
  have E : chrB b x = (4 * (b.chrA - b.chrA % 2) + x) % b.chr := by simp [chrB, chrN, hk, hc]
  rw [E]
  clear E
  rw [hc] at e16
  have ev := and30 a0 a1
  have z0 : 0 ≤ b.chrA - b.chrA % 2 := by omega
  have z1 : b.chrA - b.chrA % 2 ≤ 31 := by omega
  generalize b.chrA - b.chrA % 2 = zz at *
  have M := mod_in (4 * zz + x) b.chr (by omega) (by omega)
  obtain ⟨em, m0, m1⟩ := M
  have m2 : (4 * zz + x) % b.chr ≤ 512 := by omega
  generalize (4 * zz + x) % b.chr = rr at *
  clear p0 p1 m1 hc
  have C := isB b o.wf.rlen
  have VA : ∀ W, Calls Try.prog 42 #[.agg b.cells] W fun e w' => e = .returned (.bool true) ∧ Below W.heap.size W w' := fun W => o.val ▸ refValid_any W b o.wf
  generalize b.cells = cs at *
  have HS : Hid _ := C.size
  have HVA : Hid _ := VA
  clear o VA
  go_enter Try.func31, Try.ntmps31
  go_upto_region 1 with fail
  have b0 : Blk (w.alloc (.cells cs 28)) w.heap.size cs 28 := Blk.new w cs _
  have hb0 : Below w.heap.size w (w.alloc (.cells cs 28)) := (Below.refl _ _).alloc (Nat.le_refl _) _
  generalize w.alloc (.cells cs 28) = W0 at *
  go_wp2_with (refine wpList_load_mid rfl 28 _ rfl w.heap.size 0 rfl cs.toList _ b0.range Try.underlying28 rfl (by rw [Array.length_toList, HS.out]; exact Try.infoBoard) ?_)
  refine (HVA.out W0).mono ?_
  rintro e W1 ⟨rfl, hb1'⟩
  have hb1 : Below w.heap.size w W1 := hb0.trans (hb1'.mono hb0.size)
  have b1 := b0.below b0.lt hb1'
  have d0 := (b1.cell 0).trans C.h0
  have d5 := (b1.cell 5).trans C.h5
  have d8 := (b1.cell 8).trans C.h8
  have d9 := (b1.cell 9).trans C.h9
  clear C b0 hb0 hb1' HVA
  rw [hk] at d0
  go_wp2
  go_ret
  exact ⟨rfl, hb1⟩
set_option maxRecDepth 100000 in
set_option maxHeartbeats 1000000 in
theorem rchr_1b (w : World) (b : Bd) (x : Int) (n0 : 0 ≤ x) (n1 : x ≤ 7) (o : b.Ok) (hk : b.kind = 1) (hc : ¬ b.ctrl / 16 % 2 = 0) (hx4 : x < 4) :
    Calls Try.prog 31 #[.agg b.cells, .int .i64 x] w fun e w' => e = .returned (.int .i64 (chrB b x)) ∧ Below w.heap.size w w' := by
  have x0 : decide (x < 0) = false := decide_eq_false (by omega)
  have x1 : decide (7 < x) = false := decide_eq_false (by omega)
  have p0 := o.c0
  have p1 := o.c1
  have pz : ¬ b.chr = 0 := by omega
  have a0 := o.wf.chrA.1
  have a1 := (o.r1 hk).2.2.2.1
  have e16 := bit16 o.wf.ctrl.1 o.wf.ctrl.2
  have q0 := o.wf.chrB.1
  have q1 := (o.r1 hk).2.2.2.2.1
  have E : chrB b x = (4 * b.chrA + x) % b.chr := by simp [chrB, chrN, hk, hc, hx4]
  rw [E]
  clear E
  rw [show b.ctrl / 16 % 2 = 1 by omega] at e16
  have x4 : decide (x < 4) = true := decide_eq_true hx4
  have M := mod_in (4 * b.chrA + x) b.chr (by omega) (by omega)
  obtain ⟨em, m0, m1⟩ := M
  have m2 : (4 * b.chrA + x) % b.chr ≤ 512 := by omega
  generalize (4 * b.chrA + x) % b.chr = rr at *
  clear p0 p1 m1 hc
  have C := isB b o.wf.rlen
  have VA : ∀ W, Calls Try.prog 42 #[.agg b.cells] W fun e w' => e = .returned (.bool true) ∧ Below W.heap.size W w' := fun W => o.val ▸ refValid_any W b o.wf
  generalize b.cells = cs at *
  have HS : Hid _ := C.size
  have HVA : Hid _ := VA
  clear o VA
  go_enter Try.func31, Try.ntmps31
  go_upto_region 1 with fail
  have b0 : Blk (w.alloc (.cells cs 28)) w.heap.size cs 28 := Blk.new w cs _
  have hb0 : Below w.heap.size w (w.alloc (.cells cs 28)) := (Below.refl _ _).alloc (Nat.le_refl _) _
  generalize w.alloc (.cells cs 28) = W0 at *
  go_wp2_with (refine wpList_load_mid rfl 28 _ rfl w.heap.size 0 rfl cs.toList _ b0.range Try.underlying28 rfl (by rw [Array.length_toList, HS.out]; exact Try.infoBoard) ?_)
  refine (HVA.out W0).mono ?_
  rintro e W1 ⟨rfl, hb1'⟩
  have hb1 : Below w.heap.size w W1 := hb0.trans (hb1'.mono hb0.size)
  have b1 := b0.below b0.lt hb1'
  have d0 := (b1.cell 0).trans C.h0
  have d5 := (b1.cell 5).trans C.h5
  have d8 := (b1.cell 8).trans C.h8
  have d9 := (b1.cell 9).trans C.h9
  clear C b0 hb0 hb1' HVA
  rw [hk] at d0
  go_wp2
  go_ret
  exact ⟨rfl, hb1⟩
set_option maxRecDepth 100000 in
set_option maxHeartbeats 1000000 in
theorem rchr_1c (w : World) (b : Bd) (x : Int) (n0 : 0 ≤ x) (n1 : x ≤ 7) (o : b.Ok) (hk : b.kind = 1) (hc : ¬ b.ctrl / 16 % 2 = 0) (hx4 : ¬ x < 4) :
    Calls Try.prog 31 #[.agg b.cells, .int .i64 x] w fun e w' => e = .returned (.int .i64 (chrB b x)) ∧ Below w.heap.size w w' := by
  have x0 : decide (x < 0) = false := decide_eq_false (by omega)
  have x1 : decide (7 < x) = false := decide_eq_false (by omega)
  have p0 := o.c0
  have p1 := o.c1
  have pz : ¬ b.chr = 0 := by omega
  have a0 := o.wf.chrA.1
  have a1 := (o.r1 hk).2.2.2.1
  have e16 := bit16 o.wf.ctrl.1 o.wf.ctrl.2
  have q0 := o.wf.chrB.1
  have q1 := (o.r1 hk).2.2.2.2.1
  have E : chrB b x = (4 * b.chrB + x - 4) % b.chr := by simp [chrB, chrN, hk, hc, hx4]
  rw [E]
  clear E
  rw [show b.ctrl / 16 % 2 = 1 by omega] at e16
  have x4 : decide (x < 4) = false := decide_eq_false hx4
  have M := mod_in (4 * b.chrB + x - 4) b.chr (by omega) (by omega)
  obtain ⟨em, m0, m1⟩ := M
  have m2 : (4 * b.chrB + x - 4) % b.chr ≤ 512 := by omega
  generalize (4 * b.chrB + x - 4) % b.chr = rr at *
  clear p0 p1 m1 hc
  have C := isB b o.wf.rlen
  have VA : ∀ W, Calls Try.prog 42 #[.agg b.cells] W fun e w' => e = .returned (.bool true) ∧ Below W.heap.size W w' := fun W => o.val ▸ refValid_any W b o.wf
  generalize b.cells = cs at *
  have HS : Hid _ := C.size
  have HVA : Hid _ := VA
  clear o VA
  go_enter Try.func31, Try.ntmps31
  go_upto_region 1 with fail
  have b0 : Blk (w.alloc (.cells cs 28)) w.heap.size cs 28 := Blk.new w cs _
  have hb0 : Below w.heap.size w (w.alloc (.cells cs 28)) := (Below.refl _ _).alloc (Nat.le_refl _) _
  generalize w.alloc (.cells cs 28) = W0 at *
  go_wp2_with (refine wpList_load_mid rfl 28 _ rfl w.heap.size 0 rfl cs.toList _ b0.range Try.underlying28 rfl (by rw [Array.length_toList, HS.out]; exact Try.infoBoard) ?_)
  refine (HVA.out W0).mono ?_
  rintro e W1 ⟨rfl, hb1'⟩
  have hb1 : Below w.heap.size w W1 := hb0.trans (hb1'.mono hb0.size)
  have b1 := b0.below b0.lt hb1'
  have d0 := (b1.cell 0).trans C.h0
  have d5 := (b1.cell 5).trans C.h5
  have d8 := (b1.cell 8).trans C.h8
  have d10 := (b1.cell 10).trans C.h10
  clear C b0 hb0 hb1' HVA
  rw [hk] at d0
  go_wp2
  go_ret
  exact ⟨rfl, hb1⟩
theorem rchr_all (w : World) (b : Bd) (x : Int) (B : b.Wf) :
    Calls Try.prog 31 #[.agg b.cells, .int .i64 x] w fun e w' => e = .returned (.int .i64 (chrBA b x)) ∧ Below w.heap.size w w' := by
  unfold chrBA
  cases hv : validB b
  · rw [if_neg (by simp)]
    exact rchr_none w b x B hv
  have o := Bd.ok B hv
  by_cases h0 : x < 0
  · rw [if_neg (by omega)]
    exact rchr_low w b x h0 o
  by_cases h1 : 7 < x
  · rw [if_neg (by omega)]
    exact rchr_high w b x h1 o
  rw [if_pos ⟨rfl, by omega, by omega⟩]
  rcases o.kd with hk | hk | hk | hk | hk | hk
  · exact rchr_0 w b x (by omega) (by omega) o (by omega)
  · by_cases h5 : b.ctrl / 16 % 2 = 0
    · exact rchr_1a w b x (by omega) (by omega) o hk h5
    · by_cases h2 : x < 4
      · exact rchr_1b w b x (by omega) (by omega) o hk h5 h2
      · exact rchr_1c w b x (by omega) (by omega) o hk h5 h2
  · exact rchr_0 w b x (by omega) (by omega) o (by omega)
  · exact rchr_3 w b x (by omega) (by omega) o hk
  · exact rchr_4 w b x (by omega) (by omega) o hk
  · exact rchr_0 w b x (by omega) (by omega) o (by omega)
end Go.Proofs.Ytggphgmpdanliaa
