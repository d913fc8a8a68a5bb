/-
  What the document's Bank answers of every board.
-/
import Derived.Test.YtggphgmpdanliaaYRef1
import Derived.Test.YtggphgmpdanliaaYApi
set_option linter.unusedSimpArgs false
set_option linter.unusedVariables false
namespace Go.Proofs.Ytggphgmpdanliaa
open Go.RowKit
theorem serialB_bd {b : Bd} (o : b.Ok) {x : Int} (n0 : 0 ≤ x) (n1 : x ≤ 3) : 0 ≤ serialB b x ∧ serialB b x ≤ 300 := by
  have h := outer_bd b o.p0
  have r0 := o.wf.prgR.1
  unfold serialB
  (repeat' split) <;> omega
theorem scanB_bd {b : Bd} (o : b.Ok) {x : Int} (n0 : 0 ≤ x) (n1 : x ≤ 3) : 0 ≤ scanB b x ∧ scanB b x ≤ 300 := by
  have p0 := o.p0
  have p1 := o.p1
  have g6 := o.wf.rget 6
  have g7 := o.wf.rget 7
  unfold scanB
  (repeat' split) <;> omega
set_option maxRecDepth 100000 in
set_option maxHeartbeats 1000000 in
theorem rbank_none (w : World) (b : Bd) (x : Int) (B : b.Wf) (hv : validB b = false) :
    Calls Try.prog 29 #[.agg b.cells, .int .i64 x] w fun e w' => e = .returned (.int .i64 (-1)) ∧ Below w.heap.size w w' := by
  have C := isB b B.rlen
  have VA : ∀ W, Calls Try.prog 42 #[.agg b.cells] W fun e w' => e = .returned (.bool false) ∧ Below W.heap.size W w' := fun W => hv ▸ refValid_any W b B
  generalize b.cells = cs at *
  have HS : Hid _ := C.size
  have HVA : Hid _ := VA
  clear VA C hv
  go_enter Try.func29, Try.ntmps29
  go_upto_region 1 with fail
  have b0 : Blk (w.alloc (.cells cs 28)) w.heap.size cs 28 := Blk.new w cs _
  have hb0 : Below w.heap.size w (w.alloc (.cells cs 28)) := (Below.refl _ _).alloc (Nat.le_refl _) _
  generalize w.alloc (.cells cs 28) = W0 at *
  go_wp2_with (refine wpList_load_mid rfl 28 _ rfl w.heap.size 0 rfl cs.toList _ b0.range Try.underlying28 rfl (by rw [Array.length_toList, HS.out]; exact Try.infoBoard) ?_)
  refine (HVA.out W0).mono ?_
  rintro e W1 ⟨rfl, hb1'⟩
  have hb1 : Below w.heap.size w W1 := hb0.trans (hb1'.mono hb0.size)
  clear b0 hb0 hb1' HVA
  go_wp2
  go_ret
  exact ⟨rfl, hb1⟩
set_option maxRecDepth 100000 in
set_option maxHeartbeats 1000000 in
theorem rbank_low (w : World) (b : Bd) (x : Int) (hx : x < 0) (o : b.Ok) :
    Calls Try.prog 29 #[.agg b.cells, .int .i64 x] w fun e w' => e = .returned (.int .i64 (-1)) ∧ Below w.heap.size w w' := by
  have x0 : decide (x < 0) = true := decide_eq_true hx
  clear hx
  have C := isB b o.wf.rlen
  have VA : ∀ W, Calls Try.prog 42 #[.agg b.cells] W fun e w' => e = .returned (.bool true) ∧ Below W.heap.size W w' := fun W => o.val ▸ refValid_any W b o.wf
  generalize b.cells = cs at *
  have HS : Hid _ := C.size
  have HVA : Hid _ := VA
  clear o VA
  go_enter Try.func29, Try.ntmps29
  go_upto_region 1 with fail
  have b0 : Blk (w.alloc (.cells cs 28)) w.heap.size cs 28 := Blk.new w cs _
  have hb0 : Below w.heap.size w (w.alloc (.cells cs 28)) := (Below.refl _ _).alloc (Nat.le_refl _) _
  generalize w.alloc (.cells cs 28) = W0 at *
  go_wp2_with (refine wpList_load_mid rfl 28 _ rfl w.heap.size 0 rfl cs.toList _ b0.range Try.underlying28 rfl (by rw [Array.length_toList, HS.out]; exact Try.infoBoard) ?_)
  refine (HVA.out W0).mono ?_
  rintro e W1 ⟨rfl, hb1'⟩
  have hb1 : Below w.heap.size w W1 := hb0.trans (hb1'.mono hb0.size)
  have b1 := b0.below b0.lt hb1'
  clear C b0 hb0 hb1' HVA
  go_wp2
  go_ret
  exact ⟨rfl, hb1⟩
set_option maxRecDepth 100000 in
set_option maxHeartbeats 1000000 in
theorem rbank_high (w : World) (b : Bd) (x : Int) (hx : 3 < x) (o : b.Ok) :
    Calls Try.prog 29 #[.agg b.cells, .int .i64 x] w fun e w' => e = .returned (.int .i64 (-1)) ∧ Below w.heap.size w w' := by
  have x0 : decide (x < 0) = false := decide_eq_false (by omega)
  have x1 : decide (3 < x) = true := decide_eq_true hx
  clear hx
  have C := isB b o.wf.rlen
  have VA : ∀ W, Calls Try.prog 42 #[.agg b.cells] W fun e w' => e = .returned (.bool true) ∧ Below W.heap.size W w' := fun W => o.val ▸ refValid_any W b o.wf
  generalize b.cells = cs at *
  have HS : Hid _ := C.size
  have HVA : Hid _ := VA
  clear o VA
  go_enter Try.func29, Try.ntmps29
  go_upto_region 1 with fail
  have b0 : Blk (w.alloc (.cells cs 28)) w.heap.size cs 28 := Blk.new w cs _
  have hb0 : Below w.heap.size w (w.alloc (.cells cs 28)) := (Below.refl _ _).alloc (Nat.le_refl _) _
  generalize w.alloc (.cells cs 28) = W0 at *
  go_wp2_with (refine wpList_load_mid rfl 28 _ rfl w.heap.size 0 rfl cs.toList _ b0.range Try.underlying28 rfl (by rw [Array.length_toList, HS.out]; exact Try.infoBoard) ?_)
  refine (HVA.out W0).mono ?_
  rintro e W1 ⟨rfl, hb1'⟩
  have hb1 : Below w.heap.size w W1 := hb0.trans (hb1'.mono hb0.size)
  have b1 := b0.below b0.lt hb1'
  clear C b0 hb0 hb1' HVA
  go_wp2
  go_ret
  exact ⟨rfl, hb1⟩
set_option maxRecDepth 100000 in
set_option maxHeartbeats 1000000 in
theorem rbank_0 (w : World) (b : Bd) (x : Int) (n0 : 0 ≤ x) (n1 : x ≤ 3) (o : b.Ok) (hk : b.kind = 0) :
    Calls Try.prog 29 #[.agg b.cells, .int .i64 x] w fun e w' => e = .returned (.int .i64 (bankB b x)) ∧ Below w.heap.size w w' := by
  have x0 : decide (x < 0) = false := decide_eq_false (by omega)
  have x1 : decide (3 < x) = false := decide_eq_false (by omega)
  have p0 := o.p0
  have p1 := o.p1
  have pz : ¬ b.prg = 0 := by omega
  have E : bankB b x = x % b.prg := by simp [bankB, bankN, hk]
  rw [E]
  clear E
  have M := mod_in (x) b.prg (n0) (by omega)
  obtain ⟨em, m0, m1⟩ := M
  have m2 : (x) % b.prg ≤ 128 := by omega
  generalize (x) % b.prg = rr at *
  clear p0 p1 m1
  have C := isB b o.wf.rlen
  have VA : ∀ W, Calls Try.prog 42 #[.agg b.cells] W fun e w' => e = .returned (.bool true) ∧ Below W.heap.size W w' := fun W => o.val ▸ refValid_any W b o.wf
  generalize b.cells = cs at *
  have HS : Hid _ := C.size
  have HVA : Hid _ := VA
  clear o VA
  go_enter Try.func29, Try.ntmps29
  go_upto_region 1 with fail
  have b0 : Blk (w.alloc (.cells cs 28)) w.heap.size cs 28 := Blk.new w cs _
  have hb0 : Below w.heap.size w (w.alloc (.cells cs 28)) := (Below.refl _ _).alloc (Nat.le_refl _) _
  generalize w.alloc (.cells cs 28) = W0 at *
  go_wp2_with (refine wpList_load_mid rfl 28 _ rfl w.heap.size 0 rfl cs.toList _ b0.range Try.underlying28 rfl (by rw [Array.length_toList, HS.out]; exact Try.infoBoard) ?_)
  refine (HVA.out W0).mono ?_
  rintro e W1 ⟨rfl, hb1'⟩
  have hb1 : Below w.heap.size w W1 := hb0.trans (hb1'.mono hb0.size)
  have b1 := b0.below b0.lt hb1'
  have d0 := (b1.cell 0).trans C.h0
  have d4 := (b1.cell 4).trans C.h4
  clear C b0 hb0 hb1' HVA
  rw [hk] at d0
  go_wp2
  go_ret
  exact ⟨rfl, hb1⟩
set_option maxRecDepth 100000 in
set_option maxHeartbeats 1000000 in
theorem rbank_3 (w : World) (b : Bd) (x : Int) (n0 : 0 ≤ x) (n1 : x ≤ 3) (o : b.Ok) (hk : b.kind = 3) :
    Calls Try.prog 29 #[.agg b.cells, .int .i64 x] w fun e w' => e = .returned (.int .i64 (bankB b x)) ∧ Below w.heap.size w w' := by
  have x0 : decide (x < 0) = false := decide_eq_false (by omega)
  have x1 : decide (3 < x) = false := decide_eq_false (by omega)
  have p0 := o.p0
  have p1 := o.p1
  have pz : ¬ b.prg = 0 := by omega
  have E : bankB b x = x % b.prg := by simp [bankB, bankN, hk]
  rw [E]
  clear E
  have M := mod_in (x) b.prg (n0) (by omega)
  obtain ⟨em, m0, m1⟩ := M
  have m2 : (x) % b.prg ≤ 128 := by omega
  generalize (x) % b.prg = rr at *
  clear p0 p1 m1
  have C := isB b o.wf.rlen
  have VA : ∀ W, Calls Try.prog 42 #[.agg b.cells] W fun e w' => e = .returned (.bool true) ∧ Below W.heap.size W w' := fun W => o.val ▸ refValid_any W b o.wf
  generalize b.cells = cs at *
  have HS : Hid _ := C.size
  have HVA : Hid _ := VA
  clear o VA
  go_enter Try.func29, Try.ntmps29
  go_upto_region 1 with fail
  have b0 : Blk (w.alloc (.cells cs 28)) w.heap.size cs 28 := Blk.new w cs _
  have hb0 : Below w.heap.size w (w.alloc (.cells cs 28)) := (Below.refl _ _).alloc (Nat.le_refl _) _
  generalize w.alloc (.cells cs 28) = W0 at *
  go_wp2_with (refine wpList_load_mid rfl 28 _ rfl w.heap.size 0 rfl cs.toList _ b0.range Try.underlying28 rfl (by rw [Array.length_toList, HS.out]; exact Try.infoBoard) ?_)
  refine (HVA.out W0).mono ?_
  rintro e W1 ⟨rfl, hb1'⟩
  have hb1 : Below w.heap.size w W1 := hb0.trans (hb1'.mono hb0.size)
  have b1 := b0.below b0.lt hb1'
  have d0 := (b1.cell 0).trans C.h0
  have d4 := (b1.cell 4).trans C.h4
  clear C b0 hb0 hb1' HVA
  rw [hk] at d0
  go_wp2
  go_ret
  exact ⟨rfl, hb1⟩
set_option maxRecDepth 100000 in
set_option maxHeartbeats 1000000 in
theorem rbank_15 (w : World) (b : Bd) (x : Int) (n0 : 0 ≤ x) (n1 : x ≤ 3) (o : b.Ok) (hk : b.kind = 1) (h5 : b.sub = 5) :
    Calls Try.prog 29 #[.agg b.cells, .int .i64 x] w fun e w' => e = .returned (.int .i64 (bankB b x)) ∧ Below w.heap.size w w' := by
  have x0 : decide (x < 0) = false := decide_eq_false (by omega)
  have x1 : decide (3 < x) = false := decide_eq_false (by omega)
  have p0 := o.p0
  have p1 := o.p1
  have pz : ¬ b.prg = 0 := by omega
  have E : bankB b x = x % b.prg := by simp [bankB, bankN, hk, h5]
  rw [E]
  clear E
  have M := mod_in (x) b.prg (n0) (by omega)
  obtain ⟨em, m0, m1⟩ := M
  have m2 : (x) % b.prg ≤ 128 := by omega
  generalize (x) % b.prg = rr at *
  clear p0 p1 m1
  have C := isB b o.wf.rlen
  have VA : ∀ W, Calls Try.prog 42 #[.agg b.cells] W fun e w' => e = .returned (.bool true) ∧ Below W.heap.size W w' := fun W => o.val ▸ refValid_any W b o.wf
  generalize b.cells = cs at *
  have HS : Hid _ := C.size
  have HVA : Hid _ := VA
  clear o VA
  go_enter Try.func29, Try.ntmps29
  go_upto_region 1 with fail
  have b0 : Blk (w.alloc (.cells cs 28)) w.heap.size cs 28 := Blk.new w cs _
  have hb0 : Below w.heap.size w (w.alloc (.cells cs 28)) := (Below.refl _ _).alloc (Nat.le_refl _) _
  generalize w.alloc (.cells cs 28) = W0 at *
  go_wp2_with (refine wpList_load_mid rfl 28 _ rfl w.heap.size 0 rfl cs.toList _ b0.range Try.underlying28 rfl (by rw [Array.length_toList, HS.out]; exact Try.infoBoard) ?_)
  refine (HVA.out W0).mono ?_
  rintro e W1 ⟨rfl, hb1'⟩
  have hb1 : Below w.heap.size w W1 := hb0.trans (hb1'.mono hb0.size)
  have b1 := b0.below b0.lt hb1'
  have d0 := (b1.cell 0).trans C.h0
  have d1 := (b1.cell 1).trans C.h1
  have d4 := (b1.cell 4).trans C.h4
  clear C b0 hb0 hb1' HVA
  rw [hk] at d0
  rw [h5] at d1
  go_wp2
  go_ret
  exact ⟨rfl, hb1⟩
set_option maxRecDepth 100000 in
set_option maxHeartbeats 1000000 in
theorem rbank_1 (w : World) (b : Bd) (x : Int) (n0 : 0 ≤ x) (n1 : x ≤ 3) (o : b.Ok) (hk : b.kind = 1) (h5 : ¬ b.sub = 5) :
    Calls Try.prog 29 #[.agg b.cells, .int .i64 x] w fun e w' => e = .returned (.int .i64 (bankB b x)) ∧ Below w.heap.size w w' := by
  have x0 : decide (x < 0) = false := decide_eq_false (by omega)
  have x1 : decide (3 < x) = false := decide_eq_false (by omega)
  have p0 := o.p0
  have p1 := o.p1
  have pz : ¬ b.prg = 0 := by omega
  have E : bankB b x = (serialB b x) % b.prg := by simp [bankB, bankN, hk, h5]
  rw [E]
  clear E
  have h5b : (b.sub == 5) = false := by simpa using h5
  have SA : ∀ W, Calls Try.prog 55 #[.agg b.cells, .int .i64 x] W fun e w' => e = .returned (.int .i64 (serialB b x)) ∧ Below W.heap.size W w' := fun W => rserial_any W b x o n0 n1
  have sbd := serialB_bd o n0 n1
  generalize serialB b x = sv at *
  obtain ⟨sb0, sb1⟩ := sbd
  have M := mod_in (sv) b.prg (sb0) (by omega)
  obtain ⟨em, m0, m1⟩ := M
  have m2 : (sv) % b.prg ≤ 128 := by omega
  generalize (sv) % b.prg = rr at *
  clear p0 p1 m1
  have C := isB b o.wf.rlen
  have VA : ∀ W, Calls Try.prog 42 #[.agg b.cells] W fun e w' => e = .returned (.bool true) ∧ Below W.heap.size W w' := fun W => o.val ▸ refValid_any W b o.wf
  generalize b.cells = cs at *
  have HS : Hid _ := C.size
  have HVA : Hid _ := VA
  clear o VA
  go_enter Try.func29, Try.ntmps29
  go_upto_region 1 with fail
  have b0 : Blk (w.alloc (.cells cs 28)) w.heap.size cs 28 := Blk.new w cs _
  have hb0 : Below w.heap.size w (w.alloc (.cells cs 28)) := (Below.refl _ _).alloc (Nat.le_refl _) _
  generalize w.alloc (.cells cs 28) = W0 at *
  go_wp2_with (refine wpList_load_mid rfl 28 _ rfl w.heap.size 0 rfl cs.toList _ b0.range Try.underlying28 rfl (by rw [Array.length_toList, HS.out]; exact Try.infoBoard) ?_)
  refine (HVA.out W0).mono ?_
  rintro e W1 ⟨rfl, hb1'⟩
  have hb1 : Below w.heap.size w W1 := hb0.trans (hb1'.mono hb0.size)
  have b1 := b0.below b0.lt hb1'
  have d0 := (b1.cell 0).trans C.h0
  have d1 := (b1.cell 1).trans C.h1
  have d4 := (b1.cell 4).trans C.h4
  clear C b0 hb0 hb1' HVA
  rw [hk] at d0
  have HSA : Hid _ := SA
  clear SA
  go_wp2_with (refine wpList_load_mid rfl 28 _ rfl w.heap.size 0 rfl cs.toList _ b1.range Try.underlying28 rfl (by rw [Array.length_toList, HS.out]; exact Try.infoBoard) ?_)
  refine (HSA.out W1).mono ?_
  rintro e W2 ⟨rfl, hb2'⟩
  have hb2 : Below w.heap.size w W2 := hb1.trans (hb2'.mono hb1.size)
  have b2 := b1.below b1.lt hb2'
  have g4 : W2.cell? ⟨w.heap.size, 4, none⟩ = some (.int .i64 b.prg) := (hb2'.cell (p := ⟨w.heap.size, 4, none⟩) b1.lt).trans d4
  clear hb2' HSA d4 b1
  go_wp2
  go_ret
  exact ⟨rfl, hb2⟩
set_option maxRecDepth 100000 in
set_option maxHeartbeats 1000000 in
theorem rbank_4 (w : World) (b : Bd) (x : Int) (n0 : 0 ≤ x) (n1 : x ≤ 3) (o : b.Ok) (hk : b.kind = 4) :
    Calls Try.prog 29 #[.agg b.cells, .int .i64 x] w fun e w' => e = .returned (.int .i64 (bankB b x)) ∧ Below w.heap.size w w' := by
  have x0 : decide (x < 0) = false := decide_eq_false (by omega)
  have x1 : decide (3 < x) = false := decide_eq_false (by omega)
  have p0 := o.p0
  have p1 := o.p1
  have pz : ¬ b.prg = 0 := by omega
  have E : bankB b x = (scanB b x) % b.prg := by simp [bankB, bankN, hk]
  rw [E]
  clear E
  have SA : ∀ W, Calls Try.prog 56 #[.agg b.cells, .int .i64 x] W fun e w' => e = .returned (.int .i64 (scanB b x)) ∧ Below W.heap.size W w' := fun W => rscan_any W b x o n0 n1
  have sbd := scanB_bd o n0 n1
  generalize scanB b x = sv at *
  obtain ⟨sb0, sb1⟩ := sbd
  have M := mod_in (sv) b.prg (sb0) (by omega)
  obtain ⟨em, m0, m1⟩ := M
  have m2 : (sv) % b.prg ≤ 128 := by omega
  generalize (sv) % b.prg = rr at *
  clear p0 p1 m1
  have C := isB b o.wf.rlen
  have VA : ∀ W, Calls Try.prog 42 #[.agg b.cells] W fun e w' => e = .returned (.bool true) ∧ Below W.heap.size W w' := fun W => o.val ▸ refValid_any W b o.wf
  generalize b.cells = cs at *
  have HS : Hid _ := C.size
  have HVA : Hid _ := VA
  clear o VA
  go_enter Try.func29, Try.ntmps29
  go_upto_region 1 with fail
  have b0 : Blk (w.alloc (.cells cs 28)) w.heap.size cs 28 := Blk.new w cs _
  have hb0 : Below w.heap.size w (w.alloc (.cells cs 28)) := (Below.refl _ _).alloc (Nat.le_refl _) _
  generalize w.alloc (.cells cs 28) = W0 at *
  go_wp2_with (refine wpList_load_mid rfl 28 _ rfl w.heap.size 0 rfl cs.toList _ b0.range Try.underlying28 rfl (by rw [Array.length_toList, HS.out]; exact Try.infoBoard) ?_)
  refine (HVA.out W0).mono ?_
  rintro e W1 ⟨rfl, hb1'⟩
  have hb1 : Below w.heap.size w W1 := hb0.trans (hb1'.mono hb0.size)
  have b1 := b0.below b0.lt hb1'
  have d0 := (b1.cell 0).trans C.h0
  have d4 := (b1.cell 4).trans C.h4
  clear C b0 hb0 hb1' HVA
  rw [hk] at d0
  have HSA : Hid _ := SA
  clear SA
  go_wp2_with (refine wpList_load_mid rfl 28 _ rfl w.heap.size 0 rfl cs.toList _ b1.range Try.underlying28 rfl (by rw [Array.length_toList, HS.out]; exact Try.infoBoard) ?_)
  refine (HSA.out W1).mono ?_
  rintro e W2 ⟨rfl, hb2'⟩
  have hb2 : Below w.heap.size w W2 := hb1.trans (hb2'.mono hb1.size)
  have b2 := b1.below b1.lt hb2'
  have g4 : W2.cell? ⟨w.heap.size, 4, none⟩ = some (.int .i64 b.prg) := (hb2'.cell (p := ⟨w.heap.size, 4, none⟩) b1.lt).trans d4
  clear hb2' HSA d4 b1
  go_wp2
  go_ret
  exact ⟨rfl, hb2⟩
set_option maxRecDepth 100000 in
set_option maxHeartbeats 1000000 in
theorem rbank_2a (w : World) (b : Bd) (x : Int) (n0 : 0 ≤ x) (hx2 : x < 2) (o : b.Ok) (hk : b.kind = 2) :
    Calls Try.prog 29 #[.agg b.cells, .int .i64 x] w fun e w' => e = .returned (.int .i64 (bankB b x)) ∧ Below w.heap.size w w' := by
  have x0 : decide (x < 0) = false := decide_eq_false (by omega)
  have x1 : decide (3 < x) = false := decide_eq_false (by omega)
  have p0 := o.p0
  have p1 := o.p1
  have pz : ¬ b.prg = 0 := by omega
  have l0 := o.wf.latch.1
  have l1 := o.wf.latch.2
  have E : bankB b x = (2 * b.latch + x) % b.prg := by simp [bankB, bankN, hk, hx2]
  rw [E]
  clear E
  have x2 : decide (1 < x) = false := decide_eq_false (by omega)
  have M := mod_in (2 * b.latch + x) b.prg (by omega) (by omega)
  obtain ⟨em, m0, m1⟩ := M
  have m2 : (2 * b.latch + x) % b.prg ≤ 128 := by omega
  generalize (2 * b.latch + x) % b.prg = rr at *
  clear p0 p1 m1
  have C := isB b o.wf.rlen
  have VA : ∀ W, Calls Try.prog 42 #[.agg b.cells] W fun e w' => e = .returned (.bool true) ∧ Below W.heap.size W w' := fun W => o.val ▸ refValid_any W b o.wf
  generalize b.cells = cs at *
  have HS : Hid _ := C.size
  have HVA : Hid _ := VA
  clear o VA
  go_enter Try.func29, Try.ntmps29
  go_upto_region 1 with fail
  have b0 : Blk (w.alloc (.cells cs 28)) w.heap.size cs 28 := Blk.new w cs _
  have hb0 : Below w.heap.size w (w.alloc (.cells cs 28)) := (Below.refl _ _).alloc (Nat.le_refl _) _
  generalize w.alloc (.cells cs 28) = W0 at *
  go_wp2_with (refine wpList_load_mid rfl 28 _ rfl w.heap.size 0 rfl cs.toList _ b0.range Try.underlying28 rfl (by rw [Array.length_toList, HS.out]; exact Try.infoBoard) ?_)
  refine (HVA.out W0).mono ?_
  rintro e W1 ⟨rfl, hb1'⟩
  have hb1 : Below w.heap.size w W1 := hb0.trans (hb1'.mono hb0.size)
  have b1 := b0.below b0.lt hb1'
  have d0 := (b1.cell 0).trans C.h0
  have d4 := (b1.cell 4).trans C.h4
  have d13 := (b1.cell 13).trans C.h13
  clear C b0 hb0 hb1' HVA
  rw [hk] at d0
  go_wp2
  go_ret
  exact ⟨rfl, hb1⟩
set_option maxRecDepth 100000 in
set_option maxHeartbeats 1000000 in
theorem rbank_2b (w : World) (b : Bd) (x : Int) (hx2 : ¬ x < 2) (n1 : x ≤ 3) (o : b.Ok) (hk : b.kind = 2) :
    Calls Try.prog 29 #[.agg b.cells, .int .i64 x] w fun e w' => e = .returned (.int .i64 (bankB b x)) ∧ Below w.heap.size w w' := by
  have x0 : decide (x < 0) = false := decide_eq_false (by omega)
  have x1 : decide (3 < x) = false := decide_eq_false (by omega)
  have p0 := o.p0
  have p1 := o.p1
  have pz : ¬ b.prg = 0 := by omega
  have l0 := o.wf.latch.1
  have l1 := o.wf.latch.2
  have E : bankB b x = (b.prg - 2 + x - 2) % b.prg := by simp [bankB, bankN, hk, hx2]; congr 1; omega
  rw [E]
  clear E
  have x2 : decide (1 < x) = true := decide_eq_true (by omega)
  have M := mod_in (b.prg - 2 + x - 2) b.prg (by omega) (by omega)
  obtain ⟨em, m0, m1⟩ := M
  have m2 : (b.prg - 2 + x - 2) % b.prg ≤ 128 := by omega
  generalize (b.prg - 2 + x - 2) % b.prg = rr at *
  clear m1
  have C := isB b o.wf.rlen
  have VA : ∀ W, Calls Try.prog 42 #[.agg b.cells] W fun e w' => e = .returned (.bool true) ∧ Below W.heap.size W w' := fun W => o.val ▸ refValid_any W b o.wf
  generalize b.cells = cs at *
  have HS : Hid _ := C.size
  have HVA : Hid _ := VA
  clear o VA
  go_enter Try.func29, Try.ntmps29
  go_upto_region 1 with fail
  have b0 : Blk (w.alloc (.cells cs 28)) w.heap.size cs 28 := Blk.new w cs _
  have hb0 : Below w.heap.size w (w.alloc (.cells cs 28)) := (Below.refl _ _).alloc (Nat.le_refl _) _
  generalize w.alloc (.cells cs 28) = W0 at *
  go_wp2_with (refine wpList_load_mid rfl 28 _ rfl w.heap.size 0 rfl cs.toList _ b0.range Try.underlying28 rfl (by rw [Array.length_toList, HS.out]; exact Try.infoBoard) ?_)
  refine (HVA.out W0).mono ?_
  rintro e W1 ⟨rfl, hb1'⟩
  have hb1 : Below w.heap.size w W1 := hb0.trans (hb1'.mono hb0.size)
  have b1 := b0.below b0.lt hb1'
  have d0 := (b1.cell 0).trans C.h0
  have d4 := (b1.cell 4).trans C.h4
  have d13 := (b1.cell 13).trans C.h13
  clear C b0 hb0 hb1' HVA
  rw [hk] at d0
  go_wp2
  go_ret
  exact ⟨rfl, hb1⟩
set_option maxRecDepth 100000 in
set_option maxHeartbeats 1000000 in
theorem rbank_7 (w : World) (b : Bd) (x : Int) (n0 : 0 ≤ x) (n1 : x ≤ 3) (o : b.Ok) (hk : b.kind = 7) :
    Calls Try.prog 29 #[.agg b.cells, .int .i64 x] w fun e w' => e = .returned (.int .i64 (bankB b x)) ∧ Below w.heap.size w w' := by
  have x0 : decide (x < 0) = false := decide_eq_false (by omega)
  have x1 : decide (3 < x) = false := decide_eq_false (by omega)
  have p0 := o.p0
  have p1 := o.p1
  have pz : ¬ b.prg = 0 := by omega
  have l0 := o.wf.latch.1
  have l1 := o.wf.latch.2
  have E : bankB b x = (4 * (b.latch % 16) + x) % b.prg := by simp [bankB, bankN, hk]
  rw [E]
  clear E
  have y0 : 0 ≤ b.latch % 16 := by omega
  have y1 : b.latch % 16 ≤ 15 := by omega
  have M := mod_in (4 * (b.latch % 16) + x) b.prg (by omega) (by omega)
  obtain ⟨em, m0, m1⟩ := M
  have m2 : (4 * (b.latch % 16) + x) % b.prg ≤ 128 := by omega
  generalize (4 * (b.latch % 16) + x) % b.prg = rr at *
  clear p0 p1 m1
  have C := isB b o.wf.rlen
  have VA : ∀ W, Calls Try.prog 42 #[.agg b.cells] W fun e w' => e = .returned (.bool true) ∧ Below W.heap.size W w' := fun W => o.val ▸ refValid_any W b o.wf
  generalize b.cells = cs at *
  have HS : Hid _ := C.size
  have HVA : Hid _ := VA
  clear o VA
  go_enter Try.func29, Try.ntmps29
  go_upto_region 1 with fail
  have b0 : Blk (w.alloc (.cells cs 28)) w.heap.size cs 28 := Blk.new w cs _
  have hb0 : Below w.heap.size w (w.alloc (.cells cs 28)) := (Below.refl _ _).alloc (Nat.le_refl _) _
  generalize w.alloc (.cells cs 28) = W0 at *
  go_wp2_with (refine wpList_load_mid rfl 28 _ rfl w.heap.size 0 rfl cs.toList _ b0.range Try.underlying28 rfl (by rw [Array.length_toList, HS.out]; exact Try.infoBoard) ?_)
  refine (HVA.out W0).mono ?_
  rintro e W1 ⟨rfl, hb1'⟩
  have hb1 : Below w.heap.size w W1 := hb0.trans (hb1'.mono hb0.size)
  have b1 := b0.below b0.lt hb1'
  have d0 := (b1.cell 0).trans C.h0
  have d4 := (b1.cell 4).trans C.h4
  have d13 := (b1.cell 13).trans C.h13
  clear C b0 hb0 hb1' HVA
  rw [hk] at d0
  go_wp2
  go_ret
  exact ⟨rfl, hb1⟩
theorem rbank_all (w : World) (b : Bd) (x : Int) (B : b.Wf) :
    Calls Try.prog 29 #[.agg b.cells, .int .i64 x] w fun e w' => e = .returned (.int .i64 (bankBA b x)) ∧ Below w.heap.size w w' := by
  unfold bankBA
  cases hv : validB b
  · rw [if_neg (by simp)]
    exact rbank_none w b x B hv
  have o := Bd.ok B hv
  by_cases h0 : x < 0
  · rw [if_neg (by omega)]
    exact rbank_low w b x h0 o
  by_cases h1 : 3 < x
  · rw [if_neg (by omega)]
    exact rbank_high w b x h1 o
  rw [if_pos ⟨rfl, by omega, by omega⟩]
  rcases o.kd with hk | hk | hk | hk | hk | hk
  · exact rbank_0 w b x (by omega) (by omega) o hk
  · by_cases h5 : b.sub = 5
    · exact rbank_15 w b x (by omega) (by omega) o hk h5
    · exact rbank_1 w b x (by omega) (by omega) o hk h5
  · by_cases h2 : x < 2
    · exact rbank_2a w b x (by omega) h2 o hk
    · exact rbank_2b w b x h2 (by omega) o hk
  · exact rbank_3 w b x (by omega) (by omega) o hk
  · exact rbank_4 w b x (by omega) (by omega) o hk
  · exact rbank_7 w b x (by omega) (by omega) o hk
end Go.Proofs.Ytggphgmpdanliaa
