/-
  What the document's Mirror answers of every board.
  What the document's Page and RamMode answer of every board.
-/
import Derived.Test.YtecaipakaaongaaXNR
import Derived.Test.YtecaipakaaongaaXNP
set_option linter.unusedSimpArgs false
set_option linter.unusedVariables false
namespace Go.Proofs.Ytecaipakaaongaa
open Go.RowKit Classical
def mirA (b : Bd) : Int := if validB b = true then mirB b else 0
set_option maxRecDepth 100000 in
set_option maxHeartbeats 1000000 in
theorem rmir_none (w : World) (b : Bd) (B : b.Wf) (hv : validB b = false) :
    Calls Try.prog 53 #[.agg b.cells] w fun e w' => e = .returned (.int .u8 0) ∧ Below w.heap.size w w' := by
  have C := isB b B.rlen
  have VA : ∀ W, Calls Try.prog 26 #[.agg b.cells] W fun e w' => e = .returned (.bool false) ∧ Below W.heap.size W w' := fun W => hv ▸ refValid_any W b B
  generalize b.cells = cs at *
  have HS : Hid _ := C.size
  have HVA : Hid _ := VA
  clear VA C hv
  go_enter Try.func53, Try.ntmps53
  go_upto_region 1 with fail
  have b0 : Blk (w.alloc (.cells cs 37)) w.heap.size cs 37 := Blk.new w cs _
  have hb0 : Below w.heap.size w (w.alloc (.cells cs 37)) := (Below.refl _ _).alloc (Nat.le_refl _) _
  generalize w.alloc (.cells cs 37) = W0 at *
  go_wp2_with (refine wpList_load_mid rfl 37 _ rfl w.heap.size 0 rfl cs.toList _ b0.range Try.underlying37 rfl (by rw [Array.length_toList, HS.out]; exact Try.infoBoard) ?_)
  refine (HVA.out W0).mono ?_
  rintro e W1 ⟨rfl, hb1'⟩
  have hb1 : Below w.heap.size w W1 := hb0.trans (hb1'.mono hb0.size)
  clear b0 hb0 hb1' HVA
  go_wp2
  go_ret
  exact ⟨rfl, hb1⟩
set_option maxRecDepth 100000 in
set_option maxHeartbeats 1000000 in
theorem rmir_four (w : World) (b : Bd) (o : b.Ok) (h4 : b.hard = 4) :
    Calls Try.prog 53 #[.agg b.cells] w fun e w' => e = .returned (.int .u8 (mirB b)) ∧ Below w.heap.size w w' := by
  have E : mirB b = 4 := by simp [mirB, h4]
  rw [E]
  clear E
  have C := isB b o.wf.rlen
  have VA : ∀ W, Calls Try.prog 26 #[.agg b.cells] W fun e w' => e = .returned (.bool true) ∧ Below W.heap.size W w' := fun W => o.val ▸ refValid_any W b o.wf
  generalize b.cells = cs at *
  have HS : Hid _ := C.size
  have HVA : Hid _ := VA
  clear o VA
  go_enter Try.func53, Try.ntmps53
  go_upto_region 1 with fail
  have b0 : Blk (w.alloc (.cells cs 37)) w.heap.size cs 37 := Blk.new w cs _
  have hb0 : Below w.heap.size w (w.alloc (.cells cs 37)) := (Below.refl _ _).alloc (Nat.le_refl _) _
  generalize w.alloc (.cells cs 37) = W0 at *
  go_wp2_with (refine wpList_load_mid rfl 37 _ rfl w.heap.size 0 rfl cs.toList _ b0.range Try.underlying37 rfl (by rw [Array.length_toList, HS.out]; exact Try.infoBoard) ?_)
  refine (HVA.out W0).mono ?_
  rintro e W1 ⟨rfl, hb1'⟩
  have hb1 : Below w.heap.size w W1 := hb0.trans (hb1'.mono hb0.size)
  have b1 := b0.below b0.lt hb1'
  have d2 := (b1.cell 2).trans C.h2
  clear C b0 hb0 hb1' HVA
  rw [h4] at d2
  go_wp2
  go_ret
  exact ⟨rfl, hb1⟩
set_option maxRecDepth 100000 in
set_option maxHeartbeats 1000000 in
theorem rmir_10 (w : World) (b : Bd) (o : b.Ok) (h4 : ¬ b.hard = 4) (hk : b.kind = 1) (hc : b.ctrl % 4 = 0) :
    Calls Try.prog 53 #[.agg b.cells] w fun e w' => e = .returned (.int .u8 (mirB b)) ∧ Below w.heap.size w w' := by
  have h4b : (b.hard == 4) = false := by simpa using h4
  have t0 := o.wf.ctrl.1
  have em : b.ctrl.tmod 4 = b.ctrl % 4 := Int.tmod_eq_emod_of_nonneg t0
  have E : mirB b = 2 := by simp [mirB, h4, hk, hc]
  rw [E]
  clear E
  have C := isB b o.wf.rlen
  have VA : ∀ W, Calls Try.prog 26 #[.agg b.cells] W fun e w' => e = .returned (.bool true) ∧ Below W.heap.size W w' := fun W => o.val ▸ refValid_any W b o.wf
  generalize b.cells = cs at *
  have HS : Hid _ := C.size
  have HVA : Hid _ := VA
  clear o VA
  go_enter Try.func53, Try.ntmps53
  go_upto_region 1 with fail
  have b0 : Blk (w.alloc (.cells cs 37)) w.heap.size cs 37 := Blk.new w cs _
  have hb0 : Below w.heap.size w (w.alloc (.cells cs 37)) := (Below.refl _ _).alloc (Nat.le_refl _) _
  generalize w.alloc (.cells cs 37) = W0 at *
  go_wp2_with (refine wpList_load_mid rfl 37 _ rfl w.heap.size 0 rfl cs.toList _ b0.range Try.underlying37 rfl (by rw [Array.length_toList, HS.out]; exact Try.infoBoard) ?_)
  refine (HVA.out W0).mono ?_
  rintro e W1 ⟨rfl, hb1'⟩
  have hb1 : Below w.heap.size w W1 := hb0.trans (hb1'.mono hb0.size)
  have b1 := b0.below b0.lt hb1'
  have d0 := (b1.cell 0).trans C.h0
  have d2 := (b1.cell 2).trans C.h2
  have d8 := (b1.cell 8).trans C.h8
  clear C b0 hb0 hb1' HVA
  rw [hk] at d0
  rw [hc] at em
  go_wp2
  go_ret
  exact ⟨rfl, hb1⟩
set_option maxRecDepth 100000 in
set_option maxHeartbeats 1000000 in
theorem rmir_11 (w : World) (b : Bd) (o : b.Ok) (h4 : ¬ b.hard = 4) (hk : b.kind = 1) (hc : b.ctrl % 4 = 1) :
    Calls Try.prog 53 #[.agg b.cells] w fun e w' => e = .returned (.int .u8 (mirB b)) ∧ Below w.heap.size w w' := by
  have h4b : (b.hard == 4) = false := by simpa using h4
  have t0 := o.wf.ctrl.1
  have em : b.ctrl.tmod 4 = b.ctrl % 4 := Int.tmod_eq_emod_of_nonneg t0
  have E : mirB b = 3 := by simp [mirB, h4, hk, hc]
  rw [E]
  clear E
  have C := isB b o.wf.rlen
  have VA : ∀ W, Calls Try.prog 26 #[.agg b.cells] W fun e w' => e = .returned (.bool true) ∧ Below W.heap.size W w' := fun W => o.val ▸ refValid_any W b o.wf
  generalize b.cells = cs at *
  have HS : Hid _ := C.size
  have HVA : Hid _ := VA
  clear o VA
  go_enter Try.func53, Try.ntmps53
  go_upto_region 1 with fail
  have b0 : Blk (w.alloc (.cells cs 37)) w.heap.size cs 37 := Blk.new w cs _
  have hb0 : Below w.heap.size w (w.alloc (.cells cs 37)) := (Below.refl _ _).alloc (Nat.le_refl _) _
  generalize w.alloc (.cells cs 37) = W0 at *
  go_wp2_with (refine wpList_load_mid rfl 37 _ rfl w.heap.size 0 rfl cs.toList _ b0.range Try.underlying37 rfl (by rw [Array.length_toList, HS.out]; exact Try.infoBoard) ?_)
  refine (HVA.out W0).mono ?_
  rintro e W1 ⟨rfl, hb1'⟩
  have hb1 : Below w.heap.size w W1 := hb0.trans (hb1'.mono hb0.size)
  have b1 := b0.below b0.lt hb1'
  have d0 := (b1.cell 0).trans C.h0
  have d2 := (b1.cell 2).trans C.h2
  have d8 := (b1.cell 8).trans C.h8
  clear C b0 hb0 hb1' HVA
  rw [hk] at d0
  rw [hc] at em
  go_wp2
  go_ret
  exact ⟨rfl, hb1⟩
set_option maxRecDepth 100000 in
set_option maxHeartbeats 1000000 in
theorem rmir_12 (w : World) (b : Bd) (o : b.Ok) (h4 : ¬ b.hard = 4) (hk : b.kind = 1) (hc : b.ctrl % 4 = 2) :
    Calls Try.prog 53 #[.agg b.cells] w fun e w' => e = .returned (.int .u8 (mirB b)) ∧ Below w.heap.size w w' := by
  have h4b : (b.hard == 4) = false := by simpa using h4
  have t0 := o.wf.ctrl.1
  have em : b.ctrl.tmod 4 = b.ctrl % 4 := Int.tmod_eq_emod_of_nonneg t0
  have E : mirB b = 1 := by simp [mirB, h4, hk, hc]
  rw [E]
  clear E
  have C := isB b o.wf.rlen
  have VA : ∀ W, Calls Try.prog 26 #[.agg b.cells] W fun e w' => e = .returned (.bool true) ∧ Below W.heap.size W w' := fun W => o.val ▸ refValid_any W b o.wf
  generalize b.cells = cs at *
  have HS : Hid _ := C.size
  have HVA : Hid _ := VA
  clear o VA
  go_enter Try.func53, Try.ntmps53
  go_upto_region 1 with fail
  have b0 : Blk (w.alloc (.cells cs 37)) w.heap.size cs 37 := Blk.new w cs _
  have hb0 : Below w.heap.size w (w.alloc (.cells cs 37)) := (Below.refl _ _).alloc (Nat.le_refl _) _
  generalize w.alloc (.cells cs 37) = W0 at *
  go_wp2_with (refine wpList_load_mid rfl 37 _ rfl w.heap.size 0 rfl cs.toList _ b0.range Try.underlying37 rfl (by rw [Array.length_toList, HS.out]; exact Try.infoBoard) ?_)
  refine (HVA.out W0).mono ?_
  rintro e W1 ⟨rfl, hb1'⟩
  have hb1 : Below w.heap.size w W1 := hb0.trans (hb1'.mono hb0.size)
  have b1 := b0.below b0.lt hb1'
  have d0 := (b1.cell 0).trans C.h0
  have d2 := (b1.cell 2).trans C.h2
  have d8 := (b1.cell 8).trans C.h8
  clear C b0 hb0 hb1' HVA
  rw [hk] at d0
  rw [hc] at em
  go_wp2
  go_ret
  exact ⟨rfl, hb1⟩
set_option maxRecDepth 100000 in
set_option maxHeartbeats 1000000 in
theorem rmir_13 (w : World) (b : Bd) (o : b.Ok) (h4 : ¬ b.hard = 4) (hk : b.kind = 1) (hc : b.ctrl % 4 = 3) :
    Calls Try.prog 53 #[.agg b.cells] w fun e w' => e = .returned (.int .u8 (mirB b)) ∧ Below w.heap.size w w' := by
  have h4b : (b.hard == 4) = false := by simpa using h4
  have t0 := o.wf.ctrl.1
  have em : b.ctrl.tmod 4 = b.ctrl % 4 := Int.tmod_eq_emod_of_nonneg t0
  have E : mirB b = 0 := by simp [mirB, h4, hk, hc]
  rw [E]
  clear E
  have C := isB b o.wf.rlen
  have VA : ∀ W, Calls Try.prog 26 #[.agg b.cells] W fun e w' => e = .returned (.bool true) ∧ Below W.heap.size W w' := fun W => o.val ▸ refValid_any W b o.wf
  generalize b.cells = cs at *
  have HS : Hid _ := C.size
  have HVA : Hid _ := VA
  clear o VA
  go_enter Try.func53, Try.ntmps53
  go_upto_region 1 with fail
  have b0 : Blk (w.alloc (.cells cs 37)) w.heap.size cs 37 := Blk.new w cs _
  have hb0 : Below w.heap.size w (w.alloc (.cells cs 37)) := (Below.refl _ _).alloc (Nat.le_refl _) _
  generalize w.alloc (.cells cs 37) = W0 at *
  go_wp2_with (refine wpList_load_mid rfl 37 _ rfl w.heap.size 0 rfl cs.toList _ b0.range Try.underlying37 rfl (by rw [Array.length_toList, HS.out]; exact Try.infoBoard) ?_)
  refine (HVA.out W0).mono ?_
  rintro e W1 ⟨rfl, hb1'⟩
  have hb1 : Below w.heap.size w W1 := hb0.trans (hb1'.mono hb0.size)
  have b1 := b0.below b0.lt hb1'
  have d0 := (b1.cell 0).trans C.h0
  have d2 := (b1.cell 2).trans C.h2
  have d8 := (b1.cell 8).trans C.h8
  clear C b0 hb0 hb1' HVA
  rw [hk] at d0
  rw [hc] at em
  go_wp2
  go_ret
  exact ⟨rfl, hb1⟩
set_option maxRecDepth 100000 in
set_option maxHeartbeats 1000000 in
theorem rmir_4a (w : World) (b : Bd) (o : b.Ok) (h4 : ¬ b.hard = 4) (hk : b.kind = 4) (hc : b.turn = 0) :
    Calls Try.prog 53 #[.agg b.cells] w fun e w' => e = .returned (.int .u8 (mirB b)) ∧ Below w.heap.size w w' := by
  have h4b : (b.hard == 4) = false := by simpa using h4
  have E : mirB b = 1 := by simp [mirB, h4, hk, hc]
  rw [E]
  clear E
  have C := isB b o.wf.rlen
  have VA : ∀ W, Calls Try.prog 26 #[.agg b.cells] W fun e w' => e = .returned (.bool true) ∧ Below W.heap.size W w' := fun W => o.val ▸ refValid_any W b o.wf
  generalize b.cells = cs at *
  have HS : Hid _ := C.size
  have HVA : Hid _ := VA
  clear o VA
  go_enter Try.func53, Try.ntmps53
  go_upto_region 1 with fail
  have b0 : Blk (w.alloc (.cells cs 37)) w.heap.size cs 37 := Blk.new w cs _
  have hb0 : Below w.heap.size w (w.alloc (.cells cs 37)) := (Below.refl _ _).alloc (Nat.le_refl _) _
  generalize w.alloc (.cells cs 37) = W0 at *
  go_wp2_with (refine wpList_load_mid rfl 37 _ rfl w.heap.size 0 rfl cs.toList _ b0.range Try.underlying37 rfl (by rw [Array.length_toList, HS.out]; exact Try.infoBoard) ?_)
  refine (HVA.out W0).mono ?_
  rintro e W1 ⟨rfl, hb1'⟩
  have hb1 : Below w.heap.size w W1 := hb0.trans (hb1'.mono hb0.size)
  have b1 := b0.below b0.lt hb1'
  have d0 := (b1.cell 0).trans C.h0
  have d2 := (b1.cell 2).trans C.h2
  have d23 := (b1.cell 23).trans C.h23
  clear C b0 hb0 hb1' HVA
  rw [hk] at d0
  rw [hc] at d23
  go_wp2
  go_ret
  exact ⟨rfl, hb1⟩
set_option maxRecDepth 100000 in
set_option maxHeartbeats 1000000 in
theorem rmir_4b (w : World) (b : Bd) (o : b.Ok) (h4 : ¬ b.hard = 4) (hk : b.kind = 4) (hc : ¬ b.turn = 0) :
    Calls Try.prog 53 #[.agg b.cells] w fun e w' => e = .returned (.int .u8 (mirB b)) ∧ Below w.heap.size w w' := by
  have h4b : (b.hard == 4) = false := by simpa using h4
  have hcb : (b.turn == 0) = false := by simpa using hc
  have E : mirB b = 0 := by simp [mirB, h4, hk, hc]
  rw [E]
  clear E
  have C := isB b o.wf.rlen
  have VA : ∀ W, Calls Try.prog 26 #[.agg b.cells] W fun e w' => e = .returned (.bool true) ∧ Below W.heap.size W w' := fun W => o.val ▸ refValid_any W b o.wf
  generalize b.cells = cs at *
  have HS : Hid _ := C.size
  have HVA : Hid _ := VA
  clear o VA
  go_enter Try.func53, Try.ntmps53
  go_upto_region 1 with fail
  have b0 : Blk (w.alloc (.cells cs 37)) w.heap.size cs 37 := Blk.new w cs _
  have hb0 : Below w.heap.size w (w.alloc (.cells cs 37)) := (Below.refl _ _).alloc (Nat.le_refl _) _
  generalize w.alloc (.cells cs 37) = W0 at *
  go_wp2_with (refine wpList_load_mid rfl 37 _ rfl w.heap.size 0 rfl cs.toList _ b0.range Try.underlying37 rfl (by rw [Array.length_toList, HS.out]; exact Try.infoBoard) ?_)
  refine (HVA.out W0).mono ?_
  rintro e W1 ⟨rfl, hb1'⟩
  have hb1 : Below w.heap.size w W1 := hb0.trans (hb1'.mono hb0.size)
  have b1 := b0.below b0.lt hb1'
  have d0 := (b1.cell 0).trans C.h0
  have d2 := (b1.cell 2).trans C.h2
  have d23 := (b1.cell 23).trans C.h23
  clear C b0 hb0 hb1' HVA
  rw [hk] at d0
  go_wp2
  go_ret
  exact ⟨rfl, hb1⟩
set_option maxRecDepth 100000 in
set_option maxHeartbeats 1000000 in
theorem rmir_7a (w : World) (b : Bd) (o : b.Ok) (h4 : ¬ b.hard = 4) (hk : b.kind = 7) (hc : b.latch / 16 % 2 = 0) :
    Calls Try.prog 53 #[.agg b.cells] w fun e w' => e = .returned (.int .u8 (mirB b)) ∧ Below w.heap.size w w' := by
  have h4b : (b.hard == 4) = false := by simpa using h4
  have e16 := bit16 o.wf.latch.1 o.wf.latch.2
  have E : mirB b = 2 := by simp [mirB, h4, hk, hc]
  rw [E]
  clear E
  have C := isB b o.wf.rlen
  have VA : ∀ W, Calls Try.prog 26 #[.agg b.cells] W fun e w' => e = .returned (.bool true) ∧ Below W.heap.size W w' := fun W => o.val ▸ refValid_any W b o.wf
  generalize b.cells = cs at *
  have HS : Hid _ := C.size
  have HVA : Hid _ := VA
  clear o VA
  go_enter Try.func53, Try.ntmps53
  go_upto_region 1 with fail
  have b0 : Blk (w.alloc (.cells cs 37)) w.heap.size cs 37 := Blk.new w cs _
  have hb0 : Below w.heap.size w (w.alloc (.cells cs 37)) := (Below.refl _ _).alloc (Nat.le_refl _) _
  generalize w.alloc (.cells cs 37) = W0 at *
  go_wp2_with (refine wpList_load_mid rfl 37 _ rfl w.heap.size 0 rfl cs.toList _ b0.range Try.underlying37 rfl (by rw [Array.length_toList, HS.out]; exact Try.infoBoard) ?_)
  refine (HVA.out W0).mono ?_
  rintro e W1 ⟨rfl, hb1'⟩
  have hb1 : Below w.heap.size w W1 := hb0.trans (hb1'.mono hb0.size)
  have b1 := b0.below b0.lt hb1'
  have d0 := (b1.cell 0).trans C.h0
  have d2 := (b1.cell 2).trans C.h2
  have d13 := (b1.cell 13).trans C.h13
  clear C b0 hb0 hb1' HVA
  rw [hk] at d0
  rw [hc] at e16
  go_wp2
  go_ret
  exact ⟨rfl, hb1⟩
set_option maxRecDepth 100000 in
set_option maxHeartbeats 1000000 in
theorem rmir_7b (w : World) (b : Bd) (o : b.Ok) (h4 : ¬ b.hard = 4) (hk : b.kind = 7) (hc : ¬ b.latch / 16 % 2 = 0) :
    Calls Try.prog 53 #[.agg b.cells] w fun e w' => e = .returned (.int .u8 (mirB b)) ∧ Below w.heap.size w w' := by
  have h4b : (b.hard == 4) = false := by simpa using h4
  have e16 := bit16 o.wf.latch.1 o.wf.latch.2
  have E : mirB b = 3 := by simp [mirB, h4, hk, hc]
  rw [E]
  clear E
  have C := isB b o.wf.rlen
  have VA : ∀ W, Calls Try.prog 26 #[.agg b.cells] W fun e w' => e = .returned (.bool true) ∧ Below W.heap.size W w' := fun W => o.val ▸ refValid_any W b o.wf
  generalize b.cells = cs at *
  have HS : Hid _ := C.size
  have HVA : Hid _ := VA
  clear o VA
  go_enter Try.func53, Try.ntmps53
  go_upto_region 1 with fail
  have b0 : Blk (w.alloc (.cells cs 37)) w.heap.size cs 37 := Blk.new w cs _
  have hb0 : Below w.heap.size w (w.alloc (.cells cs 37)) := (Below.refl _ _).alloc (Nat.le_refl _) _
  generalize w.alloc (.cells cs 37) = W0 at *
  go_wp2_with (refine wpList_load_mid rfl 37 _ rfl w.heap.size 0 rfl cs.toList _ b0.range Try.underlying37 rfl (by rw [Array.length_toList, HS.out]; exact Try.infoBoard) ?_)
  refine (HVA.out W0).mono ?_
  rintro e W1 ⟨rfl, hb1'⟩
  have hb1 : Below w.heap.size w W1 := hb0.trans (hb1'.mono hb0.size)
  have b1 := b0.below b0.lt hb1'
  have d0 := (b1.cell 0).trans C.h0
  have d2 := (b1.cell 2).trans C.h2
  have d13 := (b1.cell 13).trans C.h13
  clear C b0 hb0 hb1' HVA
  rw [hk] at d0
  rw [show b.latch / 16 % 2 = 1 by omega] at e16
  go_wp2
  go_ret
  exact ⟨rfl, hb1⟩
set_option maxRecDepth 100000 in
set_option maxHeartbeats 1000000 in
theorem rmir_0 (w : World) (b : Bd) (o : b.Ok) (h4 : ¬ b.hard = 4) (hk : b.kind = 0 ∨ b.kind = 2 ∨ b.kind = 3) :
    Calls Try.prog 53 #[.agg b.cells] w fun e w' => e = .returned (.int .u8 (mirB b)) ∧ Below w.heap.size w w' := by
  have h4b : (b.hard == 4) = false := by simpa using h4
  rw [mirB_hard hk]
  have C := isB b o.wf.rlen
  have VA : ∀ W, Calls Try.prog 26 #[.agg b.cells] W fun e w' => e = .returned (.bool true) ∧ Below W.heap.size W w' := fun W => o.val ▸ refValid_any W b o.wf
  generalize b.cells = cs at *
  have HS : Hid _ := C.size
  have HVA : Hid _ := VA
  clear o VA
  go_enter Try.func53, Try.ntmps53
  go_upto_region 1 with fail
  have b0 : Blk (w.alloc (.cells cs 37)) w.heap.size cs 37 := Blk.new w cs _
  have hb0 : Below w.heap.size w (w.alloc (.cells cs 37)) := (Below.refl _ _).alloc (Nat.le_refl _) _
  generalize w.alloc (.cells cs 37) = W0 at *
  go_wp2_with (refine wpList_load_mid rfl 37 _ rfl w.heap.size 0 rfl cs.toList _ b0.range Try.underlying37 rfl (by rw [Array.length_toList, HS.out]; exact Try.infoBoard) ?_)
  refine (HVA.out W0).mono ?_
  rintro e W1 ⟨rfl, hb1'⟩
  have hb1 : Below w.heap.size w W1 := hb0.trans (hb1'.mono hb0.size)
  have b1 := b0.below b0.lt hb1'
  have d0 := (b1.cell 0).trans C.h0
  have d2 := (b1.cell 2).trans C.h2
  clear C b0 hb0 hb1' HVA
  rcases hk with hk | hk | hk
  all_goals
    rw [hk] at d0
    clear hk
    go_wp2
    go_ret
    exact ⟨rfl, hb1⟩
theorem rmir_all (w : World) (b : Bd) (B : b.Wf) :
    Calls Try.prog 53 #[.agg b.cells] w fun e w' => e = .returned (.int .u8 (mirA b)) ∧ Below w.heap.size w w' := by
  unfold mirA
  cases hv : validB b
  · rw [if_neg (by simp)]
    exact rmir_none w b B hv
  rw [if_pos rfl]
  have o := Bd.ok B hv
  by_cases h4 : b.hard = 4
  · exact rmir_four w b o h4
  rcases o.kd with hk | hk | hk | hk | hk | hk
  · exact rmir_0 w b o h4 (by omega)
  · have hc : b.ctrl % 4 = 0 ∨ b.ctrl % 4 = 1 ∨ b.ctrl % 4 = 2 ∨ b.ctrl % 4 = 3 := by omega
    rcases hc with hc | hc | hc | hc
    · exact rmir_10 w b o h4 hk hc
    · exact rmir_11 w b o h4 hk hc
    · exact rmir_12 w b o h4 hk hc
    · exact rmir_13 w b o h4 hk hc
  · exact rmir_0 w b o h4 (by omega)
  · exact rmir_0 w b o h4 (by omega)
  · by_cases hc : b.turn = 0
    · exact rmir_4a w b o h4 hk hc
    · exact rmir_4b w b o h4 hk hc
  · by_cases hc : b.latch / 16 % 2 = 0
    · exact rmir_7a w b o h4 hk hc
    · exact rmir_7b w b o h4 hk hc
end Go.Proofs.Ytecaipakaaongaa
namespace Go.Proofs.Ytecaipakaaongaa
open Go.RowKit Classical
set_option maxRecDepth 100000 in
set_option maxHeartbeats 1000000 in
theorem rpage_none (w : World) (b : Bd) (a : Int) (B : b.Wf) (hv : validB b = false) :
    Calls Try.prog 45 #[.agg b.cells, .int .u16 a] w fun e w' => e = .returned (.int .i64 0) ∧ Below w.heap.size w w' := by
  have C := isB b B.rlen
  have VA : ∀ W, Calls Try.prog 26 #[.agg b.cells] W fun e w' => e = .returned (.bool false) ∧ Below W.heap.size W w' := fun W => hv ▸ refValid_any W b B
  generalize b.cells = cs at *
  have HS : Hid _ := C.size
  have HVA : Hid _ := VA
  clear VA C hv
  go_enter Try.func45, Try.ntmps45
  go_upto_region 1 with fail
  have b0 : Blk (w.alloc (.cells cs 37)) w.heap.size cs 37 := Blk.new w cs _
  have hb0 : Below w.heap.size w (w.alloc (.cells cs 37)) := (Below.refl _ _).alloc (Nat.le_refl _) _
  generalize w.alloc (.cells cs 37) = W0 at *
  go_wp2_with (refine wpList_load_mid rfl 37 _ rfl w.heap.size 0 rfl cs.toList _ b0.range Try.underlying37 rfl (by rw [Array.length_toList, HS.out]; exact Try.infoBoard) ?_)
  refine (HVA.out W0).mono ?_
  rintro e W1 ⟨rfl, hb1'⟩
  have hb1 : Below w.heap.size w W1 := hb0.trans (hb1'.mono hb0.size)
  clear b0 hb0 hb1' HVA
  go_wp2
  go_ret
  exact ⟨rfl, hb1⟩
set_option maxRecDepth 100000 in
set_option maxHeartbeats 1000000 in
theorem rpage_in (w : World) (b : Bd) (a : Int) (a0 : 0 ≤ a) (a1 : a ≤ 65535) (o : b.Ok) :
    Calls Try.prog 45 #[.agg b.cells, .int .u16 a] w fun e w' => e = .returned (.int .i64 (pageB b a)) ∧ Below w.heap.size w w' := by
  have e1 : a.tdiv 1024 = a / 1024 := Int.tdiv_eq_ediv_of_nonneg a0
  have e2 : (a / 1024).tmod 4 = a / 1024 % 4 := Int.tmod_eq_emod_of_nonneg (by omega)
  have e3 : (a / 1024 % 4).tdiv 2 = a / 1024 % 4 / 2 := Int.tdiv_eq_ediv_of_nonneg (by omega)
  have e4 : (a / 1024 % 4).tmod 2 = a / 1024 % 2 := by rw [Int.tmod_eq_emod_of_nonneg (by omega)]; omega
  have i0 : 0 ≤ a / 1024 % 4 := by omega
  have i1 : a / 1024 % 4 ≤ 3 := by omega
  have j0 : 0 ≤ a / 1024 := by omega
  have j1 : a / 1024 ≤ 63 := by omega
  have k0 : 0 ≤ a / 1024 % 2 := by omega
  have k1 : a / 1024 % 2 ≤ 1 := by omega
  have l0 : 0 ≤ a / 1024 % 4 / 2 := by omega
  have l1 : a / 1024 % 4 / 2 ≤ 1 := by omega
  have FV : Hid _ := mirB_five o
  have PB : Hid (pageB b a = (if mirB b = 0 then a / 1024 % 4 / 2 else if mirB b = 1 then a / 1024 % 2 else if mirB b = 2 then 0 else if mirB b = 3 then 1 else a / 1024 % 4)) := rfl
  obtain ⟨v, hv⟩ : ∃ v, pageB b a = v := ⟨_, rfl⟩
  rw [hv]
  have HV : Hid _ := hv
  clear hv
  have C := isB b o.wf.rlen
  have VA : ∀ W, Calls Try.prog 26 #[.agg b.cells] W fun e w' => e = .returned (.bool true) ∧ Below W.heap.size W w' := fun W => o.val ▸ refValid_any W b o.wf
  have MA : ∀ W, Calls Try.prog 53 #[.agg b.cells] W fun e w' => e = .returned (.int .u8 (mirB b)) ∧ Below W.heap.size W w' := fun W => by
    have := rmir_all W b o.wf
    rwa [show mirA b = mirB b from if_pos o.val] at this
  generalize b.cells = cs at *
  have HS : Hid _ := C.size
  have HVA : Hid _ := VA
  clear o VA
  go_enter Try.func45, Try.ntmps45
  go_upto_region 1 with fail
  have b0 : Blk (w.alloc (.cells cs 37)) w.heap.size cs 37 := Blk.new w cs _
  have hb0 : Below w.heap.size w (w.alloc (.cells cs 37)) := (Below.refl _ _).alloc (Nat.le_refl _) _
  generalize w.alloc (.cells cs 37) = W0 at *
  go_wp2_with (refine wpList_load_mid rfl 37 _ rfl w.heap.size 0 rfl cs.toList _ b0.range Try.underlying37 rfl (by rw [Array.length_toList, HS.out]; exact Try.infoBoard) ?_)
  refine (HVA.out W0).mono ?_
  rintro e W1 ⟨rfl, hb1'⟩
  have hb1 : Below w.heap.size w W1 := hb0.trans (hb1'.mono hb0.size)
  have b1 := b0.below b0.lt hb1'
  clear C b0 hb0 hb1' HVA
  have HMA : Hid _ := MA
  clear MA
  go_wp2_with (refine wpList_load_mid rfl 37 _ rfl w.heap.size 0 rfl cs.toList _ b1.range Try.underlying37 rfl (by rw [Array.length_toList, HS.out]; exact Try.infoBoard) ?_)
  refine (HMA.out W1).mono ?_
  rintro e W2 ⟨rfl, hb2'⟩
  have hb2 : Below w.heap.size w W2 := hb1.trans (hb2'.mono hb1.size)
  clear b1 hb1 hb2' HMA
  generalize mirB b = mm at *
  generalize a / 1024 % 4 / 2 = kh at *
  generalize a / 1024 % 4 = kk at *
  generalize a / 1024 % 2 = kp at *
  have five := FV.out
  rcases five with rfl | rfl | rfl | rfl | rfl
  · have HB : Hid (pageB b a = kh) := by unfold Hid; rw [PB.out]; rfl
    clear PB FV
    go_wp2
    go_ret
    exact ⟨fin64 (by have h1 := HV.out; have h2 := HB.out; omega), hb2⟩
  · have HB : Hid (pageB b a = kp) := by unfold Hid; rw [PB.out]; rfl
    clear PB FV
    go_wp2
    go_ret
    exact ⟨fin64 (by have h1 := HV.out; have h2 := HB.out; omega), hb2⟩
  · have HB : Hid (pageB b a = 0) := by unfold Hid; rw [PB.out]; rfl
    clear PB FV
    go_wp2
    go_ret
    exact ⟨fin64 (by have h1 := HV.out; have h2 := HB.out; omega), hb2⟩
  · have HB : Hid (pageB b a = 1) := by unfold Hid; rw [PB.out]; rfl
    clear PB FV
    go_wp2
    go_ret
    exact ⟨fin64 (by have h1 := HV.out; have h2 := HB.out; omega), hb2⟩
  · have HB : Hid (pageB b a = kk) := by unfold Hid; rw [PB.out]; rfl
    clear PB FV
    go_wp2
    go_ret
    exact ⟨fin64 (by have h1 := HV.out; have h2 := HB.out; omega), hb2⟩
theorem rpage_all (w : World) (b : Bd) (a : Int) (B : b.Wf) (a0 : 0 ≤ a) (a1 : a ≤ 65535) :
    Calls Try.prog 45 #[.agg b.cells, .int .u16 a] w fun e w' => e = .returned (.int .i64 (pageA b a)) ∧ Below w.heap.size w w' := by
  unfold pageA
  cases hv : validB b
  · rw [if_neg (by simp)]
    exact rpage_none w b a B hv
  rw [if_pos rfl]
  exact rpage_in w b a a0 a1 (Bd.ok B hv)
end Go.Proofs.Ytecaipakaaongaa
