/-
  What the document's serial answers.
  What the document's scanned answers.
  What the document's Bank answers of every board.
-/
import Derived.Test.YtggphgmpdanliaaYK
import Derived.Test.YtggphgmpdanliaaYP
set_option linter.unusedSimpArgs false
set_option linter.unusedVariables false
namespace Go.Proofs.Ytggphgmpdanliaa
open Go.RowKit Classical
theorem fin64 {x y : Int} (h : x = y) : Ending.returned (Value.int .i64 x) = Ending.returned (Value.int .i64 y) := by rw [h]
theorem fin8 {x y : Int} (h : x = y) : Ending.returned (Value.int .u8 x) = Ending.returned (Value.int .u8 y) := by rw [h]
theorem and30N : ∀ k : Nat, k < 32 → bits .and .u8 (k : Int) 30 = (k : Int) - (k : Int) % 2 := by decide +kernel
theorem and30 {x : Int} (h0 : 0 ≤ x) (h1 : x ≤ 31) : bits .and .u8 x 30 = x - x % 2 := by
  have := and30N x.toNat (by omega)
  rwa [show ((x.toNat : Nat) : Int) = x by omega] at this
set_option maxRecDepth 100000 in
set_option maxHeartbeats 1000000 in
theorem rserial_any (w : World) (b : Bd) (x : Int) (o : b.Ok) (n0 : 0 ≤ x) (n1 : x ≤ 3) :
    Calls Try.prog 55 #[.agg b.cells, .int .i64 x] w fun e w' => e = .returned (.int .i64 (serialB b x)) ∧ Below w.heap.size w w' := by
  have e16 := bit16 o.wf.chrA.1 o.wf.chrA.2
  have r0 := o.wf.prgR.1
  have r1 := o.wf.prgR.2
  have t0 := o.wf.ctrl.1
  have t1 := o.wf.ctrl.2
  have p0 := o.p0
  have p1 := o.p1
  have y0 : 0 ≤ b.prgR % 16 := by omega
  have y1 : b.prgR % 16 ≤ 15 := by omega
  have yz : b.prgR % 16 % 2 = b.prgR % 2 := by omega
  have z0 : 0 ≤ b.prgR % 2 := by omega
  have z1 : b.prgR % 2 ≤ 1 := by omega
  have et1 : b.prgR.tmod 16 = b.prgR % 16 := Int.tmod_eq_emod_of_nonneg r0
  have et2 : b.ctrl.tdiv 4 = b.ctrl / 4 := Int.tdiv_eq_ediv_of_nonneg t0
  have et3 : (b.ctrl / 4).tmod 4 = b.ctrl / 4 % 4 := Int.tmod_eq_emod_of_nonneg (by omega)
  have et4 : (b.prgR % 16).tmod 2 = b.prgR % 16 % 2 := Int.tmod_eq_emod_of_nonneg y0
  have tq0 : 0 ≤ b.ctrl / 4 := by omega
  have tq1 : b.ctrl / 4 ≤ 63 := by omega
  obtain ⟨md, hmd⟩ : ∃ z, b.ctrl / 4 % 4 = z := ⟨_, rfl⟩
  have SB : serialB b x = if md < 2 then outerB b + 2 * (b.prgR % 16 - b.prgR % 2) + x else if md = 2 then (if x < 2 then outerB b + x else outerB b + 2 * (b.prgR % 16) + x - 2) else if x < 2 then outerB b + 2 * (b.prgR % 16) + x else outerB b + lastB b + x - 2 := by rw [← hmd]; rfl
  have md4 : md = 0 ∨ md = 1 ∨ md = 2 ∨ md = 3 := by omega
  have hx : (decide (x < 2) = false ∧ ¬ x < 2) ∨ (decide (x < 2) = true ∧ x < 2) := by
    by_cases h : x < 2
    · exact .inr ⟨decide_eq_true h, h⟩
    · exact .inl ⟨decide_eq_false h, h⟩
  have half : (decide (32 < b.prg) = false ∧ outerB b = 0 ∧ lastB b = b.prg - 2) ∨ (decide (32 < b.prg) = true ∧ b.chrA / 16 % 2 = 1 ∧ outerB b = 32 ∧ lastB b = 30) ∨ (decide (32 < b.prg) = true ∧ b.chrA / 16 % 2 = 0 ∧ outerB b = 0 ∧ lastB b = 30) := by
    by_cases h : b.prg ≤ 32
    · exact .inl ⟨decide_eq_false (by omega), if_pos h, if_pos h⟩
    · by_cases g : b.chrA / 16 % 2 = 1
      · exact .inr (.inl ⟨decide_eq_true (by omega), g, by simp [outerB, h, g], if_neg h⟩)
      · exact .inr (.inr ⟨decide_eq_true (by omega), by omega, by simp [outerB, h, g], if_neg h⟩)
  obtain ⟨v, hv⟩ : ∃ v, serialB b x = v := ⟨_, rfl⟩
  rw [hv]
  have HV : Hid _ := hv
  clear hv
  have SBH : Hid _ := SB
  have HH : Hid _ := half
  have MH : Hid _ := md4
  have XH : Hid _ := hx
  have hmd' : b.ctrl / 4 % 4 = md := hmd
  rw [hmd'] at et3
  clear SB half md4 hx hmd hmd'
  have C := isB b o.wf.rlen
  generalize b.cells = cs at C
  clear o
  go_enter Try.func55, Try.ntmps55
  go_upto_region 1 with fail
  have b0 : Blk (w.alloc (.cells cs 28)) w.heap.size cs 28 := Blk.new w cs _
  have hb0 : Below w.heap.size w (w.alloc (.cells cs 28)) := (Below.refl _ _).alloc (Nat.le_refl _) _
  generalize w.alloc (.cells cs 28) = W0 at *
  have d4 := (b0.cell 4).trans C.h4
  have d8 := (b0.cell 8).trans C.h8
  have d9 := (b0.cell 9).trans C.h9
  have d11 := (b0.cell 11).trans C.h11
  clear C b0
  generalize b.prgR % 2 = zz at *
  generalize b.prgR % 16 = yy at *
  rcases HH.out with ⟨h1, E1, E2⟩ | ⟨h1, h2, E1, E2⟩ | ⟨h1, h2, E1, E2⟩
  · clear HH
    obtain md4 := MH.out
    obtain hx := XH.out
    clear MH XH
    rcases md4 with rfl | rfl | rfl | rfl <;> rcases hx with ⟨hx, hy⟩ | ⟨hx, hy⟩
    · have HB : Hid (serialB b x = 0 + 2 * (yy - zz) + x) := by unfold Hid; rw [SBH.out, E1, E2]; simp [hy]
      clear SBH E1 E2 hy
      go_wp2
      go_ret
      exact ⟨fin64 (by have h1 := HV.out; have h2 := HB.out; omega), hb0⟩
    · have HB : Hid (serialB b x = 0 + 2 * (yy - zz) + x) := by unfold Hid; rw [SBH.out, E1, E2]; simp [hy]
      clear SBH E1 E2 hy
      go_wp2
      go_ret
      exact ⟨fin64 (by have h1 := HV.out; have h2 := HB.out; omega), hb0⟩
    · have HB : Hid (serialB b x = 0 + 2 * (yy - zz) + x) := by unfold Hid; rw [SBH.out, E1, E2]; simp [hy]
      clear SBH E1 E2 hy
      go_wp2
      go_ret
      exact ⟨fin64 (by have h1 := HV.out; have h2 := HB.out; omega), hb0⟩
    · have HB : Hid (serialB b x = 0 + 2 * (yy - zz) + x) := by unfold Hid; rw [SBH.out, E1, E2]; simp [hy]
      clear SBH E1 E2 hy
      go_wp2
      go_ret
      exact ⟨fin64 (by have h1 := HV.out; have h2 := HB.out; omega), hb0⟩
    · have HB : Hid (serialB b x = 0 + 2 * yy + x - 2) := by unfold Hid; rw [SBH.out, E1, E2]; simp [hy]
      clear SBH E1 E2 hy
      go_wp2
      go_ret
      exact ⟨fin64 (by have h1 := HV.out; have h2 := HB.out; omega), hb0⟩
    · have HB : Hid (serialB b x = 0 + x) := by unfold Hid; rw [SBH.out, E1, E2]; simp [hy]
      clear SBH E1 E2 hy
      go_wp2
      go_ret
      exact ⟨fin64 (by have h1 := HV.out; have h2 := HB.out; omega), hb0⟩
    · have HB : Hid (serialB b x = 0 + (b.prg - 2) + x - 2) := by unfold Hid; rw [SBH.out, E1, E2]; simp [hy]
      clear SBH E1 E2 hy
      go_wp2
      go_ret
      exact ⟨fin64 (by have h1 := HV.out; have h2 := HB.out; omega), hb0⟩
    · have HB : Hid (serialB b x = 0 + 2 * yy + x) := by unfold Hid; rw [SBH.out, E1, E2]; simp [hy]
      clear SBH E1 E2 hy
      go_wp2
      go_ret
      exact ⟨fin64 (by have h1 := HV.out; have h2 := HB.out; omega), hb0⟩
  · clear HH
    rw [h2] at e16
    clear h2
    obtain md4 := MH.out
    obtain hx := XH.out
    clear MH XH
    rcases md4 with rfl | rfl | rfl | rfl <;> rcases hx with ⟨hx, hy⟩ | ⟨hx, hy⟩
    · have HB : Hid (serialB b x = 32 + 2 * (yy - zz) + x) := by unfold Hid; rw [SBH.out, E1, E2]; simp [hy]
      clear SBH E1 E2 hy
      go_wp2
      go_ret
      exact ⟨fin64 (by have h1 := HV.out; have h2 := HB.out; omega), hb0⟩
    · have HB : Hid (serialB b x = 32 + 2 * (yy - zz) + x) := by unfold Hid; rw [SBH.out, E1, E2]; simp [hy]
      clear SBH E1 E2 hy
      go_wp2
      go_ret
      exact ⟨fin64 (by have h1 := HV.out; have h2 := HB.out; omega), hb0⟩
    · have HB : Hid (serialB b x = 32 + 2 * (yy - zz) + x) := by unfold Hid; rw [SBH.out, E1, E2]; simp [hy]
      clear SBH E1 E2 hy
      go_wp2
      go_ret
      exact ⟨fin64 (by have h1 := HV.out; have h2 := HB.out; omega), hb0⟩
    · have HB : Hid (serialB b x = 32 + 2 * (yy - zz) + x) := by unfold Hid; rw [SBH.out, E1, E2]; simp [hy]
      clear SBH E1 E2 hy
      go_wp2
      go_ret
      exact ⟨fin64 (by have h1 := HV.out; have h2 := HB.out; omega), hb0⟩
    · have HB : Hid (serialB b x = 32 + 2 * yy + x - 2) := by unfold Hid; rw [SBH.out, E1, E2]; simp [hy]
      clear SBH E1 E2 hy
      go_wp2
      go_ret
      exact ⟨fin64 (by have h1 := HV.out; have h2 := HB.out; omega), hb0⟩
    · have HB : Hid (serialB b x = 32 + x) := by unfold Hid; rw [SBH.out, E1, E2]; simp [hy]
      clear SBH E1 E2 hy
      go_wp2
      go_ret
      exact ⟨fin64 (by have h1 := HV.out; have h2 := HB.out; omega), hb0⟩
    · have HB : Hid (serialB b x = 32 + (30) + x - 2) := by unfold Hid; rw [SBH.out, E1, E2]; simp [hy]
      clear SBH E1 E2 hy
      go_wp2
      go_ret
      exact ⟨fin64 (by have h1 := HV.out; have h2 := HB.out; omega), hb0⟩
    · have HB : Hid (serialB b x = 32 + 2 * yy + x) := by unfold Hid; rw [SBH.out, E1, E2]; simp [hy]
      clear SBH E1 E2 hy
      go_wp2
      go_ret
      exact ⟨fin64 (by have h1 := HV.out; have h2 := HB.out; omega), hb0⟩
  · clear HH
    rw [h2] at e16
    clear h2
    obtain md4 := MH.out
    obtain hx := XH.out
    clear MH XH
    rcases md4 with rfl | rfl | rfl | rfl <;> rcases hx with ⟨hx, hy⟩ | ⟨hx, hy⟩
    · have HB : Hid (serialB b x = 0 + 2 * (yy - zz) + x) := by unfold Hid; rw [SBH.out, E1, E2]; simp [hy]
      clear SBH E1 E2 hy
      go_wp2
      go_ret
      exact ⟨fin64 (by have h1 := HV.out; have h2 := HB.out; omega), hb0⟩
    · have HB : Hid (serialB b x = 0 + 2 * (yy - zz) + x) := by unfold Hid; rw [SBH.out, E1, E2]; simp [hy]
      clear SBH E1 E2 hy
      go_wp2
      go_ret
      exact ⟨fin64 (by have h1 := HV.out; have h2 := HB.out; omega), hb0⟩
    · have HB : Hid (serialB b x = 0 + 2 * (yy - zz) + x) := by unfold Hid; rw [SBH.out, E1, E2]; simp [hy]
      clear SBH E1 E2 hy
      go_wp2
      go_ret
      exact ⟨fin64 (by have h1 := HV.out; have h2 := HB.out; omega), hb0⟩
    · have HB : Hid (serialB b x = 0 + 2 * (yy - zz) + x) := by unfold Hid; rw [SBH.out, E1, E2]; simp [hy]
      clear SBH E1 E2 hy
      go_wp2
      go_ret
      exact ⟨fin64 (by have h1 := HV.out; have h2 := HB.out; omega), hb0⟩
    · have HB : Hid (serialB b x = 0 + 2 * yy + x - 2) := by unfold Hid; rw [SBH.out, E1, E2]; simp [hy]
      clear SBH E1 E2 hy
      go_wp2
      go_ret
      exact ⟨fin64 (by have h1 := HV.out; have h2 := HB.out; omega), hb0⟩
    · have HB : Hid (serialB b x = 0 + x) := by unfold Hid; rw [SBH.out, E1, E2]; simp [hy]
      clear SBH E1 E2 hy
      go_wp2
      go_ret
      exact ⟨fin64 (by have h1 := HV.out; have h2 := HB.out; omega), hb0⟩
    · have HB : Hid (serialB b x = 0 + (30) + x - 2) := by unfold Hid; rw [SBH.out, E1, E2]; simp [hy]
      clear SBH E1 E2 hy
      go_wp2
      go_ret
      exact ⟨fin64 (by have h1 := HV.out; have h2 := HB.out; omega), hb0⟩
    · have HB : Hid (serialB b x = 0 + 2 * yy + x) := by unfold Hid; rw [SBH.out, E1, E2]; simp [hy]
      clear SBH E1 E2 hy
      go_wp2
      go_ret
      exact ⟨fin64 (by have h1 := HV.out; have h2 := HB.out; omega), hb0⟩
end Go.Proofs.Ytggphgmpdanliaa
namespace Go.Proofs.Ytggphgmpdanliaa
open Go.RowKit Classical
set_option maxRecDepth 100000 in
set_option maxHeartbeats 1000000 in
theorem rscan_any (w : World) (b : Bd) (x : Int) (o : b.Ok) (n0 : 0 ≤ x) (n1 : x ≤ 3) :
    Calls Try.prog 56 #[.agg b.cells, .int .i64 x] w fun e w' => e = .returned (.int .i64 (scanB b x)) ∧ Below w.heap.size w w' := by
  have e64 := bit64 o.wf.sel.1 o.wf.sel.2
  have p0 := o.p0
  have p1 := o.p1
  obtain ⟨g60, g61⟩ := o.wf.rget 6
  obtain ⟨g70, g71⟩ := o.wf.rget 7
  have sb : b.sel / 64 % 2 = 0 ∨ b.sel / 64 % 2 = 1 := by omega
  have hx : x = 0 ∨ x = 1 ∨ x = 2 ∨ x = 3 := by omega
  have SBH : Hid (scanB b x = (if x = 1 then b.r.getD 7 0 % 64 else if x = 3 then b.prg - 1 else if (x = 0 ∧ b.sel / 64 % 2 = 0) ∨ (x = 2 ∧ b.sel / 64 % 2 = 1) then b.r.getD 6 0 % 64 else b.prg - 2)) := rfl
  obtain ⟨v, hv⟩ : ∃ v, scanB b x = v := ⟨_, rfl⟩
  rw [hv]
  have HV : Hid _ := hv
  clear hv
  have h60 : 0 ≤ b.r.getD 6 0 % 64 := by omega
  have h61 : b.r.getD 6 0 % 64 ≤ 63 := by omega
  have h70 : 0 ≤ b.r.getD 7 0 % 64 := by omega
  have h71 : b.r.getD 7 0 % 64 ≤ 63 := by omega
  have SX : Hid _ := sb
  have XH : Hid _ := hx
  clear sb hx n0 n1
  have C := isB b o.wf.rlen
  generalize b.cells = cs at C
  clear o
  go_enter Try.func56, Try.ntmps56
  go_upto_region 1 with fail
  have b0 : Blk (w.alloc (.cells cs 28)) w.heap.size cs 28 := Blk.new w cs _
  have hb0 : Below w.heap.size w (w.alloc (.cells cs 28)) := (Below.refl _ _).alloc (Nat.le_refl _) _
  generalize w.alloc (.cells cs 28) = W0 at *
  have d4 := (b0.cell 4).trans C.h4
  have d14 := (b0.cell 14).trans C.h14
  have d21 : _ = some (Value.int .u8 (b.r.getD 6 0)) := (b0.cell 21).trans (C.r 6 (by decide))
  have d22 : _ = some (Value.int .u8 (b.r.getD 7 0)) := (b0.cell 22).trans (C.r 7 (by decide))
  clear C b0
  generalize b.r.getD 6 0 = r6 at *
  generalize b.r.getD 7 0 = r7 at *
  have sb := SX.out
  have hx := XH.out
  clear SX XH
  rcases sb with sb | sb <;> rcases hx with rfl | rfl | rfl | rfl
  · have HB : Hid (scanB b 0 = r6 % 64) := by unfold Hid; rw [SBH.out]; simp [sb]
    rw [sb] at e64
    clear SBH sb
    go_wp2
    go_ret
    exact ⟨fin64 (by have h1 := HV.out; have h2 := HB.out; omega), hb0⟩
  · have HB : Hid (scanB b 1 = r7 % 64) := by unfold Hid; rw [SBH.out]; simp [sb]
    rw [sb] at e64
    clear SBH sb
    go_wp2
    go_ret
    exact ⟨fin64 (by have h1 := HV.out; have h2 := HB.out; omega), hb0⟩
  · have HB : Hid (scanB b 2 = b.prg - 2) := by unfold Hid; rw [SBH.out]; simp [sb]
    rw [sb] at e64
    clear SBH sb
    go_wp2
    go_ret
    exact ⟨fin64 (by have h1 := HV.out; have h2 := HB.out; omega), hb0⟩
  · have HB : Hid (scanB b 3 = b.prg - 1) := by unfold Hid; rw [SBH.out]; simp [sb]
    rw [sb] at e64
    clear SBH sb
    go_wp2
    go_ret
    exact ⟨fin64 (by have h1 := HV.out; have h2 := HB.out; omega), hb0⟩
  · have HB : Hid (scanB b 0 = b.prg - 2) := by unfold Hid; rw [SBH.out]; simp [sb]
    rw [sb] at e64
    clear SBH sb
    go_wp2
    go_ret
    exact ⟨fin64 (by have h1 := HV.out; have h2 := HB.out; omega), hb0⟩
  · have HB : Hid (scanB b 1 = r7 % 64) := by unfold Hid; rw [SBH.out]; simp [sb]
    rw [sb] at e64
    clear SBH sb
    go_wp2
    go_ret
    exact ⟨fin64 (by have h1 := HV.out; have h2 := HB.out; omega), hb0⟩
  · have HB : Hid (scanB b 2 = r6 % 64) := by unfold Hid; rw [SBH.out]; simp [sb]
    rw [sb] at e64
    clear SBH sb
    go_wp2
    go_ret
    exact ⟨fin64 (by have h1 := HV.out; have h2 := HB.out; omega), hb0⟩
  · have HB : Hid (scanB b 3 = b.prg - 1) := by unfold Hid; rw [SBH.out]; simp [sb]
    rw [sb] at e64
    clear SBH sb
    go_wp2
    go_ret
    exact ⟨fin64 (by have h1 := HV.out; have h2 := HB.out; omega), hb0⟩
end Go.Proofs.Ytggphgmpdanliaa
namespace Go.Proofs.Ytggphgmpdanliaa
open Go.RowKit Classical
theorem serialB_bd {b : Bd} (o : b.Ok) {x : Int} (n0 : 0 ≤ x) (n1 : x ≤ 3) : 0 ≤ serialB b x ∧ serialB b x ≤ 300 := by
  have h := outer_bd b o.p0
  have r0 := o.wf.prgR.1
  unfold serialB
  (repeat' split) <;> omega
theorem scanB_bd {b : Bd} (o : b.Ok) {x : Int} (n0 : 0 ≤ x) (n1 : x ≤ 3) : 0 ≤ scanB b x ∧ scanB b x ≤ 300 := by
  have p0 := o.p0
  have p1 := o.p1
  have g6 := o.wf.rget 6
  have g7 := o.wf.rget 7
  unfold scanB
  (repeat' split) <;> omega
set_option maxRecDepth 100000 in
set_option maxHeartbeats 1000000 in
theorem rbank_none (w : World) (b : Bd) (x : Int) (B : b.Wf) (hv : validB b = false) :
    Calls Try.prog 29 #[.agg b.cells, .int .i64 x] w fun e w' => e = .returned (.int .i64 (-1)) ∧ Below w.heap.size w w' := by
  have C := isB b B.rlen
  have VA : ∀ W, Calls Try.prog 42 #[.agg b.cells] W fun e w' => e = .returned (.bool false) ∧ Below W.heap.size W w' := fun W => hv ▸ refValid_any W b B
  generalize b.cells = cs at *
  have HS : Hid _ := C.size
  have HVA : Hid _ := VA
  clear VA C hv
  go_enter Try.func29, Try.ntmps29
  go_upto_region 1 with fail
  have b0 : Blk (w.alloc (.cells cs 28)) w.heap.size cs 28 := Blk.new w cs _
  have hb0 : Below w.heap.size w (w.alloc (.cells cs 28)) := (Below.refl _ _).alloc (Nat.le_refl _) _
  generalize w.alloc (.cells cs 28) = W0 at *
  go_wp2_with (refine wpList_load_mid rfl 28 _ rfl w.heap.size 0 rfl cs.toList _ b0.range Try.underlying28 rfl (by rw [Array.length_toList, HS.out]; exact Try.infoBoard) ?_)
  refine (HVA.out W0).mono ?_
  rintro e W1 ⟨rfl, hb1'⟩
  have hb1 : Below w.heap.size w W1 := hb0.trans (hb1'.mono hb0.size)
  clear b0 hb0 hb1' HVA
  go_wp2
  go_ret
  exact ⟨rfl, hb1⟩
set_option maxRecDepth 100000 in
set_option maxHeartbeats 1000000 in
theorem rbank_low (w : World) (b : Bd) (x : Int) (hx : x < 0) (o : b.Ok) :
    Calls Try.prog 29 #[.agg b.cells, .int .i64 x] w fun e w' => e = .returned (.int .i64 (-1)) ∧ Below w.heap.size w w' := by
  have x0 : decide (x < 0) = true := decide_eq_true hx
  clear hx
  have C := isB b o.wf.rlen
  have VA : ∀ W, Calls Try.prog 42 #[.agg b.cells] W fun e w' => e = .returned (.bool true) ∧ Below W.heap.size W w' := fun W => o.val ▸ refValid_any W b o.wf
  generalize b.cells = cs at *
  have HS : Hid _ := C.size
  have HVA : Hid _ := VA
  clear o VA
  go_enter Try.func29, Try.ntmps29
  go_upto_region 1 with fail
  have b0 : Blk (w.alloc (.cells cs 28)) w.heap.size cs 28 := Blk.new w cs _
  have hb0 : Below w.heap.size w (w.alloc (.cells cs 28)) := (Below.refl _ _).alloc (Nat.le_refl _) _
  generalize w.alloc (.cells cs 28) = W0 at *
  go_wp2_with (refine wpList_load_mid rfl 28 _ rfl w.heap.size 0 rfl cs.toList _ b0.range Try.underlying28 rfl (by rw [Array.length_toList, HS.out]; exact Try.infoBoard) ?_)
  refine (HVA.out W0).mono ?_
  rintro e W1 ⟨rfl, hb1'⟩
  have hb1 : Below w.heap.size w W1 := hb0.trans (hb1'.mono hb0.size)
  have b1 := b0.below b0.lt hb1'
  clear C b0 hb0 hb1' HVA
  go_wp2
  go_ret
  exact ⟨rfl, hb1⟩
set_option maxRecDepth 100000 in
set_option maxHeartbeats 1000000 in
theorem rbank_high (w : World) (b : Bd) (x : Int) (hx : 3 < x) (o : b.Ok) :
    Calls Try.prog 29 #[.agg b.cells, .int .i64 x] w fun e w' => e = .returned (.int .i64 (-1)) ∧ Below w.heap.size w w' := by
  have x0 : decide (x < 0) = false := decide_eq_false (by omega)
  have x1 : decide (3 < x) = true := decide_eq_true hx
  clear hx
  have C := isB b o.wf.rlen
  have VA : ∀ W, Calls Try.prog 42 #[.agg b.cells] W fun e w' => e = .returned (.bool true) ∧ Below W.heap.size W w' := fun W => o.val ▸ refValid_any W b o.wf
  generalize b.cells = cs at *
  have HS : Hid _ := C.size
  have HVA : Hid _ := VA
  clear o VA
  go_enter Try.func29, Try.ntmps29
  go_upto_region 1 with fail
  have b0 : Blk (w.alloc (.cells cs 28)) w.heap.size cs 28 := Blk.new w cs _
  have hb0 : Below w.heap.size w (w.alloc (.cells cs 28)) := (Below.refl _ _).alloc (Nat.le_refl _) _
  generalize w.alloc (.cells cs 28) = W0 at *
  go_wp2_with (refine wpList_load_mid rfl 28 _ rfl w.heap.size 0 rfl cs.toList _ b0.range Try.underlying28 rfl (by rw [Array.length_toList, HS.out]; exact Try.infoBoard) ?_)
  refine (HVA.out W0).mono ?_
  rintro e W1 ⟨rfl, hb1'⟩
  have hb1 : Below w.heap.size w W1 := hb0.trans (hb1'.mono hb0.size)
  have b1 := b0.below b0.lt hb1'
  clear C b0 hb0 hb1' HVA
  go_wp2
  go_ret
  exact ⟨rfl, hb1⟩
set_option maxRecDepth 100000 in
set_option maxHeartbeats 1000000 in
theorem rbank_0 (w : World) (b : Bd) (x : Int) (n0 : 0 ≤ x) (n1 : x ≤ 3) (o : b.Ok) (hk : b.kind = 0) :
    Calls Try.prog 29 #[.agg b.cells, .int .i64 x] w fun e w' => e = .returned (.int .i64 (bankB b x)) ∧ Below w.heap.size w w' := by
  have x0 : decide (x < 0) = false := decide_eq_false (by omega)
  have x1 : decide (3 < x) = false := decide_eq_false (by omega)
  have p0 := o.p0
  have p1 := o.p1
  have pz : ¬ b.prg = 0 := by omega
  have E : bankB b x = x % b.prg := by simp [bankB, bankN, hk]
  rw [E]
  clear E
  have M := mod_in (x) b.prg (n0) (by omega)
  obtain ⟨em, m0, m1⟩ := M
  have m2 : (x) % b.prg ≤ 128 := by omega
  generalize (x) % b.prg = rr at *
  clear p0 p1 m1
  have C := isB b o.wf.rlen
  have VA : ∀ W, Calls Try.prog 42 #[.agg b.cells] W fun e w' => e = .returned (.bool true) ∧ Below W.heap.size W w' := fun W => o.val ▸ refValid_any W b o.wf
  generalize b.cells = cs at *
  have HS : Hid _ := C.size
  have HVA : Hid _ := VA
  clear o VA
  go_enter Try.func29, Try.ntmps29
  go_upto_region 1 with fail
  have b0 : Blk (w.alloc (.cells cs 28)) w.heap.size cs 28 := Blk.new w cs _
  have hb0 : Below w.heap.size w (w.alloc (.cells cs 28)) := (Below.refl _ _).alloc (Nat.le_refl _) _
  generalize w.alloc (.cells cs 28) = W0 at *
  go_wp2_with (refine wpList_load_mid rfl 28 _ rfl w.heap.size 0 rfl cs.toList _ b0.range Try.underlying28 rfl (by rw [Array.length_toList, HS.out]; exact Try.infoBoard) ?_)
  refine (HVA.out W0).mono ?_
  rintro e W1 ⟨rfl, hb1'⟩
  have hb1 : Below w.heap.size w W1 := hb0.trans (hb1'.mono hb0.size)
  have b1 := b0.below b0.lt hb1'
  have d0 := (b1.cell 0).trans C.h0
  have d4 := (b1.cell 4).trans C.h4
  clear C b0 hb0 hb1' HVA
  rw [hk] at d0
  go_wp2
  go_ret
  exact ⟨rfl, hb1⟩
set_option maxRecDepth 100000 in
set_option maxHeartbeats 1000000 in
theorem rbank_3 (w : World) (b : Bd) (x : Int) (n0 : 0 ≤ x) (n1 : x ≤ 3) (o : b.Ok) (hk : b.kind = 3) :
    Calls Try.prog 29 #[.agg b.cells, .int .i64 x] w fun e w' => e = .returned (.int .i64 (bankB b x)) ∧ Below w.heap.size w w' := by
  have x0 : decide (x < 0) = false := decide_eq_false (by omega)
  have x1 : decide (3 < x) = false := decide_eq_false (by omega)
  have p0 := o.p0
  have p1 := o.p1
  have pz : ¬ b.prg = 0 := by omega
  have E : bankB b x = x % b.prg := by simp [bankB, bankN, hk]
  rw [E]
  clear E
  have M := mod_in (x) b.prg (n0) (by omega)
  obtain ⟨em, m0, m1⟩ := M
  have m2 : (x) % b.prg ≤ 128 := by omega
  generalize (x) % b.prg = rr at *
  clear p0 p1 m1
  have C := isB b o.wf.rlen
  have VA : ∀ W, Calls Try.prog 42 #[.agg b.cells] W fun e w' => e = .returned (.bool true) ∧ Below W.heap.size W w' := fun W => o.val ▸ refValid_any W b o.wf
  generalize b.cells = cs at *
  have HS : Hid _ := C.size
  have HVA : Hid _ := VA
  clear o VA
  go_enter Try.func29, Try.ntmps29
  go_upto_region 1 with fail
  have b0 : Blk (w.alloc (.cells cs 28)) w.heap.size cs 28 := Blk.new w cs _
  have hb0 : Below w.heap.size w (w.alloc (.cells cs 28)) := (Below.refl _ _).alloc (Nat.le_refl _) _
  generalize w.alloc (.cells cs 28) = W0 at *
  go_wp2_with (refine wpList_load_mid rfl 28 _ rfl w.heap.size 0 rfl cs.toList _ b0.range Try.underlying28 rfl (by rw [Array.length_toList, HS.out]; exact Try.infoBoard) ?_)
  refine (HVA.out W0).mono ?_
  rintro e W1 ⟨rfl, hb1'⟩
  have hb1 : Below w.heap.size w W1 := hb0.trans (hb1'.mono hb0.size)
  have b1 := b0.below b0.lt hb1'
  have d0 := (b1.cell 0).trans C.h0
  have d4 := (b1.cell 4).trans C.h4
  clear C b0 hb0 hb1' HVA
  rw [hk] at d0
  go_wp2
  go_ret
  exact ⟨rfl, hb1⟩
set_option maxRecDepth 100000 in
set_option maxHeartbeats 1000000 in
theorem rbank_15 (w : World) (b : Bd) (x : Int) (n0 : 0 ≤ x) (n1 : x ≤ 3) (o : b.Ok) (hk : b.kind = 1) (h5 : b.sub = 5) :
    Calls Try.prog 29 #[.agg b.cells, .int .i64 x] w fun e w' => e = .returned (.int .i64 (bankB b x)) ∧ Below w.heap.size w w' := by
  have x0 : decide (x < 0) = false := decide_eq_false (by omega)
  have x1 : decide (3 < x) = false := decide_eq_false (by omega)
  have p0 := o.p0
  have p1 := o.p1
  have pz : ¬ b.prg = 0 := by omega
  have E : bankB b x = x % b.prg := by simp [bankB, bankN, hk, h5]
  rw [E]
  clear E
  have M := mod_in (x) b.prg (n0) (by omega)
  obtain ⟨em, m0, m1⟩ := M
  have m2 : (x) % b.prg ≤ 128 := by omega
  generalize (x) % b.prg = rr at *
  clear p0 p1 m1
  have C := isB b o.wf.rlen
  have VA : ∀ W, Calls Try.prog 42 #[.agg b.cells] W fun e w' => e = .returned (.bool true) ∧ Below W.heap.size W w' := fun W => o.val ▸ refValid_any W b o.wf
  generalize b.cells = cs at *
  have HS : Hid _ := C.size
  have HVA : Hid _ := VA
  clear o VA
  go_enter Try.func29, Try.ntmps29
  go_upto_region 1 with fail
  have b0 : Blk (w.alloc (.cells cs 28)) w.heap.size cs 28 := Blk.new w cs _
  have hb0 : Below w.heap.size w (w.alloc (.cells cs 28)) := (Below.refl _ _).alloc (Nat.le_refl _) _
  generalize w.alloc (.cells cs 28) = W0 at *
  go_wp2_with (refine wpList_load_mid rfl 28 _ rfl w.heap.size 0 rfl cs.toList _ b0.range Try.underlying28 rfl (by rw [Array.length_toList, HS.out]; exact Try.infoBoard) ?_)
  refine (HVA.out W0).mono ?_
  rintro e W1 ⟨rfl, hb1'⟩
  have hb1 : Below w.heap.size w W1 := hb0.trans (hb1'.mono hb0.size)
  have b1 := b0.below b0.lt hb1'
  have d0 := (b1.cell 0).trans C.h0
  have d1 := (b1.cell 1).trans C.h1
  have d4 := (b1.cell 4).trans C.h4
  clear C b0 hb0 hb1' HVA
  rw [hk] at d0
  rw [h5] at d1
  go_wp2
  go_ret
  exact ⟨rfl, hb1⟩
set_option maxRecDepth 100000 in
set_option maxHeartbeats 1000000 in
theorem rbank_1 (w : World) (b : Bd) (x : Int) (n0 : 0 ≤ x) (n1 : x ≤ 3) (o : b.Ok) (hk : b.kind = 1) (h5 : ¬ b.sub = 5) :
    Calls Try.prog 29 #[.agg b.cells, .int .i64 x] w fun e w' => e = .returned (.int .i64 (bankB b x)) ∧ Below w.heap.size w w' := by
  have x0 : decide (x < 0) = false := decide_eq_false (by omega)
  have x1 : decide (3 < x) = false := decide_eq_false (by omega)
  have p0 := o.p0
  have p1 := o.p1
  have pz : ¬ b.prg = 0 := by omega
  have E : bankB b x = (serialB b x) % b.prg := by simp [bankB, bankN, hk, h5]
  rw [E]
  clear E
  have h5b : (b.sub == 5) = false := by simpa using h5
  have SA : ∀ W, Calls Try.prog 55 #[.agg b.cells, .int .i64 x] W fun e w' => e = .returned (.int .i64 (serialB b x)) ∧ Below W.heap.size W w' := fun W => rserial_any W b x o n0 n1
  have sbd := serialB_bd o n0 n1
  generalize serialB b x = sv at *
  obtain ⟨sb0, sb1⟩ := sbd
  have M := mod_in (sv) b.prg (sb0) (by omega)
  obtain ⟨em, m0, m1⟩ := M
  have m2 : (sv) % b.prg ≤ 128 := by omega
  generalize (sv) % b.prg = rr at *
  clear p0 p1 m1
  have C := isB b o.wf.rlen
  have VA : ∀ W, Calls Try.prog 42 #[.agg b.cells] W fun e w' => e = .returned (.bool true) ∧ Below W.heap.size W w' := fun W => o.val ▸ refValid_any W b o.wf
  generalize b.cells = cs at *
  have HS : Hid _ := C.size
  have HVA : Hid _ := VA
  clear o VA
  go_enter Try.func29, Try.ntmps29
  go_upto_region 1 with fail
  have b0 : Blk (w.alloc (.cells cs 28)) w.heap.size cs 28 := Blk.new w cs _
  have hb0 : Below w.heap.size w (w.alloc (.cells cs 28)) := (Below.refl _ _).alloc (Nat.le_refl _) _
  generalize w.alloc (.cells cs 28) = W0 at *
  go_wp2_with (refine wpList_load_mid rfl 28 _ rfl w.heap.size 0 rfl cs.toList _ b0.range Try.underlying28 rfl (by rw [Array.length_toList, HS.out]; exact Try.infoBoard) ?_)
  refine (HVA.out W0).mono ?_
  rintro e W1 ⟨rfl, hb1'⟩
  have hb1 : Below w.heap.size w W1 := hb0.trans (hb1'.mono hb0.size)
  have b1 := b0.below b0.lt hb1'
  have d0 := (b1.cell 0).trans C.h0
  have d1 := (b1.cell 1).trans C.h1
  have d4 := (b1.cell 4).trans C.h4
  clear C b0 hb0 hb1' HVA
  rw [hk] at d0
  have HSA : Hid _ := SA
  clear SA
  go_wp2_with (refine wpList_load_mid rfl 28 _ rfl w.heap.size 0 rfl cs.toList _ b1.range Try.underlying28 rfl (by rw [Array.length_toList, HS.out]; exact Try.infoBoard) ?_)
  refine (HSA.out W1).mono ?_
  rintro e W2 ⟨rfl, hb2'⟩
  have hb2 : Below w.heap.size w W2 := hb1.trans (hb2'.mono hb1.size)
  have b2 := b1.below b1.lt hb2'
  have g4 : W2.cell? ⟨w.heap.size, 4, none⟩ = some (.int .i64 b.prg) := (hb2'.cell (p := ⟨w.heap.size, 4, none⟩) b1.lt).trans d4
  clear hb2' HSA d4 b1
  go_wp2
  go_ret
  exact ⟨rfl, hb2⟩
set_option maxRecDepth 100000 in
set_option maxHeartbeats 1000000 in
theorem rbank_4 (w : World) (b : Bd) (x : Int) (n0 : 0 ≤ x) (n1 : x ≤ 3) (o : b.Ok) (hk : b.kind = 4) :
    Calls Try.prog 29 #[.agg b.cells, .int .i64 x] w fun e w' => e = .returned (.int .i64 (bankB b x)) ∧ Below w.heap.size w w' := by
  have x0 : decide (x < 0) = false := decide_eq_false (by omega)
  have x1 : decide (3 < x) = false := decide_eq_false (by omega)
  have p0 := o.p0
  have p1 := o.p1
  have pz : ¬ b.prg = 0 := by omega
  have E : bankB b x = (scanB b x) % b.prg := by simp [bankB, bankN, hk]
  rw [E]
  clear E
  have SA : ∀ W, Calls Try.prog 56 #[.agg b.cells, .int .i64 x] W fun e w' => e = .returned (.int .i64 (scanB b x)) ∧ Below W.heap.size W w' := fun W => rscan_any W b x o n0 n1
  have sbd := scanB_bd o n0 n1
  generalize scanB b x = sv at *
  obtain ⟨sb0, sb1⟩ := sbd
  have M := mod_in (sv) b.prg (sb0) (by omega)
  obtain ⟨em, m0, m1⟩ := M
  have m2 : (sv) % b.prg ≤ 128 := by omega
  generalize (sv) % b.prg = rr at *
  clear p0 p1 m1
  have C := isB b o.wf.rlen
  have VA : ∀ W, Calls Try.prog 42 #[.agg b.cells] W fun e w' => e = .returned (.bool true) ∧ Below W.heap.size W w' := fun W => o.val ▸ refValid_any W b o.wf
  generalize b.cells = cs at *
  have HS : Hid _ := C.size
  have HVA : Hid _ := VA
  clear o VA
  go_enter Try.func29, Try.ntmps29
  go_upto_region 1 with fail
  have b0 : Blk (w.alloc (.cells cs 28)) w.heap.size cs 28 := Blk.new w cs _
  have hb0 : Below w.heap.size w (w.alloc (.cells cs 28)) := (Below.refl _ _).alloc (Nat.le_refl _) _
  generalize w.alloc (.cells cs 28) = W0 at *
  go_wp2_with (refine wpList_load_mid rfl 28 _ rfl w.heap.size 0 rfl cs.toList _ b0.range Try.underlying28 rfl (by rw [Array.length_toList, HS.out]; exact Try.infoBoard) ?_)
  refine (HVA.out W0).mono ?_
  rintro e W1 ⟨rfl, hb1'⟩
  have hb1 : Below w.heap.size w W1 := hb0.trans (hb1'.mono hb0.size)
  have b1 := b0.below b0.lt hb1'
  have d0 := (b1.cell 0).trans C.h0
  have d4 := (b1.cell 4).trans C.h4
  clear C b0 hb0 hb1' HVA
  rw [hk] at d0
  have HSA : Hid _ := SA
  clear SA
  go_wp2_with (refine wpList_load_mid rfl 28 _ rfl w.heap.size 0 rfl cs.toList _ b1.range Try.underlying28 rfl (by rw [Array.length_toList, HS.out]; exact Try.infoBoard) ?_)
  refine (HSA.out W1).mono ?_
  rintro e W2 ⟨rfl, hb2'⟩
  have hb2 : Below w.heap.size w W2 := hb1.trans (hb2'.mono hb1.size)
  have b2 := b1.below b1.lt hb2'
  have g4 : W2.cell? ⟨w.heap.size, 4, none⟩ = some (.int .i64 b.prg) := (hb2'.cell (p := ⟨w.heap.size, 4, none⟩) b1.lt).trans d4
  clear hb2' HSA d4 b1
  go_wp2
  go_ret
  exact ⟨rfl, hb2⟩
set_option maxRecDepth 100000 in
set_option maxHeartbeats 1000000 in
theorem rbank_2a (w : World) (b : Bd) (x : Int) (n0 : 0 ≤ x) (hx2 : x < 2) (o : b.Ok) (hk : b.kind = 2) :
    Calls Try.prog 29 #[.agg b.cells, .int .i64 x] w fun e w' => e = .returned (.int .i64 (bankB b x)) ∧ Below w.heap.size w w' := by
  have x0 : decide (x < 0) = false := decide_eq_false (by omega)
  have x1 : decide (3 < x) = false := decide_eq_false (by omega)
  have p0 := o.p0
  have p1 := o.p1
  have pz : ¬ b.prg = 0 := by omega
  have l0 := o.wf.latch.1
  have l1 := o.wf.latch.2
  have E : bankB b x = (2 * b.latch + x) % b.prg := by simp [bankB, bankN, hk, hx2]
  rw [E]
  clear E
  have x2 : decide (1 < x) = false := decide_eq_false (by omega)
  have M := mod_in (2 * b.latch + x) b.prg (by omega) (by omega)
  obtain ⟨em, m0, m1⟩ := M
  have m2 : (2 * b.latch + x) % b.prg ≤ 128 := by omega
  generalize (2 * b.latch + x) % b.prg = rr at *
  clear p0 p1 m1
  have C := isB b o.wf.rlen
  have VA : ∀ W, Calls Try.prog 42 #[.agg b.cells] W fun e w' => e = .returned (.bool true) ∧ Below W.heap.size W w' := fun W => o.val ▸ refValid_any W b o.wf
  generalize b.cells = cs at *
  have HS : Hid _ := C.size
  have HVA : Hid _ := VA
  clear o VA
  go_enter Try.func29, Try.ntmps29
  go_upto_region 1 with fail
  have b0 : Blk (w.alloc (.cells cs 28)) w.heap.size cs 28 := Blk.new w cs _
  have hb0 : Below w.heap.size w (w.alloc (.cells cs 28)) := (Below.refl _ _).alloc (Nat.le_refl _) _
  generalize w.alloc (.cells cs 28) = W0 at *
  go_wp2_with (refine wpList_load_mid rfl 28 _ rfl w.heap.size 0 rfl cs.toList _ b0.range Try.underlying28 rfl (by rw [Array.length_toList, HS.out]; exact Try.infoBoard) ?_)
  refine (HVA.out W0).mono ?_
  rintro e W1 ⟨rfl, hb1'⟩
  have hb1 : Below w.heap.size w W1 := hb0.trans (hb1'.mono hb0.size)
  have b1 := b0.below b0.lt hb1'
  have d0 := (b1.cell 0).trans C.h0
  have d4 := (b1.cell 4).trans C.h4
  have d13 := (b1.cell 13).trans C.h13
  clear C b0 hb0 hb1' HVA
  rw [hk] at d0
  go_wp2
  go_ret
  exact ⟨rfl, hb1⟩
set_option maxRecDepth 100000 in
set_option maxHeartbeats 1000000 in
theorem rbank_2b (w : World) (b : Bd) (x : Int) (hx2 : ¬ x < 2) (n1 : x ≤ 3) (o : b.Ok) (hk : b.kind = 2) :
    Calls Try.prog 29 #[.agg b.cells, .int .i64 x] w fun e w' => e = .returned (.int .i64 (bankB b x)) ∧ Below w.heap.size w w' := by
  have x0 : decide (x < 0) = false := decide_eq_false (by omega)
  have x1 : decide (3 < x) = false := decide_eq_false (by omega)
  have p0 := o.p0
  have p1 := o.p1
  have pz : ¬ b.prg = 0 := by omega
  have l0 := o.wf.latch.1
  have l1 := o.wf.latch.2
  have E : bankB b x = (b.prg - 2 + x - 2) % b.prg := by simp [bankB, bankN, hk, hx2]; congr 1; omega
  rw [E]
  clear E
  have x2 : decide (1 < x) = true := decide_eq_true (by omega)
  have M := mod_in (b.prg - 2 + x - 2) b.prg (by omega) (by omega)
  obtain ⟨em, m0, m1⟩ := M
  have m2 : (b.prg - 2 + x - 2) % b.prg ≤ 128 := by omega
  generalize (b.prg - 2 + x - 2) % b.prg = rr at *
  clear m1
  have C := isB b o.wf.rlen
  have VA : ∀ W, Calls Try.prog 42 #[.agg b.cells] W fun e w' => e = .returned (.bool true) ∧ Below W.heap.size W w' := fun W => o.val ▸ refValid_any W b o.wf
  generalize b.cells = cs at *
  have HS : Hid _ := C.size
  have HVA : Hid _ := VA
  clear o VA
  go_enter Try.func29, Try.ntmps29
  go_upto_region 1 with fail
  have b0 : Blk (w.alloc (.cells cs 28)) w.heap.size cs 28 := Blk.new w cs _
  have hb0 : Below w.heap.size w (w.alloc (.cells cs 28)) := (Below.refl _ _).alloc (Nat.le_refl _) _
  generalize w.alloc (.cells cs 28) = W0 at *
  go_wp2_with (refine wpList_load_mid rfl 28 _ rfl w.heap.size 0 rfl cs.toList _ b0.range Try.underlying28 rfl (by rw [Array.length_toList, HS.out]; exact Try.infoBoard) ?_)
  refine (HVA.out W0).mono ?_
  rintro e W1 ⟨rfl, hb1'⟩
  have hb1 : Below w.heap.size w W1 := hb0.trans (hb1'.mono hb0.size)
  have b1 := b0.below b0.lt hb1'
  have d0 := (b1.cell 0).trans C.h0
  have d4 := (b1.cell 4).trans C.h4
  have d13 := (b1.cell 13).trans C.h13
  clear C b0 hb0 hb1' HVA
  rw [hk] at d0
  go_wp2
  go_ret
  exact ⟨rfl, hb1⟩
set_option maxRecDepth 100000 in
set_option maxHeartbeats 1000000 in
theorem rbank_7 (w : World) (b : Bd) (x : Int) (n0 : 0 ≤ x) (n1 : x ≤ 3) (o : b.Ok) (hk : b.kind = 7) :
    Calls Try.prog 29 #[.agg b.cells, .int .i64 x] w fun e w' => e = .returned (.int .i64 (bankB b x)) ∧ Below w.heap.size w w' := by
  have x0 : decide (x < 0) = false := decide_eq_false (by omega)
  have x1 : decide (3 < x) = false := decide_eq_false (by omega)
  have p0 := o.p0
  have p1 := o.p1
  have pz : ¬ b.prg = 0 := by omega
  have l0 := o.wf.latch.1
  have l1 := o.wf.latch.2
  have E : bankB b x = (4 * (b.latch % 16) + x) % b.prg := by simp [bankB, bankN, hk]
  rw [E]
  clear E
  have y0 : 0 ≤ b.latch % 16 := by omega
  have y1 : b.latch % 16 ≤ 15 := by omega
  have M := mod_in (4 * (b.latch % 16) + x) b.prg (by omega) (by omega)
  obtain ⟨em, m0, m1⟩ := M
  have m2 : (4 * (b.latch % 16) + x) % b.prg ≤ 128 := by omega
  generalize (4 * (b.latch % 16) + x) % b.prg = rr at *
  clear p0 p1 m1
  have C := isB b o.wf.rlen
  have VA : ∀ W, Calls Try.prog 42 #[.agg b.cells] W fun e w' => e = .returned (.bool true) ∧ Below W.heap.size W w' := fun W => o.val ▸ refValid_any W b o.wf
  generalize b.cells = cs at *
  have HS : Hid _ := C.size
  have HVA : Hid _ := VA
  clear o VA
  go_enter Try.func29, Try.ntmps29
  go_upto_region 1 with fail
  have b0 : Blk (w.alloc (.cells cs 28)) w.heap.size cs 28 := Blk.new w cs _
  have hb0 : Below w.heap.size w (w.alloc (.cells cs 28)) := (Below.refl _ _).alloc (Nat.le_refl _) _
  generalize w.alloc (.cells cs 28) = W0 at *
  go_wp2_with (refine wpList_load_mid rfl 28 _ rfl w.heap.size 0 rfl cs.toList _ b0.range Try.underlying28 rfl (by rw [Array.length_toList, HS.out]; exact Try.infoBoard) ?_)
  refine (HVA.out W0).mono ?_
  rintro e W1 ⟨rfl, hb1'⟩
  have hb1 : Below w.heap.size w W1 := hb0.trans (hb1'.mono hb0.size)
  have b1 := b0.below b0.lt hb1'
  have d0 := (b1.cell 0).trans C.h0
  have d4 := (b1.cell 4).trans C.h4
  have d13 := (b1.cell 13).trans C.h13
  clear C b0 hb0 hb1' HVA
  rw [hk] at d0
  go_wp2
  go_ret
  exact ⟨rfl, hb1⟩
theorem rbank_all (w : World) (b : Bd) (x : Int) (B : b.Wf) :
    Calls Try.prog 29 #[.agg b.cells, .int .i64 x] w fun e w' => e = .returned (.int .i64 (bankBA b x)) ∧ Below w.heap.size w w' := by
  unfold bankBA
  cases hv : validB b
  · rw [if_neg (by simp)]
    exact rbank_none w b x B hv
  have o := Bd.ok B hv
  by_cases h0 : x < 0
  · rw [if_neg (by omega)]
    exact rbank_low w b x h0 o
  by_cases h1 : 3 < x
  · rw [if_neg (by omega)]
    exact rbank_high w b x h1 o
  rw [if_pos ⟨rfl, by omega, by omega⟩]
  rcases o.kd with hk | hk | hk | hk | hk | hk
  · exact rbank_0 w b x (by omega) (by omega) o hk
  · by_cases h5 : b.sub = 5
    · exact rbank_15 w b x (by omega) (by omega) o hk h5
    · exact rbank_1 w b x (by omega) (by omega) o hk h5
  · by_cases h2 : x < 2
    · exact rbank_2a w b x (by omega) h2 o hk
    · exact rbank_2b w b x h2 (by omega) o hk
  · exact rbank_3 w b x (by omega) (by omega) o hk
  · exact rbank_4 w b x (by omega) (by omega) o hk
  · exact rbank_7 w b x (by omega) (by omega) o hk
end Go.Proofs.Ytggphgmpdanliaa
