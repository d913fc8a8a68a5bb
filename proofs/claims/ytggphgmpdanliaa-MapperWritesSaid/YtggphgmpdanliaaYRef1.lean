/-
  What the document's scanned answers.
-/
import Derived.Test.YtggphgmpdanliaaYRef0
set_option linter.unusedSimpArgs false
set_option linter.unusedVariables false
namespace Go.Proofs.Ytggphgmpdanliaa
open Go.RowKit
set_option maxRecDepth 100000 in
set_option maxHeartbeats 1000000 in
theorem rscan_any (w : World) (b : Bd) (x : Int) (o : b.Ok) (n0 : 0 ≤ x) (n1 : x ≤ 3) :
    Calls Try.prog 56 #[.agg b.cells, .int .i64 x] w fun e w' => e = .returned (.int .i64 (scanB b x)) ∧ Below w.heap.size w w' := by
  have e64 := bit64 o.wf.sel.1 o.wf.sel.2
  have p0 := o.p0
  have p1 := o.p1
  obtain ⟨g60, g61⟩ := o.wf.rget 6
  obtain ⟨g70, g71⟩ := o.wf.rget 7
  have sb : b.sel / 64 % 2 = 0 ∨ b.sel / 64 % 2 = 1 := by omega
  have hx : x = 0 ∨ x = 1 ∨ x = 2 ∨ x = 3 := by omega
  have SBH : Hid (scanB b x = (if x = 1 then b.r.getD 7 0 % 64 else if x = 3 then b.prg - 1 else if (x = 0 ∧ b.sel / 64 % 2 = 0) ∨ (x = 2 ∧ b.sel / 64 % 2 = 1) then b.r.getD 6 0 % 64 else b.prg - 2)) := rfl
  obtain ⟨v, hv⟩ : ∃ v, scanB b x = v := ⟨_, rfl⟩
  rw [hv]
  have HV : Hid _ := hv
  clear hv
  have h60 : 0 ≤ b.r.getD 6 0 % 64 := by omega
  have h61 : b.r.getD 6 0 % 64 ≤ 63 := by omega
  have h70 : 0 ≤ b.r.getD 7 0 % 64 := by omega
  have h71 : b.r.getD 7 0 % 64 ≤ 63 := by omega
  have SX : Hid _ := sb
  have XH : Hid _ := hx
  clear sb hx n0 n1
  have C := isB b o.wf.rlen
  generalize b.cells = cs at C
  clear o
  go_enter Try.func56, Try.ntmps56
  go_upto_region 1 with fail
  have b0 : Blk (w.alloc (.cells cs 28)) w.heap.size cs 28 := Blk.new w cs _
  have hb0 : Below w.heap.size w (w.alloc (.cells cs 28)) := (Below.refl _ _).alloc (Nat.le_refl _) _
  generalize w.alloc (.cells cs 28) = W0 at *
  have d4 := (b0.cell 4).trans C.h4
  have d14 := (b0.cell 14).trans C.h14
  have d21 : _ = some (Value.int .u8 (b.r.getD 6 0)) := (b0.cell 21).trans (C.r 6 (by decide))
  have d22 : _ = some (Value.int .u8 (b.r.getD 7 0)) := (b0.cell 22).trans (C.r 7 (by decide))
  clear C b0
  generalize b.r.getD 6 0 = r6 at *
  generalize b.r.getD 7 0 = r7 at *
  have sb := SX.out
  have hx := XH.out
  clear SX XH
  rcases sb with sb | sb <;> rcases hx with rfl | rfl | rfl | rfl
  · have HB : Hid (scanB b 0 = r6 % 64) := by unfold Hid; rw [SBH.out]; simp [sb]
    rw [sb] at e64
    clear SBH sb
    go_wp2
    go_ret
    exact ⟨fin64 (by have h1 := HV.out; have h2 := HB.out; omega), hb0⟩
  · have HB : Hid (scanB b 1 = r7 % 64) := by unfold Hid; rw [SBH.out]; simp [sb]
    rw [sb] at e64
    clear SBH sb
    go_wp2
    go_ret
    exact ⟨fin64 (by have h1 := HV.out; have h2 := HB.out; omega), hb0⟩
  · have HB : Hid (scanB b 2 = b.prg - 2) := by unfold Hid; rw [SBH.out]; simp [sb]
    rw [sb] at e64
    clear SBH sb
    go_wp2
    go_ret
    exact ⟨fin64 (by have h1 := HV.out; have h2 := HB.out; omega), hb0⟩
  · have HB : Hid (scanB b 3 = b.prg - 1) := by unfold Hid; rw [SBH.out]; simp [sb]
    rw [sb] at e64
    clear SBH sb
    go_wp2
    go_ret
    exact ⟨fin64 (by have h1 := HV.out; have h2 := HB.out; omega), hb0⟩
  · have HB : Hid (scanB b 0 = b.prg - 2) := by unfold Hid; rw [SBH.out]; simp [sb]
    rw [sb] at e64
    clear SBH sb
    go_wp2
    go_ret
    exact ⟨fin64 (by have h1 := HV.out; have h2 := HB.out; omega), hb0⟩
  · have HB : Hid (scanB b 1 = r7 % 64) := by unfold Hid; rw [SBH.out]; simp [sb]
    rw [sb] at e64
    clear SBH sb
    go_wp2
    go_ret
    exact ⟨fin64 (by have h1 := HV.out; have h2 := HB.out; omega), hb0⟩
  · have HB : Hid (scanB b 2 = r6 % 64) := by unfold Hid; rw [SBH.out]; simp [sb]
    rw [sb] at e64
    clear SBH sb
    go_wp2
    go_ret
    exact ⟨fin64 (by have h1 := HV.out; have h2 := HB.out; omega), hb0⟩
  · have HB : Hid (scanB b 3 = b.prg - 1) := by unfold Hid; rw [SBH.out]; simp [sb]
    rw [sb] at e64
    clear SBH sb
    go_wp2
    go_ret
    exact ⟨fin64 (by have h1 := HV.out; have h2 := HB.out; omega), hb0⟩
end Go.Proofs.Ytggphgmpdanliaa
