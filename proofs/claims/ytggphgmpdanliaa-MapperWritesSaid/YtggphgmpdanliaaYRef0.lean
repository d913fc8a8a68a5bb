/-
  What the document's serial answers.
-/
import Derived.Test.YtggphgmpdanliaaYKinds
set_option linter.unusedSimpArgs false
set_option linter.unusedVariables false
namespace Go.Proofs.Ytggphgmpdanliaa
open Go.RowKit
theorem fin64 {x y : Int} (h : x = y) : Ending.returned (Value.int .i64 x) = Ending.returned (Value.int .i64 y) := by rw [h]
theorem fin8 {x y : Int} (h : x = y) : Ending.returned (Value.int .u8 x) = Ending.returned (Value.int .u8 y) := by rw [h]
theorem and30N : ∀ k : Nat, k < 32 → bits .and .u8 (k : Int) 30 = (k : Int) - (k : Int) % 2 := by decide +kernel
theorem and30 {x : Int} (h0 : 0 ≤ x) (h1 : x ≤ 31) : bits .and .u8 x 30 = x - x % 2 := by
  have := and30N x.toNat (by omega)
  rwa [show ((x.toNat : Nat) : Int) = x by omega] at this
set_option maxRecDepth 100000 in
set_option maxHeartbeats 1000000 in
theorem rserial_any (w : World) (b : Bd) (x : Int) (o : b.Ok) (n0 : 0 ≤ x) (n1 : x ≤ 3) :
    Calls Try.prog 55 #[.agg b.cells, .int .i64 x] w fun e w' => e = .returned (.int .i64 (serialB b x)) ∧ Below w.heap.size w w' := by
  have e16 := bit16 o.wf.chrA.1 o.wf.chrA.2
  have r0 := o.wf.prgR.1
  have r1 := o.wf.prgR.2
  have t0 := o.wf.ctrl.1
  have t1 := o.wf.ctrl.2
  have p0 := o.p0
  have p1 := o.p1
  have y0 : 0 ≤ b.prgR % 16 := by omega
  have y1 : b.prgR % 16 ≤ 15 := by omega
  have yz : b.prgR % 16 % 2 = b.prgR % 2 := by omega
  have z0 : 0 ≤ b.prgR % 2 := by omega
  have z1 : b.prgR % 2 ≤ 1 := by omega
  have et1 : b.prgR.tmod 16 = b.prgR % 16 := Int.tmod_eq_emod_of_nonneg r0
  have et2 : b.ctrl.tdiv 4 = b.ctrl / 4 := Int.tdiv_eq_ediv_of_nonneg t0
  have et3 : (b.ctrl / 4).tmod 4 = b.ctrl / 4 % 4 := Int.tmod_eq_emod_of_nonneg (by omega)
  have et4 : (b.prgR % 16).tmod 2 = b.prgR % 16 % 2 := Int.tmod_eq_emod_of_nonneg y0
  have tq0 : 0 ≤ b.ctrl / 4 := by omega
  have tq1 : b.ctrl / 4 ≤ 63 := by omega
  obtain ⟨md, hmd⟩ : ∃ z, b.ctrl / 4 % 4 = z := ⟨_, rfl⟩
  have SB : serialB b x = if md < 2 then outerB b + 2 * (b.prgR % 16 - b.prgR % 2) + x else if md = 2 then (if x < 2 then outerB b + x else outerB b + 2 * (b.prgR % 16) + x - 2) else if x < 2 then outerB b + 2 * (b.prgR % 16) + x else outerB b + lastB b + x - 2 := by rw [← hmd]; rfl
  have md4 : md = 0 ∨ md = 1 ∨ md = 2 ∨ md = 3 := by omega
  have hx : (decide (x < 2) = false ∧ ¬ x < 2) ∨ (decide (x < 2) = true ∧ x < 2) := by
    by_cases h : x < 2
    · exact .inr ⟨decide_eq_true h, h⟩
    · exact .inl ⟨decide_eq_false h, h⟩
  have half : (decide (32 < b.prg) = false ∧ outerB b = 0 ∧ lastB b = b.prg - 2) ∨ (decide (32 < b.prg) = true ∧ b.chrA / 16 % 2 = 1 ∧ outerB b = 32 ∧ lastB b = 30) ∨ (decide (32 < b.prg) = true ∧ b.chrA / 16 % 2 = 0 ∧ outerB b = 0 ∧ lastB b = 30) := by
    by_cases h : b.prg ≤ 32
    · exact .inl ⟨decide_eq_false (by omega), if_pos h, if_pos h⟩
    · by_cases g : b.chrA / 16 % 2 = 1
      · exact .inr (.inl ⟨decide_eq_true (by omega), g, by simp [outerB, h, g], if_neg h⟩)
      · exact .inr (.inr ⟨decide_eq_true (by omega), by omega, by simp [outerB, h, g], if_neg h⟩)
  obtain ⟨v, hv⟩ : ∃ v, serialB b x = v := ⟨_, rfl⟩
  rw [hv]
  have HV : Hid _ := hv
  clear hv
  have SBH : Hid _ := SB
  have HH : Hid _ := half
  have MH : Hid _ := md4
  have XH : Hid _ := hx
  have hmd' : b.ctrl / 4 % 4 = md := hmd
  rw [hmd'] at et3
  clear SB half md4 hx hmd hmd'
  have C := isB b o.wf.rlen
  generalize b.cells = cs at C
  clear o
  go_enter Try.func55, Try.ntmps55
  go_upto_region 1 with fail
  have b0 : Blk (w.alloc (.cells cs 28)) w.heap.size cs 28 := Blk.new w cs _
  have hb0 : Below w.heap.size w (w.alloc (.cells cs 28)) := (Below.refl _ _).alloc (Nat.le_refl _) _
  generalize w.alloc (.cells cs 28) = W0 at *
  have d4 := (b0.cell 4).trans C.h4
  have d8 := (b0.cell 8).trans C.h8
  have d9 := (b0.cell 9).trans C.h9
  have d11 := (b0.cell 11).trans C.h11
  clear C b0
  generalize b.prgR % 2 = zz at *
  generalize b.prgR % 16 = yy at *
  rcases HH.out with ⟨h1, E1, E2⟩ | ⟨h1, h2, E1, E2⟩ | ⟨h1, h2, E1, E2⟩
  · clear HH
    obtain md4 := MH.out
    obtain hx := XH.out
    clear MH XH
    rcases md4 with rfl | rfl | rfl | rfl <;> rcases hx with ⟨hx, hy⟩ | ⟨hx, hy⟩
    · have HB : Hid (serialB b x = 0 + 2 * (yy - zz) + x) := by unfold Hid; rw [SBH.out, E1, E2]; simp [hy]
      clear SBH E1 E2 hy
      go_wp2
      go_ret
      exact ⟨fin64 (by have h1 := HV.out; have h2 := HB.out; omega), hb0⟩
    · have HB : Hid (serialB b x = 0 + 2 * (yy - zz) + x) := by unfold Hid; rw [SBH.out, E1, E2]; simp [hy]
      clear SBH E1 E2 hy
      go_wp2
      go_ret
      exact ⟨fin64 (by have h1 := HV.out; have h2 := HB.out; omega), hb0⟩
    · have HB : Hid (serialB b x = 0 + 2 * (yy - zz) + x) := by unfold Hid; rw [SBH.out, E1, E2]; simp [hy]
      clear SBH E1 E2 hy
      go_wp2
      go_ret
      exact ⟨fin64 (by have h1 := HV.out; have h2 := HB.out; omega), hb0⟩
    · have HB : Hid (serialB b x = 0 + 2 * (yy - zz) + x) := by unfold Hid; rw [SBH.out, E1, E2]; simp [hy]
      clear SBH E1 E2 hy
      go_wp2
      go_ret
      exact ⟨fin64 (by have h1 := HV.out; have h2 := HB.out; omega), hb0⟩
    · have HB : Hid (serialB b x = 0 + 2 * yy + x - 2) := by unfold Hid; rw [SBH.out, E1, E2]; simp [hy]
      clear SBH E1 E2 hy
      go_wp2
      go_ret
      exact ⟨fin64 (by have h1 := HV.out; have h2 := HB.out; omega), hb0⟩
    · have HB : Hid (serialB b x = 0 + x) := by unfold Hid; rw [SBH.out, E1, E2]; simp [hy]
      clear SBH E1 E2 hy
      go_wp2
      go_ret
      exact ⟨fin64 (by have h1 := HV.out; have h2 := HB.out; omega), hb0⟩
    · have HB : Hid (serialB b x = 0 + (b.prg - 2) + x - 2) := by unfold Hid; rw [SBH.out, E1, E2]; simp [hy]
      clear SBH E1 E2 hy
      go_wp2
      go_ret
      exact ⟨fin64 (by have h1 := HV.out; have h2 := HB.out; omega), hb0⟩
    · have HB : Hid (serialB b x = 0 + 2 * yy + x) := by unfold Hid; rw [SBH.out, E1, E2]; simp [hy]
      clear SBH E1 E2 hy
      go_wp2
      go_ret
      exact ⟨fin64 (by have h1 := HV.out; have h2 := HB.out; omega), hb0⟩
  · clear HH
    rw [h2] at e16
    clear h2
    obtain md4 := MH.out
    obtain hx := XH.out
    clear MH XH
    rcases md4 with rfl | rfl | rfl | rfl <;> rcases hx with ⟨hx, hy⟩ | ⟨hx, hy⟩
    · have HB : Hid (serialB b x = 32 + 2 * (yy - zz) + x) := by unfold Hid; rw [SBH.out, E1, E2]; simp [hy]
      clear SBH E1 E2 hy
      go_wp2
      go_ret
      exact ⟨fin64 (by have h1 := HV.out; have h2 := HB.out; omega), hb0⟩
    · have HB : Hid (serialB b x = 32 + 2 * (yy - zz) + x) := by unfold Hid; rw [SBH.out, E1, E2]; simp [hy]
      clear SBH E1 E2 hy
      go_wp2
      go_ret
      exact ⟨fin64 (by have h1 := HV.out; have h2 := HB.out; omega), hb0⟩
    · have HB : Hid (serialB b x = 32 + 2 * (yy - zz) + x) := by unfold Hid; rw [SBH.out, E1, E2]; simp [hy]
      clear SBH E1 E2 hy
      go_wp2
      go_ret
      exact ⟨fin64 (by have h1 := HV.out; have h2 := HB.out; omega), hb0⟩
    · have HB : Hid (serialB b x = 32 + 2 * (yy - zz) + x) := by unfold Hid; rw [SBH.out, E1, E2]; simp [hy]
      clear SBH E1 E2 hy
      go_wp2
      go_ret
      exact ⟨fin64 (by have h1 := HV.out; have h2 := HB.out; omega), hb0⟩
    · have HB : Hid (serialB b x = 32 + 2 * yy + x - 2) := by unfold Hid; rw [SBH.out, E1, E2]; simp [hy]
      clear SBH E1 E2 hy
      go_wp2
      go_ret
      exact ⟨fin64 (by have h1 := HV.out; have h2 := HB.out; omega), hb0⟩
    · have HB : Hid (serialB b x = 32 + x) := by unfold Hid; rw [SBH.out, E1, E2]; simp [hy]
      clear SBH E1 E2 hy
      go_wp2
      go_ret
      exact ⟨fin64 (by have h1 := HV.out; have h2 := HB.out; omega), hb0⟩
    · have HB : Hid (serialB b x = 32 + (30) + x - 2) := by unfold Hid; rw [SBH.out, E1, E2]; simp [hy]
      clear SBH E1 E2 hy
      go_wp2
      go_ret
      exact ⟨fin64 (by have h1 := HV.out; have h2 := HB.out; omega), hb0⟩
    · have HB : Hid (serialB b x = 32 + 2 * yy + x) := by unfold Hid; rw [SBH.out, E1, E2]; simp [hy]
      clear SBH E1 E2 hy
      go_wp2
      go_ret
      exact ⟨fin64 (by have h1 := HV.out; have h2 := HB.out; omega), hb0⟩
  · clear HH
    rw [h2] at e16
    clear h2
    obtain md4 := MH.out
    obtain hx := XH.out
    clear MH XH
    rcases md4 with rfl | rfl | rfl | rfl <;> rcases hx with ⟨hx, hy⟩ | ⟨hx, hy⟩
    · have HB : Hid (serialB b x = 0 + 2 * (yy - zz) + x) := by unfold Hid; rw [SBH.out, E1, E2]; simp [hy]
      clear SBH E1 E2 hy
      go_wp2
      go_ret
      exact ⟨fin64 (by have h1 := HV.out; have h2 := HB.out; omega), hb0⟩
    · have HB : Hid (serialB b x = 0 + 2 * (yy - zz) + x) := by unfold Hid; rw [SBH.out, E1, E2]; simp [hy]
      clear SBH E1 E2 hy
      go_wp2
      go_ret
      exact ⟨fin64 (by have h1 := HV.out; have h2 := HB.out; omega), hb0⟩
    · have HB : Hid (serialB b x = 0 + 2 * (yy - zz) + x) := by unfold Hid; rw [SBH.out, E1, E2]; simp [hy]
      clear SBH E1 E2 hy
      go_wp2
      go_ret
      exact ⟨fin64 (by have h1 := HV.out; have h2 := HB.out; omega), hb0⟩
    · have HB : Hid (serialB b x = 0 + 2 * (yy - zz) + x) := by unfold Hid; rw [SBH.out, E1, E2]; simp [hy]
      clear SBH E1 E2 hy
      go_wp2
      go_ret
      exact ⟨fin64 (by have h1 := HV.out; have h2 := HB.out; omega), hb0⟩
    · have HB : Hid (serialB b x = 0 + 2 * yy + x - 2) := by unfold Hid; rw [SBH.out, E1, E2]; simp [hy]
      clear SBH E1 E2 hy
      go_wp2
      go_ret
      exact ⟨fin64 (by have h1 := HV.out; have h2 := HB.out; omega), hb0⟩
    · have HB : Hid (serialB b x = 0 + x) := by unfold Hid; rw [SBH.out, E1, E2]; simp [hy]
      clear SBH E1 E2 hy
      go_wp2
      go_ret
      exact ⟨fin64 (by have h1 := HV.out; have h2 := HB.out; omega), hb0⟩
    · have HB : Hid (serialB b x = 0 + (30) + x - 2) := by unfold Hid; rw [SBH.out, E1, E2]; simp [hy]
      clear SBH E1 E2 hy
      go_wp2
      go_ret
      exact ⟨fin64 (by have h1 := HV.out; have h2 := HB.out; omega), hb0⟩
    · have HB : Hid (serialB b x = 0 + 2 * yy + x) := by unfold Hid; rw [SBH.out, E1, E2]; simp [hy]
      clear SBH E1 E2 hy
      go_wp2
      go_ret
      exact ⟨fin64 (by have h1 := HV.out; have h2 := HB.out; omega), hb0⟩
end Go.Proofs.Ytggphgmpdanliaa
