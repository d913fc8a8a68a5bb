/-
  What the functions kindMayBe, imageLen, workMayBe and restMayBe answer; conditions: the cartridge's cells hold its numbers and lists, the table of bounds lies in its variable.
-/
import Derived.Test.YtpdbndkckioamaaDoorChkCart
set_option linter.unusedSimpArgs false
set_option linter.unusedVariables false
namespace Go.Proofs.YtpdbndkckioamaaDoor
open Go.RowKit
/-- The table of bounds, cell by cell. -/
def bndL : List Int := [15, 0, 0, 0, 0, 0, 1, 255, 0, 2, 1, 0, 0, 255, 4095, 15, 3, 3, 63, 3, 0]
def Bnd (w : World) : Prop := ∀ i, i < 21 → w.cell? ⟨1, i, none⟩ = some (.int .i64 (bndL.getD i 0))
theorem Bnd.lt {w : World} (h : Bnd w) : 1 < w.heap.size := cell_lt (h 0 (by decide))
theorem Bnd.below {w w' : World} {B : Nat} (h : Bnd w) (hB : 1 < B) (hb : Below B w w') : Bnd w' := fun i hi => (hb.cell (p := ⟨1, i, none⟩) hB).trans (h i hi)

set_option maxHeartbeats 400000 in
theorem kind_any (cs : Array Value) (c : CF) (C : IsC cs c) (w : World) :
    Calls Tryd.prog 69 #[.agg cs] w fun e w' => e = .returned (.bool (Chk.kindOk c)) ∧ Below w.heap.size w w' := by
  have hsz := C.size
  go_enter Tryd.func69, Tryd.ntmps69
  go_upto_region 1 with fail
  have hb0 : Below w.heap.size w (w.alloc (.cells cs 25)) := (Below.refl _ _).alloc (Nat.le_refl _) _
  have b0 : Blk (w.alloc (.cells cs 25)) w.heap.size cs 25 := Blk.new w cs _
  generalize w.alloc (.cells cs 25) = W at *
  have d0 := (b0.cell 0).trans C.h0
  have d6 := (b0.cell 6).trans C.h6
  have d7 := (b0.cell 7).trans C.h7
  clear hsz
  by_cases h2 : c.fmt = 2
  · have h2' : (c.fmt != 2) = false := by simp [h2]
    have H : Hid (Chk.kindOk c = Chk.within c.kind (Chk.kindTop c.con)) := by unfold Hid Chk.kindOk; rw [if_pos h2]
    clear h2
    go_wp2
    go_quiet (first
      | (go_at_call 80; exact Calls.quiet_of_same (greatestKind_any c.con _))
      | (go_at_call 50; exact Calls.quiet_of_same (within_any c.kind (Chk.kindTop c.con) _)))
    go_wp2
    go_ret
    exact ⟨by rw [H.out]; rfl, below_draws hb0 _⟩
  · have h2' : (c.fmt != 2) = true := by simp [h2]
    have H : Hid (Chk.kindOk c = decide (c.kind = 0)) := by unfold Hid Chk.kindOk; rw [if_neg h2]
    clear h2
    by_cases h0 : c.kind = 0
    · have h0' : (c.kind == 0) = true := by simp [h0]
      have H2 : Hid (decide (c.kind = 0) = true) := decide_eq_true h0
      clear h0
      go_wp2
      go_ret
      exact ⟨by rw [H.out, H2.out]; rfl, hb0⟩
    · have h0' : (c.kind == 0) = false := by simp [h0]
      have H2 : Hid (decide (c.kind = 0) = false) := decide_eq_false h0
      clear h0
      go_wp2
      go_ret
      exact ⟨by rw [H.out, H2.out]; rfl, hb0⟩

set_option maxHeartbeats 400000 in
theorem imageLen_any (cs : Array Value) (c : CF) (C : IsC cs c) (w : World) :
    Calls Tryd.prog 34 #[.agg cs] w fun e w' => e = .returned (.int .i64 (Chk.imageLen c : Nat)) ∧ Below w.heap.size w w' := by
  have hsz := C.size
  go_enter Tryd.func34, Tryd.ntmps34
  go_upto_region 1 with fail
  have hb0 : Below w.heap.size w (w.alloc (.cells cs 25)) := (Below.refl _ _).alloc (Nat.le_refl _) _
  have b0 : Blk (w.alloc (.cells cs 25)) w.heap.size cs 25 := Blk.new w cs _
  generalize w.alloc (.cells cs 25) = W at *
  obtain ⟨a15, k15, e15⟩ := C.h15
  obtain ⟨a16, k16, e16⟩ := C.h16
  obtain ⟨a17, k17, e17⟩ := C.h17
  obtain ⟨a18, k18, e18⟩ := C.h18
  have d15 := (b0.cell 15).trans e15
  have d16 := (b0.cell 16).trans e16
  have d17 := (b0.cell 17).trans e17
  have d18 := (b0.cell 18).trans e18
  have m1 := C.mt
  have m2 := C.mp
  have m3 := C.mq
  have m4 := C.mr
  have E : Hid ((16 : Int) + c.nt + c.np + c.nq + c.nr = (Chk.imageLen c : Nat)) := by unfold Hid Chk.imageLen; omega
  clear hsz e15 e16 e17 e18
  go_wp2
  go_ret
  exact ⟨congrArg (fun n => Ending.returned (.int .i64 n)) E.out, hb0⟩

set_option maxHeartbeats 800000 in
theorem work_any (cs : Array Value) (c : CF) (C : IsC cs c) (size : Int) (named : Bool) (w : World) (hf : c.fmt = 0 ∨ c.fmt = 1 ∨ c.fmt = 2) (B : Bnd w)
    (s1 : -9223372036854775808 ≤ size) (s2 : size ≤ 9223372036854775807) :
    Calls Tryd.prog 70 #[.agg cs, .int .i64 size, .bool named] w fun e w' => e = .returned (.bool (Chk.workOk c size named)) ∧ Below w.heap.size w w' := by
  have hsz := C.size
  go_enter Tryd.func70, Tryd.ntmps70
  go_upto_region 1 with fail
  have hb0 : Below w.heap.size w (w.alloc (.cells cs 25)) := (Below.refl _ _).alloc (Nat.le_refl _) _
  have b0 : Blk (w.alloc (.cells cs 25)) w.heap.size cs 25 := Blk.new w cs _
  generalize w.alloc (.cells cs 25) = W at *
  have BW := B.below B.lt hb0
  have d0 := (b0.cell 0).trans C.h0
  clear hsz
  by_cases h2 : c.fmt = 2
  · have h2' : (c.fmt == 2) = true := by simp [h2]
    have H : Hid (Chk.workOk c size named = Chk.ramOk size) := by unfold Hid Chk.workOk; rw [if_pos h2]
    clear h2 hf
    go_wp2_with fail
    refine (ramMayBe_any size W).mono ?_
    rintro e W ⟨rfl, rfl⟩
    go_wp2
    go_ret
    exact ⟨by rw [H.out]; rfl, hb0⟩
  · have h2' : (c.fmt == 2) = false := by simp [h2]
    cases named with
    | false =>
      have H : Hid (Chk.workOk c size false = decide (size = 0)) := by unfold Hid Chk.workOk; rw [if_neg h2]; rfl
      clear h2 hf
      by_cases h0 : size = 0
      · have h0' : (size == 0) = true := by simp [h0]
        have H2 : Hid (decide (size = 0) = true) := decide_eq_true h0
        clear h0
        go_wp2
        go_ret
        exact ⟨by rw [H.out, H2.out]; rfl, hb0⟩
      · have h0' : (size == 0) = false := by simp [h0]
        have H2 : Hid (decide (size = 0) = false) := decide_eq_false h0
        clear h0
        go_wp2
        go_ret
        exact ⟨by rw [H.out, H2.out]; rfl, hb0⟩
    | true =>
      have H : Hid (Chk.workOk c size true = (decide (0 < size) && decide (size.tmod 8192 = 0) && decide (size.tdiv 8192 ≤ (Chk.row c.fmt).getD 6 0))) := by unfold Hid Chk.workOk; rw [if_neg h2]; rfl
      by_cases hp : 0 < size
      · have hp' : decide (0 < size) = true := decide_eq_true hp
        have et : size.tmod 8192 = size % 8192 := Int.tmod_eq_emod_of_nonneg (by omega)
        have ed : size.tdiv 8192 = size / 8192 := Int.tdiv_eq_ediv_of_nonneg (by omega)
        rw [et, ed] at H
        clear et ed
        by_cases hm : size % 8192 = 0
        · have hm' : (size % 8192 == 0) = true := by simp [hm]
          have hmd : Hid (decide (size % 8192 = 0) = true) := decide_eq_true hm
          clear hm
          rcases (show c.fmt = 0 ∨ c.fmt = 1 by omega) with hff | hff
          · have cb : W.cell? ⟨1, 6, none⟩ = some (.int .i64 1) := BW 6 (by decide)
            have hr : Hid ((Chk.row c.fmt).getD 6 0 = 1) := by unfold Hid Chk.row; rw [if_pos hff]; rfl
            by_cases hl : size / 8192 ≤ 1
            · have hl' : decide (size / 8192 ≤ 1) = true := decide_eq_true hl
              go_wp2
              go_ret
              exact ⟨by rw [H.out, hr.out, hp', hmd.out, hl']; rfl, hb0⟩
            · have hl' : decide (size / 8192 ≤ 1) = false := decide_eq_false hl
              go_wp2
              go_ret
              exact ⟨by rw [H.out, hr.out, hp', hmd.out, hl']; rfl, hb0⟩
          · have cb : W.cell? ⟨1, 13, none⟩ = some (.int .i64 255) := BW 13 (by decide)
            have hr : Hid ((Chk.row c.fmt).getD 6 0 = 255) := by unfold Hid Chk.row; rw [if_neg (by omega), if_pos hff]; rfl
            by_cases hl : size / 8192 ≤ 255
            · have hl' : decide (size / 8192 ≤ 255) = true := decide_eq_true hl
              go_wp2
              go_ret
              exact ⟨by rw [H.out, hr.out, hp', hmd.out, hl']; rfl, hb0⟩
            · have hl' : decide (size / 8192 ≤ 255) = false := decide_eq_false hl
              go_wp2
              go_ret
              exact ⟨by rw [H.out, hr.out, hp', hmd.out, hl']; rfl, hb0⟩
        · have hm' : (size % 8192 == 0) = false := by simp [hm]
          have hmd : Hid (decide (size % 8192 = 0) = false) := decide_eq_false hm
          clear hm h2 hf
          go_wp2
          go_ret
          exact ⟨by rw [H.out, hmd.out, Bool.and_false, Bool.false_and]; rfl, hb0⟩
      · have hp' : decide (0 < size) = false := decide_eq_false hp
        clear h2 hf
        go_wp2
        go_ret
        exact ⟨by rw [H.out, hp']; rfl, hb0⟩
end Go.Proofs.YtpdbndkckioamaaDoor
