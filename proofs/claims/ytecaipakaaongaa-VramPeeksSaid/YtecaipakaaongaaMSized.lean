/-
  What the document's listed and sized answer; conditions: eight bank registers.
-/
import Derived.Test.YtecaipakaaongaaMLeaf
namespace Go.Proofs.Ytecaipakaaongaa
open Go.RowKit Classical
theorem refListed_any (k s : Int) (w : World) :
    Calls Try.prog 52 #[.int .i64 k, .int .i64 s] w fun e w' => e = .returned (.bool (lst k s)) ∧ w' = w := by
  by_cases h0 : k = 0
  · subst h0
    go_enter Try.func52, Try.ntmps52
    go_wp2
    go_ret
    exact ⟨rfl, rfl⟩
  have d0 : (k == 0) = false := by simp [h0]
  by_cases h1 : k = 1
  · subst h1
    by_cases e0 : s = 0
    · subst e0
      go_enter Try.func52, Try.ntmps52
      go_wp2
      go_ret
      exact ⟨rfl, rfl⟩
    have f0 : (s == 0) = false := by simp [e0]
    have E : lst 1 s = (s == 5) := by simp [lst, f0]
    rw [E]
    clear e0 E
    go_enter Try.func52, Try.ntmps52
    go_wp2
    go_ret
    exact ⟨rfl, rfl⟩
  have d1 : (k == 1) = false := by simp [h1]
  by_cases h2 : k = 2 ∨ k = 3 ∨ k = 7
  · have E : lst k s = (decide (0 ≤ s) && decide (s ≤ 2)) := by simp only [lst, h0, h1, h2, if_false, if_true]
    rw [E]
    clear E h0 h1
    by_cases g1 : 0 ≤ s
    · have e1 : decide (0 ≤ s) = true := decide_eq_true g1
      rw [e1, Bool.true_and]
      rcases h2 with rfl | rfl | rfl
      all_goals
        clear d0 d1
        go_enter Try.func52, Try.ntmps52
        go_wp2
        go_ret
        exact ⟨rfl, rfl⟩
    · have e1 : decide (0 ≤ s) = false := decide_eq_false g1
      rw [e1, Bool.false_and]
      rcases h2 with rfl | rfl | rfl
      all_goals
        clear d0 d1
        go_enter Try.func52, Try.ntmps52
        go_wp2
        go_ret
        exact ⟨rfl, rfl⟩
  have d2 : (k == 2) = false := by simp only [beq_eq_false_iff_ne]; omega
  have d3 : (k == 3) = false := by simp only [beq_eq_false_iff_ne]; omega
  have d7 : (k == 7) = false := by simp only [beq_eq_false_iff_ne]; omega
  by_cases h4 : k = 4
  · subst h4
    by_cases e0 : s = 0
    · subst e0
      go_enter Try.func52, Try.ntmps52
      go_wp2
      go_ret
      exact ⟨rfl, rfl⟩
    have f0 : (s == 0) = false := by simp [e0]
    have E : lst 4 s = (s == 4) := by simp [lst, f0]
    rw [E]
    clear e0 E
    go_enter Try.func52, Try.ntmps52
    go_wp2
    go_ret
    exact ⟨rfl, rfl⟩
  have d4 : (k == 4) = false := by simp [h4]
  have E : lst k s = false := by simp only [lst, h0, h1, h2, h4, if_false]
  rw [E]
  clear E h0 h1 h2 h4
  go_enter Try.func52, Try.ntmps52
  go_wp2
  go_ret
  exact ⟨rfl, rfl⟩


set_option maxRecDepth 100000 in
set_option maxHeartbeats 2000000 in
theorem sized_any (w : World) (b : Bd) (hr : b.r.length = 8) :
    Calls Try.prog 43 #[.agg b.cells] w fun e w' => e = .returned (.bool (lst b.kind b.sub && sizes b)) ∧ Below w.heap.size w w' := by
  have C := isB b hr
  generalize b.cells = cs at C
  have hsz := C.size
  go_enter Try.func43, Try.ntmps43
  go_upto_region 1 with fail
  have b0 : Blk (w.alloc (.cells cs 37)) w.heap.size cs 37 := Blk.new w cs _
  have hb0 : Below w.heap.size w (w.alloc (.cells cs 37)) := (Below.refl _ _).alloc (Nat.le_refl _) _
  generalize w.alloc (.cells cs 37) = W0 at *
  have d0 := (b0.cell 0).trans C.h0
  have d1 := (b0.cell 1).trans C.h1
  have d2 := (b0.cell 2).trans C.h2
  have d4 := (b0.cell 4).trans C.h4
  have d5 := (b0.cell 5).trans C.h5
  have d6 := (b0.cell 6).trans C.h6
  have d30 := (b0.cell 30).trans C.h30
  have HB : Hid _ := hb0
  clear C hsz b0 hb0
  go_wp2_with fail
  refine (refListed_any b.kind b.sub W0).mono ?_
  rintro e W ⟨rfl, rfl⟩
  cases HL : lst b.kind b.sub
  · have HLH : Hid (lst b.kind b.sub = false) := HL
    clear HL
    go_wp2
    go_ret
    exact ⟨by rw [HLH.out]; rfl, HB.out⟩
  have HLH : Hid (lst b.kind b.sub = true) := HL
  clear HL
  go_upto_region 3 with fail
  go_cut [21] (fun v wx => v = .bool (!(b.hard == 0 || b.hard == 1 || b.hard == 4)) ∧ wx = W)
  case first =>
    cases q0 : (b.hard == 0)
    · have q0' : (b.hard != 0) = true := by simp only [bne, q0]; rfl
      cases q1 : (b.hard == 1)
      · have q1' : (b.hard != 1) = true := by simp only [bne, q1]; rfl
        cases q4 : (b.hard == 4)
        · have q4' : (b.hard != 4) = true := by simp only [bne, q4]; rfl
          go_wp2
          go_meet
          exact ⟨by rw [q0, q1, q4]; rfl, rfl⟩
        · have q4' : (b.hard != 4) = false := by simp only [bne, q4]; rfl
          go_wp2
          go_meet
          exact ⟨by rw [q0, q1, q4]; rfl, rfl⟩
      · have q1' : (b.hard != 1) = false := by simp only [bne, q1]; rfl
        go_wp2
        go_meet
        exact ⟨by rw [q0, q1]; rfl, rfl⟩
    · have q0' : (b.hard != 0) = false := by simp only [bne, q0]; rfl
      go_wp2
      go_meet
      exact ⟨by rw [q0]; rfl, rfl⟩
  case rest =>
    obtain ⟨rfl, rfl⟩ := hcut
    clear d0 d1 d2
    cases hh : (b.hard == 0 || b.hard == 1 || b.hard == 4)
    · have H : Hid (sizes b = false) := by unfold Hid; simp only [sizes, hh, Bool.false_and]
      clear hh
      go_wp2
      go_ret
      exact ⟨by rw [HLH.out, H.out]; rfl, HB.out⟩
    have HZ : Hid (sizes b = szs b) := by unfold Hid; simp only [sizes, hh, Bool.true_and]
    clear hh
    go_upto_region 5 with fail
    cases e1 : decide (2 ≤ b.prg)
    · have H : Hid (szs b = false) := by unfold Hid; simp only [szs, e1, Bool.false_and]
      have e1x : decide (b.prg < 2) = true := by simp only [decide_eq_false_iff_not, decide_eq_true_eq] at e1 ⊢; omega
      go_wp2
      go_ret
      exact ⟨by rw [HLH.out, HZ.out, H.out]; rfl, HB.out⟩
    have e1x : decide (b.prg < 2) = false := by simp only [decide_eq_false_iff_not, decide_eq_true_eq] at e1 ⊢; omega
    cases e2 : decide (b.prg ≤ 128)
    · have H : Hid (szs b = false) := by unfold Hid; simp only [szs, e1, e2, Bool.true_and, Bool.false_and]
      have e2x : decide (128 < b.prg) = true := by simp only [decide_eq_false_iff_not, decide_eq_true_eq] at e2 ⊢; omega
      go_wp2
      go_ret
      exact ⟨by rw [HLH.out, HZ.out, H.out]; rfl, HB.out⟩
    have e2x : decide (128 < b.prg) = false := by simp only [decide_eq_false_iff_not, decide_eq_true_eq] at e2 ⊢; omega
    cases e3 : (b.prg.tmod 2 == 0)
    · have H : Hid (szs b = false) := by unfold Hid; simp only [szs, e1, e2, e3, Bool.true_and, Bool.false_and]
      have e3x : (b.prg.tmod 2 != 0) = true := by simp only [bne, e3]; rfl
      go_wp2
      go_ret
      exact ⟨by rw [HLH.out, HZ.out, H.out]; rfl, HB.out⟩
    have e3x : (b.prg.tmod 2 != 0) = false := by simp only [bne, e3]; rfl
    cases e4 : decide (8 ≤ b.chr)
    · have H : Hid (szs b = false) := by unfold Hid; simp only [szs, e1, e2, e3, e4, Bool.true_and, Bool.false_and]
      have e4x : decide (b.chr < 8) = true := by simp only [decide_eq_false_iff_not, decide_eq_true_eq] at e4 ⊢; omega
      go_wp2
      go_ret
      exact ⟨by rw [HLH.out, HZ.out, H.out]; rfl, HB.out⟩
    have e4x : decide (b.chr < 8) = false := by simp only [decide_eq_false_iff_not, decide_eq_true_eq] at e4 ⊢; omega
    cases e5 : decide (b.chr ≤ 512)
    · have H : Hid (szs b = false) := by unfold Hid; simp only [szs, e1, e2, e3, e4, e5, Bool.true_and, Bool.false_and]
      have e5x : decide (512 < b.chr) = true := by simp only [decide_eq_false_iff_not, decide_eq_true_eq] at e5 ⊢; omega
      go_wp2
      go_ret
      exact ⟨by rw [HLH.out, HZ.out, H.out]; rfl, HB.out⟩
    have e5x : decide (512 < b.chr) = false := by simp only [decide_eq_false_iff_not, decide_eq_true_eq] at e5 ⊢; omega
    cases e6 : (b.chr.tmod 8 == 0)
    · have H : Hid (szs b = false) := by unfold Hid; simp only [szs, e1, e2, e3, e4, e5, e6, Bool.true_and, Bool.false_and]
      have e6x : (b.chr.tmod 8 != 0) = true := by simp only [bne, e6]; rfl
      go_wp2
      go_ret
      exact ⟨by rw [HLH.out, HZ.out, H.out]; rfl, HB.out⟩
    have e6x : (b.chr.tmod 8 != 0) = false := by simp only [bne, e6]; rfl
    cases e7 : b.chrRam && !(b.chr == 8)
    rotate_left
    · have e7c : (!b.chrRam || b.chr == 8) = false := by revert e7; cases b.chrRam <;> cases (b.chr == 8) <;> simp
      have H : Hid (szs b = false) := by unfold Hid; simp only [szs, e1, e2, e3, e4, e5, e6, e7c, Bool.true_and, Bool.false_and]
      have e7' : b.chrRam = true ∧ (b.chr == 8) = false := by revert e7; cases b.chrRam <;> cases (b.chr == 8) <;> simp
      obtain ⟨e7a, e7b⟩ := e7'
      have e7n : (b.chr != 8) = true := by simp only [bne, e7b]; rfl
      clear e7 e7c
      go_wp2
      go_ret
      exact ⟨by rw [HLH.out, HZ.out, H.out]; rfl, HB.out⟩
    have e7c : (!b.chrRam || b.chr == 8) = true := by revert e7; cases b.chrRam <;> cases (b.chr == 8) <;> simp
    have e7' : b.chrRam = false ∨ b.chrRam = true ∧ (b.chr != 8) = false := by revert e7; simp only [bne]; cases b.chrRam <;> cases (b.chr == 8) <;> simp
    have H7 : Hid _ := e7c
    clear e7 e7c
    cases e8 : decide (0 ≤ b.epoch)
    · have H : Hid (szs b = false) := by unfold Hid; simp only [szs, e1, e2, e3, e4, e5, e6, H7.out, e8, Bool.true_and, Bool.false_and]
      rcases e7' with e7a | ⟨e7a, e7b⟩
      all_goals
        go_wp2
        go_ret
        exact ⟨by rw [HLH.out, HZ.out, H.out]; rfl, HB.out⟩
    cases e9 : decide (b.epoch ≤ 4611686018427387904)
    · have H : Hid (szs b = false) := by unfold Hid; simp only [szs, e1, e2, e3, e4, e5, e6, H7.out, e8, e9, Bool.true_and]
      rcases e7' with e7a | ⟨e7a, e7b⟩
      all_goals
        go_wp2
        go_ret
        exact ⟨by rw [HLH.out, HZ.out, H.out]; rfl, HB.out⟩
    have H : Hid (szs b = true) := by unfold Hid; simp only [szs, e1, e2, e3, e4, e5, e6, H7.out, e8, e9, Bool.true_and]
    rcases e7' with e7a | ⟨e7a, e7b⟩
    all_goals
      go_wp2
      go_ret
      exact ⟨by rw [HLH.out, HZ.out, H.out]; rfl, HB.out⟩
end Go.Proofs.Ytecaipakaaongaa
