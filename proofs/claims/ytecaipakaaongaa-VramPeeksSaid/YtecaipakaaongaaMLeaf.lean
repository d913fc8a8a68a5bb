/-
  What the small functions of the boards answer: listed, sizesFit, registersFit, fits; conditions: the cells that they read hold the board's numbers.
-/
import Derived.Test.YtecaipakaaongaaMBase
import Derived.Deep.CutBlock
namespace Go.Proofs.Ytecaipakaaongaa
open Go.RowKit Classical
/-- Is the submapper one of the kind's? -/
def lst (k s : Int) : Bool :=
  if k = 0 then s == 0 else if k = 1 then s == 0 || s == 5 else if k = 2 ∨ k = 3 ∨ k = 7 then decide (0 ≤ s) && decide (s ≤ 2) else if k = 4 then s == 0 || s == 4 else false
theorem listed_any (k s : Int) (w : World) :
    Calls Try.prog 55 #[.int .i64 k, .int .i64 s] w fun e w' => e = .returned (.bool (lst k s)) ∧ w' = w := by
  by_cases h0 : k = 0
  · subst h0
    go_enter Try.func55, Try.ntmps55
    go_wp2
    go_ret
    exact ⟨rfl, rfl⟩
  have d0 : (k == 0) = false := by simp [h0]
  by_cases h1 : k = 1
  · subst h1
    by_cases e0 : s = 0
    · subst e0
      go_enter Try.func55, Try.ntmps55
      go_wp2
      go_ret
      exact ⟨rfl, rfl⟩
    have f0 : (s == 0) = false := by simp [e0]
    have E : lst 1 s = (s == 5) := by simp [lst, f0]
    rw [E]
    clear e0 E
    go_enter Try.func55, Try.ntmps55
    go_wp2
    go_ret
    exact ⟨rfl, rfl⟩
  have d1 : (k == 1) = false := by simp [h1]
  by_cases h2 : k = 2 ∨ k = 3 ∨ k = 7
  · have E : lst k s = (decide (0 ≤ s) && decide (s ≤ 2)) := by simp only [lst, h0, h1, h2, if_false, if_true]
    rw [E]
    clear E h0 h1
    by_cases g1 : 0 ≤ s
    · have e1 : decide (0 ≤ s) = true := decide_eq_true g1
      rw [e1, Bool.true_and]
      rcases h2 with rfl | rfl | rfl
      all_goals
        clear d0 d1
        go_enter Try.func55, Try.ntmps55
        go_wp2
        go_ret
        exact ⟨rfl, rfl⟩
    · have e1 : decide (0 ≤ s) = false := decide_eq_false g1
      rw [e1, Bool.false_and]
      rcases h2 with rfl | rfl | rfl
      all_goals
        clear d0 d1
        go_enter Try.func55, Try.ntmps55
        go_wp2
        go_ret
        exact ⟨rfl, rfl⟩
  have d2 : (k == 2) = false := by simp only [beq_eq_false_iff_ne]; omega
  have d3 : (k == 3) = false := by simp only [beq_eq_false_iff_ne]; omega
  have d7 : (k == 7) = false := by simp only [beq_eq_false_iff_ne]; omega
  by_cases h4 : k = 4
  · subst h4
    by_cases e0 : s = 0
    · subst e0
      go_enter Try.func55, Try.ntmps55
      go_wp2
      go_ret
      exact ⟨rfl, rfl⟩
    have f0 : (s == 0) = false := by simp [e0]
    have E : lst 4 s = (s == 4) := by simp [lst, f0]
    rw [E]
    clear e0 E
    go_enter Try.func55, Try.ntmps55
    go_wp2
    go_ret
    exact ⟨rfl, rfl⟩
  have d4 : (k == 4) = false := by simp [h4]
  have E : lst k s = false := by simp only [lst, h0, h1, h2, h4, if_false]
  rw [E]
  clear E h0 h1 h2 h4
  go_enter Try.func55, Try.ntmps55
  go_wp2
  go_ret
  exact ⟨rfl, rfl⟩

/-- The block m begins with what every kind has. -/
structure Sh (w : World) (m : Nat) (b : Bd) : Prop where
  c0 : w.cell? ⟨m, 0, none⟩ = some (.int .i64 b.sub)
  c1 : w.cell? ⟨m, 1, none⟩ = some (.int .u8 b.hard)
  c2 : w.cell? ⟨m, 2, none⟩ = some (.bool b.work)
  c3 : w.cell? ⟨m, 3, none⟩ = some (.bool b.chrRam)
  c4 : w.cell? ⟨m, 4, none⟩ = some (.int .i64 b.prg)
  c5 : w.cell? ⟨m, 5, none⟩ = some (.int .i64 b.chr)
  c6 : w.cell? ⟨m, 6, none⟩ = some (.int .i64 b.epoch)

def szs (b : Bd) : Bool := decide (2 ≤ b.prg) && (decide (b.prg ≤ 128) && (b.prg.tmod 2 == 0 && (decide (8 ≤ b.chr) && (decide (b.chr ≤ 512) && (b.chr.tmod 8 == 0 && ((!b.chrRam || b.chr == 8) && (decide (0 ≤ b.epoch) && decide (b.epoch ≤ 4611686018427387904))))))))
def sizes (b : Bd) : Bool := (b.hard == 0 || b.hard == 1 || b.hard == 4) && szs b
set_option maxRecDepth 100000 in
set_option maxHeartbeats 4000000 in
theorem sizesFit_any (w : World) (m : Nat) (b : Bd) (S : Sh w m b) :
    Calls Try.prog 83 #[.pointer (some ⟨m, 0, none⟩)] w fun e w' => e = .returned (.bool (sizes b)) ∧ w' = w := by
  obtain ⟨-, c1, -, c3, c4, c5, c6⟩ := S
  by_cases hh : (b.hard == 0 || b.hard == 1 || b.hard == 4) = false
  · have E : sizes b = false := by simp only [sizes, hh, Bool.false_and]
    rw [E]
    have hh' : (b.hard == 0) = false ∧ (b.hard == 1) = false ∧ (b.hard == 4) = false := by simpa [and_assoc] using hh
    obtain ⟨q0, q1, q4⟩ := hh'
    clear E hh c3 c4 c5 c6
    go_enter Try.func83, Try.ntmps83
    go_wp2
    go_ret
    exact ⟨rfl, rfl⟩
  have E : sizes b = szs b := by
    have : (b.hard == 0 || b.hard == 1 || b.hard == 4) = true := by revert hh; cases (b.hard == 0 || b.hard == 1 || b.hard == 4) <;> simp
    simp only [sizes, this, Bool.true_and]
  rw [E]
  have hq : (b.hard == 0) = true ∨ ((b.hard == 0) = false ∧ (b.hard == 1) = true) ∨ ((b.hard == 0) = false ∧ (b.hard == 1) = false ∧ (b.hard == 4) = true) := by
    revert hh
    cases (b.hard == 0) <;> cases (b.hard == 1) <;> cases (b.hard == 4) <;> simp
  have HQ : Hid _ := hq
  clear E hh hq
  go_enter Try.func83, Try.ntmps83
  go_upto_block 0 with fail
  go_cut [] (fun wx => wx = w)
  case first =>
    rcases HQ.out with q0 | ⟨q0, q1⟩ | ⟨q0, q1, q4⟩
    all_goals
      clear HQ
      go_wp2
      go_meet
      rfl
  case rest =>
    subst hcut
    clear HQ c1
    go_upto_region 6 with fail
    dsimp only [List.append]
    cases e1 : decide (2 ≤ b.prg)
    · have H : Hid (szs b = false) := by unfold Hid; simp only [szs, e1, Bool.false_and]
      go_wp2
      go_ret
      exact ⟨by rw [H.out]; rfl, rfl⟩
    cases e2 : decide (b.prg ≤ 128)
    · have H : Hid (szs b = false) := by unfold Hid; simp only [szs, e1, e2, Bool.true_and, Bool.false_and]
      go_wp2
      go_ret
      exact ⟨by rw [H.out]; rfl, rfl⟩
    cases e3 : (b.prg.tmod 2 == 0)
    · have H : Hid (szs b = false) := by unfold Hid; simp only [szs, e1, e2, e3, Bool.true_and, Bool.false_and]
      go_wp2
      go_ret
      exact ⟨by rw [H.out]; rfl, rfl⟩
    cases e4 : decide (8 ≤ b.chr)
    · have H : Hid (szs b = false) := by unfold Hid; simp only [szs, e1, e2, e3, e4, Bool.true_and, Bool.false_and]
      go_wp2
      go_ret
      exact ⟨by rw [H.out]; rfl, rfl⟩
    cases e5 : decide (b.chr ≤ 512)
    · have H : Hid (szs b = false) := by unfold Hid; simp only [szs, e1, e2, e3, e4, e5, Bool.true_and, Bool.false_and]
      go_wp2
      go_ret
      exact ⟨by rw [H.out]; rfl, rfl⟩
    cases e6 : (b.chr.tmod 8 == 0)
    · have H : Hid (szs b = false) := by unfold Hid; simp only [szs, e1, e2, e3, e4, e5, e6, Bool.true_and, Bool.false_and]
      go_wp2
      go_ret
      exact ⟨by rw [H.out]; rfl, rfl⟩
    cases e7 : b.chrRam && !(b.chr == 8)
    rotate_left
    · have e7c : (!b.chrRam || b.chr == 8) = false := by revert e7; cases b.chrRam <;> cases (b.chr == 8) <;> simp
      have H : Hid (szs b = false) := by unfold Hid; simp only [szs, e1, e2, e3, e4, e5, e6, e7c, Bool.true_and, Bool.false_and]
      have e7' : b.chrRam = true ∧ (b.chr == 8) = false := by revert e7; cases b.chrRam <;> cases (b.chr == 8) <;> simp
      obtain ⟨e7a, e7b⟩ := e7'
      clear e7 e7c
      go_wp2
      go_ret
      exact ⟨by rw [H.out]; rfl, rfl⟩
    have e7c : (!b.chrRam || b.chr == 8) = true := by revert e7; cases b.chrRam <;> cases (b.chr == 8) <;> simp
    have e7' : b.chrRam = false ∨ b.chrRam = true ∧ (b.chr == 8) = true := by revert e7; cases b.chrRam <;> cases (b.chr == 8) <;> simp
    have H7 : Hid _ := e7c
    clear e7 e7c
    cases e8 : decide (0 ≤ b.epoch)
    · have H : Hid (szs b = false) := by unfold Hid; simp only [szs, e1, e2, e3, e4, e5, e6, H7.out, e8, Bool.true_and, Bool.false_and]
      rcases e7' with e7a | ⟨e7a, e7b⟩
      all_goals
        go_wp2
        go_ret
        exact ⟨by rw [H.out]; rfl, rfl⟩
    cases e9 : decide (b.epoch ≤ 4611686018427387904)
    · have H : Hid (szs b = false) := by unfold Hid; simp only [szs, e1, e2, e3, e4, e5, e6, H7.out, e8, e9, Bool.true_and]
      rcases e7' with e7a | ⟨e7a, e7b⟩
      all_goals
        go_wp2
        go_ret
        exact ⟨by rw [H.out]; rfl, rfl⟩
    have H : Hid (szs b = true) := by unfold Hid; simp only [szs, e1, e2, e3, e4, e5, e6, H7.out, e8, e9, Bool.true_and]
    rcases e7' with e7a | ⟨e7a, e7b⟩
    all_goals
      go_wp2
      go_ret
      exact ⟨by rw [H.out]; rfl, rfl⟩
end Go.Proofs.Ytecaipakaaongaa
