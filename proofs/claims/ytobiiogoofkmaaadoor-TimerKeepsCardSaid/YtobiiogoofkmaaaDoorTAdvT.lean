/-
  The contract of advanceTimer; conditions: the numbers fit their kinds.
-/
import Derived.Test.YtobiiogoofkmaaaDoorTDown
import Derived.Test.YtobiiogoofkmaaaDoorTOut
set_option linter.unusedSimpArgs false
set_option linter.unusedVariables false
namespace Go.Proofs.YtobiiogoofkmaaaDoor
open Go.RowKit Classical
theorem out_ok {c : Ck} (o : c.Ok) : c.out.Ok := by
  obtain ⟨o1, o2, o3, o4, o5, o6, o7, o8⟩ := o
  refine ⟨o1, o1, o3, o4, ?_, o6, o7, o8⟩
  simp only [Ck.out]; split <;> omega
theorem out_once {c : Ck} (h : ¬ c.out.ctl % 2 = 0) : c.out.ctl / 4 % 2 ≠ 1 := by
  simp only [Ck.out] at h ⊢
  intro h'
  split at h <;> split at h' <;> omega
set_option maxHeartbeats 4000000 in
theorem advT_any (c : Ck) (n : Int) (w0 w : World) (b : Nat) (o : c.Ok) (v : c.V) (T : DTab w0) (A : At w0 w b c) (n0 : 0 ≤ n) (n1 : n ≤ 9223372036854775807) :
    Calls Tryd.prog 23 #[.pointer (some ⟨b, 0, none⟩), .int .i64 n] w fun e w' => e = .returned (.tuple #[]) ∧ At w0 w' b (c.advT n) := by
  obtain ⟨f0, f1, f2, f3, f4, f5, f6, f7, f8, f9, f10, f11, f12, ff⟩ := A.facts
  have e1 := and1 c.ctl o.ctl.1 o.ctl.2
  have AH : Hid _ := A
  clear A
  by_cases h1 : c.ctl % 2 = 0
  · have E : Hid (c.advT n = c) := by unfold Hid Ck.advT; rw [if_pos h1]
    rw [h1] at e1
    clear h1
    go_enter Tryd.func23, Tryd.ntmps23
    go_wp2
    refine bodyPost_ret (v := .tuple #[]) (by simp [results, Tryd.results23]) rfl ⟨rfl, ?_⟩
    rw [E.out]; exact AH.out
  by_cases h2 : n < c.run
  · have E : Hid (c.advT n = c.down n) := by unfold Hid Ck.advT; rw [if_neg h1, if_pos h2]
    rw [show c.ctl % 2 = 1 by omega] at e1
    have DW : Hid _ := fun W (hA : At w0 W b c) => down_any c n w0 W b o T hA n0 h2
    have TR : Hid _ := fun W (hA : At w0 W b c) => toRun_any c w0 W b o T hA
    clear h1
    generalize c.run = k at *
    go_enter Tryd.func23, Tryd.ntmps23
    go_wp2_with (first
      | (go_at_call 25; refine (TR.out _ AH.out).mono ?_; rintro e w2 ⟨rfl, n1, rfl⟩)
      | (go_at_call 37; refine (DW.out _ (AH.out.drews _)).mono ?_; rintro e w2 ⟨rfl, A2⟩))
    refine bodyPost_ret (v := .tuple #[]) (by simp [results, Tryd.results23]) rfl ⟨rfl, ?_⟩
    rw [E.out]; exact A2
  obtain ⟨c1, hc1⟩ : ∃ c1, c1 = Ck.out { c with pre := 0 } := ⟨_, rfl⟩
  have o0 : ({ c with pre := 0 } : Ck).Ok := ⟨o.latch, o.count, by simp only; decide, o.hold, o.ctl, o.at_, o.wait, o.beats⟩
  have o1 : c1.Ok := by rw [hc1]; exact out_ok o0
  have e3 := and1 c1.ctl o1.ctl.1 o1.ctl.2
  have O1 : Hid _ := fun W (hA : At w0 W b ({ c with pre := 0 } : Ck)) => out_any _ w0 W b o0 hA
  have O2 : Hid _ := fun W (hA : At w0 W b c1) => out_any c1 w0 W b o1 hA
  have TR : Hid _ := fun W (hA : At w0 W b c) => toRun_any c w0 W b o T hA
  have TS : Hid _ := fun W (hA : At w0 W b c1) => toRun_any c1 w0 W b o1 T hA
  rw [← hc1] at O1
  have q1 : 1 ≤ c1.run := by rw [hc1]; exact Ck.run_pos o.latch.1 (by show (0 : Int) < _; have := dv_pos (Ck.out { c with pre := 0 }).ctl; omega)
  have q2 : c1.run ≤ 16777216 := by have := run_bd c1 o1; have := o1.pre; unfold Ck.run; omega
  have q3 : 0 ≤ c.run := by have := Ck.run_pos o.count.1 v.pre; omega
  by_cases h3 : c1.ctl % 2 = 0
  · have E : Hid (c.advT n = c1) := by unfold Hid Ck.advT; rw [if_neg h1, if_neg h2, ← hc1, if_pos h3]
    rw [show c.ctl % 2 = 1 by omega] at e1
    rw [h3] at e3
    clear h1 h3 hc1 o0 O2 TS q1 q2 q3
    generalize c.run = k at *
    go_enter Tryd.func23, Tryd.ntmps23
    go_wp2_with (first
      | (go_at_call 25; refine (TR.out _ AH.out).mono ?_; rintro e w2 ⟨rfl, n1, rfl⟩)
      | (go_at_call 32; refine (O1.out _ (At.set (c' := ({ c with pre := 0 } : Ck)) ((AH.out).drews _) 2 (.int .u16 (0)) rfl)).mono ?_; rintro e w3 ⟨rfl, A2⟩; obtain ⟨g0, g1, g2, g3, g4, g5, g6, g7, g8, g9, g10, g11, g12, gf⟩ := A2.facts))
    refine bodyPost_ret (v := .tuple #[]) (by simp [results, Tryd.results23]) rfl ⟨rfl, ?_⟩
    rw [E.out]; exact A2
  by_cases h4 : c1.run ≤ n - c.run
  · have E : Hid (c.advT n = c1.out.down ((n - c.run) % c1.run)) := by unfold Hid Ck.advT; rw [if_neg h1, if_neg h2, ← hc1, if_neg h3, if_pos h4]
    have r0 := Int.emod_nonneg (n - c.run) (b := c1.run) (by omega)
    have r1 := Int.emod_lt_of_pos (n - c.run) (b := c1.run) (by omega)
    have t1 : (n - c.run).tmod c1.run = (n - c.run) % c1.run := Int.tmod_eq_emod_of_nonneg (by omega)
    rw [show c.ctl % 2 = 1 by omega] at e1
    rw [show c1.ctl % 2 = 1 by omega] at e3
    have oo : c1.out.Ok := out_ok o1
    have er : c1.out.run = c1.run := by
      have hh : c1.ctl / 4 % 2 ≠ 1 := by rw [hc1] at h3 ⊢; exact out_once h3
      unfold Ck.run Ck.out
      simp only [if_neg hh]
      rw [show c1.latch = c1.count by rw [hc1]; rfl]
    have DW : Hid _ := fun W (hA : At w0 W b c1.out) => down_any c1.out ((n - c.run) % c1.run) w0 W b oo T hA r0 (by rw [er]; exact r1)
    clear er oo
    have hz : (c1.run == 0) = false := by simpa using (show ¬ c1.run = 0 by omega)
    clear h1 h3 hc1 o0
    generalize c.run = k at *
    generalize c1.run = R at *
    generalize (n - k) % R = r at *
    go_enter Tryd.func23, Tryd.ntmps23
    go_wp2_with (first
      | (go_at_call 25; refine (TR.out _ AH.out).mono ?_; rintro e w2 ⟨rfl, n1, rfl⟩)
      | (go_at_call 32; refine (O1.out _ (At.set (c' := ({ c with pre := 0 } : Ck)) ((AH.out).drews _) 2 (.int .u16 (0)) rfl)).mono ?_; rintro e w3 ⟨rfl, A2⟩; obtain ⟨g0, g1, g2, g3, g4, g5, g6, g7, g8, g9, g10, g11, g12, gf⟩ := A2.facts; clear O1)
      | (go_at_call 25; refine (TS.out _ A2).mono ?_; rintro e w4 ⟨rfl, n2, rfl⟩)
      | (go_at_call 32; refine (O2.out _ (A2.drews _)).mono ?_; rintro e w5 ⟨rfl, A3⟩)
      | (go_at_call 37; refine (DW.out _ A3).mono ?_; rintro e w6 ⟨rfl, A4⟩))
    go_end0
    exact ⟨rfl, by rw [E.out]; exact A4⟩
  · have E : Hid (c.advT n = c1.down ((n - c.run) % c1.run)) := by unfold Hid Ck.advT; rw [if_neg h1, if_neg h2, ← hc1, if_neg h3, if_neg h4]
    have r0 := Int.emod_nonneg (n - c.run) (b := c1.run) (by omega)
    have r1 := Int.emod_lt_of_pos (n - c.run) (b := c1.run) (by omega)
    have t1 : (n - c.run).tmod c1.run = (n - c.run) % c1.run := Int.tmod_eq_emod_of_nonneg (by omega)
    rw [show c.ctl % 2 = 1 by omega] at e1
    rw [show c1.ctl % 2 = 1 by omega] at e3
    have DW : Hid _ := fun W (hA : At w0 W b c1) => down_any c1 ((n - c.run) % c1.run) w0 W b o1 T hA r0 r1
    have hz : (c1.run == 0) = false := by simpa using (show ¬ c1.run = 0 by omega)
    clear h1 h3 hc1 o0
    generalize c.run = k at *
    generalize c1.run = R at *
    generalize (n - k) % R = r at *
    go_enter Tryd.func23, Tryd.ntmps23
    go_wp2_with (first
      | (go_at_call 25; refine (TR.out _ AH.out).mono ?_; rintro e w2 ⟨rfl, n1, rfl⟩)
      | (go_at_call 32; refine (O1.out _ (At.set (c' := ({ c with pre := 0 } : Ck)) ((AH.out).drews _) 2 (.int .u16 (0)) rfl)).mono ?_; rintro e w3 ⟨rfl, A2⟩; obtain ⟨g0, g1, g2, g3, g4, g5, g6, g7, g8, g9, g10, g11, g12, gf⟩ := A2.facts; clear O1)
      | (go_at_call 25; refine (TS.out _ A2).mono ?_; rintro e w4 ⟨rfl, n2, rfl⟩)
      | (go_at_call 37; refine (DW.out _ (A2.drews _)).mono ?_; rintro e w6 ⟨rfl, A4⟩))
    go_end0
    exact ⟨rfl, by rw [E.out]; exact A4⟩
end Go.Proofs.YtobiiogoofkmaaaDoor
