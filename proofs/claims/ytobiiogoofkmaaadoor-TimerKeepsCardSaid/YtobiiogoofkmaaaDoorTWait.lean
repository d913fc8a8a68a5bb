/-
  The contracts of wait and toFrame; conditions: the numbers fit their kinds.
-/
import Derived.Test.YtobiiogoofkmaaaDoorTSeq
set_option linter.unusedSimpArgs false
set_option linter.unusedVariables false
namespace Go.Proofs.YtobiiogoofkmaaaDoor
open Go.RowKit Classical
theorem max2i {P : Program} (w : World) (ats : Array TypeId) (ty : TypeId) (a b : Int) : (Builtin.max_ ats ty #[.int .i64 a, .int .i64 b]).run P w = .ok (.int .i64 (max a b)) w := by
  unfold Builtin.max_
  simp only [List.foldlM_cons, List.foldlM_nil, Builtin.max2, Sem.run_bind, Sem.run_pure, Result.andThen_ok, gt_iff_lt]
  rw [show (if a < b then b else a) = max a b by omega]
theorem min2i {P : Program} (w : World) (ats : Array TypeId) (ty : TypeId) (a b : Int) : (Builtin.min_ ats ty #[.int .i64 a, .int .i64 b]).run P w = .ok (.int .i64 (min a b)) w := by
  unfold Builtin.min_
  simp only [List.foldlM_cons, List.foldlM_nil, Builtin.min2, Sem.run_bind, Sem.run_pure, Result.andThen_ok, gt_iff_lt]
  rw [show (if b < a then b else a) = min a b by omega]
theorem wait_more (c : Ck) (n : Int) (w0 w : World) (b : Nat) (o : c.Ok) (A : At w0 w b c) (n0 : 1 ≤ n) (n1 : n < c.wait) :
    Calls Tryd.prog 36 #[.pointer (some ⟨b, 0, none⟩), .int .i64 n] w fun e w' => e = .returned (.tuple #[]) ∧ At w0 w' b { c with wait := c.wait - n } := by
  obtain ⟨f0, f1, f2, f3, f4, f5, f6, f7, f8, f9, f10, f11, f12, ff⟩ := A.facts
  have a0 := o.wait.1
  have a1 := o.wait.2
  have n2 : 0 < c.wait - n := by omega
  have AH : Hid _ := A
  clear A
  go_enter Tryd.func36, Tryd.ntmps36
  go_wp2
  refine bodyPost_ret (v := .tuple #[]) (by simp [results, Tryd.results36]) rfl ⟨rfl, ?_⟩
  exact (At.set (c' := ({ c with wait := c.wait - n } : Ck)) AH.out 11 (.int .u8 (c.wait - n)) rfl)
theorem wait_last (c : Ck) (w0 w : World) (b : Nat) (o : c.Ok) (A : At w0 w b c) (n0 : 1 ≤ c.wait) :
    Calls Tryd.prog 36 #[.pointer (some ⟨b, 0, none⟩), .int .i64 c.wait] w fun e w' => e = .returned (.tuple #[]) ∧ At w0 w' b { c with wait := 0, at_ := 0, beats := wb c.five c.beats } := by
  obtain ⟨f0, f1, f2, f3, f4, f5, f6, f7, f8, f9, f10, f11, f12, ff⟩ := A.facts
  have a0 := o.wait.1
  have a1 := o.wait.2
  have n2 : c.wait - c.wait = 0 := by omega
  have AH : Hid _ := A
  clear A
  rcases (show c.five = false ∨ c.five = true by cases c.five <;> simp) with h1 | h1
  · have E : Hid (wb c.five c.beats = c.beats) := by unfold Hid; rw [h1]; rfl
    rw [E.out]
    rw [h1] at f7
    clear h1 E
    go_enter Tryd.func36, Tryd.ntmps36
    go_wp2
    go_end0
    exact ⟨rfl, (At.set (c' := ({ c with wait := 0, at_ := 0 } : Ck)) (At.set (c' := ({ c with wait := 0 } : Ck)) AH.out 11 (.int .u8 (0)) rfl) 10 (.int .u16 (0)) rfl)⟩
  · have E : Hid (wb c.five c.beats = (c.beats + 1) % 64) := by unfold Hid; rw [h1]; rfl
    rw [E.out]
    rw [h1] at f7
    clear h1 E
    go_enter Tryd.func36, Tryd.ntmps36
    go_wp2_with (go_at_call 34; refine (beat_any ({ c with wait := 0, at_ := 0 } : Ck) 1 w0 _ b ⟨o.latch, o.count, o.pre, o.hold, o.ctl, by simp only; decide, by simp only; decide, o.beats⟩ (At.set (c' := ({ c with wait := 0, at_ := 0 } : Ck)) (At.set (c' := ({ c with wait := 0 } : Ck)) AH.out 11 (.int .u8 (0)) rfl) 10 (.int .u16 (0)) rfl) (by decide) (by decide)).mono ?_; rintro e w2 ⟨rfl, A2⟩)
    go_end0
    exact ⟨rfl, A2⟩
theorem toF_any (c : Ck) (w0 w : World) (b : Nat) (o : c.Ok) (T : Tabs w0) (A : At w0 w b c) :
    Calls Tryd.prog 27 #[.pointer (some ⟨b, 0, none⟩)] w fun e w' => e = .returned (.int .i64 c.toF) ∧ ∃ n, w' = w.drewN n := by
  obtain ⟨f0, f1, f2, f3, f4, f5, f6, f7, f8, f9, f10, f11, f12, ff⟩ := A.facts
  have a0 := o.wait.1
  have a1 := o.wait.2
  have hp := plc_bd c.five c.at_ o.at_.1
  have hr := rdL_bd c.five
  have p0 : -1 ≤ plc c.five c.at_ := hp.1
  have p1 : plc c.five c.at_ ≤ 37282 := by omega
  have t0 := (T.on A.bel).frames.c0
  have P : Hid _ := fun W (hA : At w0 W b c) => place_any c w0 W b o T hA
  have AH : Hid _ := A
  clear A hp hr
  have mx := fun (w : World) => max2i (P := Tryd.prog) w #[3, 3] 3 1 (29828 - plc c.five c.at_)
  unfold Ck.toF
  have m0 : 1 ≤ max 1 (29828 - plc c.five c.at_) := by omega
  have m1 : max 1 (29828 - plc c.five c.at_) ≤ 29829 := by omega
  generalize max 1 (29828 - plc c.five c.at_) = m at *
  generalize plc c.five c.at_ = p at *
  by_cases h1 : c.wait < m
  · by_cases h2 : 0 < c.wait
    · rw [if_pos ⟨h1, h2⟩]
      go_enter Tryd.func27, Tryd.ntmps27
      go_wp2
      go_quiet (fail)
      go_wp2_with (go_at_call 39; refine (P.out _ (AH.out.drews _)).mono ?_; rintro e w2 ⟨rfl, n1, rfl⟩)
      go_ret
      exact ⟨rfl, _, rfl⟩
    · rw [if_neg (by omega)]
      go_enter Tryd.func27, Tryd.ntmps27
      go_wp2
      go_quiet (fail)
      go_wp2_with (go_at_call 39; refine (P.out _ (AH.out.drews _)).mono ?_; rintro e w2 ⟨rfl, n1, rfl⟩)
      go_ret
      exact ⟨rfl, _, rfl⟩
  · rw [if_neg (by omega)]
    go_enter Tryd.func27, Tryd.ntmps27
    go_wp2
    go_quiet (fail)
    go_wp2_with (go_at_call 39; refine (P.out _ (AH.out.drews _)).mono ?_; rintro e w2 ⟨rfl, n1, rfl⟩)
    go_ret
    exact ⟨rfl, _, rfl⟩
end Go.Proofs.YtobiiogoofkmaaaDoor
