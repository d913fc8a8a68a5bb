/-
  The contract of countDown; conditions: the numbers fit their kinds.
-/
import Derived.Test.YtobiiogoofkmaaaDoorTToRun
set_option linter.unusedSimpArgs false
set_option linter.unusedVariables false
namespace Go.Proofs.YtobiiogoofkmaaaDoor
open Go.RowKit Classical
theorem down_bd (c : Ck) (n : Int) (o : c.Ok) (n0 : 0 ≤ n) (h : n < c.run) : 0 ≤ (c.pre + n) / dv c.ctl ∧ (c.pre + n) / dv c.ctl ≤ c.count ∧ 0 ≤ (c.pre + n) % dv c.ctl ∧ (c.pre + n) % dv c.ctl ≤ 255 := by
  unfold Ck.run at h
  have := o.pre
  rcases dv_cases c.ctl with e | e | e | e <;> rw [e] at h ⊢ <;> omega
set_option maxHeartbeats 2000000 in
theorem down_any (c : Ck) (n : Int) (w0 w : World) (b : Nat) (o : c.Ok) (T : DTab w0) (A : At w0 w b c) (n0 : 0 ≤ n) (h : n < c.run) :
    Calls Tryd.prog 37 #[.pointer (some ⟨b, 0, none⟩), .int .i64 n] w fun e w' => e = .returned (.tuple #[]) ∧ At w0 w' b (c.down n) := by
  obtain ⟨f0, f1, f2, f3, f4, f5, f6, f7, f8, f9, f10, f11, f12, ff⟩ := A.facts
  have hq := down_bd c n o n0 h
  have hr : n ≤ 16777216 := by unfold Ck.run at h; have := run_bd c o; have := o.pre; omega
  have D : Hid _ := fun W (hW : DTab W) => dividerOf_any c.ctl W o.ctl.1 o.ctl.2 hW
  have E : Hid (c.down n = { c with count := c.count - (c.pre + n) / dv c.ctl, pre := (c.pre + n) % dv c.ctl }) := rfl
  have d0 := (dv_pos c.ctl).1
  have d1 := (dv_pos c.ctl).2
  obtain ⟨y0, y1, y2, y3⟩ := hq
  have q0 := o.count.1
  have q1 := o.count.2
  have p0 := o.pre.1
  have p1 := o.pre.2
  have t1 : (c.pre + n).tdiv (dv c.ctl) = (c.pre + n) / dv c.ctl := Int.tdiv_eq_ediv_of_nonneg (by omega)
  have t2 : (c.pre + n).tmod (dv c.ctl) = (c.pre + n) % dv c.ctl := Int.tmod_eq_emod_of_nonneg (by omega)
  generalize c.down n = c9 at E ⊢
  generalize dv c.ctl = d at *
  have t3 := t1
  have t4 := t2
  generalize (c.pre + n) / d = q at *
  generalize (c.pre + n) % d = r at *
  have hd : (d == 0) = false := by simpa using (show ¬ d = 0 by omega)
  have AH : Hid _ := A
  clear A t3 t4
  go_enter Tryd.func37, Tryd.ntmps37
  go_wp2_with (go_at_call 17; refine (D.out _ (T.on AH.out.bel)).mono ?_; rintro e w2 ⟨rfl, rfl⟩)
  go_region
  go_wp2
  go_end0
  refine ⟨rfl, ?_⟩
  rw [E.out]
  exact (At.set (c' := ({ c with count := c.count - q, pre := r } : Ck)) (At.set (c' := ({ c with count := c.count - q } : Ck)) ((AH.out).drews 1) 1 (.int .u16 (c.count - q)) rfl) 2 (.int .u16 (r)) rfl)
end Go.Proofs.YtobiiogoofkmaaaDoor
