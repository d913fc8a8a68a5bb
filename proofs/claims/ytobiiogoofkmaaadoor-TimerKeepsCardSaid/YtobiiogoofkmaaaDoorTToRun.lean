/-
  The contract of toRunOut; conditions: the numbers fit their kinds.
-/
import Derived.Test.YtobiiogoofkmaaaDoorTPtr
set_option linter.unusedSimpArgs false
set_option linter.unusedVariables false
namespace Go.Proofs.YtobiiogoofkmaaaDoor
open Go.RowKit Classical
theorem w64 (x : Int) (h0 : -9223372036854775808 ≤ x) (h1 : x ≤ 9223372036854775807) : wrap64 x = x := by
  unfold wrap64
  omega
theorem run_bd (c : Ck) (o : c.Ok) : 0 ≤ (c.count + 1) * dv c.ctl ∧ (c.count + 1) * dv c.ctl ≤ 16777216 := by
  have h := o.count
  rcases dv_cases c.ctl with e | e | e | e <;> rw [e] <;> omega
set_option maxHeartbeats 1000000 in
theorem toRun_any (c : Ck) (w0 w : World) (b : Nat) (o : c.Ok) (T : DTab w0) (A : At w0 w b c) :
    Calls Tryd.prog 25 #[.pointer (some ⟨b, 0, none⟩)] w fun e w' => e = .returned (.int .i64 c.run) ∧ ∃ n, w' = w.drewN n := by
  obtain ⟨f0, f1, f2, f3, f4, f5, f6, f7, f8, f9, f10, f11, f12, ff⟩ := A.facts
  have hm := run_bd c o
  have q0 := o.count.1
  have q1 := o.count.2
  have p0 := o.pre.1
  have p1 := o.pre.2
  have e1 := w64 ((c.count + 1) * dv c.ctl) (by omega) (by omega)
  have e2 := w64 ((c.count + 1) * dv c.ctl - c.pre) (by omega) (by omega)
  have d0 := (dv_pos c.ctl).1
  have d1 := (dv_pos c.ctl).2
  have AH : Hid _ := A
  clear A
  go_enter Tryd.func25, Tryd.ntmps25
  go_wp2
  go_quiet ((go_at_call 17; exact Calls.quiet_of_same (dividerOf_any _ _ o.ctl.1 o.ctl.2 (T.on (below_draws AH.out.bel _)))))
  go_wp2
  go_ret
  exact ⟨rfl, _, rfl⟩
end Go.Proofs.YtobiiogoofkmaaaDoor
