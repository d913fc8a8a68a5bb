/-
  The contract of advanceSequencer, a way of it; conditions: the numbers fit their kinds.
-/
import Derived.Test.YtjacadiaafcckabDoorTASd
set_option linter.unusedSimpArgs false
set_option linter.unusedVariables false
namespace Go.Proofs.YtjacadiaafcckabDoor
open Go.RowKit
set_option maxHeartbeats 4000000 in
theorem advS_ey (c : Ck) (w0 w : World) (b : Nat) (o : c.Ok) (T : Tabs w0) (A : At w0 w b c) (hw : 0 < c.wait) (hk : c.asks = true) (hq : c.toF ≤ c.wait) :
    Calls Tryd.prog 21 #[.pointer (some ⟨b, 0, none⟩), .int .i64 c.wait] w fun e w' => e = .returned (.tuple #[]) ∧ At w0 w' b (c.advS c.wait) := by
  obtain ⟨f0, f1, f2, f3, f4, f5, f6, f7, f8, f9, f10, f11, f12, ff⟩ := A.facts
  have AH : Hid _ := A
  clear A
  have sf : c.sF c.wait = true := by unfold Ck.sF; rw [hk, decide_eq_true hq, Bool.and_true, Bool.or_true]
  have E := advS_e c hw
  rw [sf] at E
  have mn : ∀ (w : World), (Builtin.min_ #[3, 3] 3 #[.int .i64 c.wait, .int .i64 c.wait]).run Tryd.prog w = .ok (.int .i64 c.wait) w := fun w => by
    rw [min2i, show min c.wait c.wait = c.wait by omega]
  have ww := o.wait
  have os : Ck.Ok ({ c with frame := true } : Ck) := (⟨o.latch, o.count, o.pre, o.hold, o.ctl, o.at_, o.wait, o.beats⟩ : Ck.Ok { c with frame := true })
  have PS : Hid _ := fun W (hA : At w0 W b ({ c with frame := true } : Ck)) => pass_any ({ c with frame := true } : Ck) c.wait w0 W b os T hA (by omega) (by omega)
  have mb := mod_bd c.five (plc c.five c.at_ + c.wait)
  have rb := rdL_bd c.five
  obtain ⟨c1, hc1⟩ : ∃ c1 : Ck, c1 = { ({ c with frame := true } : Ck) with beats := (c.beats + cnt c.five (plc c.five c.at_) c.wait) % 64, at_ := (plc c.five c.at_ + c.wait) % rdL c.five } := ⟨_, rfl⟩
  have o1 : c1.Ok := by rw [hc1]; exact ⟨o.latch, o.count, o.pre, o.hold, o.ctl, ⟨by simp only; omega, by simp only; omega⟩, o.wait, ⟨by simp only; omega, by simp only; omega⟩⟩
  have cw : c1.wait = c.wait := by rw [hc1]
  have WT : Hid _ := fun W (hA : At w0 W b c1) => wait_last c1 w0 W b o1 hA (by omega)
  rw [← hc1] at PS
  rw [cw] at WT
  have AK : Hid _ := fun W (hA : At w0 W b c) => asks_any c w0 W b hA
  have TF : Hid _ := fun W (hA : At w0 W b c) => toF_any c w0 W b o T hA
  rw [hk] at AK
  rw [E]
  have w1 := o.wait.2
  have w2' := o.wait.1
  clear sf E hk mb rb
  generalize c.toF = k at *
  go_enter Tryd.func21, Tryd.ntmps21
  go_wp2_with (first
    | (go_at_call 23; refine (AK.out _ AH.out).mono ?_; rintro e wa ⟨rfl, rfl⟩)
    | (go_at_call 24; refine (TF.out _ AH.out).mono ?_; rintro e wb ⟨rfl, nb, rfl⟩)
    | (go_at_call 34; refine (PS.out _ (At.set (c' := ({ c with frame := true } : Ck)) ((AH.out).drews _) 9 (.bool (true)) rfl)).mono ?_; rintro e wc ⟨rfl, A2⟩; clear PS)
    | (go_at_call 35; refine (WT.out _ A2).mono ?_; rintro e wd ⟨rfl, A3⟩; clear WT))
  go_end0
  refine ⟨rfl, ?_⟩
  rw [hc1] at A3
  exact A3
end Go.Proofs.YtjacadiaafcckabDoor
