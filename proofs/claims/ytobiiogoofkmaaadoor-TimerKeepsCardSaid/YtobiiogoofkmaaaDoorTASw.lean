/-
  The contract of advanceSequencer, way by way; conditions: the numbers fit their kinds.
-/
import Derived.Test.YtobiiogoofkmaaaDoorTASd
set_option linter.unusedSimpArgs false
set_option linter.unusedVariables false
namespace Go.Proofs.YtobiiogoofkmaaaDoor
open Go.RowKit Classical
set_option maxHeartbeats 4000000 in
theorem advS_0n (c : Ck) (n : Int) (n0 : 1 ≤ n) (n1 : n ≤ 9223372036854775807) (w0 w : World) (b : Nat) (o : c.Ok) (T : Tabs w0) (A : At w0 w b c) (hw : c.wait = 0) (hk : c.asks = false) :
    Calls Tryd.prog 24 #[.pointer (some ⟨b, 0, none⟩), .int .i64 n] w fun e w' => e = .returned (.tuple #[]) ∧ At w0 w' b (c.advS n) := by
  obtain ⟨f0, f1, f2, f3, f4, f5, f6, f7, f8, f9, f10, f11, f12, ff⟩ := A.facts
  have AH : Hid _ := A
  clear A
  have sf : c.sF n = c.frame := by unfold Ck.sF; rw [hk, Bool.false_and, Bool.or_false]
  have E := advS_0 c n hw n0
  rw [sf] at E
  have ww := o.wait
  have os : Ck.Ok c := o
  have PS : Hid _ := fun W (hA : At w0 W b c) => pass_any c n w0 W b os T hA (by omega) (by omega)
  have mb := mod_bd c.five (plc c.five c.at_ + n)
  have rb := rdL_bd c.five
  have AK : Hid _ := fun W (hA : At w0 W b c) => asks_any c w0 W b hA
  have TF : Hid _ := fun W (hA : At w0 W b c) => toF_any c w0 W b o T hA
  rw [hk] at AK
  rw [E]
  have w1 := o.wait.2
  have w2' := o.wait.1
  clear sf E hk mb rb
  generalize c.toF = k at *
  have w3 := hw
  rw [hw] at f11
  clear hw
  go_enter Tryd.func24, Tryd.ntmps24
  go_wp2_with (first
    | (go_at_call 26; refine (AK.out _ AH.out).mono ?_; rintro e wa ⟨rfl, rfl⟩)
    | (go_at_call 38; refine (PS.out _ AH.out).mono ?_; rintro e wc ⟨rfl, A2⟩; clear PS))
  go_end0
  refine ⟨rfl, ?_⟩
  exact A2
set_option maxHeartbeats 4000000 in
theorem advS_0q (c : Ck) (n : Int) (n0 : 1 ≤ n) (n1 : n ≤ 9223372036854775807) (w0 w : World) (b : Nat) (o : c.Ok) (T : Tabs w0) (A : At w0 w b c) (hw : c.wait = 0) (hk : c.asks = true) (hq : ¬ c.toF ≤ n) :
    Calls Tryd.prog 24 #[.pointer (some ⟨b, 0, none⟩), .int .i64 n] w fun e w' => e = .returned (.tuple #[]) ∧ At w0 w' b (c.advS n) := by
  obtain ⟨f0, f1, f2, f3, f4, f5, f6, f7, f8, f9, f10, f11, f12, ff⟩ := A.facts
  have AH : Hid _ := A
  clear A
  have sf : c.sF n = c.frame := by unfold Ck.sF; rw [hk, decide_eq_false hq, Bool.and_false, Bool.or_false]
  have E := advS_0 c n hw n0
  rw [sf] at E
  have ww := o.wait
  have os : Ck.Ok c := o
  have PS : Hid _ := fun W (hA : At w0 W b c) => pass_any c n w0 W b os T hA (by omega) (by omega)
  have mb := mod_bd c.five (plc c.five c.at_ + n)
  have rb := rdL_bd c.five
  have AK : Hid _ := fun W (hA : At w0 W b c) => asks_any c w0 W b hA
  have TF : Hid _ := fun W (hA : At w0 W b c) => toF_any c w0 W b o T hA
  rw [hk] at AK
  rw [E]
  have w1 := o.wait.2
  have w2' := o.wait.1
  clear sf E hk mb rb
  generalize c.toF = k at *
  have w3 := hw
  rw [hw] at f11
  clear hw
  go_enter Tryd.func24, Tryd.ntmps24
  go_wp2_with (first
    | (go_at_call 26; refine (AK.out _ AH.out).mono ?_; rintro e wa ⟨rfl, rfl⟩)
    | (go_at_call 27; refine (TF.out _ AH.out).mono ?_; rintro e wb ⟨rfl, nb, rfl⟩)
    | (go_at_call 38; refine (PS.out _ ((AH.out).drews _)).mono ?_; rintro e wc ⟨rfl, A2⟩; clear PS))
  go_end0
  refine ⟨rfl, ?_⟩
  exact A2
set_option maxHeartbeats 4000000 in
theorem advS_0y (c : Ck) (n : Int) (n0 : 1 ≤ n) (n1 : n ≤ 9223372036854775807) (w0 w : World) (b : Nat) (o : c.Ok) (T : Tabs w0) (A : At w0 w b c) (hw : c.wait = 0) (hk : c.asks = true) (hq : c.toF ≤ n) :
    Calls Tryd.prog 24 #[.pointer (some ⟨b, 0, none⟩), .int .i64 n] w fun e w' => e = .returned (.tuple #[]) ∧ At w0 w' b (c.advS n) := by
  obtain ⟨f0, f1, f2, f3, f4, f5, f6, f7, f8, f9, f10, f11, f12, ff⟩ := A.facts
  have AH : Hid _ := A
  clear A
  have sf : c.sF n = true := by unfold Ck.sF; rw [hk, decide_eq_true hq, Bool.and_true, Bool.or_true]
  have E := advS_0 c n hw n0
  rw [sf] at E
  have ww := o.wait
  have os : Ck.Ok ({ c with frame := true } : Ck) := (⟨o.latch, o.count, o.pre, o.hold, o.ctl, o.at_, o.wait, o.beats⟩ : Ck.Ok { c with frame := true })
  have PS : Hid _ := fun W (hA : At w0 W b ({ c with frame := true } : Ck)) => pass_any ({ c with frame := true } : Ck) n w0 W b os T hA (by omega) (by omega)
  have mb := mod_bd c.five (plc c.five c.at_ + n)
  have rb := rdL_bd c.five
  have AK : Hid _ := fun W (hA : At w0 W b c) => asks_any c w0 W b hA
  have TF : Hid _ := fun W (hA : At w0 W b c) => toF_any c w0 W b o T hA
  rw [hk] at AK
  rw [E]
  have w1 := o.wait.2
  have w2' := o.wait.1
  clear sf E hk mb rb
  generalize c.toF = k at *
  have w3 := hw
  rw [hw] at f11
  clear hw
  go_enter Tryd.func24, Tryd.ntmps24
  go_wp2_with (first
    | (go_at_call 26; refine (AK.out _ AH.out).mono ?_; rintro e wa ⟨rfl, rfl⟩)
    | (go_at_call 27; refine (TF.out _ AH.out).mono ?_; rintro e wb ⟨rfl, nb, rfl⟩)
    | (go_at_call 38; refine (PS.out _ (At.set (c' := ({ c with frame := true } : Ck)) ((AH.out).drews _) 9 (.bool (true)) rfl)).mono ?_; rintro e wc ⟨rfl, A2⟩; clear PS))
  go_end0
  refine ⟨rfl, ?_⟩
  exact A2
set_option maxHeartbeats 4000000 in
theorem advS_ln (c : Ck) (n : Int) (n0 : 1 ≤ n) (n1 : n ≤ 9223372036854775807) (w0 w : World) (b : Nat) (o : c.Ok) (T : Tabs w0) (A : At w0 w b c) (hw : n < c.wait) (hk : c.asks = false) :
    Calls Tryd.prog 24 #[.pointer (some ⟨b, 0, none⟩), .int .i64 n] w fun e w' => e = .returned (.tuple #[]) ∧ At w0 w' b (c.advS n) := by
  obtain ⟨f0, f1, f2, f3, f4, f5, f6, f7, f8, f9, f10, f11, f12, ff⟩ := A.facts
  have AH : Hid _ := A
  clear A
  have sf : c.sF n = c.frame := by unfold Ck.sF; rw [hk, Bool.false_and, Bool.or_false]
  have E := advS_l c n hw
  rw [sf] at E
  have mn : ∀ (w : World), (Builtin.min_ #[3, 3] 3 #[.int .i64 n, .int .i64 c.wait]).run Tryd.prog w = .ok (.int .i64 n) w := fun w => by
    rw [min2i, show min n c.wait = n by omega]
  have ww := o.wait
  have os : Ck.Ok c := o
  have PS : Hid _ := fun W (hA : At w0 W b c) => pass_any c n w0 W b os T hA (by omega) (by omega)
  have mb := mod_bd c.five (plc c.five c.at_ + n)
  have rb := rdL_bd c.five
  obtain ⟨c1, hc1⟩ : ∃ c1 : Ck, c1 = { c with beats := (c.beats + cnt c.five (plc c.five c.at_) n) % 64, at_ := (plc c.five c.at_ + n) % rdL c.five } := ⟨_, rfl⟩
  have o1 : c1.Ok := by rw [hc1]; exact ⟨o.latch, o.count, o.pre, o.hold, o.ctl, ⟨by simp only; omega, by simp only; omega⟩, o.wait, ⟨by simp only; omega, by simp only; omega⟩⟩
  have cw : c1.wait = c.wait := by rw [hc1]
  have WT : Hid _ := fun W (hA : At w0 W b c1) => wait_more c1 n w0 W b o1 hA n0 (by omega)
  rw [← hc1] at PS
  have AK : Hid _ := fun W (hA : At w0 W b c) => asks_any c w0 W b hA
  have TF : Hid _ := fun W (hA : At w0 W b c) => toF_any c w0 W b o T hA
  rw [hk] at AK
  rw [E]
  have w1 := o.wait.2
  have w2' := o.wait.1
  clear sf E hk mb rb
  generalize c.toF = k at *
  go_enter Tryd.func24, Tryd.ntmps24
  go_wp2_with (first
    | (go_at_call 26; refine (AK.out _ AH.out).mono ?_; rintro e wa ⟨rfl, rfl⟩)
    | (go_at_call 38; refine (PS.out _ AH.out).mono ?_; rintro e wc ⟨rfl, A2⟩; clear PS)
    | (go_at_call 36; refine (WT.out _ A2).mono ?_; rintro e wd ⟨rfl, A3⟩; clear WT))
  go_end0
  refine ⟨rfl, ?_⟩
  rw [hc1] at A3
  exact A3
set_option maxHeartbeats 4000000 in
theorem advS_lq (c : Ck) (n : Int) (n0 : 1 ≤ n) (n1 : n ≤ 9223372036854775807) (w0 w : World) (b : Nat) (o : c.Ok) (T : Tabs w0) (A : At w0 w b c) (hw : n < c.wait) (hk : c.asks = true) (hq : ¬ c.toF ≤ n) :
    Calls Tryd.prog 24 #[.pointer (some ⟨b, 0, none⟩), .int .i64 n] w fun e w' => e = .returned (.tuple #[]) ∧ At w0 w' b (c.advS n) := by
  obtain ⟨f0, f1, f2, f3, f4, f5, f6, f7, f8, f9, f10, f11, f12, ff⟩ := A.facts
  have AH : Hid _ := A
  clear A
  have sf : c.sF n = c.frame := by unfold Ck.sF; rw [hk, decide_eq_false hq, Bool.and_false, Bool.or_false]
  have E := advS_l c n hw
  rw [sf] at E
  have mn : ∀ (w : World), (Builtin.min_ #[3, 3] 3 #[.int .i64 n, .int .i64 c.wait]).run Tryd.prog w = .ok (.int .i64 n) w := fun w => by
    rw [min2i, show min n c.wait = n by omega]
  have ww := o.wait
  have os : Ck.Ok c := o
  have PS : Hid _ := fun W (hA : At w0 W b c) => pass_any c n w0 W b os T hA (by omega) (by omega)
  have mb := mod_bd c.five (plc c.five c.at_ + n)
  have rb := rdL_bd c.five
  obtain ⟨c1, hc1⟩ : ∃ c1 : Ck, c1 = { c with beats := (c.beats + cnt c.five (plc c.five c.at_) n) % 64, at_ := (plc c.five c.at_ + n) % rdL c.five } := ⟨_, rfl⟩
  have o1 : c1.Ok := by rw [hc1]; exact ⟨o.latch, o.count, o.pre, o.hold, o.ctl, ⟨by simp only; omega, by simp only; omega⟩, o.wait, ⟨by simp only; omega, by simp only; omega⟩⟩
  have cw : c1.wait = c.wait := by rw [hc1]
  have WT : Hid _ := fun W (hA : At w0 W b c1) => wait_more c1 n w0 W b o1 hA n0 (by omega)
  rw [← hc1] at PS
  have AK : Hid _ := fun W (hA : At w0 W b c) => asks_any c w0 W b hA
  have TF : Hid _ := fun W (hA : At w0 W b c) => toF_any c w0 W b o T hA
  rw [hk] at AK
  rw [E]
  have w1 := o.wait.2
  have w2' := o.wait.1
  clear sf E hk mb rb
  generalize c.toF = k at *
  go_enter Tryd.func24, Tryd.ntmps24
  go_wp2_with (first
    | (go_at_call 26; refine (AK.out _ AH.out).mono ?_; rintro e wa ⟨rfl, rfl⟩)
    | (go_at_call 27; refine (TF.out _ AH.out).mono ?_; rintro e wb ⟨rfl, nb, rfl⟩)
    | (go_at_call 38; refine (PS.out _ ((AH.out).drews _)).mono ?_; rintro e wc ⟨rfl, A2⟩; clear PS)
    | (go_at_call 36; refine (WT.out _ A2).mono ?_; rintro e wd ⟨rfl, A3⟩; clear WT))
  go_end0
  refine ⟨rfl, ?_⟩
  rw [hc1] at A3
  exact A3
set_option maxHeartbeats 4000000 in
theorem advS_ly (c : Ck) (n : Int) (n0 : 1 ≤ n) (n1 : n ≤ 9223372036854775807) (w0 w : World) (b : Nat) (o : c.Ok) (T : Tabs w0) (A : At w0 w b c) (hw : n < c.wait) (hk : c.asks = true) (hq : c.toF ≤ n) :
    Calls Tryd.prog 24 #[.pointer (some ⟨b, 0, none⟩), .int .i64 n] w fun e w' => e = .returned (.tuple #[]) ∧ At w0 w' b (c.advS n) := by
  obtain ⟨f0, f1, f2, f3, f4, f5, f6, f7, f8, f9, f10, f11, f12, ff⟩ := A.facts
  have AH : Hid _ := A
  clear A
  have sf : c.sF n = true := by unfold Ck.sF; rw [hk, decide_eq_true hq, Bool.and_true, Bool.or_true]
  have E := advS_l c n hw
  rw [sf] at E
  have mn : ∀ (w : World), (Builtin.min_ #[3, 3] 3 #[.int .i64 n, .int .i64 c.wait]).run Tryd.prog w = .ok (.int .i64 n) w := fun w => by
    rw [min2i, show min n c.wait = n by omega]
  have ww := o.wait
  have os : Ck.Ok ({ c with frame := true } : Ck) := (⟨o.latch, o.count, o.pre, o.hold, o.ctl, o.at_, o.wait, o.beats⟩ : Ck.Ok { c with frame := true })
  have PS : Hid _ := fun W (hA : At w0 W b ({ c with frame := true } : Ck)) => pass_any ({ c with frame := true } : Ck) n w0 W b os T hA (by omega) (by omega)
  have mb := mod_bd c.five (plc c.five c.at_ + n)
  have rb := rdL_bd c.five
  obtain ⟨c1, hc1⟩ : ∃ c1 : Ck, c1 = { ({ c with frame := true } : Ck) with beats := (c.beats + cnt c.five (plc c.five c.at_) n) % 64, at_ := (plc c.five c.at_ + n) % rdL c.five } := ⟨_, rfl⟩
  have o1 : c1.Ok := by rw [hc1]; exact ⟨o.latch, o.count, o.pre, o.hold, o.ctl, ⟨by simp only; omega, by simp only; omega⟩, o.wait, ⟨by simp only; omega, by simp only; omega⟩⟩
  have cw : c1.wait = c.wait := by rw [hc1]
  have WT : Hid _ := fun W (hA : At w0 W b c1) => wait_more c1 n w0 W b o1 hA n0 (by omega)
  rw [← hc1] at PS
  have AK : Hid _ := fun W (hA : At w0 W b c) => asks_any c w0 W b hA
  have TF : Hid _ := fun W (hA : At w0 W b c) => toF_any c w0 W b o T hA
  rw [hk] at AK
  rw [E]
  have w1 := o.wait.2
  have w2' := o.wait.1
  clear sf E hk mb rb
  generalize c.toF = k at *
  go_enter Tryd.func24, Tryd.ntmps24
  go_wp2_with (first
    | (go_at_call 26; refine (AK.out _ AH.out).mono ?_; rintro e wa ⟨rfl, rfl⟩)
    | (go_at_call 27; refine (TF.out _ AH.out).mono ?_; rintro e wb ⟨rfl, nb, rfl⟩)
    | (go_at_call 38; refine (PS.out _ (At.set (c' := ({ c with frame := true } : Ck)) ((AH.out).drews _) 9 (.bool (true)) rfl)).mono ?_; rintro e wc ⟨rfl, A2⟩; clear PS)
    | (go_at_call 36; refine (WT.out _ A2).mono ?_; rintro e wd ⟨rfl, A3⟩; clear WT))
  go_end0
  refine ⟨rfl, ?_⟩
  rw [hc1] at A3
  exact A3
set_option maxHeartbeats 4000000 in
theorem advS_en (c : Ck) (w0 w : World) (b : Nat) (o : c.Ok) (T : Tabs w0) (A : At w0 w b c) (hw : 0 < c.wait) (hk : c.asks = false) :
    Calls Tryd.prog 24 #[.pointer (some ⟨b, 0, none⟩), .int .i64 c.wait] w fun e w' => e = .returned (.tuple #[]) ∧ At w0 w' b (c.advS c.wait) := by
  obtain ⟨f0, f1, f2, f3, f4, f5, f6, f7, f8, f9, f10, f11, f12, ff⟩ := A.facts
  have AH : Hid _ := A
  clear A
  have sf : c.sF c.wait = c.frame := by unfold Ck.sF; rw [hk, Bool.false_and, Bool.or_false]
  have E := advS_e c hw
  rw [sf] at E
  have mn : ∀ (w : World), (Builtin.min_ #[3, 3] 3 #[.int .i64 c.wait, .int .i64 c.wait]).run Tryd.prog w = .ok (.int .i64 c.wait) w := fun w => by
    rw [min2i, show min c.wait c.wait = c.wait by omega]
  have ww := o.wait
  have os : Ck.Ok c := o
  have PS : Hid _ := fun W (hA : At w0 W b c) => pass_any c c.wait w0 W b os T hA (by omega) (by omega)
  have mb := mod_bd c.five (plc c.five c.at_ + c.wait)
  have rb := rdL_bd c.five
  obtain ⟨c1, hc1⟩ : ∃ c1 : Ck, c1 = { c with beats := (c.beats + cnt c.five (plc c.five c.at_) c.wait) % 64, at_ := (plc c.five c.at_ + c.wait) % rdL c.five } := ⟨_, rfl⟩
  have o1 : c1.Ok := by rw [hc1]; exact ⟨o.latch, o.count, o.pre, o.hold, o.ctl, ⟨by simp only; omega, by simp only; omega⟩, o.wait, ⟨by simp only; omega, by simp only; omega⟩⟩
  have cw : c1.wait = c.wait := by rw [hc1]
  have WT : Hid _ := fun W (hA : At w0 W b c1) => wait_last c1 w0 W b o1 hA (by omega)
  rw [← hc1] at PS
  rw [cw] at WT
  have AK : Hid _ := fun W (hA : At w0 W b c) => asks_any c w0 W b hA
  have TF : Hid _ := fun W (hA : At w0 W b c) => toF_any c w0 W b o T hA
  rw [hk] at AK
  rw [E]
  have w1 := o.wait.2
  have w2' := o.wait.1
  clear sf E hk mb rb
  generalize c.toF = k at *
  go_enter Tryd.func24, Tryd.ntmps24
  go_wp2_with (first
    | (go_at_call 26; refine (AK.out _ AH.out).mono ?_; rintro e wa ⟨rfl, rfl⟩)
    | (go_at_call 38; refine (PS.out _ AH.out).mono ?_; rintro e wc ⟨rfl, A2⟩; clear PS)
    | (go_at_call 36; refine (WT.out _ A2).mono ?_; rintro e wd ⟨rfl, A3⟩; clear WT))
  go_end0
  refine ⟨rfl, ?_⟩
  rw [hc1] at A3
  exact A3
set_option maxHeartbeats 4000000 in
theorem advS_eq (c : Ck) (w0 w : World) (b : Nat) (o : c.Ok) (T : Tabs w0) (A : At w0 w b c) (hw : 0 < c.wait) (hk : c.asks = true) (hq : ¬ c.toF ≤ c.wait) :
    Calls Tryd.prog 24 #[.pointer (some ⟨b, 0, none⟩), .int .i64 c.wait] w fun e w' => e = .returned (.tuple #[]) ∧ At w0 w' b (c.advS c.wait) := by
  obtain ⟨f0, f1, f2, f3, f4, f5, f6, f7, f8, f9, f10, f11, f12, ff⟩ := A.facts
  have AH : Hid _ := A
  clear A
  have sf : c.sF c.wait = c.frame := by unfold Ck.sF; rw [hk, decide_eq_false hq, Bool.and_false, Bool.or_false]
  have E := advS_e c hw
  rw [sf] at E
  have mn : ∀ (w : World), (Builtin.min_ #[3, 3] 3 #[.int .i64 c.wait, .int .i64 c.wait]).run Tryd.prog w = .ok (.int .i64 c.wait) w := fun w => by
    rw [min2i, show min c.wait c.wait = c.wait by omega]
  have ww := o.wait
  have os : Ck.Ok c := o
  have PS : Hid _ := fun W (hA : At w0 W b c) => pass_any c c.wait w0 W b os T hA (by omega) (by omega)
  have mb := mod_bd c.five (plc c.five c.at_ + c.wait)
  have rb := rdL_bd c.five
  obtain ⟨c1, hc1⟩ : ∃ c1 : Ck, c1 = { c with beats := (c.beats + cnt c.five (plc c.five c.at_) c.wait) % 64, at_ := (plc c.five c.at_ + c.wait) % rdL c.five } := ⟨_, rfl⟩
  have o1 : c1.Ok := by rw [hc1]; exact ⟨o.latch, o.count, o.pre, o.hold, o.ctl, ⟨by simp only; omega, by simp only; omega⟩, o.wait, ⟨by simp only; omega, by simp only; omega⟩⟩
  have cw : c1.wait = c.wait := by rw [hc1]
  have WT : Hid _ := fun W (hA : At w0 W b c1) => wait_last c1 w0 W b o1 hA (by omega)
  rw [← hc1] at PS
  rw [cw] at WT
  have AK : Hid _ := fun W (hA : At w0 W b c) => asks_any c w0 W b hA
  have TF : Hid _ := fun W (hA : At w0 W b c) => toF_any c w0 W b o T hA
  rw [hk] at AK
  rw [E]
  have w1 := o.wait.2
  have w2' := o.wait.1
  clear sf E hk mb rb
  generalize c.toF = k at *
  go_enter Tryd.func24, Tryd.ntmps24
  go_wp2_with (first
    | (go_at_call 26; refine (AK.out _ AH.out).mono ?_; rintro e wa ⟨rfl, rfl⟩)
    | (go_at_call 27; refine (TF.out _ AH.out).mono ?_; rintro e wb ⟨rfl, nb, rfl⟩)
    | (go_at_call 38; refine (PS.out _ ((AH.out).drews _)).mono ?_; rintro e wc ⟨rfl, A2⟩; clear PS)
    | (go_at_call 36; refine (WT.out _ A2).mono ?_; rintro e wd ⟨rfl, A3⟩; clear WT))
  go_end0
  refine ⟨rfl, ?_⟩
  rw [hc1] at A3
  exact A3
set_option maxHeartbeats 4000000 in
theorem advS_ey (c : Ck) (w0 w : World) (b : Nat) (o : c.Ok) (T : Tabs w0) (A : At w0 w b c) (hw : 0 < c.wait) (hk : c.asks = true) (hq : c.toF ≤ c.wait) :
    Calls Tryd.prog 24 #[.pointer (some ⟨b, 0, none⟩), .int .i64 c.wait] w fun e w' => e = .returned (.tuple #[]) ∧ At w0 w' b (c.advS c.wait) := by
  obtain ⟨f0, f1, f2, f3, f4, f5, f6, f7, f8, f9, f10, f11, f12, ff⟩ := A.facts
  have AH : Hid _ := A
  clear A
  have sf : c.sF c.wait = true := by unfold Ck.sF; rw [hk, decide_eq_true hq, Bool.and_true, Bool.or_true]
  have E := advS_e c hw
  rw [sf] at E
  have mn : ∀ (w : World), (Builtin.min_ #[3, 3] 3 #[.int .i64 c.wait, .int .i64 c.wait]).run Tryd.prog w = .ok (.int .i64 c.wait) w := fun w => by
    rw [min2i, show min c.wait c.wait = c.wait by omega]
  have ww := o.wait
  have os : Ck.Ok ({ c with frame := true } : Ck) := (⟨o.latch, o.count, o.pre, o.hold, o.ctl, o.at_, o.wait, o.beats⟩ : Ck.Ok { c with frame := true })
  have PS : Hid _ := fun W (hA : At w0 W b ({ c with frame := true } : Ck)) => pass_any ({ c with frame := true } : Ck) c.wait w0 W b os T hA (by omega) (by omega)
  have mb := mod_bd c.five (plc c.five c.at_ + c.wait)
  have rb := rdL_bd c.five
  obtain ⟨c1, hc1⟩ : ∃ c1 : Ck, c1 = { ({ c with frame := true } : Ck) with beats := (c.beats + cnt c.five (plc c.five c.at_) c.wait) % 64, at_ := (plc c.five c.at_ + c.wait) % rdL c.five } := ⟨_, rfl⟩
  have o1 : c1.Ok := by rw [hc1]; exact ⟨o.latch, o.count, o.pre, o.hold, o.ctl, ⟨by simp only; omega, by simp only; omega⟩, o.wait, ⟨by simp only; omega, by simp only; omega⟩⟩
  have cw : c1.wait = c.wait := by rw [hc1]
  have WT : Hid _ := fun W (hA : At w0 W b c1) => wait_last c1 w0 W b o1 hA (by omega)
  rw [← hc1] at PS
  rw [cw] at WT
  have AK : Hid _ := fun W (hA : At w0 W b c) => asks_any c w0 W b hA
  have TF : Hid _ := fun W (hA : At w0 W b c) => toF_any c w0 W b o T hA
  rw [hk] at AK
  rw [E]
  have w1 := o.wait.2
  have w2' := o.wait.1
  clear sf E hk mb rb
  generalize c.toF = k at *
  go_enter Tryd.func24, Tryd.ntmps24
  go_wp2_with (first
    | (go_at_call 26; refine (AK.out _ AH.out).mono ?_; rintro e wa ⟨rfl, rfl⟩)
    | (go_at_call 27; refine (TF.out _ AH.out).mono ?_; rintro e wb ⟨rfl, nb, rfl⟩)
    | (go_at_call 38; refine (PS.out _ (At.set (c' := ({ c with frame := true } : Ck)) ((AH.out).drews _) 9 (.bool (true)) rfl)).mono ?_; rintro e wc ⟨rfl, A2⟩; clear PS)
    | (go_at_call 36; refine (WT.out _ A2).mono ?_; rintro e wd ⟨rfl, A3⟩; clear WT))
  go_end0
  refine ⟨rfl, ?_⟩
  rw [hc1] at A3
  exact A3
set_option maxHeartbeats 4000000 in
theorem advS_gn (c : Ck) (n : Int) (n0 : 1 ≤ n) (n1 : n ≤ 9223372036854775807) (w0 w : World) (b : Nat) (o : c.Ok) (T : Tabs w0) (A : At w0 w b c) (hw : 0 < c.wait) (hw2 : c.wait < n) (hk : c.asks = false) :
    Calls Tryd.prog 24 #[.pointer (some ⟨b, 0, none⟩), .int .i64 n] w fun e w' => e = .returned (.tuple #[]) ∧ At w0 w' b (c.advS n) := by
  obtain ⟨f0, f1, f2, f3, f4, f5, f6, f7, f8, f9, f10, f11, f12, ff⟩ := A.facts
  have AH : Hid _ := A
  clear A
  have sf : c.sF n = c.frame := by unfold Ck.sF; rw [hk, Bool.false_and, Bool.or_false]
  have E := advS_g c n hw hw2
  rw [sf] at E
  have mn : ∀ (w : World), (Builtin.min_ #[3, 3] 3 #[.int .i64 n, .int .i64 c.wait]).run Tryd.prog w = .ok (.int .i64 c.wait) w := fun w => by
    rw [min2i, show min n c.wait = c.wait by omega]
  have ww := o.wait
  have os : Ck.Ok c := o
  have PS : Hid _ := fun W (hA : At w0 W b c) => pass_any c c.wait w0 W b os T hA (by omega) (by omega)
  have mb := mod_bd c.five (plc c.five c.at_ + c.wait)
  have rb := rdL_bd c.five
  obtain ⟨c1, hc1⟩ : ∃ c1 : Ck, c1 = { c with beats := (c.beats + cnt c.five (plc c.five c.at_) c.wait) % 64, at_ := (plc c.five c.at_ + c.wait) % rdL c.five } := ⟨_, rfl⟩
  have o1 : c1.Ok := by rw [hc1]; exact ⟨o.latch, o.count, o.pre, o.hold, o.ctl, ⟨by simp only; omega, by simp only; omega⟩, o.wait, ⟨by simp only; omega, by simp only; omega⟩⟩
  have cw : c1.wait = c.wait := by rw [hc1]
  have WT : Hid _ := fun W (hA : At w0 W b c1) => wait_last c1 w0 W b o1 hA (by omega)
  obtain ⟨c2, hc2⟩ : ∃ c2 : Ck, c2 = { c1 with wait := 0, at_ := 0, beats := wb c1.five c1.beats } := ⟨_, rfl⟩
  have o2 : c2.Ok := by rw [hc2]; exact ⟨o1.latch, o1.count, o1.pre, o1.hold, o1.ctl, by simp only; decide, by simp only; decide, by have := o1.beats; simp only [wb]; split <;> omega⟩
  have P2 : Hid _ := fun W (hA : At w0 W b c2) => pass_any c2 (n - c.wait) w0 W b o2 T hA (by omega) (by omega)
  rw [← hc2] at WT
  rw [← hc1] at PS
  rw [cw] at WT
  have AK : Hid _ := fun W (hA : At w0 W b c) => asks_any c w0 W b hA
  have TF : Hid _ := fun W (hA : At w0 W b c) => toF_any c w0 W b o T hA
  rw [hk] at AK
  rw [E]
  have w1 := o.wait.2
  have w2' := o.wait.1
  clear sf E hk mb rb
  generalize c.toF = k at *
  go_enter Tryd.func24, Tryd.ntmps24
  go_wp2_with (first
    | (go_at_call 26; refine (AK.out _ AH.out).mono ?_; rintro e wa ⟨rfl, rfl⟩)
    | (go_at_call 38; refine (PS.out _ AH.out).mono ?_; rintro e wc ⟨rfl, A2⟩; clear PS)
    | (go_at_call 36; refine (WT.out _ A2).mono ?_; rintro e wd ⟨rfl, A3⟩; clear WT)
    | (go_at_call 38; refine (P2.out _ A3).mono ?_; rintro e we ⟨rfl, A4⟩))
  go_end0
  refine ⟨rfl, ?_⟩
  rw [hc2, hc1] at A4
  simp only [plc_zero, Int.zero_add] at A4
  exact A4
set_option maxHeartbeats 4000000 in
theorem advS_gq (c : Ck) (n : Int) (n0 : 1 ≤ n) (n1 : n ≤ 9223372036854775807) (w0 w : World) (b : Nat) (o : c.Ok) (T : Tabs w0) (A : At w0 w b c) (hw : 0 < c.wait) (hw2 : c.wait < n) (hk : c.asks = true) (hq : ¬ c.toF ≤ n) :
    Calls Tryd.prog 24 #[.pointer (some ⟨b, 0, none⟩), .int .i64 n] w fun e w' => e = .returned (.tuple #[]) ∧ At w0 w' b (c.advS n) := by
  obtain ⟨f0, f1, f2, f3, f4, f5, f6, f7, f8, f9, f10, f11, f12, ff⟩ := A.facts
  have AH : Hid _ := A
  clear A
  have sf : c.sF n = c.frame := by unfold Ck.sF; rw [hk, decide_eq_false hq, Bool.and_false, Bool.or_false]
  have E := advS_g c n hw hw2
  rw [sf] at E
  have mn : ∀ (w : World), (Builtin.min_ #[3, 3] 3 #[.int .i64 n, .int .i64 c.wait]).run Tryd.prog w = .ok (.int .i64 c.wait) w := fun w => by
    rw [min2i, show min n c.wait = c.wait by omega]
  have ww := o.wait
  have os : Ck.Ok c := o
  have PS : Hid _ := fun W (hA : At w0 W b c) => pass_any c c.wait w0 W b os T hA (by omega) (by omega)
  have mb := mod_bd c.five (plc c.five c.at_ + c.wait)
  have rb := rdL_bd c.five
  obtain ⟨c1, hc1⟩ : ∃ c1 : Ck, c1 = { c with beats := (c.beats + cnt c.five (plc c.five c.at_) c.wait) % 64, at_ := (plc c.five c.at_ + c.wait) % rdL c.five } := ⟨_, rfl⟩
  have o1 : c1.Ok := by rw [hc1]; exact ⟨o.latch, o.count, o.pre, o.hold, o.ctl, ⟨by simp only; omega, by simp only; omega⟩, o.wait, ⟨by simp only; omega, by simp only; omega⟩⟩
  have cw : c1.wait = c.wait := by rw [hc1]
  have WT : Hid _ := fun W (hA : At w0 W b c1) => wait_last c1 w0 W b o1 hA (by omega)
  obtain ⟨c2, hc2⟩ : ∃ c2 : Ck, c2 = { c1 with wait := 0, at_ := 0, beats := wb c1.five c1.beats } := ⟨_, rfl⟩
  have o2 : c2.Ok := by rw [hc2]; exact ⟨o1.latch, o1.count, o1.pre, o1.hold, o1.ctl, by simp only; decide, by simp only; decide, by have := o1.beats; simp only [wb]; split <;> omega⟩
  have P2 : Hid _ := fun W (hA : At w0 W b c2) => pass_any c2 (n - c.wait) w0 W b o2 T hA (by omega) (by omega)
  rw [← hc2] at WT
  rw [← hc1] at PS
  rw [cw] at WT
  have AK : Hid _ := fun W (hA : At w0 W b c) => asks_any c w0 W b hA
  have TF : Hid _ := fun W (hA : At w0 W b c) => toF_any c w0 W b o T hA
  rw [hk] at AK
  rw [E]
  have w1 := o.wait.2
  have w2' := o.wait.1
  clear sf E hk mb rb
  generalize c.toF = k at *
  go_enter Tryd.func24, Tryd.ntmps24
  go_wp2_with (first
    | (go_at_call 26; refine (AK.out _ AH.out).mono ?_; rintro e wa ⟨rfl, rfl⟩)
    | (go_at_call 27; refine (TF.out _ AH.out).mono ?_; rintro e wb ⟨rfl, nb, rfl⟩)
    | (go_at_call 38; refine (PS.out _ ((AH.out).drews _)).mono ?_; rintro e wc ⟨rfl, A2⟩; clear PS)
    | (go_at_call 36; refine (WT.out _ A2).mono ?_; rintro e wd ⟨rfl, A3⟩; clear WT)
    | (go_at_call 38; refine (P2.out _ A3).mono ?_; rintro e we ⟨rfl, A4⟩))
  go_end0
  refine ⟨rfl, ?_⟩
  rw [hc2, hc1] at A4
  simp only [plc_zero, Int.zero_add] at A4
  exact A4
set_option maxHeartbeats 4000000 in
theorem advS_gy (c : Ck) (n : Int) (n0 : 1 ≤ n) (n1 : n ≤ 9223372036854775807) (w0 w : World) (b : Nat) (o : c.Ok) (T : Tabs w0) (A : At w0 w b c) (hw : 0 < c.wait) (hw2 : c.wait < n) (hk : c.asks = true) (hq : c.toF ≤ n) :
    Calls Tryd.prog 24 #[.pointer (some ⟨b, 0, none⟩), .int .i64 n] w fun e w' => e = .returned (.tuple #[]) ∧ At w0 w' b (c.advS n) := by
  obtain ⟨f0, f1, f2, f3, f4, f5, f6, f7, f8, f9, f10, f11, f12, ff⟩ := A.facts
  have AH : Hid _ := A
  clear A
  have sf : c.sF n = true := by unfold Ck.sF; rw [hk, decide_eq_true hq, Bool.and_true, Bool.or_true]
  have E := advS_g c n hw hw2
  rw [sf] at E
  have mn : ∀ (w : World), (Builtin.min_ #[3, 3] 3 #[.int .i64 n, .int .i64 c.wait]).run Tryd.prog w = .ok (.int .i64 c.wait) w := fun w => by
    rw [min2i, show min n c.wait = c.wait by omega]
  have ww := o.wait
  have os : Ck.Ok ({ c with frame := true } : Ck) := (⟨o.latch, o.count, o.pre, o.hold, o.ctl, o.at_, o.wait, o.beats⟩ : Ck.Ok { c with frame := true })
  have PS : Hid _ := fun W (hA : At w0 W b ({ c with frame := true } : Ck)) => pass_any ({ c with frame := true } : Ck) c.wait w0 W b os T hA (by omega) (by omega)
  have mb := mod_bd c.five (plc c.five c.at_ + c.wait)
  have rb := rdL_bd c.five
  obtain ⟨c1, hc1⟩ : ∃ c1 : Ck, c1 = { ({ c with frame := true } : Ck) with beats := (c.beats + cnt c.five (plc c.five c.at_) c.wait) % 64, at_ := (plc c.five c.at_ + c.wait) % rdL c.five } := ⟨_, rfl⟩
  have o1 : c1.Ok := by rw [hc1]; exact ⟨o.latch, o.count, o.pre, o.hold, o.ctl, ⟨by simp only; omega, by simp only; omega⟩, o.wait, ⟨by simp only; omega, by simp only; omega⟩⟩
  have cw : c1.wait = c.wait := by rw [hc1]
  have WT : Hid _ := fun W (hA : At w0 W b c1) => wait_last c1 w0 W b o1 hA (by omega)
  obtain ⟨c2, hc2⟩ : ∃ c2 : Ck, c2 = { c1 with wait := 0, at_ := 0, beats := wb c1.five c1.beats } := ⟨_, rfl⟩
  have o2 : c2.Ok := by rw [hc2]; exact ⟨o1.latch, o1.count, o1.pre, o1.hold, o1.ctl, by simp only; decide, by simp only; decide, by have := o1.beats; simp only [wb]; split <;> omega⟩
  have P2 : Hid _ := fun W (hA : At w0 W b c2) => pass_any c2 (n - c.wait) w0 W b o2 T hA (by omega) (by omega)
  rw [← hc2] at WT
  rw [← hc1] at PS
  rw [cw] at WT
  have AK : Hid _ := fun W (hA : At w0 W b c) => asks_any c w0 W b hA
  have TF : Hid _ := fun W (hA : At w0 W b c) => toF_any c w0 W b o T hA
  rw [hk] at AK
  rw [E]
  have w1 := o.wait.2
  have w2' := o.wait.1
  clear sf E hk mb rb
  generalize c.toF = k at *
  go_enter Tryd.func24, Tryd.ntmps24
  go_wp2_with (first
    | (go_at_call 26; refine (AK.out _ AH.out).mono ?_; rintro e wa ⟨rfl, rfl⟩)
    | (go_at_call 27; refine (TF.out _ AH.out).mono ?_; rintro e wb ⟨rfl, nb, rfl⟩)
    | (go_at_call 38; refine (PS.out _ (At.set (c' := ({ c with frame := true } : Ck)) ((AH.out).drews _) 9 (.bool (true)) rfl)).mono ?_; rintro e wc ⟨rfl, A2⟩; clear PS)
    | (go_at_call 36; refine (WT.out _ A2).mono ?_; rintro e wd ⟨rfl, A3⟩; clear WT)
    | (go_at_call 38; refine (P2.out _ A3).mono ?_; rintro e we ⟨rfl, A4⟩))
  go_end0
  refine ⟨rfl, ?_⟩
  rw [hc2, hc1] at A4
  simp only [plc_zero, Int.zero_add] at A4
  exact A4
end Go.Proofs.YtobiiogoofkmaaaDoor
