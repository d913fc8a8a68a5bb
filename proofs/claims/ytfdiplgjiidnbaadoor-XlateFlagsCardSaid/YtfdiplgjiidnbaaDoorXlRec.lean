/-
  The contract of recipeOf of package xlate; conditions: its table lies in its variable.
-/
import Derived.Test.YtfdiplgjiidnbaaDoorXlPc
set_option linter.unusedSimpArgs false
set_option linter.unusedVariables false
namespace Go.Proofs.YtfdiplgjiidnbaaDoor
open Go.RowKit Classical
/-- The micro-ops of each kind, four a row. -/
def rcL : List Nat := [4, 0, 0, 0, 1, 2, 4, 0, 1, 4, 5, 0, 1, 2, 4, 5, 1, 2, 0, 0, 8, 0, 0, 0, 9, 0, 0, 0, 11, 0, 0, 0, 12, 0, 0, 0, 4, 6, 0, 0, 7, 4, 0, 0, 0, 0, 0, 0, 0, 0, 0, 0]
def Rtab (w : World) : Prop := ∀ i, i < 52 → w.cell? ⟨2, i, none⟩ = some (.int .u8 ((rcL.getD i 0 : Nat) : Int))
theorem Rtab.lt {w : World} (h : Rtab w) : 2 < w.heap.size := cell_lt (h 0 (by decide))
theorem Rtab.on {w w' : World} (h : Rtab w) (hb : Below w.heap.size w w') : Rtab w' := fun i hi => (hb.cell (p := ⟨2, i, none⟩) h.lt).trans (h i hi)
/-- The i-th micro-op of an instruction. -/
def rcp (md kd i : Nat) : Nat := if md = 2 then [3, 4, 0, 0].getD i 0 else if md = 11 then [10, 0, 0, 0].getD i 0 else rcL.getD (kd * 4 + i) 0
abbrev rcA (md kd : Nat) : Array Value := #[.int .u8 (rcp md kd 0 : Nat), .int .u8 (rcp md kd 1 : Nat), .int .u8 (rcp md kd 2 : Nat), .int .u8 (rcp md kd 3 : Nat)]
set_option maxRecDepth 100000 in
set_option maxHeartbeats 2000000 in
theorem recipe_any (op ln cy cl : Int) (md kd : Nat) (hk : kd < 13) (w : World) (R : Rtab w) :
    Calls Tryd.prog 46 #[.agg #[.int .i64 op, .int .i64 (md : Nat), .int .i64 (kd : Nat), .int .i64 ln, .int .i64 cy, .int .i64 cl]] w fun e w' => e = .returned (.agg (rcA md kd)) ∧ Below w.heap.size w w' := by
  have hb : ∀ (o p : Obj), Below w.heap.size w ((w.alloc o).alloc p) := fun o p => ((Below.refl _ _).alloc (Nat.le_refl _) _).alloc (by simp) _
  by_cases h2 : md = 2
  · subst h2
    clear R
    have e0 : rcp 2 kd 0 = 3 := rfl
    have e1 : rcp 2 kd 1 = 4 := rfl
    have e2 : rcp 2 kd 2 = 0 := rfl
    have e3 : rcp 2 kd 3 = 0 := rfl
    unfold rcA
    rw [e0, e1, e2, e3]
    clear e0 e1 e2 e3
    go_enter Tryd.func46, Tryd.ntmps46
    go_wp2
    exact bodyPost_ret (v := .agg #[.int .u8 3, .int .u8 4, .int .u8 0, .int .u8 0]) (by simp [results, Tryd.results46, go_sem]) rfl ⟨rfl, hb _ _⟩
  · by_cases h11 : md = 11
    · subst h11
      clear R
      have e0 : rcp 11 kd 0 = 10 := rfl
      have e1 : rcp 11 kd 1 = 0 := rfl
      have e2 : rcp 11 kd 2 = 0 := rfl
      have e3 : rcp 11 kd 3 = 0 := rfl
      unfold rcA
      rw [e0, e1, e2, e3]
      clear e0 e1 e2 e3
      go_enter Tryd.func46, Tryd.ntmps46
      go_wp2
      exact bodyPost_ret (v := .agg #[.int .u8 10, .int .u8 0, .int .u8 0, .int .u8 0]) (by simp [results, Tryd.results46, go_sem]) rfl ⟨rfl, hb _ _⟩
    · have t2 : ((md : Int) == 2) = false := by rw [beq_eq_false_iff_ne]; omega
      have t11 : ((md : Int) == 11) = false := by rw [beq_eq_false_iff_ne]; omega
      have e : ∀ i, rcp md kd i = rcL.getD (kd * 4 + i) 0 := fun i => by unfold rcp; rw [if_neg h2, if_neg h11]
      have hlt := R.lt
      have c0 := R (kd * 4) (by omega)
      have c1 := R (kd * 4 + 1) (by omega)
      have c2 := R (kd * 4 + 2) (by omega)
      have c3 := R (kd * 4 + 3) (by omega)
      have e0 : rcp md kd 0 = rcL.getD (kd * 4) 0 := e 0
      unfold rcA
      rw [e0, e 1, e 2, e 3]
      generalize rcL.getD (kd * 4) 0 = r0 at *
      generalize rcL.getD (kd * 4 + 1) 0 = r1 at *
      generalize rcL.getD (kd * 4 + 2) 0 = r2 at *
      generalize rcL.getD (kd * 4 + 3) 0 = r3 at *
      clear e e0 h2 h11 R
      have hk' : (kd : Int) < 13 := by omega
      go_enter Tryd.func46, Tryd.ntmps46
      go_wp2
      exact bodyPost_ret (v := .agg #[.int .u8 (r0 : Nat), .int .u8 (r1 : Nat), .int .u8 (r2 : Nat), .int .u8 (r3 : Nat)]) (by simp [results, Tryd.results46, go_sem]) rfl ⟨rfl, hb _ _⟩
end Go.Proofs.YtfdiplgjiidnbaaDoor
