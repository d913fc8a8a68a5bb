/-
  The contracts of asksFrame, roundOf, placeOf, beat, times, beatsOf; conditions: the numbers fit their kinds.
-/
import Derived.Test.YtobiiogoofkmaaaDoorTToRun
set_option linter.unusedSimpArgs false
set_option linter.unusedVariables false
namespace Go.Proofs.YtobiiogoofkmaaaDoor
open Go.RowKit Classical
theorem Tab.c0 {w : World} {g : Nat} {a : Int} {l : List Int} (h : Tab w g (a :: l)) : w.cell? ⟨g, 0, none⟩ = some (.int .u16 a) := h 0 (by simp)
theorem Tab.c1 {w : World} {g : Nat} {a a' : Int} {l : List Int} (h : Tab w g (a :: a' :: l)) : w.cell? ⟨g, 1, none⟩ = some (.int .u16 a') := h 1 (by simp)
theorem Tab.c2 {w : World} {g : Nat} {a a' a2 : Int} {l : List Int} (h : Tab w g (a :: a' :: a2 :: l)) : w.cell? ⟨g, 2, none⟩ = some (.int .u16 a2) := h 2 (by simp)
theorem Tab.c3 {w : World} {g : Nat} {a a' a2 a3 : Int} {l : List Int} (h : Tab w g (a :: a' :: a2 :: a3 :: l)) : w.cell? ⟨g, 3, none⟩ = some (.int .u16 a3) := h 3 (by simp)
theorem At.alloc {w0 w : World} {b : Nat} {c : Ck} (h : At w0 w b c) (x : Obj) : At w0 (w.alloc x) b c := ⟨h.blk.old x, h.le, h.bel.alloc (h.bel.size) x, h.res.elim fun rc hr => ⟨rc, hr.old x⟩⟩
theorem asks_any (c : Ck) (w0 w : World) (b : Nat) (A : At w0 w b c) :
    Calls Tryd.prog 26 #[.pointer (some ⟨b, 0, none⟩)] w fun e w' => e = .returned (.bool c.asks) ∧ w' = w := by
  obtain ⟨f0, f1, f2, f3, f4, f5, f6, f7, f8, f9, f10, f11, f12, ff⟩ := A.facts
  clear A
  unfold Ck.asks
  cases h1 : c.five <;> cases h2 : c.inh
  all_goals
    rw [h1] at f7
    rw [h2] at f8
    clear h1 h2
    go_enter Tryd.func26, Tryd.ntmps26
    go_wp2
    go_ret
    exact ⟨rfl, rfl⟩
theorem round_any (c : Ck) (w0 w : World) (b : Nat) (T : Tabs w0) (A : At w0 w b c) :
    Calls Tryd.prog 35 #[.pointer (some ⟨b, 0, none⟩)] w fun e w' => e = .returned (.int .u16 (rdL c.five)) ∧ w' = w := by
  obtain ⟨f0, f1, f2, f3, f4, f5, f6, f7, f8, f9, f10, f11, f12, ff⟩ := A.facts
  have t0 := (T.on A.bel).rounds.c0
  have t1 := (T.on A.bel).rounds.c1
  clear A T
  unfold rdL
  cases h1 : c.five
  all_goals
    rw [h1] at f7
    clear h1
    go_enter Tryd.func35, Tryd.ntmps35
    go_wp2
    go_ret
    exact ⟨rfl, rfl⟩
theorem rdL_bd (five : Bool) : 29830 ≤ rdL five ∧ rdL five ≤ 37282 := by cases five <;> decide
theorem place_any (c : Ck) (w0 w : World) (b : Nat) (o : c.Ok) (T : Tabs w0) (A : At w0 w b c) :
    Calls Tryd.prog 39 #[.pointer (some ⟨b, 0, none⟩)] w fun e w' => e = .returned (.int .i64 (plc c.five c.at_)) ∧ ∃ n, w' = w.drewN n := by
  obtain ⟨f0, f1, f2, f3, f4, f5, f6, f7, f8, f9, f10, f11, f12, ff⟩ := A.facts
  have a0 := o.at_.1
  have a1 := o.at_.2
  have r0 := (rdL_bd c.five).1
  have r1 := (rdL_bd c.five).2
  have R : Hid _ := fun W (hA : At w0 W b c) => round_any c w0 W b T hA
  have AH : Hid _ := A
  clear A
  unfold plc
  by_cases h : rdL c.five ≤ c.at_
  · rw [if_pos h]
    generalize rdL c.five = k at *
    go_enter Tryd.func39, Tryd.ntmps39
    go_wp2
    go_quiet ((go_at_call 35; exact Calls.quiet_of_same (R.out _ (AH.out.drews _))))
    go_wp2
    go_ret
    exact ⟨rfl, _, rfl⟩
  · rw [if_neg h]
    generalize rdL c.five = k at *
    go_enter Tryd.func39, Tryd.ntmps39
    go_wp2
    go_quiet ((go_at_call 35; exact Calls.quiet_of_same (R.out _ (AH.out.drews _))))
    go_wp2
    go_ret
    exact ⟨rfl, _, rfl⟩
theorem beat_any (c : Ck) (n : Int) (w0 w : World) (b : Nat) (o : c.Ok) (A : At w0 w b c) (n0 : 0 ≤ n) (n1 : n ≤ 9223372036854775000) :
    Calls Tryd.prog 34 #[.pointer (some ⟨b, 0, none⟩), .int .i64 n] w fun e w' => e = .returned (.tuple #[]) ∧ At w0 w' b { c with beats := (c.beats + n) % 64 } := by
  obtain ⟨f0, f1, f2, f3, f4, f5, f6, f7, f8, f9, f10, f11, f12, ff⟩ := A.facts
  have a0 := o.beats.1
  have a1 := o.beats.2
  have AH : Hid _ := A
  clear A
  go_enter Tryd.func34, Tryd.ntmps34
  go_wp2
  go_end0
  exact ⟨rfl, (At.set (c' := ({ c with beats := (c.beats + n) % 64 } : Ck)) AH.out 12 (.int .u8 ((c.beats + n) % 64)) rfl)⟩
theorem times_any (n f r : Int) (w : World) (n0 : 0 ≤ n) (n1 : n ≤ 9223372036854775807) (f0 : 0 ≤ f) (f1 : f ≤ 100000) (r0 : 29830 ≤ r) (r1 : r ≤ 37282) :
    Calls Tryd.prog 44 #[.int .i64 n, .int .i64 f, .int .i64 r] w fun e w' => e = .returned (.int .i64 (times n f r)) ∧ w' = w := by
  unfold times
  by_cases h : n < f
  · rw [if_pos h]
    go_enter Tryd.func44, Tryd.ntmps44
    go_wp2
    go_ret
    exact ⟨rfl, rfl⟩
  · rw [if_neg h]
    have t1 : (n - f).tdiv r = (n - f) / r := Int.tdiv_eq_ediv_of_nonneg (by omega)
    have q0 : 0 ≤ (n - f) / r := Int.ediv_nonneg (by omega) (by omega)
    have q1 : (n - f) / r ≤ 400000000000000 := by
      have h1 := Int.ediv_mul_le (n - f) (show r ≠ 0 by omega)
      have h2 : (n - f) / r * 29830 ≤ (n - f) / r * r := Int.mul_le_mul_of_nonneg_left r0 q0
      omega
    have hz : (r == 0) = false := by simpa using (show ¬ r = 0 by omega)
    have t2 := t1
    generalize (n - f) / r = q at *
    go_enter Tryd.func44, Tryd.ntmps44
    go_wp2
    go_ret
    exact ⟨rfl, rfl⟩
theorem beatsOf_any (c : Ck) (w0 w : World) (b : Nat) (T : Tabs w0) (A : At w0 w b c) :
    Calls Tryd.prog 33 #[.pointer (some ⟨b, 0, none⟩)] w fun e w' => e = .returned (.agg #[.int .u16 7457, .int .u16 14913, .int .u16 22371, .int .u16 (lastM c.five)]) ∧ At w0 w' b c := by
  obtain ⟨f0, f1, f2, f3, f4, f5, f6, f7, f8, f9, f10, f11, f12, ff⟩ := A.facts
  have hT := T.on A.bel
  have t0 := hT.four.c0
  have t1 := hT.four.c1
  have t2 := hT.four.c2
  have t3 := hT.four.c3
  have s0 := hT.five.c0
  have s1 := hT.five.c1
  have s2 := hT.five.c2
  have s3 := hT.five.c3
  have g4 := cell_lt t0
  have g5 := cell_lt s0
  have hlt := A.blk.lt
  have AH : Hid _ := A
  clear A T hT
  unfold lastM
  cases h1 : c.five
  all_goals
    rw [h1] at f7
    clear h1
    go_enter Tryd.func33, Tryd.ntmps33
    go_wp2
    refine bodyPost_ret (by simp [results, Tryd.results33, go_sem]) rfl ⟨rfl, ?_⟩
    exact AH.out.alloc _
end Go.Proofs.YtobiiogoofkmaaaDoor
