/-
  What cut answers of a list that has the place that is asked for, and of no list at all.
-/
import Derived.Test.YtecaipakaaongaaXvPort
set_option linter.unusedSimpArgs false
set_option linter.unusedVariables false
namespace Go.Proofs.Ytecaipakaaongaa
open Go.RowKit Classical
theorem vmin2i {P : Program} (w : World) (ats : Array TypeId) (ty : TypeId) (a b : Int) : (Builtin.min_ ats ty #[.int .i64 a, .int .i64 b]).run P w = .ok (.int .i64 (min a b)) w := by
  unfold Builtin.min_
  simp only [List.foldlM_cons, List.foldlM_nil, Builtin.min2, Sem.run_bind, Sem.run_pure, Result.andThen_ok]
  rw [show (if b < a then b else a) = min a b by omega]
set_option maxRecDepth 100000 in
set_option maxHeartbeats 1000000 in
theorem cut_any (b o L C i n e : Nat) (hL : L ≤ C) (hC : C ≤ 8192) (hi : i < L) (hn : 0 < n) (hn2 : n ≤ 8192) (he : e = min (i + n) L) (w : World) :
    Calls Try.prog 48 #[.slice (some ⟨b, o, none⟩) L C, .int .i64 (i : Nat), .int .i64 (n : Nat)] w fun x w' => x = .returned (.slice (some ⟨b, o + i, none⟩) (e - i) (e - i)) ∧ w' = w := by
  obtain ⟨s, hs⟩ : ∃ s, s = i + n := ⟨_, rfl⟩
  have e1 : (i : Int) + (n : Int) = (s : Int) := by omega
  have m1 : ∀ w : World, (Builtin.min_ #[3, 3] 3 #[.int .i64 (s : Nat), .int .i64 (L : Nat)]).run Try.prog w = .ok (.int .i64 (e : Nat)) w := fun w => by
    rw [vmin2i, show min (s : Int) (L : Nat) = (e : Nat) by omega]
  have m2 : ∀ w : World, (Builtin.min_ #[3, 3] 3 #[.int .i64 (i : Nat), .int .i64 (e : Nat)]).run Try.prog w = .ok (.int .i64 (i : Nat)) w := fun w => by
    rw [vmin2i, show min (i : Int) (e : Nat) = (i : Nat) by omega]
  have s1 : s < 20000 := by omega
  have ie : i < e := by omega
  have ie2 : (i : Int) ≤ (e : Int) := by omega
  have eC : (e : Int) ≤ (C : Int) := by omega
  have eL : e ≤ C := by omega
  have n0 : ¬ e - i = 0 := by omega
  have n1 : ¬ e = i := by omega
  have n2 : ¬ C = i := by omega
  clear he hs hi hn hn2 hL
  go_enter Try.func48, Try.ntmps48
  go_wp2
  go_ret
  exact ⟨rfl, rfl⟩
set_option maxRecDepth 100000 in
set_option maxHeartbeats 1000000 in
theorem cut_nil (i n : Nat) (hi : i ≤ 1099511627776) (hn2 : n ≤ 8192) (w : World) :
    Calls Try.prog 48 #[.slice none 0 0, .int .i64 (i : Nat), .int .i64 (n : Nat)] w fun x w' => x = .returned (.slice none 0 0) ∧ w' = w := by
  obtain ⟨s, hs⟩ : ∃ s, s = i + n := ⟨_, rfl⟩
  have e1 : (i : Int) + (n : Int) = (s : Int) := by omega
  have s1 : s < 1099511648000 := by omega
  have m1 : ∀ w : World, (Builtin.min_ #[3, 3] 3 #[.int .i64 (s : Nat), .int .i64 0]).run Try.prog w = .ok (.int .i64 0) w := fun w => by
    rw [vmin2i, show min (s : Int) 0 = 0 by omega]
  have m2 : ∀ w : World, (Builtin.min_ #[3, 3] 3 #[.int .i64 (i : Nat), .int .i64 0]).run Try.prog w = .ok (.int .i64 0) w := fun w => by
    rw [vmin2i, show min (i : Int) 0 = 0 by omega]
  clear hs
  go_enter Try.func48, Try.ntmps48
  go_wp2
  go_ret
  exact ⟨rfl, rfl⟩
end Go.Proofs.Ytecaipakaaongaa
