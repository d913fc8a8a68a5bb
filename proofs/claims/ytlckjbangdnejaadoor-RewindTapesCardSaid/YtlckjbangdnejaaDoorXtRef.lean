/-
  The document's tape: NewTape, Len, whole, Back, At, and what a nil tape answers.
-/
import Derived.Test.YtlckjbangdnejaaDoorXtRefS
set_option linter.unusedSimpArgs false
set_option linter.unusedVariables false
namespace Go.Proofs.YtlckjbangdnejaaDoor
open Go.RowKit Classical
set_option maxRecDepth 100000 in
theorem whole_any (P : List Nat) (a : Option Addr) (n k : Nat) (hn : P.length = n) (hle : n ≤ 140737488351232) (w : World) (RP : Row w a P) :
    Calls Tryd.prog 53 #[.slice a n k] w fun e w' => ∃ v, e = .returned v ∧ Tx w' w.heap.size v P ∧ Below w.heap.size w w' := by
  have HN : Hid (P.length = n) := hn
  have HR : Hid (Row w a P) := RP
  have HT : Hid (Tx w w.heap.size (.slice none 0 0) []) := ⟨rfl, .inl ⟨rfl, rfl⟩⟩
  have HL : Hid (([] : List Nat).length + P.length ≤ 140737488500000) := by unfold Hid; rw [hn]; simp; omega
  have HB : Hid (Below w.heap.size w w) := Below.refl _ _
  clear hn RP
  go_enter Tryd.func53, Tryd.ntmps53
  go_upto_region 2 with fail
  go_upto_region 3 with (refine wpList_apW rfl _ _ rfl HT.out HB.out (Nat.le_refl _) rfl rfl HN.out HR.out HL.out ?_; intro v9 w5 T5 B5 hs5)
  rw [List.nil_append] at T5
  go_wp2
  go_ret
  exact ⟨_, rfl, T5, B5⟩
theorem dnew_bad (n : Int) (h : n < 1 ∨ 4096 < n) (w : World) :
    Calls Tryd.prog 22 #[.int .i64 n] w fun e w' => e = .returned (.tuple #[.pointer none, .int .i64 2]) ∧ w' = w := by
  by_cases h1 : n < 1
  · clear h
    go_enter Tryd.func22, Tryd.ntmps22
    go_wp2
    go_ret2
    exact ⟨rfl, rfl⟩
  · have h2 : 4096 < n := by omega
    clear h
    go_enter Tryd.func22, Tryd.ntmps22
    go_wp2
    go_ret2
    exact ⟨rfl, rfl⟩
theorem dnew_good (n : Nat) (h1 : 1 ≤ n) (h2 : n ≤ 4096) (w : World) :
    Calls Tryd.prog 22 #[.int .i64 n] w fun e w' => ∃ u, e = .returned (.tuple #[.pointer (some ⟨u, 0, none⟩), .int .i64 0]) ∧ Dt (Fp w w') u n [] w' ∧ Below w.heap.size w w' := by
  have q1 : ¬ (n : Int) < 1 := by omega
  have q2 : ¬ (4096 : Int) < (n : Int) := by omega
  go_enter Tryd.func22, Tryd.ntmps22
  go_wp2
  go_ret2
  refine ⟨w.heap.size, rfl, ⟨.slice none 0 0, [], ⟨Nat.le_refl _, by simp⟩, Blk.new w _ _, ⟨none, 0, rfl, fun _ => ⟨rfl, rfl⟩, fun p hp => by cases hp⟩, ⟨rfl, fun i hi => absurd hi (by simp)⟩, Nat.zero_le _, fun S hS => by cases hS⟩, (Below.refl _ _).alloc (Nat.le_refl _) _⟩
theorem dlen_any (FU : Nat → Prop) (u lim : Nat) (Os : List (List Nat)) (w : World) (h : Dt FU u lim Os w) :
    Calls Tryd.prog 24 #[.pointer (some ⟨u, 0, none⟩)] w fun e w' => e = .returned (.int .i64 (Os.length : Nat)) ∧ w' = w := by
  obtain ⟨v, es, hu, hB, ⟨a, c, rfl, -⟩, hE, -⟩ := h
  have c1 : w.cell? ⟨u, 1, none⟩ = some (.slice a es.length c) := hB.cell 1
  rw [← hE.1]
  clear hB hE
  generalize es.length = n at *
  go_enter Tryd.func24, Tryd.ntmps24
  go_wp2
  go_ret
  exact ⟨rfl, rfl⟩
theorem dback_empty (FU : Nat → Prop) (u lim : Nat) (w : World) (h : Dt FU u lim [] w) :
    Calls Tryd.prog 41 #[.pointer (some ⟨u, 0, none⟩)] w fun e w' => e = .returned (.tuple #[.slice none 0 0, .int .i64 171]) ∧ w' = w := by
  obtain ⟨v, es, hu, hB, ⟨a, c, rfl, -⟩, hE, -⟩ := h
  have c1 : w.cell? ⟨u, 1, none⟩ = some (.slice a es.length c) := hB.cell 1
  rw [hE.1] at c1
  simp only [List.length_nil] at c1
  clear hB hE
  go_enter Tryd.func41, Tryd.ntmps41
  go_wp2
  go_ret2
  exact ⟨rfl, rfl⟩
theorem dpush_nil (P : Value) (w : World) : Calls Tryd.prog 40 #[.pointer none, P] w fun e w' => e = .returned (.int .i64 0) ∧ w' = w := by
  go_enter Tryd.func40, Tryd.ntmps40
  go_wp2
  go_ret
  exact ⟨rfl, rfl⟩
theorem dback_nil (w : World) : Calls Tryd.prog 41 #[.pointer none] w fun e w' => e = .returned (.tuple #[.slice none 0 0, .int .i64 0]) ∧ w' = w := by
  go_enter Tryd.func41, Tryd.ntmps41
  go_wp2
  go_ret2
  exact ⟨rfl, rfl⟩
theorem dat_nil (i : Int) (w : World) : Calls Tryd.prog 42 #[.pointer none, .int .i64 i] w fun e w' => e = .returned (.tuple #[.slice none 0 0, .int .i64 0]) ∧ w' = w := by
  go_enter Tryd.func42, Tryd.ntmps42
  go_wp2
  go_ret2
  exact ⟨rfl, rfl⟩
theorem dlen_nil (w : World) : Calls Tryd.prog 24 #[.pointer none] w fun e w' => e = .returned (.int .i64 0) ∧ w' = w := by
  go_enter Tryd.func24, Tryd.ntmps24
  go_wp2
  go_ret
  exact ⟨rfl, rfl⟩
theorem dbytes_nil (w : World) : Calls Tryd.prog 25 #[.pointer none] w fun e w' => e = .returned (.int .i64 0) ∧ w' = w := by
  go_enter Tryd.func25, Tryd.ntmps25
  go_wp2
  go_ret
  exact ⟨rfl, rfl⟩
theorem at_nil (i : Int) (w : World) : Calls Tryd.prog 11 #[.pointer none, .int .i64 i] w fun e w' => e = .returned (.tuple #[.slice none 0 0, .int .i64 0]) ∧ w' = w := by
  go_enter Tryd.func11, Tryd.ntmps11
  go_wp2_with fail
  refine (none_nil w).mono ?_
  rintro e w1 ⟨rfl, rfl⟩
  go_wp2
  go_ret2
  exact ⟨rfl, rfl⟩
theorem len_nil (w : World) : Calls Tryd.prog 10 #[.pointer none] w fun e w' => e = .returned (.int .i64 0) ∧ w' = w := by
  go_enter Tryd.func10, Tryd.ntmps10
  go_wp2_with fail
  refine (none_nil w).mono ?_
  rintro e w1 ⟨rfl, rfl⟩
  go_wp2
  go_ret
  exact ⟨rfl, rfl⟩
theorem bytes_nil (w : World) : Calls Tryd.prog 13 #[.pointer none] w fun e w' => e = .returned (.int .i64 0) ∧ w' = w := by
  go_enter Tryd.func13, Tryd.ntmps13
  go_wp2_with fail
  refine (none_nil w).mono ?_
  rintro e w1 ⟨rfl, rfl⟩
  go_wp2
  go_ret
  exact ⟨rfl, rfl⟩
end Go.Proofs.YtlckjbangdnejaaDoor
