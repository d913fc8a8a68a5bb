/-
  What the methods of package isa's run do: reach, branch, plain, rest; conditions: the run lies in its block and has room.
-/
import Derived.Test.YtfdiplgjiidnbaaDoorIAdd
import Derived.Test.YtfdiplgjiidnbaaDoorIRunP
set_option linter.unusedSimpArgs false
set_option linter.unusedVariables false
namespace Go.Proofs.YtfdiplgjiidnbaaDoor
open Go.RowKit
theorem add_new {l m : List Nat} {b : Nat} {w0 w : World} {B : Nat} (hR : Blk w b (runC l).toArray 68) (hb : Below B w0 w) (hB : B ≤ b) (hlm : l.length + m.length ≤ 8) (hm : 0 < m.length) :
    Calls Tryd.prog 53 #[.pointer (some ⟨b, 0, none⟩), .slice (some ⟨w.heap.size, 0, none⟩) m.length m.length] (w.alloc (.cells (ints m).toArray 65)) fun e w' => e = .returned (.tuple #[]) ∧ Blk w' b (runC (l ++ m)).toArray 68 ∧ Below B w0 w' := by
  have hlt := hR.lt
  exact add_any l m hlm hm b w.heap.size w0 (w.alloc (.cells (ints m).toArray 65)) B hB (hb.alloc (by omega) _) (hR.old _) (Blk.new w _ _) (by omega)
theorem reach_0_true (l : List Nat) (b : Nat) (w0 w : World) (B : Nat) (hB : B ≤ b) (hb : Below B w0 w) (hR : Blk w b (runC l).toArray 68) (hl : l.length + 5 ≤ 8) :
    Calls Tryd.prog 54 #[.pointer (some ⟨b, 0, none⟩), .int .i64 0, .bool true] w fun e w' => e = .returned (.tuple #[]) ∧ Blk w' b (runC (l ++ rchL 0 true)).toArray 68 ∧ Below B w0 w' := by
  rw [show rchL 0 true = [1] by rfl]
  go_enter Tryd.func54, Tryd.ntmps54
  go_wp2_with fail
  refine (add_new (m := [1]) hR hb hB (by simp; omega) (by simp)).mono ?_
  rintro e w1 ⟨rfl, hR1, hb1⟩
  go_wp2_with fail
  go_end0
  exact ⟨rfl, by simpa only [List.append_assoc, List.append_nil, List.nil_append, List.cons_append] using hR1, hb1⟩
theorem reach_0_false (l : List Nat) (b : Nat) (w0 w : World) (B : Nat) (hB : B ≤ b) (hb : Below B w0 w) (hR : Blk w b (runC l).toArray 68) (hl : l.length + 5 ≤ 8) :
    Calls Tryd.prog 54 #[.pointer (some ⟨b, 0, none⟩), .int .i64 0, .bool false] w fun e w' => e = .returned (.tuple #[]) ∧ Blk w' b (runC (l ++ rchL 0 false)).toArray 68 ∧ Below B w0 w' := by
  rw [show rchL 0 false = [1] by rfl]
  go_enter Tryd.func54, Tryd.ntmps54
  go_wp2_with fail
  refine (add_new (m := [1]) hR hb hB (by simp; omega) (by simp)).mono ?_
  rintro e w1 ⟨rfl, hR1, hb1⟩
  go_wp2_with fail
  go_end0
  exact ⟨rfl, by simpa only [List.append_assoc, List.append_nil, List.nil_append, List.cons_append] using hR1, hb1⟩
theorem reach_1_true (l : List Nat) (b : Nat) (w0 w : World) (B : Nat) (hB : B ≤ b) (hb : Below B w0 w) (hR : Blk w b (runC l).toArray 68) (hl : l.length + 5 ≤ 8) :
    Calls Tryd.prog 54 #[.pointer (some ⟨b, 0, none⟩), .int .i64 1, .bool true] w fun e w' => e = .returned (.tuple #[]) ∧ Blk w' b (runC (l ++ rchL 1 true)).toArray 68 ∧ Below B w0 w' := by
  rw [show rchL 1 true = [1] by rfl]
  go_enter Tryd.func54, Tryd.ntmps54
  go_wp2_with fail
  refine (add_new (m := [1]) hR hb hB (by simp; omega) (by simp)).mono ?_
  rintro e w1 ⟨rfl, hR1, hb1⟩
  go_wp2_with fail
  go_end0
  exact ⟨rfl, by simpa only [List.append_assoc, List.append_nil, List.nil_append, List.cons_append] using hR1, hb1⟩
theorem reach_1_false (l : List Nat) (b : Nat) (w0 w : World) (B : Nat) (hB : B ≤ b) (hb : Below B w0 w) (hR : Blk w b (runC l).toArray 68) (hl : l.length + 5 ≤ 8) :
    Calls Tryd.prog 54 #[.pointer (some ⟨b, 0, none⟩), .int .i64 1, .bool false] w fun e w' => e = .returned (.tuple #[]) ∧ Blk w' b (runC (l ++ rchL 1 false)).toArray 68 ∧ Below B w0 w' := by
  rw [show rchL 1 false = [1] by rfl]
  go_enter Tryd.func54, Tryd.ntmps54
  go_wp2_with fail
  refine (add_new (m := [1]) hR hb hB (by simp; omega) (by simp)).mono ?_
  rintro e w1 ⟨rfl, hR1, hb1⟩
  go_wp2_with fail
  go_end0
  exact ⟨rfl, by simpa only [List.append_assoc, List.append_nil, List.nil_append, List.cons_append] using hR1, hb1⟩
theorem reach_2_true (l : List Nat) (b : Nat) (w0 w : World) (B : Nat) (hB : B ≤ b) (hb : Below B w0 w) (hR : Blk w b (runC l).toArray 68) (hl : l.length + 5 ≤ 8) :
    Calls Tryd.prog 54 #[.pointer (some ⟨b, 0, none⟩), .int .i64 2, .bool true] w fun e w' => e = .returned (.tuple #[]) ∧ Blk w' b (runC (l ++ rchL 2 true)).toArray 68 ∧ Below B w0 w' := by
  rw [show rchL 2 true = [1] by rfl]
  go_enter Tryd.func54, Tryd.ntmps54
  go_wp2_with fail
  refine (add_new (m := [1]) hR hb hB (by simp; omega) (by simp)).mono ?_
  rintro e w1 ⟨rfl, hR1, hb1⟩
  go_wp2_with fail
  go_end0
  exact ⟨rfl, by simpa only [List.append_assoc, List.append_nil, List.nil_append, List.cons_append] using hR1, hb1⟩
theorem reach_2_false (l : List Nat) (b : Nat) (w0 w : World) (B : Nat) (hB : B ≤ b) (hb : Below B w0 w) (hR : Blk w b (runC l).toArray 68) (hl : l.length + 5 ≤ 8) :
    Calls Tryd.prog 54 #[.pointer (some ⟨b, 0, none⟩), .int .i64 2, .bool false] w fun e w' => e = .returned (.tuple #[]) ∧ Blk w' b (runC (l ++ rchL 2 false)).toArray 68 ∧ Below B w0 w' := by
  rw [show rchL 2 false = [1] by rfl]
  go_enter Tryd.func54, Tryd.ntmps54
  go_wp2_with fail
  refine (add_new (m := [1]) hR hb hB (by simp; omega) (by simp)).mono ?_
  rintro e w1 ⟨rfl, hR1, hb1⟩
  go_wp2_with fail
  go_end0
  exact ⟨rfl, by simpa only [List.append_assoc, List.append_nil, List.nil_append, List.cons_append] using hR1, hb1⟩
theorem reach_3_true (l : List Nat) (b : Nat) (w0 w : World) (B : Nat) (hB : B ≤ b) (hb : Below B w0 w) (hR : Blk w b (runC l).toArray 68) (hl : l.length + 5 ≤ 8) :
    Calls Tryd.prog 54 #[.pointer (some ⟨b, 0, none⟩), .int .i64 3, .bool true] w fun e w' => e = .returned (.tuple #[]) ∧ Blk w' b (runC (l ++ rchL 3 true)).toArray 68 ∧ Below B w0 w' := by
  rw [show rchL 3 true = [1] by rfl]
  go_enter Tryd.func54, Tryd.ntmps54
  go_wp2_with fail
  refine (add_new (m := [1]) hR hb hB (by simp; omega) (by simp)).mono ?_
  rintro e w1 ⟨rfl, hR1, hb1⟩
  go_wp2_with fail
  go_end0
  exact ⟨rfl, by simpa only [List.append_assoc, List.append_nil, List.nil_append, List.cons_append] using hR1, hb1⟩
theorem reach_3_false (l : List Nat) (b : Nat) (w0 w : World) (B : Nat) (hB : B ≤ b) (hb : Below B w0 w) (hR : Blk w b (runC l).toArray 68) (hl : l.length + 5 ≤ 8) :
    Calls Tryd.prog 54 #[.pointer (some ⟨b, 0, none⟩), .int .i64 3, .bool false] w fun e w' => e = .returned (.tuple #[]) ∧ Blk w' b (runC (l ++ rchL 3 false)).toArray 68 ∧ Below B w0 w' := by
  rw [show rchL 3 false = [1] by rfl]
  go_enter Tryd.func54, Tryd.ntmps54
  go_wp2_with fail
  refine (add_new (m := [1]) hR hb hB (by simp; omega) (by simp)).mono ?_
  rintro e w1 ⟨rfl, hR1, hb1⟩
  go_wp2_with fail
  go_end0
  exact ⟨rfl, by simpa only [List.append_assoc, List.append_nil, List.nil_append, List.cons_append] using hR1, hb1⟩
theorem reach_4_true (l : List Nat) (b : Nat) (w0 w : World) (B : Nat) (hB : B ≤ b) (hb : Below B w0 w) (hR : Blk w b (runC l).toArray 68) (hl : l.length + 5 ≤ 8) :
    Calls Tryd.prog 54 #[.pointer (some ⟨b, 0, none⟩), .int .i64 4, .bool true] w fun e w' => e = .returned (.tuple #[]) ∧ Blk w' b (runC (l ++ rchL 4 true)).toArray 68 ∧ Below B w0 w' := by
  rw [show rchL 4 true = [1] ++ [3] by rfl]
  go_enter Tryd.func54, Tryd.ntmps54
  go_wp2_with fail
  refine (add_new (m := [1]) hR hb hB (by simp; omega) (by simp)).mono ?_
  rintro e w1 ⟨rfl, hR1, hb1⟩
  go_wp2_with fail
  refine (add_new (m := [3]) hR1 hb1 hB (by simp; omega) (by simp)).mono ?_
  rintro e w2 ⟨rfl, hR2, hb2⟩
  go_wp2_with fail
  go_end0
  exact ⟨rfl, by simpa only [List.append_assoc, List.append_nil, List.nil_append, List.cons_append] using hR2, hb2⟩
theorem reach_4_false (l : List Nat) (b : Nat) (w0 w : World) (B : Nat) (hB : B ≤ b) (hb : Below B w0 w) (hR : Blk w b (runC l).toArray 68) (hl : l.length + 5 ≤ 8) :
    Calls Tryd.prog 54 #[.pointer (some ⟨b, 0, none⟩), .int .i64 4, .bool false] w fun e w' => e = .returned (.tuple #[]) ∧ Blk w' b (runC (l ++ rchL 4 false)).toArray 68 ∧ Below B w0 w' := by
  rw [show rchL 4 false = [1] ++ [3] by rfl]
  go_enter Tryd.func54, Tryd.ntmps54
  go_wp2_with fail
  refine (add_new (m := [1]) hR hb hB (by simp; omega) (by simp)).mono ?_
  rintro e w1 ⟨rfl, hR1, hb1⟩
  go_wp2_with fail
  refine (add_new (m := [3]) hR1 hb1 hB (by simp; omega) (by simp)).mono ?_
  rintro e w2 ⟨rfl, hR2, hb2⟩
  go_wp2_with fail
  go_end0
  exact ⟨rfl, by simpa only [List.append_assoc, List.append_nil, List.nil_append, List.cons_append] using hR2, hb2⟩
theorem reach_5_true (l : List Nat) (b : Nat) (w0 w : World) (B : Nat) (hB : B ≤ b) (hb : Below B w0 w) (hR : Blk w b (runC l).toArray 68) (hl : l.length + 5 ≤ 8) :
    Calls Tryd.prog 54 #[.pointer (some ⟨b, 0, none⟩), .int .i64 5, .bool true] w fun e w' => e = .returned (.tuple #[]) ∧ Blk w' b (runC (l ++ rchL 5 true)).toArray 68 ∧ Below B w0 w' := by
  rw [show rchL 5 true = [1] ++ [3] by rfl]
  go_enter Tryd.func54, Tryd.ntmps54
  go_wp2_with fail
  refine (add_new (m := [1]) hR hb hB (by simp; omega) (by simp)).mono ?_
  rintro e w1 ⟨rfl, hR1, hb1⟩
  go_wp2_with fail
  refine (add_new (m := [3]) hR1 hb1 hB (by simp; omega) (by simp)).mono ?_
  rintro e w2 ⟨rfl, hR2, hb2⟩
  go_wp2_with fail
  go_end0
  exact ⟨rfl, by simpa only [List.append_assoc, List.append_nil, List.nil_append, List.cons_append] using hR2, hb2⟩
theorem reach_5_false (l : List Nat) (b : Nat) (w0 w : World) (B : Nat) (hB : B ≤ b) (hb : Below B w0 w) (hR : Blk w b (runC l).toArray 68) (hl : l.length + 5 ≤ 8) :
    Calls Tryd.prog 54 #[.pointer (some ⟨b, 0, none⟩), .int .i64 5, .bool false] w fun e w' => e = .returned (.tuple #[]) ∧ Blk w' b (runC (l ++ rchL 5 false)).toArray 68 ∧ Below B w0 w' := by
  rw [show rchL 5 false = [1] ++ [3] by rfl]
  go_enter Tryd.func54, Tryd.ntmps54
  go_wp2_with fail
  refine (add_new (m := [1]) hR hb hB (by simp; omega) (by simp)).mono ?_
  rintro e w1 ⟨rfl, hR1, hb1⟩
  go_wp2_with fail
  refine (add_new (m := [3]) hR1 hb1 hB (by simp; omega) (by simp)).mono ?_
  rintro e w2 ⟨rfl, hR2, hb2⟩
  go_wp2_with fail
  go_end0
  exact ⟨rfl, by simpa only [List.append_assoc, List.append_nil, List.nil_append, List.cons_append] using hR2, hb2⟩
theorem reach_6_true (l : List Nat) (b : Nat) (w0 w : World) (B : Nat) (hB : B ≤ b) (hb : Below B w0 w) (hR : Blk w b (runC l).toArray 68) (hl : l.length + 5 ≤ 8) :
    Calls Tryd.prog 54 #[.pointer (some ⟨b, 0, none⟩), .int .i64 6, .bool true] w fun e w' => e = .returned (.tuple #[]) ∧ Blk w' b (runC (l ++ rchL 6 true)).toArray 68 ∧ Below B w0 w' := by
  rw [show rchL 6 true = [1] ++ [3, 4, 5] by rfl]
  go_enter Tryd.func54, Tryd.ntmps54
  go_wp2_with fail
  refine (add_new (m := [1]) hR hb hB (by simp; omega) (by simp)).mono ?_
  rintro e w1 ⟨rfl, hR1, hb1⟩
  go_wp2_with fail
  refine (add_new (m := [3, 4, 5]) hR1 hb1 hB (by simp; omega) (by simp)).mono ?_
  rintro e w2 ⟨rfl, hR2, hb2⟩
  go_wp2_with fail
  go_end0
  exact ⟨rfl, by simpa only [List.append_assoc, List.append_nil, List.nil_append, List.cons_append] using hR2, hb2⟩
theorem reach_6_false (l : List Nat) (b : Nat) (w0 w : World) (B : Nat) (hB : B ≤ b) (hb : Below B w0 w) (hR : Blk w b (runC l).toArray 68) (hl : l.length + 5 ≤ 8) :
    Calls Tryd.prog 54 #[.pointer (some ⟨b, 0, none⟩), .int .i64 6, .bool false] w fun e w' => e = .returned (.tuple #[]) ∧ Blk w' b (runC (l ++ rchL 6 false)).toArray 68 ∧ Below B w0 w' := by
  rw [show rchL 6 false = [1] ++ [3, 4, 5] by rfl]
  go_enter Tryd.func54, Tryd.ntmps54
  go_wp2_with fail
  refine (add_new (m := [1]) hR hb hB (by simp; omega) (by simp)).mono ?_
  rintro e w1 ⟨rfl, hR1, hb1⟩
  go_wp2_with fail
  refine (add_new (m := [3, 4, 5]) hR1 hb1 hB (by simp; omega) (by simp)).mono ?_
  rintro e w2 ⟨rfl, hR2, hb2⟩
  go_wp2_with fail
  go_end0
  exact ⟨rfl, by simpa only [List.append_assoc, List.append_nil, List.nil_append, List.cons_append] using hR2, hb2⟩
theorem reach_7_true (l : List Nat) (b : Nat) (w0 w : World) (B : Nat) (hB : B ≤ b) (hb : Below B w0 w) (hR : Blk w b (runC l).toArray 68) (hl : l.length + 5 ≤ 8) :
    Calls Tryd.prog 54 #[.pointer (some ⟨b, 0, none⟩), .int .i64 7, .bool true] w fun e w' => e = .returned (.tuple #[]) ∧ Blk w' b (runC (l ++ rchL 7 true)).toArray 68 ∧ Below B w0 w' := by
  rw [show rchL 7 true = [1] ++ [4, 5] ++ [6] by rfl]
  go_enter Tryd.func54, Tryd.ntmps54
  go_wp2_with fail
  refine (add_new (m := [1]) hR hb hB (by simp; omega) (by simp)).mono ?_
  rintro e w1 ⟨rfl, hR1, hb1⟩
  go_wp2_with fail
  refine (add_new (m := [4, 5]) hR1 hb1 hB (by simp; omega) (by simp)).mono ?_
  rintro e w2 ⟨rfl, hR2, hb2⟩
  go_wp2_with fail
  refine (add_new (m := [6]) hR2 hb2 hB (by simp; omega) (by simp)).mono ?_
  rintro e w3 ⟨rfl, hR3, hb3⟩
  go_wp2_with fail
  go_end0
  exact ⟨rfl, by simpa only [List.append_assoc, List.append_nil, List.nil_append, List.cons_append] using hR3, hb3⟩
theorem reach_7_false (l : List Nat) (b : Nat) (w0 w : World) (B : Nat) (hB : B ≤ b) (hb : Below B w0 w) (hR : Blk w b (runC l).toArray 68) (hl : l.length + 5 ≤ 8) :
    Calls Tryd.prog 54 #[.pointer (some ⟨b, 0, none⟩), .int .i64 7, .bool false] w fun e w' => e = .returned (.tuple #[]) ∧ Blk w' b (runC (l ++ rchL 7 false)).toArray 68 ∧ Below B w0 w' := by
  rw [show rchL 7 false = [1] ++ [4, 5] by rfl]
  go_enter Tryd.func54, Tryd.ntmps54
  go_wp2_with fail
  refine (add_new (m := [1]) hR hb hB (by simp; omega) (by simp)).mono ?_
  rintro e w1 ⟨rfl, hR1, hb1⟩
  go_wp2_with fail
  refine (add_new (m := [4, 5]) hR1 hb1 hB (by simp; omega) (by simp)).mono ?_
  rintro e w2 ⟨rfl, hR2, hb2⟩
  go_wp2_with fail
  go_end0
  exact ⟨rfl, by simpa only [List.append_assoc, List.append_nil, List.nil_append, List.cons_append] using hR2, hb2⟩
theorem reach_8_true (l : List Nat) (b : Nat) (w0 w : World) (B : Nat) (hB : B ≤ b) (hb : Below B w0 w) (hR : Blk w b (runC l).toArray 68) (hl : l.length + 5 ≤ 8) :
    Calls Tryd.prog 54 #[.pointer (some ⟨b, 0, none⟩), .int .i64 8, .bool true] w fun e w' => e = .returned (.tuple #[]) ∧ Blk w' b (runC (l ++ rchL 8 true)).toArray 68 ∧ Below B w0 w' := by
  rw [show rchL 8 true = [1] ++ [1] by rfl]
  go_enter Tryd.func54, Tryd.ntmps54
  go_wp2_with fail
  refine (add_new (m := [1]) hR hb hB (by simp; omega) (by simp)).mono ?_
  rintro e w1 ⟨rfl, hR1, hb1⟩
  go_wp2_with fail
  refine (add_new (m := [1]) hR1 hb1 hB (by simp; omega) (by simp)).mono ?_
  rintro e w2 ⟨rfl, hR2, hb2⟩
  go_wp2_with fail
  go_end0
  exact ⟨rfl, by simpa only [List.append_assoc, List.append_nil, List.nil_append, List.cons_append] using hR2, hb2⟩
theorem reach_8_false (l : List Nat) (b : Nat) (w0 w : World) (B : Nat) (hB : B ≤ b) (hb : Below B w0 w) (hR : Blk w b (runC l).toArray 68) (hl : l.length + 5 ≤ 8) :
    Calls Tryd.prog 54 #[.pointer (some ⟨b, 0, none⟩), .int .i64 8, .bool false] w fun e w' => e = .returned (.tuple #[]) ∧ Blk w' b (runC (l ++ rchL 8 false)).toArray 68 ∧ Below B w0 w' := by
  rw [show rchL 8 false = [1] ++ [1] by rfl]
  go_enter Tryd.func54, Tryd.ntmps54
  go_wp2_with fail
  refine (add_new (m := [1]) hR hb hB (by simp; omega) (by simp)).mono ?_
  rintro e w1 ⟨rfl, hR1, hb1⟩
  go_wp2_with fail
  refine (add_new (m := [1]) hR1 hb1 hB (by simp; omega) (by simp)).mono ?_
  rintro e w2 ⟨rfl, hR2, hb2⟩
  go_wp2_with fail
  go_end0
  exact ⟨rfl, by simpa only [List.append_assoc, List.append_nil, List.nil_append, List.cons_append] using hR2, hb2⟩
theorem reach_9_true (l : List Nat) (b : Nat) (w0 w : World) (B : Nat) (hB : B ≤ b) (hb : Below B w0 w) (hR : Blk w b (runC l).toArray 68) (hl : l.length + 5 ≤ 8) :
    Calls Tryd.prog 54 #[.pointer (some ⟨b, 0, none⟩), .int .i64 9, .bool true] w fun e w' => e = .returned (.tuple #[]) ∧ Blk w' b (runC (l ++ rchL 9 true)).toArray 68 ∧ Below B w0 w' := by
  rw [show rchL 9 true = [1] ++ [1] ++ [6] by rfl]
  go_enter Tryd.func54, Tryd.ntmps54
  go_wp2_with fail
  refine (add_new (m := [1]) hR hb hB (by simp; omega) (by simp)).mono ?_
  rintro e w1 ⟨rfl, hR1, hb1⟩
  go_wp2_with fail
  refine (add_new (m := [1]) hR1 hb1 hB (by simp; omega) (by simp)).mono ?_
  rintro e w2 ⟨rfl, hR2, hb2⟩
  go_wp2_with fail
  refine (add_new (m := [6]) hR2 hb2 hB (by simp; omega) (by simp)).mono ?_
  rintro e w3 ⟨rfl, hR3, hb3⟩
  go_wp2_with fail
  go_end0
  exact ⟨rfl, by simpa only [List.append_assoc, List.append_nil, List.nil_append, List.cons_append] using hR3, hb3⟩
theorem reach_9_false (l : List Nat) (b : Nat) (w0 w : World) (B : Nat) (hB : B ≤ b) (hb : Below B w0 w) (hR : Blk w b (runC l).toArray 68) (hl : l.length + 5 ≤ 8) :
    Calls Tryd.prog 54 #[.pointer (some ⟨b, 0, none⟩), .int .i64 9, .bool false] w fun e w' => e = .returned (.tuple #[]) ∧ Blk w' b (runC (l ++ rchL 9 false)).toArray 68 ∧ Below B w0 w' := by
  rw [show rchL 9 false = [1] ++ [1] by rfl]
  go_enter Tryd.func54, Tryd.ntmps54
  go_wp2_with fail
  refine (add_new (m := [1]) hR hb hB (by simp; omega) (by simp)).mono ?_
  rintro e w1 ⟨rfl, hR1, hb1⟩
  go_wp2_with fail
  refine (add_new (m := [1]) hR1 hb1 hB (by simp; omega) (by simp)).mono ?_
  rintro e w2 ⟨rfl, hR2, hb2⟩
  go_wp2_with fail
  go_end0
  exact ⟨rfl, by simpa only [List.append_assoc, List.append_nil, List.nil_append, List.cons_append] using hR2, hb2⟩
theorem reach_10_true (l : List Nat) (b : Nat) (w0 w : World) (B : Nat) (hB : B ≤ b) (hb : Below B w0 w) (hR : Blk w b (runC l).toArray 68) (hl : l.length + 5 ≤ 8) :
    Calls Tryd.prog 54 #[.pointer (some ⟨b, 0, none⟩), .int .i64 10, .bool true] w fun e w' => e = .returned (.tuple #[]) ∧ Blk w' b (runC (l ++ rchL 10 true)).toArray 68 ∧ Below B w0 w' := by
  rw [show rchL 10 true = [1] ++ [1] ++ [6] by rfl]
  go_enter Tryd.func54, Tryd.ntmps54
  go_wp2_with fail
  refine (add_new (m := [1]) hR hb hB (by simp; omega) (by simp)).mono ?_
  rintro e w1 ⟨rfl, hR1, hb1⟩
  go_wp2_with fail
  refine (add_new (m := [1]) hR1 hb1 hB (by simp; omega) (by simp)).mono ?_
  rintro e w2 ⟨rfl, hR2, hb2⟩
  go_wp2_with fail
  refine (add_new (m := [6]) hR2 hb2 hB (by simp; omega) (by simp)).mono ?_
  rintro e w3 ⟨rfl, hR3, hb3⟩
  go_wp2_with fail
  go_end0
  exact ⟨rfl, by simpa only [List.append_assoc, List.append_nil, List.nil_append, List.cons_append] using hR3, hb3⟩
theorem reach_10_false (l : List Nat) (b : Nat) (w0 w : World) (B : Nat) (hB : B ≤ b) (hb : Below B w0 w) (hR : Blk w b (runC l).toArray 68) (hl : l.length + 5 ≤ 8) :
    Calls Tryd.prog 54 #[.pointer (some ⟨b, 0, none⟩), .int .i64 10, .bool false] w fun e w' => e = .returned (.tuple #[]) ∧ Blk w' b (runC (l ++ rchL 10 false)).toArray 68 ∧ Below B w0 w' := by
  rw [show rchL 10 false = [1] ++ [1] by rfl]
  go_enter Tryd.func54, Tryd.ntmps54
  go_wp2_with fail
  refine (add_new (m := [1]) hR hb hB (by simp; omega) (by simp)).mono ?_
  rintro e w1 ⟨rfl, hR1, hb1⟩
  go_wp2_with fail
  refine (add_new (m := [1]) hR1 hb1 hB (by simp; omega) (by simp)).mono ?_
  rintro e w2 ⟨rfl, hR2, hb2⟩
  go_wp2_with fail
  go_end0
  exact ⟨rfl, by simpa only [List.append_assoc, List.append_nil, List.nil_append, List.cons_append] using hR2, hb2⟩
theorem reach_11_true (l : List Nat) (b : Nat) (w0 w : World) (B : Nat) (hB : B ≤ b) (hb : Below B w0 w) (hR : Blk w b (runC l).toArray 68) (hl : l.length + 5 ≤ 8) :
    Calls Tryd.prog 54 #[.pointer (some ⟨b, 0, none⟩), .int .i64 11, .bool true] w fun e w' => e = .returned (.tuple #[]) ∧ Blk w' b (runC (l ++ rchL 11 true)).toArray 68 ∧ Below B w0 w' := by
  rw [show rchL 11 true = [1] by rfl]
  go_enter Tryd.func54, Tryd.ntmps54
  go_wp2_with fail
  refine (add_new (m := [1]) hR hb hB (by simp; omega) (by simp)).mono ?_
  rintro e w1 ⟨rfl, hR1, hb1⟩
  go_wp2_with fail
  go_end0
  exact ⟨rfl, by simpa only [List.append_assoc, List.append_nil, List.nil_append, List.cons_append] using hR1, hb1⟩
theorem reach_11_false (l : List Nat) (b : Nat) (w0 w : World) (B : Nat) (hB : B ≤ b) (hb : Below B w0 w) (hR : Blk w b (runC l).toArray 68) (hl : l.length + 5 ≤ 8) :
    Calls Tryd.prog 54 #[.pointer (some ⟨b, 0, none⟩), .int .i64 11, .bool false] w fun e w' => e = .returned (.tuple #[]) ∧ Blk w' b (runC (l ++ rchL 11 false)).toArray 68 ∧ Below B w0 w' := by
  rw [show rchL 11 false = [1] by rfl]
  go_enter Tryd.func54, Tryd.ntmps54
  go_wp2_with fail
  refine (add_new (m := [1]) hR hb hB (by simp; omega) (by simp)).mono ?_
  rintro e w1 ⟨rfl, hR1, hb1⟩
  go_wp2_with fail
  go_end0
  exact ⟨rfl, by simpa only [List.append_assoc, List.append_nil, List.nil_append, List.cons_append] using hR1, hb1⟩
theorem reach_12_true (l : List Nat) (b : Nat) (w0 w : World) (B : Nat) (hB : B ≤ b) (hb : Below B w0 w) (hR : Blk w b (runC l).toArray 68) (hl : l.length + 5 ≤ 8) :
    Calls Tryd.prog 54 #[.pointer (some ⟨b, 0, none⟩), .int .i64 12, .bool true] w fun e w' => e = .returned (.tuple #[]) ∧ Blk w' b (runC (l ++ rchL 12 true)).toArray 68 ∧ Below B w0 w' := by
  rw [show rchL 12 true = [1] by rfl]
  go_enter Tryd.func54, Tryd.ntmps54
  go_wp2_with fail
  refine (add_new (m := [1]) hR hb hB (by simp; omega) (by simp)).mono ?_
  rintro e w1 ⟨rfl, hR1, hb1⟩
  go_wp2_with fail
  go_end0
  exact ⟨rfl, by simpa only [List.append_assoc, List.append_nil, List.nil_append, List.cons_append] using hR1, hb1⟩
theorem reach_12_false (l : List Nat) (b : Nat) (w0 w : World) (B : Nat) (hB : B ≤ b) (hb : Below B w0 w) (hR : Blk w b (runC l).toArray 68) (hl : l.length + 5 ≤ 8) :
    Calls Tryd.prog 54 #[.pointer (some ⟨b, 0, none⟩), .int .i64 12, .bool false] w fun e w' => e = .returned (.tuple #[]) ∧ Blk w' b (runC (l ++ rchL 12 false)).toArray 68 ∧ Below B w0 w' := by
  rw [show rchL 12 false = [1] by rfl]
  go_enter Tryd.func54, Tryd.ntmps54
  go_wp2_with fail
  refine (add_new (m := [1]) hR hb hB (by simp; omega) (by simp)).mono ?_
  rintro e w1 ⟨rfl, hR1, hb1⟩
  go_wp2_with fail
  go_end0
  exact ⟨rfl, by simpa only [List.append_assoc, List.append_nil, List.nil_append, List.cons_append] using hR1, hb1⟩
theorem reach_any (m : Nat) (hm : m < 13) (wr : Bool) (l : List Nat) (b : Nat) (w0 w : World) (B : Nat) (hB : B ≤ b) (hb : Below B w0 w) (hR : Blk w b (runC l).toArray 68) (hl : l.length + 5 ≤ 8) :
    Calls Tryd.prog 54 #[.pointer (some ⟨b, 0, none⟩), .int .i64 (m : Nat), .bool wr] w fun e w' => e = .returned (.tuple #[]) ∧ Blk w' b (runC (l ++ rchL m wr)).toArray 68 ∧ Below B w0 w' := by
  match m, hm, wr with
  | 0, _, true => exact reach_0_true l b w0 w B hB hb hR hl
  | 0, _, false => exact reach_0_false l b w0 w B hB hb hR hl
  | 1, _, true => exact reach_1_true l b w0 w B hB hb hR hl
  | 1, _, false => exact reach_1_false l b w0 w B hB hb hR hl
  | 2, _, true => exact reach_2_true l b w0 w B hB hb hR hl
  | 2, _, false => exact reach_2_false l b w0 w B hB hb hR hl
  | 3, _, true => exact reach_3_true l b w0 w B hB hb hR hl
  | 3, _, false => exact reach_3_false l b w0 w B hB hb hR hl
  | 4, _, true => exact reach_4_true l b w0 w B hB hb hR hl
  | 4, _, false => exact reach_4_false l b w0 w B hB hb hR hl
  | 5, _, true => exact reach_5_true l b w0 w B hB hb hR hl
  | 5, _, false => exact reach_5_false l b w0 w B hB hb hR hl
  | 6, _, true => exact reach_6_true l b w0 w B hB hb hR hl
  | 6, _, false => exact reach_6_false l b w0 w B hB hb hR hl
  | 7, _, true => exact reach_7_true l b w0 w B hB hb hR hl
  | 7, _, false => exact reach_7_false l b w0 w B hB hb hR hl
  | 8, _, true => exact reach_8_true l b w0 w B hB hb hR hl
  | 8, _, false => exact reach_8_false l b w0 w B hB hb hR hl
  | 9, _, true => exact reach_9_true l b w0 w B hB hb hR hl
  | 9, _, false => exact reach_9_false l b w0 w B hB hb hR hl
  | 10, _, true => exact reach_10_true l b w0 w B hB hb hR hl
  | 10, _, false => exact reach_10_false l b w0 w B hB hb hR hl
  | 11, _, true => exact reach_11_true l b w0 w B hB hb hR hl
  | 11, _, false => exact reach_11_false l b w0 w B hB hb hR hl
  | 12, _, true => exact reach_12_true l b w0 w B hB hb hR hl
  | 12, _, false => exact reach_12_false l b w0 w B hB hb hR hl
theorem branch_true_true (l : List Nat) (b : Nat) (w0 w : World) (B : Nat) (hB : B ≤ b) (hb : Below B w0 w) (hR : Blk w b (runC l).toArray 68) (hl : l.length + 3 ≤ 8) :
    Calls Tryd.prog 55 #[.pointer (some ⟨b, 0, none⟩), .bool true, .bool true] w fun e w' => e = .returned (.tuple #[]) ∧ Blk w' b (runC (l ++ brL true true)).toArray 68 ∧ Below B w0 w' := by
  rw [show brL true true = [1] ++ [2] ++ [6] by rfl]
  go_enter Tryd.func55, Tryd.ntmps55
  go_wp2_with fail
  refine (add_new (m := [1]) hR hb hB (by simp; omega) (by simp)).mono ?_
  rintro e w1 ⟨rfl, hR1, hb1⟩
  go_wp2_with fail
  refine (add_new (m := [2]) hR1 hb1 hB (by simp; omega) (by simp)).mono ?_
  rintro e w2 ⟨rfl, hR2, hb2⟩
  go_wp2_with fail
  refine (add_new (m := [6]) hR2 hb2 hB (by simp; omega) (by simp)).mono ?_
  rintro e w3 ⟨rfl, hR3, hb3⟩
  go_wp2_with fail
  go_end0
  exact ⟨rfl, by simpa only [List.append_assoc, List.append_nil, List.nil_append, List.cons_append] using hR3, hb3⟩
theorem branch_true_false (l : List Nat) (b : Nat) (w0 w : World) (B : Nat) (hB : B ≤ b) (hb : Below B w0 w) (hR : Blk w b (runC l).toArray 68) (hl : l.length + 3 ≤ 8) :
    Calls Tryd.prog 55 #[.pointer (some ⟨b, 0, none⟩), .bool true, .bool false] w fun e w' => e = .returned (.tuple #[]) ∧ Blk w' b (runC (l ++ brL true false)).toArray 68 ∧ Below B w0 w' := by
  rw [show brL true false = [1] by rfl]
  go_enter Tryd.func55, Tryd.ntmps55
  go_wp2_with fail
  refine (add_new (m := [1]) hR hb hB (by simp; omega) (by simp)).mono ?_
  rintro e w1 ⟨rfl, hR1, hb1⟩
  go_wp2_with fail
  go_end0
  exact ⟨rfl, by simpa only [List.append_assoc, List.append_nil, List.nil_append, List.cons_append] using hR1, hb1⟩
theorem branch_false_true (l : List Nat) (b : Nat) (w0 w : World) (B : Nat) (hB : B ≤ b) (hb : Below B w0 w) (hR : Blk w b (runC l).toArray 68) (hl : l.length + 3 ≤ 8) :
    Calls Tryd.prog 55 #[.pointer (some ⟨b, 0, none⟩), .bool false, .bool true] w fun e w' => e = .returned (.tuple #[]) ∧ Blk w' b (runC (l ++ brL false true)).toArray 68 ∧ Below B w0 w' := by
  rw [show brL false true = [1] ++ [2] by rfl]
  go_enter Tryd.func55, Tryd.ntmps55
  go_wp2_with fail
  refine (add_new (m := [1]) hR hb hB (by simp; omega) (by simp)).mono ?_
  rintro e w1 ⟨rfl, hR1, hb1⟩
  go_wp2_with fail
  refine (add_new (m := [2]) hR1 hb1 hB (by simp; omega) (by simp)).mono ?_
  rintro e w2 ⟨rfl, hR2, hb2⟩
  go_wp2_with fail
  go_end0
  exact ⟨rfl, by simpa only [List.append_assoc, List.append_nil, List.nil_append, List.cons_append] using hR2, hb2⟩
theorem branch_false_false (l : List Nat) (b : Nat) (w0 w : World) (B : Nat) (hB : B ≤ b) (hb : Below B w0 w) (hR : Blk w b (runC l).toArray 68) (hl : l.length + 3 ≤ 8) :
    Calls Tryd.prog 55 #[.pointer (some ⟨b, 0, none⟩), .bool false, .bool false] w fun e w' => e = .returned (.tuple #[]) ∧ Blk w' b (runC (l ++ brL false false)).toArray 68 ∧ Below B w0 w' := by
  rw [show brL false false = [1] by rfl]
  go_enter Tryd.func55, Tryd.ntmps55
  go_wp2_with fail
  refine (add_new (m := [1]) hR hb hB (by simp; omega) (by simp)).mono ?_
  rintro e w1 ⟨rfl, hR1, hb1⟩
  go_wp2_with fail
  go_end0
  exact ⟨rfl, by simpa only [List.append_assoc, List.append_nil, List.nil_append, List.cons_append] using hR1, hb1⟩
theorem branch_any (cr tk : Bool) (l : List Nat) (b : Nat) (w0 w : World) (B : Nat) (hB : B ≤ b) (hb : Below B w0 w) (hR : Blk w b (runC l).toArray 68) (hl : l.length + 3 ≤ 8) :
    Calls Tryd.prog 55 #[.pointer (some ⟨b, 0, none⟩), .bool cr, .bool tk] w fun e w' => e = .returned (.tuple #[]) ∧ Blk w' b (runC (l ++ brL cr tk)).toArray 68 ∧ Below B w0 w' := by
  match cr, tk with
  | true, true => exact branch_true_true l b w0 w B hB hb hR hl
  | true, false => exact branch_true_false l b w0 w B hB hb hR hl
  | false, true => exact branch_false_true l b w0 w B hB hb hR hl
  | false, false => exact branch_false_false l b w0 w B hB hb hR hl
end Go.Proofs.YtfdiplgjiidnbaaDoor
