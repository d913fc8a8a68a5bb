/-
  What plain and rest of package isa's run do; conditions: the run lies in its block and has room.
-/
import Derived.Test.YtfdiplgjiidnbaaDoorIAdd2
set_option linter.unusedSimpArgs false
set_option linter.unusedVariables false
namespace Go.Proofs.YtfdiplgjiidnbaaDoor
open Go.RowKit
theorem plain_any (m : Nat) (l : List Nat) (b : Nat) (w0 w : World) (B : Nat) (hB : B ≤ b) (hb : Below B w0 w) (hR : Blk w b (runC l).toArray 68) (hl : l.length + 1 ≤ 8) :
    Calls Tryd.prog 70 #[.pointer (some ⟨b, 0, none⟩), .int .i64 (m : Nat)] w fun e w' => e = .returned (.tuple #[]) ∧ Blk w' b (runC (l ++ plL m)).toArray 68 ∧ Below B w0 w' := by
  by_cases h : m = 2
  · subst h
    rw [show plL 2 = [1] by rfl]
    go_enter Tryd.func70, Tryd.ntmps70
    go_wp2_with fail
    refine (add_new (m := [1]) hR hb hB (by simp; omega) (by simp)).mono ?_
    rintro e w1 ⟨rfl, hR1, hb1⟩
    go_wp2_with fail
    go_end0
    exact ⟨rfl, by simpa only [List.append_assoc, List.append_nil, List.nil_append, List.cons_append] using hR1, hb1⟩
  · rw [show plL m = [2] by unfold plL; rw [if_neg h]]
    have h' : ((m : Int) == 2) = false := by rw [beq_eq_false_iff_ne]; omega
    clear h
    go_enter Tryd.func70, Tryd.ntmps70
    go_wp2_with fail
    refine (add_new (m := [2]) hR hb hB (by simp; omega) (by simp)).mono ?_
    rintro e w1 ⟨rfl, hR1, hb1⟩
    go_wp2_with fail
    go_end0
    exact ⟨rfl, by simpa only [List.append_assoc, List.append_nil, List.nil_append, List.cons_append] using hR1, hb1⟩
theorem rest_27_8 (l : List Nat) (b : Nat) (w0 w : World) (B : Nat) (hB : B ≤ b) (hb : Below B w0 w) (hR : Blk w b (runC l).toArray 68) (hl : l.length + 7 ≤ 8) :
    Calls Tryd.prog 56 #[.pointer (some ⟨b, 0, none⟩), .int .i64 27, .int .i64 8] w fun e w' => e = .returned (.tuple #[]) ∧ Blk w' b (runC (l ++ rsL 27 8)).toArray 68 ∧ Below B w0 w' := by
  rw [show rsL 27 8 = [1, 1] by rfl]
  go_enter Tryd.func56, Tryd.ntmps56
  go_wp2_with fail
  refine (add_new (m := [1, 1]) hR hb hB (by simp; omega) (by simp)).mono ?_
  rintro e w1 ⟨rfl, hR1, hb1⟩
  go_wp2_with fail
  go_end0
  exact ⟨rfl, by simpa only [List.append_assoc, List.append_nil, List.nil_append, List.cons_append] using hR1, hb1⟩
theorem rest_27_11 (l : List Nat) (b : Nat) (w0 w : World) (B : Nat) (hB : B ≤ b) (hb : Below B w0 w) (hR : Blk w b (runC l).toArray 68) (hl : l.length + 7 ≤ 8) :
    Calls Tryd.prog 56 #[.pointer (some ⟨b, 0, none⟩), .int .i64 27, .int .i64 11] w fun e w' => e = .returned (.tuple #[]) ∧ Blk w' b (runC (l ++ rsL 27 11)).toArray 68 ∧ Below B w0 w' := by
  rw [show rsL 27 11 = [1, 1] ++ [4, 5] by rfl]
  go_enter Tryd.func56, Tryd.ntmps56
  go_wp2_with fail
  refine (add_new (m := [1, 1]) hR hb hB (by simp; omega) (by simp)).mono ?_
  rintro e w1 ⟨rfl, hR1, hb1⟩
  go_wp2_with fail
  refine (add_new (m := [4, 5]) hR1 hb1 hB (by simp; omega) (by simp)).mono ?_
  rintro e w2 ⟨rfl, hR2, hb2⟩
  go_wp2_with fail
  go_end0
  exact ⟨rfl, by simpa only [List.append_assoc, List.append_nil, List.nil_append, List.cons_append] using hR2, hb2⟩
theorem rest_28_8 (l : List Nat) (b : Nat) (w0 w : World) (B : Nat) (hB : B ≤ b) (hb : Below B w0 w) (hR : Blk w b (runC l).toArray 68) (hl : l.length + 7 ≤ 8) :
    Calls Tryd.prog 56 #[.pointer (some ⟨b, 0, none⟩), .int .i64 28, .int .i64 8] w fun e w' => e = .returned (.tuple #[]) ∧ Blk w' b (runC (l ++ rsL 28 8)).toArray 68 ∧ Below B w0 w' := by
  rw [show rsL 28 8 = [1, 10, 11, 11, 1] by rfl]
  go_enter Tryd.func56, Tryd.ntmps56
  go_wp2_with fail
  refine (add_new (m := [1, 10, 11, 11, 1]) hR hb hB (by simp; omega) (by simp)).mono ?_
  rintro e w1 ⟨rfl, hR1, hb1⟩
  go_wp2_with fail
  go_end0
  exact ⟨rfl, by simpa only [List.append_assoc, List.append_nil, List.nil_append, List.cons_append] using hR1, hb1⟩
theorem rest_42_0 (l : List Nat) (b : Nat) (w0 w : World) (B : Nat) (hB : B ≤ b) (hb : Below B w0 w) (hR : Blk w b (runC l).toArray 68) (hl : l.length + 7 ≤ 8) :
    Calls Tryd.prog 56 #[.pointer (some ⟨b, 0, none⟩), .int .i64 42, .int .i64 0] w fun e w' => e = .returned (.tuple #[]) ∧ Blk w' b (runC (l ++ rsL 42 0)).toArray 68 ∧ Below B w0 w' := by
  rw [show rsL 42 0 = [2, 10, 12, 12, 1] by rfl]
  go_enter Tryd.func56, Tryd.ntmps56
  go_wp2_with fail
  refine (add_new (m := [2, 10, 12, 12, 1]) hR hb hB (by simp; omega) (by simp)).mono ?_
  rintro e w1 ⟨rfl, hR1, hb1⟩
  go_wp2_with fail
  go_end0
  exact ⟨rfl, by simpa only [List.append_assoc, List.append_nil, List.nil_append, List.cons_append] using hR1, hb1⟩
theorem rest_41_0 (l : List Nat) (b : Nat) (w0 w : World) (B : Nat) (hB : B ≤ b) (hb : Below B w0 w) (hR : Blk w b (runC l).toArray 68) (hl : l.length + 7 ≤ 8) :
    Calls Tryd.prog 56 #[.pointer (some ⟨b, 0, none⟩), .int .i64 41, .int .i64 0] w fun e w' => e = .returned (.tuple #[]) ∧ Blk w' b (runC (l ++ rsL 41 0)).toArray 68 ∧ Below B w0 w' := by
  rw [show rsL 41 0 = [2, 10, 12, 12, 12] by rfl]
  go_enter Tryd.func56, Tryd.ntmps56
  go_wp2_with fail
  refine (add_new (m := [2, 10, 12, 12, 12]) hR hb hB (by simp; omega) (by simp)).mono ?_
  rintro e w1 ⟨rfl, hR1, hb1⟩
  go_wp2_with fail
  go_end0
  exact ⟨rfl, by simpa only [List.append_assoc, List.append_nil, List.nil_append, List.cons_append] using hR1, hb1⟩
theorem rest_10_0 (l : List Nat) (b : Nat) (w0 w : World) (B : Nat) (hB : B ≤ b) (hb : Below B w0 w) (hR : Blk w b (runC l).toArray 68) (hl : l.length + 7 ≤ 8) :
    Calls Tryd.prog 56 #[.pointer (some ⟨b, 0, none⟩), .int .i64 10, .int .i64 0] w fun e w' => e = .returned (.tuple #[]) ∧ Blk w' b (runC (l ++ rsL 10 0)).toArray 68 ∧ Below B w0 w' := by
  rw [show rsL 10 0 = [1, 11, 11, 11, 13, 14] by rfl]
  go_enter Tryd.func56, Tryd.ntmps56
  go_wp2_with fail
  refine (add_new (m := [1, 11, 11, 11, 13, 14]) hR hb hB (by simp; omega) (by simp)).mono ?_
  rintro e w1 ⟨rfl, hR1, hb1⟩
  go_wp2_with fail
  go_end0
  exact ⟨rfl, by simpa only [List.append_assoc, List.append_nil, List.nil_append, List.cons_append] using hR1, hb1⟩
theorem rest_35_0 (l : List Nat) (b : Nat) (w0 w : World) (B : Nat) (hB : B ≤ b) (hb : Below B w0 w) (hR : Blk w b (runC l).toArray 68) (hl : l.length + 7 ≤ 8) :
    Calls Tryd.prog 56 #[.pointer (some ⟨b, 0, none⟩), .int .i64 35, .int .i64 0] w fun e w' => e = .returned (.tuple #[]) ∧ Blk w' b (runC (l ++ rsL 35 0)).toArray 68 ∧ Below B w0 w' := by
  rw [show rsL 35 0 = [2, 11] by rfl]
  go_enter Tryd.func56, Tryd.ntmps56
  go_wp2_with fail
  refine (add_new (m := [2, 11]) hR hb hB (by simp; omega) (by simp)).mono ?_
  rintro e w1 ⟨rfl, hR1, hb1⟩
  go_wp2_with fail
  go_end0
  exact ⟨rfl, by simpa only [List.append_assoc, List.append_nil, List.nil_append, List.cons_append] using hR1, hb1⟩
theorem rest_36_0 (l : List Nat) (b : Nat) (w0 w : World) (B : Nat) (hB : B ≤ b) (hb : Below B w0 w) (hR : Blk w b (runC l).toArray 68) (hl : l.length + 7 ≤ 8) :
    Calls Tryd.prog 56 #[.pointer (some ⟨b, 0, none⟩), .int .i64 36, .int .i64 0] w fun e w' => e = .returned (.tuple #[]) ∧ Blk w' b (runC (l ++ rsL 36 0)).toArray 68 ∧ Below B w0 w' := by
  rw [show rsL 36 0 = [2, 11] by rfl]
  go_enter Tryd.func56, Tryd.ntmps56
  go_wp2_with fail
  refine (add_new (m := [2, 11]) hR hb hB (by simp; omega) (by simp)).mono ?_
  rintro e w1 ⟨rfl, hR1, hb1⟩
  go_wp2_with fail
  go_end0
  exact ⟨rfl, by simpa only [List.append_assoc, List.append_nil, List.nil_append, List.cons_append] using hR1, hb1⟩
theorem rest_37_0 (l : List Nat) (b : Nat) (w0 w : World) (B : Nat) (hB : B ≤ b) (hb : Below B w0 w) (hR : Blk w b (runC l).toArray 68) (hl : l.length + 7 ≤ 8) :
    Calls Tryd.prog 56 #[.pointer (some ⟨b, 0, none⟩), .int .i64 37, .int .i64 0] w fun e w' => e = .returned (.tuple #[]) ∧ Blk w' b (runC (l ++ rsL 37 0)).toArray 68 ∧ Below B w0 w' := by
  rw [show rsL 37 0 = [2, 10, 12] by rfl]
  go_enter Tryd.func56, Tryd.ntmps56
  go_wp2_with fail
  refine (add_new (m := [2, 10, 12]) hR hb hB (by simp; omega) (by simp)).mono ?_
  rintro e w1 ⟨rfl, hR1, hb1⟩
  go_wp2_with fail
  go_end0
  exact ⟨rfl, by simpa only [List.append_assoc, List.append_nil, List.nil_append, List.cons_append] using hR1, hb1⟩
theorem rest_38_0 (l : List Nat) (b : Nat) (w0 w : World) (B : Nat) (hB : B ≤ b) (hb : Below B w0 w) (hR : Blk w b (runC l).toArray 68) (hl : l.length + 7 ≤ 8) :
    Calls Tryd.prog 56 #[.pointer (some ⟨b, 0, none⟩), .int .i64 38, .int .i64 0] w fun e w' => e = .returned (.tuple #[]) ∧ Blk w' b (runC (l ++ rsL 38 0)).toArray 68 ∧ Below B w0 w' := by
  rw [show rsL 38 0 = [2, 10, 12] by rfl]
  go_enter Tryd.func56, Tryd.ntmps56
  go_wp2_with fail
  refine (add_new (m := [2, 10, 12]) hR hb hB (by simp; omega) (by simp)).mono ?_
  rintro e w1 ⟨rfl, hR1, hb1⟩
  go_wp2_with fail
  go_end0
  exact ⟨rfl, by simpa only [List.append_assoc, List.append_nil, List.nil_append, List.cons_append] using hR1, hb1⟩
theorem rest_69_0 (l : List Nat) (b : Nat) (w0 w : World) (B : Nat) (hB : B ≤ b) (hb : Below B w0 w) (hR : Blk w b (runC l).toArray 68) (hl : l.length + 7 ≤ 8) :
    Calls Tryd.prog 56 #[.pointer (some ⟨b, 0, none⟩), .int .i64 69, .int .i64 0] w fun e w' => e = .returned (.tuple #[]) ∧ Blk w' b (runC (l ++ rsL 69 0)).toArray 68 ∧ Below B w0 w' := by
  rw [show rsL 69 0 = [] by rfl]
  go_enter Tryd.func56, Tryd.ntmps56
  go_wp2_with fail
  go_end0
  exact ⟨rfl, by simpa only [List.append_assoc, List.append_nil, List.nil_append, List.cons_append] using hR, hb⟩
set_option maxRecDepth 100000 in
theorem rest_plain (op m : Nat) (ho : op ≠ 27 ∧ op ≠ 28 ∧ op ≠ 42 ∧ op ≠ 41 ∧ op ≠ 10 ∧ op ≠ 35 ∧ op ≠ 36 ∧ op ≠ 37 ∧ op ≠ 38 ∧ op ≠ 69) (l : List Nat) (b : Nat) (w0 w : World) (B : Nat) (hB : B ≤ b) (hb : Below B w0 w) (hR : Blk w b (runC l).toArray 68) (hl : l.length + 7 ≤ 8) :
    Calls Tryd.prog 56 #[.pointer (some ⟨b, 0, none⟩), .int .i64 (op : Nat), .int .i64 (m : Nat)] w fun e w' => e = .returned (.tuple #[]) ∧ Blk w' b (runC (l ++ rsL op m)).toArray 68 ∧ Below B w0 w' := by
  obtain ⟨o27, o28, o42, o41, o10, o35, o36, o37, o38, o69⟩ := ho
  rw [show rsL op m = plL m by unfold rsL; rw [if_neg o27, if_neg o28, if_neg o42, if_neg o41, if_neg o10, if_neg (by omega), if_neg (by omega), if_neg o69]]
  have t27 : ((op : Int) == 27) = false := by rw [beq_eq_false_iff_ne]; omega
  have t28 : ((op : Int) == 28) = false := by rw [beq_eq_false_iff_ne]; omega
  have t42 : ((op : Int) == 42) = false := by rw [beq_eq_false_iff_ne]; omega
  have t41 : ((op : Int) == 41) = false := by rw [beq_eq_false_iff_ne]; omega
  have t10 : ((op : Int) == 10) = false := by rw [beq_eq_false_iff_ne]; omega
  have t35 : ((op : Int) == 35) = false := by rw [beq_eq_false_iff_ne]; omega
  have t36 : ((op : Int) == 36) = false := by rw [beq_eq_false_iff_ne]; omega
  have t37 : ((op : Int) == 37) = false := by rw [beq_eq_false_iff_ne]; omega
  have t38 : ((op : Int) == 38) = false := by rw [beq_eq_false_iff_ne]; omega
  have t69 : ((op : Int) == 69) = false := by rw [beq_eq_false_iff_ne]; omega
  clear o27 o28 o42 o41 o10 o35 o36 o37 o38 o69
  go_enter Tryd.func56, Tryd.ntmps56
  go_wp2_with fail
  refine (plain_any m l b w0 w B hB hb hR (by omega)).mono ?_
  rintro e w1 ⟨rfl, hR1, hb1⟩
  go_wp2_with fail
  go_end0
  exact ⟨rfl, hR1, hb1⟩
set_option synthInstance.maxSize 20000 in
set_option synthInstance.maxHeartbeats 2000000 in
set_option maxRecDepth 100000 in
theorem rest_tab : ∀ k, k < 256 → (kdN k = 1 ∨ kdN k = 2 ∨ kdN k = 3 ∨ kdN k = 4 ∨ kdN k = 5) ∨ (opN k = 27 ∧ mdN k = 8) ∨ (opN k = 27 ∧ mdN k = 11) ∨ (opN k = 28 ∧ mdN k = 8) ∨ (opN k = 42 ∧ mdN k = 0) ∨ (opN k = 41 ∧ mdN k = 0) ∨ (opN k = 10 ∧ mdN k = 0) ∨ (opN k = 35 ∧ mdN k = 0) ∨ (opN k = 36 ∧ mdN k = 0) ∨ (opN k = 37 ∧ mdN k = 0) ∨ (opN k = 38 ∧ mdN k = 0) ∨ (opN k = 69 ∧ mdN k = 0) ∨ (opN k ≠ 27 ∧ opN k ≠ 28 ∧ opN k ≠ 42 ∧ opN k ≠ 41 ∧ opN k ≠ 10 ∧ opN k ≠ 35 ∧ opN k ≠ 36 ∧ opN k ≠ 37 ∧ opN k ≠ 38 ∧ opN k ≠ 69) := by decide +kernel
theorem rest_any (k : Nat) (hk : k < 256) (hkd : ¬ (kdN k = 1 ∨ kdN k = 2 ∨ kdN k = 3 ∨ kdN k = 4 ∨ kdN k = 5)) (l : List Nat) (b : Nat) (w0 w : World) (B : Nat) (hB : B ≤ b) (hb : Below B w0 w) (hR : Blk w b (runC l).toArray 68) (hl : l.length + 7 ≤ 8) :
    Calls Tryd.prog 56 #[.pointer (some ⟨b, 0, none⟩), .int .i64 (opN k : Nat), .int .i64 (mdN k : Nat)] w fun e w' => e = .returned (.tuple #[]) ∧ Blk w' b (runC (l ++ rsL (opN k) (mdN k))).toArray 68 ∧ Below B w0 w' := by
  rcases rest_tab k hk with h | ⟨h1, h2⟩ | ⟨h1, h2⟩ | ⟨h1, h2⟩ | ⟨h1, h2⟩ | ⟨h1, h2⟩ | ⟨h1, h2⟩ | ⟨h1, h2⟩ | ⟨h1, h2⟩ | ⟨h1, h2⟩ | ⟨h1, h2⟩ | ⟨h1, h2⟩ | h
  · exact absurd h hkd
  · rw [h1, h2]; exact rest_27_8 l b w0 w B hB hb hR hl
  · rw [h1, h2]; exact rest_27_11 l b w0 w B hB hb hR hl
  · rw [h1, h2]; exact rest_28_8 l b w0 w B hB hb hR hl
  · rw [h1, h2]; exact rest_42_0 l b w0 w B hB hb hR hl
  · rw [h1, h2]; exact rest_41_0 l b w0 w B hB hb hR hl
  · rw [h1, h2]; exact rest_10_0 l b w0 w B hB hb hR hl
  · rw [h1, h2]; exact rest_35_0 l b w0 w B hB hb hR hl
  · rw [h1, h2]; exact rest_36_0 l b w0 w B hB hb hR hl
  · rw [h1, h2]; exact rest_37_0 l b w0 w B hB hb hR hl
  · rw [h1, h2]; exact rest_38_0 l b w0 w B hB hb hR hl
  · rw [h1, h2]; exact rest_69_0 l b w0 w B hB hb hR hl
  · exact rest_plain _ _ h l b w0 w B hB hb hR hl
end Go.Proofs.YtfdiplgjiidnbaaDoor
