/-
  What is known of a valid board.
-/
import Derived.Test.YtecaipakaaongaaMValidR
import Derived.Test.YtecaipakaaongaaYDef
set_option linter.unusedSimpArgs false
set_option linter.unusedVariables false
namespace Go.Proofs.Ytecaipakaaongaa
open Go.RowKit Classical
theorem valid_kk {b : Bd} {x y : Bool} (h : validB b = (x && y)) (hv : validB b = true) : x = true ∧ y = true := by
  rw [h] at hv
  exact Bool.and_eq_true_iff.1 hv
/-- What is known of a valid board. -/
structure Bd.Ok (b : Bd) : Prop where
  wf : b.Wf
  val : validB b = true
  kd : b.kind = 0 ∨ b.kind = 1 ∨ b.kind = 2 ∨ b.kind = 3 ∨ b.kind = 4 ∨ b.kind = 7
  p0 : 2 ≤ b.prg
  p1 : b.prg ≤ 128
  p2 : b.prg % 2 = 0
  c0 : 8 ≤ b.chr
  c1 : b.chr ≤ 512
  c2 : b.chr % 8 = 0
  hd : b.hard = 0 ∨ b.hard = 1 ∨ b.hard = 4
  e0 : 0 ≤ b.epoch
  e1 : b.epoch ≤ 4611686018427387904
theorem sizes_facts {b : Bd} (h : sizes b = true) : 2 ≤ b.prg ∧ b.prg ≤ 128 ∧ b.prg % 2 = 0 ∧ 8 ≤ b.chr ∧ b.chr ≤ 512 ∧ b.chr % 8 = 0 ∧ (b.hard = 0 ∨ b.hard = 1 ∨ b.hard = 4) ∧ 0 ≤ b.epoch ∧ b.epoch ≤ 4611686018427387904 := by
  simp only [sizes, szs, Bool.and_eq_true, Bool.or_eq_true, decide_eq_true_eq, beq_iff_eq] at h
  obtain ⟨hh, h1, h2, h3, h4, h5, h6, h7, h8, h9⟩ := h
  rw [Int.tmod_eq_emod_of_nonneg (by omega)] at h3 h6
  exact ⟨h1, h2, h3, h4, h5, h6, by omega, h8, h9⟩
theorem valid_sizes {b : Bd} (h : validB b = true) : sizes b = true := by
  unfold validB at h
  have h2 := (Bool.and_eq_true_iff.1 h).2
  revert h2
  (repeat' split) <;> intro h2
  · exact (Bool.and_eq_true_iff.1 (Bool.and_eq_true_iff.1 h2).2).1
  · exact (Bool.and_eq_true_iff.1 (Bool.and_eq_true_iff.1 h2).2).1
  · exact (Bool.and_eq_true_iff.1 (Bool.and_eq_true_iff.1 h2).2).1
  · exact (Bool.and_eq_true_iff.1 (Bool.and_eq_true_iff.1 h2).2).1
  · exact (Bool.and_eq_true_iff.1 (Bool.and_eq_true_iff.1 h2).2).1
  · exact (Bool.and_eq_true_iff.1 (Bool.and_eq_true_iff.1 h2).2).1
theorem valid_lst {b : Bd} (h : validB b = true) : lst b.kind b.sub = true := by
  unfold validB at h
  exact (Bool.and_eq_true_iff.1 h).1
theorem Bd.ok {b : Bd} (B : b.Wf) (h : validB b = true) : b.Ok := by
  obtain ⟨h1, h2, h3, h4, h5, h6, h7, h8, h9⟩ := sizes_facts (valid_sizes h)
  exact ⟨B, h, lst_kinds (valid_lst h), h1, h2, h3, h4, h5, h6, h7, h8, h9⟩
theorem Bd.Ok.v0 {b : Bd} (o : b.Ok) (hk : b.kind = 0) : bare 0 b = b := sameB_eq (Bool.and_eq_true_iff.1 (valid_kk (validB_0 hk) o.val).2).1
theorem Bd.Ok.v1 {b : Bd} (o : b.Ok) (hk : b.kind = 1) : n1 b = b := sameB_eq (Bool.and_eq_true_iff.1 (valid_kk (validB_1 hk) o.val).2).1
theorem Bd.Ok.v2 {b : Bd} (o : b.Ok) (hk : b.kind = 2) : nL 2 b = b := sameB_eq (Bool.and_eq_true_iff.1 (valid_kk (validB_2 hk) o.val).2).1
theorem Bd.Ok.v3 {b : Bd} (o : b.Ok) (hk : b.kind = 3) : nL 3 b = b := sameB_eq (Bool.and_eq_true_iff.1 (valid_kk (validB_3 hk) o.val).2).1
theorem Bd.Ok.v4 {b : Bd} (o : b.Ok) (hk : b.kind = 4) : n4 b = b := sameB_eq (Bool.and_eq_true_iff.1 (valid_kk (validB_4 hk) o.val).2).1
theorem Bd.Ok.v7 {b : Bd} (o : b.Ok) (hk : b.kind = 7) : nL 7 b = b := sameB_eq (Bool.and_eq_true_iff.1 (valid_kk (validB_7 hk) o.val).2).1
theorem Bd.Ok.r1 {b : Bd} (o : b.Ok) (hk : b.kind = 1) : 0 < b.shift ∧ b.shift ≤ 31 ∧ b.ctrl ≤ 31 ∧ b.chrA ≤ 31 ∧ b.chrB ≤ 31 ∧ b.prgR ≤ 31 ∧ (b.last = -2 ∨ 0 ≤ b.last) := by
  have h := (Bool.and_eq_true_iff.1 (Bool.and_eq_true_iff.1 (valid_kk (validB_1 hk) o.val).2).2).2
  simp only [regs1, Bool.and_eq_true, Bool.or_eq_true, decide_eq_true_eq, beq_iff_eq, max5_le] at h
  omega
theorem Bd.Ok.r4 {b : Bd} (o : b.Ok) (hk : b.kind = 4) : bits .andNot .u8 b.sel 199 = 0 ∧ b.turn ≤ 1 ∧ bits .andNot .u8 b.guard 192 = 0 ∧ fitsV b = true := by
  have h := (Bool.and_eq_true_iff.1 (Bool.and_eq_true_iff.1 (valid_kk (validB_4 hk) o.val).2).2).2
  simp only [regs4, Bool.and_eq_true, decide_eq_true_eq, beq_iff_eq] at h
  exact ⟨h.1, h.2.1, h.2.2.1, h.2.2.2⟩
end Go.Proofs.Ytecaipakaaongaa
