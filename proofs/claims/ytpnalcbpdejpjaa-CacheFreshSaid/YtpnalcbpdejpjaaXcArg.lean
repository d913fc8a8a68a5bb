/-
  How a key that is handed in is read; conditions: those of the row.
-/
import Derived.Test.YtpnalcbpdejpjaaXcSlot
import Derived.ProofKit
import Derived.OpenShut
import Derived.ChangeOld
import Derived.Below
import Derived.Carry
set_option linter.unusedSimpArgs false
set_option linter.unusedVariables false
namespace Go.Proofs.Ytpnalcbpdejpjaa
open Go.ChangeShapes Go.WideShapes Go.ChangeAt Go.RowKit Classical
theorem own : ownKnob Try.prog.godebug = none := by kernel_rfl
theorem laidOut : laidOutB Try.prog = true := by kernel_rfl
theorem cellsI : Try.prog.cellsOf 3 = 1 := by kernel_rfl
theorem cellsU16 : Try.prog.cellsOf 22 = 1 := by kernel_rfl
theorem cellsKey : Try.prog.cellsOf 24 = 2 := by kernel_rfl
theorem wf16 {n : Int} (h : (Lit.int .u16 n).wf = true) : 0 ≤ n ∧ n ≤ 65535 := by
  simp [Lit.wf, IntKind.min, IntKind.max, IntKind.signed, IntKind.bits] at h
  omega
theorem wf64 {n : Int} (h : (Lit.int .i64 n).wf = true) : -9223372036854775808 ≤ n ∧ n ≤ 9223372036854775807 := by
  simp [Lit.wf, IntKind.min, IntKind.max, IntKind.signed, IntKind.bits] at h
  omega
theorem list2 {l : List Value} (h : l.length = 2) : ∃ c0 c1, l = [c0, c1] := by
  match l, h with
  | [c0, c1], _ => exact ⟨_, _, rfl⟩
set_option maxRecDepth 100000 in
theorem key_of {H : Type} {enc : TypeId × Value → H} {W : World} {base : Nat} {v : Value} {d : DataW H} {p : List MemPlace}
    (hv : Value.okWide Try.prog W .any base 24 v) (h : DataW.Trod enc Try.prog W 0 (fun _ => true) true 24 v d p) :
    ∃ pc tag : Int, (0 ≤ pc ∧ pc ≤ 65535) ∧ (-9223372036854775808 ≤ tag ∧ tag ≤ 9223372036854775807) ∧ v = .agg #[.int .u16 pc, .int .i64 tag] := by
  obtain ⟨cs, rfl, hcs⟩ := okWide_struct Try.underlying24 hv
  rw [cellsKey] at hcs
  obtain ⟨l⟩ := cs
  obtain ⟨c0, c1, rfl⟩ := list2 (l := l) (by simpa using hcs)
  obtain ⟨fuel, hf⟩ := h
  obtain ⟨xs, n, _, -, -, hxl, hfld⟩ := DataW.trod_struct Try.underlying24 hf
  have hxl' : xs.length = 2 := hxl
  have f0 : DataW.trod enc Try.prog W 0 (fun _ => true) true n 22 [c0] = some (xs[0]'(by omega)) := by
    have := hfld 0 _ rfl
    rw [List.getElem?_eq_getElem (show 0 < xs.length by omega)] at this
    have e : [c0] = (([c0, c1] : List Value).drop 0).take (Try.prog.cellsOf 22) := by rw [cellsU16]; rfl
    rw [e]; exact this
  obtain ⟨v0, e, -, w0⟩ := DataW.trod_int Try.underlying22 f0
  simp only [List.cons.injEq, and_true] at e
  subst e
  have f1 : DataW.trod enc Try.prog W 0 (fun _ => true) true n 3 [c1] = some (xs[1]'(by omega)) := by
    have := hfld 1 _ rfl
    rw [List.getElem?_eq_getElem (show 1 < xs.length by omega)] at this
    have e : [c1] = (([.int .u16 v0, c1] : List Value).drop 1).take (Try.prog.cellsOf 3) := by rw [cellsI]; rfl
    rw [e]; exact this
  obtain ⟨v1, e, -, w1⟩ := DataW.trod_int Try.underlying3 f1
  simp only [List.cons.injEq, and_true] at e
  subst e
  exact ⟨v0, v1, wf16 w0, wf64 w1, rfl⟩
end Go.Proofs.Ytpnalcbpdejpjaa
