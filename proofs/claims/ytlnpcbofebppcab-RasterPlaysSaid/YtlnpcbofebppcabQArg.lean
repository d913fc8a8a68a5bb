/-
  How a raster that is handed in by value is read; conditions: those of the row.
-/
import Derived.Test.YtlnpcbofebppcabQBase
import Derived.ProofKit
import Derived.OpenShut
import Derived.ChangeOld
import Derived.Below
import Derived.Carry
set_option linter.unusedSimpArgs false
set_option linter.unusedVariables false
namespace Go.Proofs.Ytlnpcbofebppcab
open Go.ChangeShapes Go.WideShapes Go.ChangeAt Go.RowKit Classical
theorem own : ownKnob Try.prog.godebug = none := by kernel_rfl
theorem laidOut : laidOutB Try.prog = true := by kernel_rfl
theorem cellsRas : Try.prog.cellsOf 23 = 7 := by kernel_rfl
theorem cellsI : Try.prog.cellsOf 3 = 1 := by kernel_rfl
theorem cellsBo : Try.prog.cellsOf 4 = 1 := by kernel_rfl
theorem list7 {l : List Value} (h : l.length = 7) : ∃ c0 c1 c2 c3 c4 c5 c6, l = [c0, c1, c2, c3, c4, c5, c6] := by
  match l, h with
  | [c0, c1, c2, c3, c4, c5, c6], _ => exact ⟨_, _, _, _, _, _, _, rfl⟩
theorem wf8 {n : Int} (h : (Lit.int .u8 n).wf = true) : 0 ≤ n ∧ n ≤ 255 := by
  simp [Lit.wf, IntKind.min, IntKind.max, IntKind.signed, IntKind.bits] at h
  omega
theorem wf64 {n : Int} (h : (Lit.int .i64 n).wf = true) : -9223372036854775808 ≤ n ∧ n ≤ 9223372036854775807 := by
  simp [Lit.wf, IntKind.min, IntKind.max, IntKind.signed, IntKind.bits] at h
  omega
theorem rs_of {H : Type} {enc : TypeId × Value → H} {W : World} {base : Nat} {v : Value} {d : DataW H} {p : List MemPlace}
    (hv : Value.okWide Try.prog W .any base 23 v) (h : DataW.Trod enc Try.prog W 0 (fun _ => true) true 23 v d p) :
    ∃ c : Rs, c.Ok ∧ v = .agg c.cells := by
  obtain ⟨cs, rfl, hcs⟩ := okWide_struct Try.underlying23 hv
  rw [cellsRas] at hcs
  obtain ⟨l⟩ := cs
  obtain ⟨c0, c1, c2, c3, c4, c5, c6, rfl⟩ := list7 (l := l) (by simpa using hcs)
  obtain ⟨fuel, hf⟩ := h
  obtain ⟨xs, n, _, -, -, hxl, hfld⟩ := DataW.trod_struct Try.underlying23 hf
  have hxl' : xs.length = 7 := hxl
  have f0 : DataW.trod enc Try.prog W 0 (fun _ => true) true n 3 [c0] = some (xs[0]'(by omega)) := by
    have := hfld 0 _ rfl
    rw [List.getElem?_eq_getElem (show 0 < xs.length by omega)] at this
    have e : [c0] = (([c0, c1, c2, c3, c4, c5, c6] : List Value).drop 0).take (Try.prog.cellsOf 3) := by rw [cellsI]; rfl
    rw [e]; exact this
  obtain ⟨v0, e, -, w0⟩ := DataW.trod_int Try.underlying3 f0
  simp only [List.cons.injEq, and_true] at e
  subst e
  have f1 : DataW.trod enc Try.prog W 0 (fun _ => true) true n 3 [c1] = some (xs[1]'(by omega)) := by
    have := hfld 1 _ rfl
    rw [List.getElem?_eq_getElem (show 1 < xs.length by omega)] at this
    have e : [c1] = (([.int .i64 v0, c1, c2, c3, c4, c5, c6] : List Value).drop 1).take (Try.prog.cellsOf 3) := by rw [cellsI]; rfl
    rw [e]; exact this
  obtain ⟨v1, e, -, w1⟩ := DataW.trod_int Try.underlying3 f1
  simp only [List.cons.injEq, and_true] at e
  subst e
  have f2 : DataW.trod enc Try.prog W 0 (fun _ => true) true n 4 [c2] = some (xs[2]'(by omega)) := by
    have := hfld 2 _ rfl
    rw [List.getElem?_eq_getElem (show 2 < xs.length by omega)] at this
    have e : [c2] = (([.int .i64 v0, .int .i64 v1, c2, c3, c4, c5, c6] : List Value).drop 2).take (Try.prog.cellsOf 4) := by rw [cellsBo]; rfl
    rw [e]; exact this
  obtain ⟨v2, e, -⟩ := DataW.trod_bool Try.underlying4 f2
  simp only [List.cons.injEq, and_true] at e
  subst e
  have f3 : DataW.trod enc Try.prog W 0 (fun _ => true) true n 4 [c3] = some (xs[3]'(by omega)) := by
    have := hfld 3 _ rfl
    rw [List.getElem?_eq_getElem (show 3 < xs.length by omega)] at this
    have e : [c3] = (([.int .i64 v0, .int .i64 v1, .bool v2, c3, c4, c5, c6] : List Value).drop 3).take (Try.prog.cellsOf 4) := by rw [cellsBo]; rfl
    rw [e]; exact this
  obtain ⟨v3, e, -⟩ := DataW.trod_bool Try.underlying4 f3
  simp only [List.cons.injEq, and_true] at e
  subst e
  have f4 : DataW.trod enc Try.prog W 0 (fun _ => true) true n 4 [c4] = some (xs[4]'(by omega)) := by
    have := hfld 4 _ rfl
    rw [List.getElem?_eq_getElem (show 4 < xs.length by omega)] at this
    have e : [c4] = (([.int .i64 v0, .int .i64 v1, .bool v2, .bool v3, c4, c5, c6] : List Value).drop 4).take (Try.prog.cellsOf 4) := by rw [cellsBo]; rfl
    rw [e]; exact this
  obtain ⟨v4, e, -⟩ := DataW.trod_bool Try.underlying4 f4
  simp only [List.cons.injEq, and_true] at e
  subst e
  have f5 : DataW.trod enc Try.prog W 0 (fun _ => true) true n 4 [c5] = some (xs[5]'(by omega)) := by
    have := hfld 5 _ rfl
    rw [List.getElem?_eq_getElem (show 5 < xs.length by omega)] at this
    have e : [c5] = (([.int .i64 v0, .int .i64 v1, .bool v2, .bool v3, .bool v4, c5, c6] : List Value).drop 5).take (Try.prog.cellsOf 4) := by rw [cellsBo]; rfl
    rw [e]; exact this
  obtain ⟨v5, e, -⟩ := DataW.trod_bool Try.underlying4 f5
  simp only [List.cons.injEq, and_true] at e
  subst e
  have f6 : DataW.trod enc Try.prog W 0 (fun _ => true) true n 4 [c6] = some (xs[6]'(by omega)) := by
    have := hfld 6 _ rfl
    rw [List.getElem?_eq_getElem (show 6 < xs.length by omega)] at this
    have e : [c6] = (([.int .i64 v0, .int .i64 v1, .bool v2, .bool v3, .bool v4, .bool v5, c6] : List Value).drop 6).take (Try.prog.cellsOf 4) := by rw [cellsBo]; rfl
    rw [e]; exact this
  obtain ⟨v6, e, -⟩ := DataW.trod_bool Try.underlying4 f6
  simp only [List.cons.injEq, and_true] at e
  subst e
  exact ⟨⟨v0, v1, v2, v3, v4, v5, v6⟩, ⟨wf64 w0, wf64 w1⟩, rfl⟩
end Go.Proofs.Ytlnpcbofebppcab
