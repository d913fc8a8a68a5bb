/-
  How a shape that is handed in by value is read: six numbers, two truth values; conditions: those of the row.
-/
import Derived.Test.YtggphgmpdanliaaMArg
namespace Go.Proofs.Ytggphgmpdanliaa
open Go.ChangeShapes Go.WideShapes Go.ChangeAt Go.RowKit Classical
theorem cellsShape : Try.prog.cellsOf 23 = 8 := by kernel_rfl
theorem shCellsI : Try.prog.cellsOf 3 = 1 := by kernel_rfl
theorem shCellsB : Try.prog.cellsOf 4 = 1 := by kernel_rfl
theorem list8 {l : List Value} (h : l.length = 8) : ∃ c0 c1 c2 c3 c4 c5 c6 c7, l = [c0, c1, c2, c3, c4, c5, c6, c7] := by
  match l, h with
  | [c0, c1, c2, c3, c4, c5, c6, c7], _ => exact ⟨_, _, _, _, _, _, _, _, rfl⟩
theorem shWf64 {n : Int} (h : (Lit.int .i64 n).wf = true) : -9223372036854775808 ≤ n ∧ n ≤ 9223372036854775807 := by
  simp [Lit.wf, IntKind.min, IntKind.max, IntKind.signed, IntKind.bits] at h
  omega
set_option maxRecDepth 100000 in
theorem shape_of {H : Type} {enc : TypeId × Value → H} {W : World} {base : Nat} {v : Value} {d : DataW H} {p : List MemPlace}
    (hv : Value.okWide Try.prog W .any base 23 v) (h : DataW.Trod enc Try.prog W 0 (fun _ => true) true 23 v d p) :
    ∃ (v0 v1 v2 v3 v4 v5 : Int) (v6 v7 : Bool), (-9223372036854775808 ≤ v4 ∧ v4 ≤ 9223372036854775807) ∧ (-9223372036854775808 ≤ v5 ∧ v5 ≤ 9223372036854775807) ∧ v = .agg #[.int .i64 v0, .int .i64 v1, .int .i64 v2, .int .i64 v3, .int .i64 v4, .int .i64 v5, .bool v6, .bool v7] := by
  obtain ⟨cs, rfl, hcs⟩ := okWide_struct Try.underlying23 hv
  rw [cellsShape] at hcs
  obtain ⟨l⟩ := cs
  obtain ⟨c0, c1, c2, c3, c4, c5, c6, c7, rfl⟩ := list8 (l := l) (by simpa using hcs)
  obtain ⟨fuel, hf⟩ := h
  obtain ⟨xs, n, _, -, -, hxl, hfld⟩ := DataW.trod_struct Try.underlying23 hf
  have hxl' : xs.length = 8 := hxl
  have f0 : DataW.trod enc Try.prog W 0 (fun _ => true) true n 3 [c0] = some (xs[0]'(by omega)) := by
    have := hfld 0 _ rfl
    rw [List.getElem?_eq_getElem (show 0 < xs.length by omega)] at this
    have e : [c0] = (([c0, c1, c2, c3, c4, c5, c6, c7] : List Value).drop 0).take (Try.prog.cellsOf 3) := by rw [shCellsI]; rfl
    rw [e]; exact this
  obtain ⟨v0, e, -, -⟩ := DataW.trod_int Try.underlying3 f0
  simp only [List.cons.injEq, and_true] at e
  subst e
  have f1 : DataW.trod enc Try.prog W 0 (fun _ => true) true n 3 [c1] = some (xs[1]'(by omega)) := by
    have := hfld 1 _ rfl
    rw [List.getElem?_eq_getElem (show 1 < xs.length by omega)] at this
    have e : [c1] = (([.int .i64 v0, c1, c2, c3, c4, c5, c6, c7] : List Value).drop 1).take (Try.prog.cellsOf 3) := by rw [shCellsI]; rfl
    rw [e]; exact this
  obtain ⟨v1, e, -, -⟩ := DataW.trod_int Try.underlying3 f1
  simp only [List.cons.injEq, and_true] at e
  subst e
  have f2 : DataW.trod enc Try.prog W 0 (fun _ => true) true n 3 [c2] = some (xs[2]'(by omega)) := by
    have := hfld 2 _ rfl
    rw [List.getElem?_eq_getElem (show 2 < xs.length by omega)] at this
    have e : [c2] = (([.int .i64 v0, .int .i64 v1, c2, c3, c4, c5, c6, c7] : List Value).drop 2).take (Try.prog.cellsOf 3) := by rw [shCellsI]; rfl
    rw [e]; exact this
  obtain ⟨v2, e, -, -⟩ := DataW.trod_int Try.underlying3 f2
  simp only [List.cons.injEq, and_true] at e
  subst e
  have f3 : DataW.trod enc Try.prog W 0 (fun _ => true) true n 3 [c3] = some (xs[3]'(by omega)) := by
    have := hfld 3 _ rfl
    rw [List.getElem?_eq_getElem (show 3 < xs.length by omega)] at this
    have e : [c3] = (([.int .i64 v0, .int .i64 v1, .int .i64 v2, c3, c4, c5, c6, c7] : List Value).drop 3).take (Try.prog.cellsOf 3) := by rw [shCellsI]; rfl
    rw [e]; exact this
  obtain ⟨v3, e, -, -⟩ := DataW.trod_int Try.underlying3 f3
  simp only [List.cons.injEq, and_true] at e
  subst e
  have f4 : DataW.trod enc Try.prog W 0 (fun _ => true) true n 3 [c4] = some (xs[4]'(by omega)) := by
    have := hfld 4 _ rfl
    rw [List.getElem?_eq_getElem (show 4 < xs.length by omega)] at this
    have e : [c4] = (([.int .i64 v0, .int .i64 v1, .int .i64 v2, .int .i64 v3, c4, c5, c6, c7] : List Value).drop 4).take (Try.prog.cellsOf 3) := by rw [shCellsI]; rfl
    rw [e]; exact this
  obtain ⟨v4, e, -, w4⟩ := DataW.trod_int Try.underlying3 f4
  simp only [List.cons.injEq, and_true] at e
  subst e
  have f5 : DataW.trod enc Try.prog W 0 (fun _ => true) true n 3 [c5] = some (xs[5]'(by omega)) := by
    have := hfld 5 _ rfl
    rw [List.getElem?_eq_getElem (show 5 < xs.length by omega)] at this
    have e : [c5] = (([.int .i64 v0, .int .i64 v1, .int .i64 v2, .int .i64 v3, .int .i64 v4, c5, c6, c7] : List Value).drop 5).take (Try.prog.cellsOf 3) := by rw [shCellsI]; rfl
    rw [e]; exact this
  obtain ⟨v5, e, -, w5⟩ := DataW.trod_int Try.underlying3 f5
  simp only [List.cons.injEq, and_true] at e
  subst e
  have f6 : DataW.trod enc Try.prog W 0 (fun _ => true) true n 4 [c6] = some (xs[6]'(by omega)) := by
    have := hfld 6 _ rfl
    rw [List.getElem?_eq_getElem (show 6 < xs.length by omega)] at this
    have e : [c6] = (([.int .i64 v0, .int .i64 v1, .int .i64 v2, .int .i64 v3, .int .i64 v4, .int .i64 v5, c6, c7] : List Value).drop 6).take (Try.prog.cellsOf 4) := by rw [shCellsB]; rfl
    rw [e]; exact this
  obtain ⟨v6, e, -⟩ := DataW.trod_bool Try.underlying4 f6
  simp only [List.cons.injEq, and_true] at e
  subst e
  have f7 : DataW.trod enc Try.prog W 0 (fun _ => true) true n 4 [c7] = some (xs[7]'(by omega)) := by
    have := hfld 7 _ rfl
    rw [List.getElem?_eq_getElem (show 7 < xs.length by omega)] at this
    have e : [c7] = (([.int .i64 v0, .int .i64 v1, .int .i64 v2, .int .i64 v3, .int .i64 v4, .int .i64 v5, .bool v6, c7] : List Value).drop 7).take (Try.prog.cellsOf 4) := by rw [shCellsB]; rfl
    rw [e]; exact this
  obtain ⟨v7, e, -⟩ := DataW.trod_bool Try.underlying4 f7
  simp only [List.cons.injEq, and_true] at e
  subst e
  exact ⟨v0, v1, v2, v3, v4, v5, v6, v7, shWf64 w4, shWf64 w5, rfl⟩
end Go.Proofs.Ytggphgmpdanliaa
