/-
  How a board that is handed in is read: its cells, its numbers; conditions: those of the row.
-/
import Derived.Test.YtokbnffofaeipaaXvArg
import Derived.Test.YtokbnffofaeipaaMBase
import Derived.ProofKit
import Derived.OpenShut
import Derived.ChangeOld
import Derived.Below
import Derived.Carry
set_option linter.unusedSimpArgs false
set_option linter.unusedVariables false
namespace Go.Proofs.Ytokbnffofaeipaa
open Go.ChangeShapes Go.WideShapes Go.ChangeAt Go.RowKit Classical
theorem cellsBoard : Try.prog.cellsOf 37 = 31 := by kernel_rfl
theorem cellsI : Try.prog.cellsOf 3 = 1 := by kernel_rfl
theorem cellsM : Try.prog.cellsOf 34 = 1 := by kernel_rfl
theorem cellsB : Try.prog.cellsOf 4 = 1 := by kernel_rfl
theorem cellsR : Try.prog.cellsOf 35 = 8 := by kernel_rfl
theorem list31 {l : List Value} (h : l.length = 31) : ∃ c0 c1 c2 c3 c4 c5 c6 c7 c8 c9 c10 c11 c12 c13 c14 c15 c16 c17 c18 c19 c20 c21 c22 c23 c24 c25 c26 c27 c28 c29 c30, l = [c0, c1, c2, c3, c4, c5, c6, c7, c8, c9, c10, c11, c12, c13, c14, c15, c16, c17, c18, c19, c20, c21, c22, c23, c24, c25, c26, c27, c28, c29, c30] := by
  match l, h with
  | [c0, c1, c2, c3, c4, c5, c6, c7, c8, c9, c10, c11, c12, c13, c14, c15, c16, c17, c18, c19, c20, c21, c22, c23, c24, c25, c26, c27, c28, c29, c30], _ => exact ⟨_, _, _, _, _, _, _, _, _, _, _, _, _, _, _, _, _, _, _, _, _, _, _, _, _, _, _, _, _, _, _, rfl⟩
theorem wf64 {n : Int} (h : (Lit.int .i64 n).wf = true) : -9223372036854775808 ≤ n ∧ n ≤ 9223372036854775807 := by
  simp [Lit.wf, IntKind.min, IntKind.max, IntKind.signed, IntKind.bits] at h
  omega
set_option maxRecDepth 100000 in
theorem board_of {H : Type} {enc : TypeId × Value → H} {W : World} {base : Nat} {v : Value} {d : DataW H} {p : List MemPlace}
    (hv : Value.okWide Try.prog W .any base 37 v) (h : DataW.Trod enc Try.prog W 0 (fun _ => true) true 37 v d p) : ∃ b : Bd, b.Wf ∧ v = .agg b.cells := by
  obtain ⟨cs, rfl, hcs⟩ := okWide_struct Try.underlying37 hv
  rw [cellsBoard] at hcs
  obtain ⟨l⟩ := cs
  obtain ⟨c0, c1, c2, c3, c4, c5, c6, c7, c8, c9, c10, c11, c12, c13, c14, c15, c16, c17, c18, c19, c20, c21, c22, c23, c24, c25, c26, c27, c28, c29, c30, rfl⟩ := list31 (l := l) (by simpa using hcs)
  obtain ⟨fuel, hf⟩ := h
  obtain ⟨xs, n, _, -, -, hxl, hfld⟩ := DataW.trod_struct Try.underlying37 hf
  have hxl' : xs.length = 24 := hxl
  have f0 : DataW.trod enc Try.prog W 0 (fun _ => true) true n 3 [c0] = some (xs[0]'(by omega)) := by
    have := hfld 0 _ rfl
    rw [List.getElem?_eq_getElem (show 0 < xs.length by omega)] at this
    have e : [c0] = (([c0, c1, c2, c3, c4, c5, c6, c7, c8, c9, c10, c11, c12, c13, c14, c15, c16, c17, c18, c19, c20, c21, c22, c23, c24, c25, c26, c27, c28, c29, c30] : List Value).drop 0).take (Try.prog.cellsOf 3) := by rw [cellsI]; rfl
    rw [e]; exact this
  obtain ⟨v0, e, -, w0⟩ := DataW.trod_int Try.underlying3 f0
  simp only [List.cons.injEq, and_true] at e
  subst e
  have f1 : DataW.trod enc Try.prog W 0 (fun _ => true) true n 3 [c1] = some (xs[1]'(by omega)) := by
    have := hfld 1 _ rfl
    rw [List.getElem?_eq_getElem (show 1 < xs.length by omega)] at this
    have e : [c1] = (([.int .i64 v0, c1, c2, c3, c4, c5, c6, c7, c8, c9, c10, c11, c12, c13, c14, c15, c16, c17, c18, c19, c20, c21, c22, c23, c24, c25, c26, c27, c28, c29, c30] : List Value).drop 1).take (Try.prog.cellsOf 3) := by rw [cellsI]; rfl
    rw [e]; exact this
  obtain ⟨v1, e, -, w1⟩ := DataW.trod_int Try.underlying3 f1
  simp only [List.cons.injEq, and_true] at e
  subst e
  have f2 : DataW.trod enc Try.prog W 0 (fun _ => true) true n 34 [c2] = some (xs[2]'(by omega)) := by
    have := hfld 2 _ rfl
    rw [List.getElem?_eq_getElem (show 2 < xs.length by omega)] at this
    have e : [c2] = (([.int .i64 v0, .int .i64 v1, c2, c3, c4, c5, c6, c7, c8, c9, c10, c11, c12, c13, c14, c15, c16, c17, c18, c19, c20, c21, c22, c23, c24, c25, c26, c27, c28, c29, c30] : List Value).drop 2).take (Try.prog.cellsOf 34) := by rw [cellsM]; rfl
    rw [e]; exact this
  obtain ⟨v2, e, -, w2⟩ := DataW.trod_int Try.underlying34 f2
  simp only [List.cons.injEq, and_true] at e
  subst e
  have f3 : DataW.trod enc Try.prog W 0 (fun _ => true) true n 4 [c3] = some (xs[3]'(by omega)) := by
    have := hfld 3 _ rfl
    rw [List.getElem?_eq_getElem (show 3 < xs.length by omega)] at this
    have e : [c3] = (([.int .i64 v0, .int .i64 v1, .int .u8 v2, c3, c4, c5, c6, c7, c8, c9, c10, c11, c12, c13, c14, c15, c16, c17, c18, c19, c20, c21, c22, c23, c24, c25, c26, c27, c28, c29, c30] : List Value).drop 3).take (Try.prog.cellsOf 4) := by rw [cellsB]; rfl
    rw [e]; exact this
  obtain ⟨v3, e, -⟩ := DataW.trod_bool Try.underlying4 f3
  simp only [List.cons.injEq, and_true] at e
  subst e
  have f4 : DataW.trod enc Try.prog W 0 (fun _ => true) true n 3 [c4] = some (xs[4]'(by omega)) := by
    have := hfld 4 _ rfl
    rw [List.getElem?_eq_getElem (show 4 < xs.length by omega)] at this
    have e : [c4] = (([.int .i64 v0, .int .i64 v1, .int .u8 v2, .bool v3, c4, c5, c6, c7, c8, c9, c10, c11, c12, c13, c14, c15, c16, c17, c18, c19, c20, c21, c22, c23, c24, c25, c26, c27, c28, c29, c30] : List Value).drop 4).take (Try.prog.cellsOf 3) := by rw [cellsI]; rfl
    rw [e]; exact this
  obtain ⟨v4, e, -, w4⟩ := DataW.trod_int Try.underlying3 f4
  simp only [List.cons.injEq, and_true] at e
  subst e
  have f5 : DataW.trod enc Try.prog W 0 (fun _ => true) true n 3 [c5] = some (xs[5]'(by omega)) := by
    have := hfld 5 _ rfl
    rw [List.getElem?_eq_getElem (show 5 < xs.length by omega)] at this
    have e : [c5] = (([.int .i64 v0, .int .i64 v1, .int .u8 v2, .bool v3, .int .i64 v4, c5, c6, c7, c8, c9, c10, c11, c12, c13, c14, c15, c16, c17, c18, c19, c20, c21, c22, c23, c24, c25, c26, c27, c28, c29, c30] : List Value).drop 5).take (Try.prog.cellsOf 3) := by rw [cellsI]; rfl
    rw [e]; exact this
  obtain ⟨v5, e, -, w5⟩ := DataW.trod_int Try.underlying3 f5
  simp only [List.cons.injEq, and_true] at e
  subst e
  have f6 : DataW.trod enc Try.prog W 0 (fun _ => true) true n 4 [c6] = some (xs[6]'(by omega)) := by
    have := hfld 6 _ rfl
    rw [List.getElem?_eq_getElem (show 6 < xs.length by omega)] at this
    have e : [c6] = (([.int .i64 v0, .int .i64 v1, .int .u8 v2, .bool v3, .int .i64 v4, .int .i64 v5, c6, c7, c8, c9, c10, c11, c12, c13, c14, c15, c16, c17, c18, c19, c20, c21, c22, c23, c24, c25, c26, c27, c28, c29, c30] : List Value).drop 6).take (Try.prog.cellsOf 4) := by rw [cellsB]; rfl
    rw [e]; exact this
  obtain ⟨v6, e, -⟩ := DataW.trod_bool Try.underlying4 f6
  simp only [List.cons.injEq, and_true] at e
  subst e
  have f7 : DataW.trod enc Try.prog W 0 (fun _ => true) true n 5 [c7] = some (xs[7]'(by omega)) := by
    have := hfld 7 _ rfl
    rw [List.getElem?_eq_getElem (show 7 < xs.length by omega)] at this
    have e : [c7] = (([.int .i64 v0, .int .i64 v1, .int .u8 v2, .bool v3, .int .i64 v4, .int .i64 v5, .bool v6, c7, c8, c9, c10, c11, c12, c13, c14, c15, c16, c17, c18, c19, c20, c21, c22, c23, c24, c25, c26, c27, c28, c29, c30] : List Value).drop 7).take (Try.prog.cellsOf 5) := by rw [cellsU]; rfl
    rw [e]; exact this
  obtain ⟨v7, e, -, w7⟩ := DataW.trod_int Try.underlying5 f7
  simp only [List.cons.injEq, and_true] at e
  subst e
  have f8 : DataW.trod enc Try.prog W 0 (fun _ => true) true n 5 [c8] = some (xs[8]'(by omega)) := by
    have := hfld 8 _ rfl
    rw [List.getElem?_eq_getElem (show 8 < xs.length by omega)] at this
    have e : [c8] = (([.int .i64 v0, .int .i64 v1, .int .u8 v2, .bool v3, .int .i64 v4, .int .i64 v5, .bool v6, .int .u8 v7, c8, c9, c10, c11, c12, c13, c14, c15, c16, c17, c18, c19, c20, c21, c22, c23, c24, c25, c26, c27, c28, c29, c30] : List Value).drop 8).take (Try.prog.cellsOf 5) := by rw [cellsU]; rfl
    rw [e]; exact this
  obtain ⟨v8, e, -, w8⟩ := DataW.trod_int Try.underlying5 f8
  simp only [List.cons.injEq, and_true] at e
  subst e
  have f9 : DataW.trod enc Try.prog W 0 (fun _ => true) true n 5 [c9] = some (xs[9]'(by omega)) := by
    have := hfld 9 _ rfl
    rw [List.getElem?_eq_getElem (show 9 < xs.length by omega)] at this
    have e : [c9] = (([.int .i64 v0, .int .i64 v1, .int .u8 v2, .bool v3, .int .i64 v4, .int .i64 v5, .bool v6, .int .u8 v7, .int .u8 v8, c9, c10, c11, c12, c13, c14, c15, c16, c17, c18, c19, c20, c21, c22, c23, c24, c25, c26, c27, c28, c29, c30] : List Value).drop 9).take (Try.prog.cellsOf 5) := by rw [cellsU]; rfl
    rw [e]; exact this
  obtain ⟨v9, e, -, w9⟩ := DataW.trod_int Try.underlying5 f9
  simp only [List.cons.injEq, and_true] at e
  subst e
  have f10 : DataW.trod enc Try.prog W 0 (fun _ => true) true n 5 [c10] = some (xs[10]'(by omega)) := by
    have := hfld 10 _ rfl
    rw [List.getElem?_eq_getElem (show 10 < xs.length by omega)] at this
    have e : [c10] = (([.int .i64 v0, .int .i64 v1, .int .u8 v2, .bool v3, .int .i64 v4, .int .i64 v5, .bool v6, .int .u8 v7, .int .u8 v8, .int .u8 v9, c10, c11, c12, c13, c14, c15, c16, c17, c18, c19, c20, c21, c22, c23, c24, c25, c26, c27, c28, c29, c30] : List Value).drop 10).take (Try.prog.cellsOf 5) := by rw [cellsU]; rfl
    rw [e]; exact this
  obtain ⟨v10, e, -, w10⟩ := DataW.trod_int Try.underlying5 f10
  simp only [List.cons.injEq, and_true] at e
  subst e
  have f11 : DataW.trod enc Try.prog W 0 (fun _ => true) true n 5 [c11] = some (xs[11]'(by omega)) := by
    have := hfld 11 _ rfl
    rw [List.getElem?_eq_getElem (show 11 < xs.length by omega)] at this
    have e : [c11] = (([.int .i64 v0, .int .i64 v1, .int .u8 v2, .bool v3, .int .i64 v4, .int .i64 v5, .bool v6, .int .u8 v7, .int .u8 v8, .int .u8 v9, .int .u8 v10, c11, c12, c13, c14, c15, c16, c17, c18, c19, c20, c21, c22, c23, c24, c25, c26, c27, c28, c29, c30] : List Value).drop 11).take (Try.prog.cellsOf 5) := by rw [cellsU]; rfl
    rw [e]; exact this
  obtain ⟨v11, e, -, w11⟩ := DataW.trod_int Try.underlying5 f11
  simp only [List.cons.injEq, and_true] at e
  subst e
  have f12 : DataW.trod enc Try.prog W 0 (fun _ => true) true n 3 [c12] = some (xs[12]'(by omega)) := by
    have := hfld 12 _ rfl
    rw [List.getElem?_eq_getElem (show 12 < xs.length by omega)] at this
    have e : [c12] = (([.int .i64 v0, .int .i64 v1, .int .u8 v2, .bool v3, .int .i64 v4, .int .i64 v5, .bool v6, .int .u8 v7, .int .u8 v8, .int .u8 v9, .int .u8 v10, .int .u8 v11, c12, c13, c14, c15, c16, c17, c18, c19, c20, c21, c22, c23, c24, c25, c26, c27, c28, c29, c30] : List Value).drop 12).take (Try.prog.cellsOf 3) := by rw [cellsI]; rfl
    rw [e]; exact this
  obtain ⟨v12, e, -, w12⟩ := DataW.trod_int Try.underlying3 f12
  simp only [List.cons.injEq, and_true] at e
  subst e
  have f13 : DataW.trod enc Try.prog W 0 (fun _ => true) true n 5 [c13] = some (xs[13]'(by omega)) := by
    have := hfld 13 _ rfl
    rw [List.getElem?_eq_getElem (show 13 < xs.length by omega)] at this
    have e : [c13] = (([.int .i64 v0, .int .i64 v1, .int .u8 v2, .bool v3, .int .i64 v4, .int .i64 v5, .bool v6, .int .u8 v7, .int .u8 v8, .int .u8 v9, .int .u8 v10, .int .u8 v11, .int .i64 v12, c13, c14, c15, c16, c17, c18, c19, c20, c21, c22, c23, c24, c25, c26, c27, c28, c29, c30] : List Value).drop 13).take (Try.prog.cellsOf 5) := by rw [cellsU]; rfl
    rw [e]; exact this
  obtain ⟨v13, e, -, w13⟩ := DataW.trod_int Try.underlying5 f13
  simp only [List.cons.injEq, and_true] at e
  subst e
  have f14 : DataW.trod enc Try.prog W 0 (fun _ => true) true n 5 [c14] = some (xs[14]'(by omega)) := by
    have := hfld 14 _ rfl
    rw [List.getElem?_eq_getElem (show 14 < xs.length by omega)] at this
    have e : [c14] = (([.int .i64 v0, .int .i64 v1, .int .u8 v2, .bool v3, .int .i64 v4, .int .i64 v5, .bool v6, .int .u8 v7, .int .u8 v8, .int .u8 v9, .int .u8 v10, .int .u8 v11, .int .i64 v12, .int .u8 v13, c14, c15, c16, c17, c18, c19, c20, c21, c22, c23, c24, c25, c26, c27, c28, c29, c30] : List Value).drop 14).take (Try.prog.cellsOf 5) := by rw [cellsU]; rfl
    rw [e]; exact this
  obtain ⟨v14, e, -, w14⟩ := DataW.trod_int Try.underlying5 f14
  simp only [List.cons.injEq, and_true] at e
  subst e
  have f15 := hfld 15 _ rfl
  rw [List.getElem?_eq_getElem (show 15 < xs.length by omega)] at f15
  obtain ⟨ys, n', -, -, -, hyl, hys⟩ := DataW.trod_array Try.underlying35 f15
  have g0 : DataW.trod enc Try.prog W 0 (fun _ => true) true n' 5 [c15] = some (ys[0]'(by omega)) := by
    have := hys 0 (by omega)
    rw [List.getElem?_eq_getElem (show 0 < ys.length by omega)] at this
    have e : [c15] = (((([.int .i64 v0, .int .i64 v1, .int .u8 v2, .bool v3, .int .i64 v4, .int .i64 v5, .bool v6, .int .u8 v7, .int .u8 v8, .int .u8 v9, .int .u8 v10, .int .u8 v11, .int .i64 v12, .int .u8 v13, .int .u8 v14, c15, c16, c17, c18, c19, c20, c21, c22, c23, c24, c25, c26, c27, c28, c29, c30] : List Value).drop 15).take (Try.prog.cellsOf 35)).drop (0 * Try.prog.cellsOf 5)).take (Try.prog.cellsOf 5) := by rw [cellsU, cellsR]; rfl
    rw [e]; exact this
  obtain ⟨r0, e, -, wr0⟩ := DataW.trod_int Try.underlying5 g0
  simp only [List.cons.injEq, and_true] at e
  subst e
  have g1 : DataW.trod enc Try.prog W 0 (fun _ => true) true n' 5 [c16] = some (ys[1]'(by omega)) := by
    have := hys 1 (by omega)
    rw [List.getElem?_eq_getElem (show 1 < ys.length by omega)] at this
    have e : [c16] = (((([.int .i64 v0, .int .i64 v1, .int .u8 v2, .bool v3, .int .i64 v4, .int .i64 v5, .bool v6, .int .u8 v7, .int .u8 v8, .int .u8 v9, .int .u8 v10, .int .u8 v11, .int .i64 v12, .int .u8 v13, .int .u8 v14, .int .u8 r0, c16, c17, c18, c19, c20, c21, c22, c23, c24, c25, c26, c27, c28, c29, c30] : List Value).drop 15).take (Try.prog.cellsOf 35)).drop (1 * Try.prog.cellsOf 5)).take (Try.prog.cellsOf 5) := by rw [cellsU, cellsR]; rfl
    rw [e]; exact this
  obtain ⟨r1, e, -, wr1⟩ := DataW.trod_int Try.underlying5 g1
  simp only [List.cons.injEq, and_true] at e
  subst e
  have g2 : DataW.trod enc Try.prog W 0 (fun _ => true) true n' 5 [c17] = some (ys[2]'(by omega)) := by
    have := hys 2 (by omega)
    rw [List.getElem?_eq_getElem (show 2 < ys.length by omega)] at this
    have e : [c17] = (((([.int .i64 v0, .int .i64 v1, .int .u8 v2, .bool v3, .int .i64 v4, .int .i64 v5, .bool v6, .int .u8 v7, .int .u8 v8, .int .u8 v9, .int .u8 v10, .int .u8 v11, .int .i64 v12, .int .u8 v13, .int .u8 v14, .int .u8 r0, .int .u8 r1, c17, c18, c19, c20, c21, c22, c23, c24, c25, c26, c27, c28, c29, c30] : List Value).drop 15).take (Try.prog.cellsOf 35)).drop (2 * Try.prog.cellsOf 5)).take (Try.prog.cellsOf 5) := by rw [cellsU, cellsR]; rfl
    rw [e]; exact this
  obtain ⟨r2, e, -, wr2⟩ := DataW.trod_int Try.underlying5 g2
  simp only [List.cons.injEq, and_true] at e
  subst e
  have g3 : DataW.trod enc Try.prog W 0 (fun _ => true) true n' 5 [c18] = some (ys[3]'(by omega)) := by
    have := hys 3 (by omega)
    rw [List.getElem?_eq_getElem (show 3 < ys.length by omega)] at this
    have e : [c18] = (((([.int .i64 v0, .int .i64 v1, .int .u8 v2, .bool v3, .int .i64 v4, .int .i64 v5, .bool v6, .int .u8 v7, .int .u8 v8, .int .u8 v9, .int .u8 v10, .int .u8 v11, .int .i64 v12, .int .u8 v13, .int .u8 v14, .int .u8 r0, .int .u8 r1, .int .u8 r2, c18, c19, c20, c21, c22, c23, c24, c25, c26, c27, c28, c29, c30] : List Value).drop 15).take (Try.prog.cellsOf 35)).drop (3 * Try.prog.cellsOf 5)).take (Try.prog.cellsOf 5) := by rw [cellsU, cellsR]; rfl
    rw [e]; exact this
  obtain ⟨r3, e, -, wr3⟩ := DataW.trod_int Try.underlying5 g3
  simp only [List.cons.injEq, and_true] at e
  subst e
  have g4 : DataW.trod enc Try.prog W 0 (fun _ => true) true n' 5 [c19] = some (ys[4]'(by omega)) := by
    have := hys 4 (by omega)
    rw [List.getElem?_eq_getElem (show 4 < ys.length by omega)] at this
    have e : [c19] = (((([.int .i64 v0, .int .i64 v1, .int .u8 v2, .bool v3, .int .i64 v4, .int .i64 v5, .bool v6, .int .u8 v7, .int .u8 v8, .int .u8 v9, .int .u8 v10, .int .u8 v11, .int .i64 v12, .int .u8 v13, .int .u8 v14, .int .u8 r0, .int .u8 r1, .int .u8 r2, .int .u8 r3, c19, c20, c21, c22, c23, c24, c25, c26, c27, c28, c29, c30] : List Value).drop 15).take (Try.prog.cellsOf 35)).drop (4 * Try.prog.cellsOf 5)).take (Try.prog.cellsOf 5) := by rw [cellsU, cellsR]; rfl
    rw [e]; exact this
  obtain ⟨r4, e, -, wr4⟩ := DataW.trod_int Try.underlying5 g4
  simp only [List.cons.injEq, and_true] at e
  subst e
  have g5 : DataW.trod enc Try.prog W 0 (fun _ => true) true n' 5 [c20] = some (ys[5]'(by omega)) := by
    have := hys 5 (by omega)
    rw [List.getElem?_eq_getElem (show 5 < ys.length by omega)] at this
    have e : [c20] = (((([.int .i64 v0, .int .i64 v1, .int .u8 v2, .bool v3, .int .i64 v4, .int .i64 v5, .bool v6, .int .u8 v7, .int .u8 v8, .int .u8 v9, .int .u8 v10, .int .u8 v11, .int .i64 v12, .int .u8 v13, .int .u8 v14, .int .u8 r0, .int .u8 r1, .int .u8 r2, .int .u8 r3, .int .u8 r4, c20, c21, c22, c23, c24, c25, c26, c27, c28, c29, c30] : List Value).drop 15).take (Try.prog.cellsOf 35)).drop (5 * Try.prog.cellsOf 5)).take (Try.prog.cellsOf 5) := by rw [cellsU, cellsR]; rfl
    rw [e]; exact this
  obtain ⟨r5, e, -, wr5⟩ := DataW.trod_int Try.underlying5 g5
  simp only [List.cons.injEq, and_true] at e
  subst e
  have g6 : DataW.trod enc Try.prog W 0 (fun _ => true) true n' 5 [c21] = some (ys[6]'(by omega)) := by
    have := hys 6 (by omega)
    rw [List.getElem?_eq_getElem (show 6 < ys.length by omega)] at this
    have e : [c21] = (((([.int .i64 v0, .int .i64 v1, .int .u8 v2, .bool v3, .int .i64 v4, .int .i64 v5, .bool v6, .int .u8 v7, .int .u8 v8, .int .u8 v9, .int .u8 v10, .int .u8 v11, .int .i64 v12, .int .u8 v13, .int .u8 v14, .int .u8 r0, .int .u8 r1, .int .u8 r2, .int .u8 r3, .int .u8 r4, .int .u8 r5, c21, c22, c23, c24, c25, c26, c27, c28, c29, c30] : List Value).drop 15).take (Try.prog.cellsOf 35)).drop (6 * Try.prog.cellsOf 5)).take (Try.prog.cellsOf 5) := by rw [cellsU, cellsR]; rfl
    rw [e]; exact this
  obtain ⟨r6, e, -, wr6⟩ := DataW.trod_int Try.underlying5 g6
  simp only [List.cons.injEq, and_true] at e
  subst e
  have g7 : DataW.trod enc Try.prog W 0 (fun _ => true) true n' 5 [c22] = some (ys[7]'(by omega)) := by
    have := hys 7 (by omega)
    rw [List.getElem?_eq_getElem (show 7 < ys.length by omega)] at this
    have e : [c22] = (((([.int .i64 v0, .int .i64 v1, .int .u8 v2, .bool v3, .int .i64 v4, .int .i64 v5, .bool v6, .int .u8 v7, .int .u8 v8, .int .u8 v9, .int .u8 v10, .int .u8 v11, .int .i64 v12, .int .u8 v13, .int .u8 v14, .int .u8 r0, .int .u8 r1, .int .u8 r2, .int .u8 r3, .int .u8 r4, .int .u8 r5, .int .u8 r6, c22, c23, c24, c25, c26, c27, c28, c29, c30] : List Value).drop 15).take (Try.prog.cellsOf 35)).drop (7 * Try.prog.cellsOf 5)).take (Try.prog.cellsOf 5) := by rw [cellsU, cellsR]; rfl
    rw [e]; exact this
  obtain ⟨r7, e, -, wr7⟩ := DataW.trod_int Try.underlying5 g7
  simp only [List.cons.injEq, and_true] at e
  subst e
  have f16 : DataW.trod enc Try.prog W 0 (fun _ => true) true n 5 [c23] = some (xs[16]'(by omega)) := by
    have := hfld 16 _ rfl
    rw [List.getElem?_eq_getElem (show 16 < xs.length by omega)] at this
    have e : [c23] = (([.int .i64 v0, .int .i64 v1, .int .u8 v2, .bool v3, .int .i64 v4, .int .i64 v5, .bool v6, .int .u8 v7, .int .u8 v8, .int .u8 v9, .int .u8 v10, .int .u8 v11, .int .i64 v12, .int .u8 v13, .int .u8 v14, .int .u8 r0, .int .u8 r1, .int .u8 r2, .int .u8 r3, .int .u8 r4, .int .u8 r5, .int .u8 r6, .int .u8 r7, c23, c24, c25, c26, c27, c28, c29, c30] : List Value).drop 23).take (Try.prog.cellsOf 5) := by rw [cellsU]; rfl
    rw [e]; exact this
  obtain ⟨v16, e, -, w16⟩ := DataW.trod_int Try.underlying5 f16
  simp only [List.cons.injEq, and_true] at e
  subst e
  have f17 : DataW.trod enc Try.prog W 0 (fun _ => true) true n 5 [c24] = some (xs[17]'(by omega)) := by
    have := hfld 17 _ rfl
    rw [List.getElem?_eq_getElem (show 17 < xs.length by omega)] at this
    have e : [c24] = (([.int .i64 v0, .int .i64 v1, .int .u8 v2, .bool v3, .int .i64 v4, .int .i64 v5, .bool v6, .int .u8 v7, .int .u8 v8, .int .u8 v9, .int .u8 v10, .int .u8 v11, .int .i64 v12, .int .u8 v13, .int .u8 v14, .int .u8 r0, .int .u8 r1, .int .u8 r2, .int .u8 r3, .int .u8 r4, .int .u8 r5, .int .u8 r6, .int .u8 r7, .int .u8 v16, c24, c25, c26, c27, c28, c29, c30] : List Value).drop 24).take (Try.prog.cellsOf 5) := by rw [cellsU]; rfl
    rw [e]; exact this
  obtain ⟨v17, e, -, w17⟩ := DataW.trod_int Try.underlying5 f17
  simp only [List.cons.injEq, and_true] at e
  subst e
  have f18 : DataW.trod enc Try.prog W 0 (fun _ => true) true n 5 [c25] = some (xs[18]'(by omega)) := by
    have := hfld 18 _ rfl
    rw [List.getElem?_eq_getElem (show 18 < xs.length by omega)] at this
    have e : [c25] = (([.int .i64 v0, .int .i64 v1, .int .u8 v2, .bool v3, .int .i64 v4, .int .i64 v5, .bool v6, .int .u8 v7, .int .u8 v8, .int .u8 v9, .int .u8 v10, .int .u8 v11, .int .i64 v12, .int .u8 v13, .int .u8 v14, .int .u8 r0, .int .u8 r1, .int .u8 r2, .int .u8 r3, .int .u8 r4, .int .u8 r5, .int .u8 r6, .int .u8 r7, .int .u8 v16, .int .u8 v17, c25, c26, c27, c28, c29, c30] : List Value).drop 25).take (Try.prog.cellsOf 5) := by rw [cellsU]; rfl
    rw [e]; exact this
  obtain ⟨v18, e, -, w18⟩ := DataW.trod_int Try.underlying5 f18
  simp only [List.cons.injEq, and_true] at e
  subst e
  have f19 : DataW.trod enc Try.prog W 0 (fun _ => true) true n 5 [c26] = some (xs[19]'(by omega)) := by
    have := hfld 19 _ rfl
    rw [List.getElem?_eq_getElem (show 19 < xs.length by omega)] at this
    have e : [c26] = (([.int .i64 v0, .int .i64 v1, .int .u8 v2, .bool v3, .int .i64 v4, .int .i64 v5, .bool v6, .int .u8 v7, .int .u8 v8, .int .u8 v9, .int .u8 v10, .int .u8 v11, .int .i64 v12, .int .u8 v13, .int .u8 v14, .int .u8 r0, .int .u8 r1, .int .u8 r2, .int .u8 r3, .int .u8 r4, .int .u8 r5, .int .u8 r6, .int .u8 r7, .int .u8 v16, .int .u8 v17, .int .u8 v18, c26, c27, c28, c29, c30] : List Value).drop 26).take (Try.prog.cellsOf 5) := by rw [cellsU]; rfl
    rw [e]; exact this
  obtain ⟨v19, e, -, w19⟩ := DataW.trod_int Try.underlying5 f19
  simp only [List.cons.injEq, and_true] at e
  subst e
  have f20 : DataW.trod enc Try.prog W 0 (fun _ => true) true n 4 [c27] = some (xs[20]'(by omega)) := by
    have := hfld 20 _ rfl
    rw [List.getElem?_eq_getElem (show 20 < xs.length by omega)] at this
    have e : [c27] = (([.int .i64 v0, .int .i64 v1, .int .u8 v2, .bool v3, .int .i64 v4, .int .i64 v5, .bool v6, .int .u8 v7, .int .u8 v8, .int .u8 v9, .int .u8 v10, .int .u8 v11, .int .i64 v12, .int .u8 v13, .int .u8 v14, .int .u8 r0, .int .u8 r1, .int .u8 r2, .int .u8 r3, .int .u8 r4, .int .u8 r5, .int .u8 r6, .int .u8 r7, .int .u8 v16, .int .u8 v17, .int .u8 v18, .int .u8 v19, c27, c28, c29, c30] : List Value).drop 27).take (Try.prog.cellsOf 4) := by rw [cellsB]; rfl
    rw [e]; exact this
  obtain ⟨v20, e, -⟩ := DataW.trod_bool Try.underlying4 f20
  simp only [List.cons.injEq, and_true] at e
  subst e
  have f21 : DataW.trod enc Try.prog W 0 (fun _ => true) true n 4 [c28] = some (xs[21]'(by omega)) := by
    have := hfld 21 _ rfl
    rw [List.getElem?_eq_getElem (show 21 < xs.length by omega)] at this
    have e : [c28] = (([.int .i64 v0, .int .i64 v1, .int .u8 v2, .bool v3, .int .i64 v4, .int .i64 v5, .bool v6, .int .u8 v7, .int .u8 v8, .int .u8 v9, .int .u8 v10, .int .u8 v11, .int .i64 v12, .int .u8 v13, .int .u8 v14, .int .u8 r0, .int .u8 r1, .int .u8 r2, .int .u8 r3, .int .u8 r4, .int .u8 r5, .int .u8 r6, .int .u8 r7, .int .u8 v16, .int .u8 v17, .int .u8 v18, .int .u8 v19, .bool v20, c28, c29, c30] : List Value).drop 28).take (Try.prog.cellsOf 4) := by rw [cellsB]; rfl
    rw [e]; exact this
  obtain ⟨v21, e, -⟩ := DataW.trod_bool Try.underlying4 f21
  simp only [List.cons.injEq, and_true] at e
  subst e
  have f22 : DataW.trod enc Try.prog W 0 (fun _ => true) true n 4 [c29] = some (xs[22]'(by omega)) := by
    have := hfld 22 _ rfl
    rw [List.getElem?_eq_getElem (show 22 < xs.length by omega)] at this
    have e : [c29] = (([.int .i64 v0, .int .i64 v1, .int .u8 v2, .bool v3, .int .i64 v4, .int .i64 v5, .bool v6, .int .u8 v7, .int .u8 v8, .int .u8 v9, .int .u8 v10, .int .u8 v11, .int .i64 v12, .int .u8 v13, .int .u8 v14, .int .u8 r0, .int .u8 r1, .int .u8 r2, .int .u8 r3, .int .u8 r4, .int .u8 r5, .int .u8 r6, .int .u8 r7, .int .u8 v16, .int .u8 v17, .int .u8 v18, .int .u8 v19, .bool v20, .bool v21, c29, c30] : List Value).drop 29).take (Try.prog.cellsOf 4) := by rw [cellsB]; rfl
    rw [e]; exact this
  obtain ⟨v22, e, -⟩ := DataW.trod_bool Try.underlying4 f22
  simp only [List.cons.injEq, and_true] at e
  subst e
  have f23 : DataW.trod enc Try.prog W 0 (fun _ => true) true n 3 [c30] = some (xs[23]'(by omega)) := by
    have := hfld 23 _ rfl
    rw [List.getElem?_eq_getElem (show 23 < xs.length by omega)] at this
    have e : [c30] = (([.int .i64 v0, .int .i64 v1, .int .u8 v2, .bool v3, .int .i64 v4, .int .i64 v5, .bool v6, .int .u8 v7, .int .u8 v8, .int .u8 v9, .int .u8 v10, .int .u8 v11, .int .i64 v12, .int .u8 v13, .int .u8 v14, .int .u8 r0, .int .u8 r1, .int .u8 r2, .int .u8 r3, .int .u8 r4, .int .u8 r5, .int .u8 r6, .int .u8 r7, .int .u8 v16, .int .u8 v17, .int .u8 v18, .int .u8 v19, .bool v20, .bool v21, .bool v22, c30] : List Value).drop 30).take (Try.prog.cellsOf 3) := by rw [cellsI]; rfl
    rw [e]; exact this
  obtain ⟨v23, e, -, w23⟩ := DataW.trod_int Try.underlying3 f23
  simp only [List.cons.injEq, and_true] at e
  subst e
  refine ⟨{ kind := v0, sub := v1, hard := v2, work := v3, prg := v4, chr := v5, chrRam := v6, shift := v7, ctrl := v8, chrA := v9, chrB := v10, prgR := v11, last := v12, latch := v13, sel := v14, r := [r0, r1, r2, r3, r4, r5, r6, r7], turn := v16, guard := v17, iLatch := v18, iCount := v19, iLoad := v20, iOn := v21, irq := v22, epoch := v23 }, { kind := wf64 w0, sub := wf64 w1, hard := wf8 w2, prg := wf64 w4, chr := wf64 w5, shift := wf8 w7, ctrl := wf8 w8, chrA := wf8 w9, chrB := wf8 w10, prgR := wf8 w11, last := wf64 w12, latch := wf8 w13, sel := wf8 w14, turn := wf8 w16, guard := wf8 w17, iLatch := wf8 w18, iCount := wf8 w19, epoch := wf64 w23, rlen := rfl, rall := ?_ }, rfl⟩
  intro x hx
  simp only [List.mem_cons, List.not_mem_nil, or_false] at hx
  rcases hx with rfl | rfl | rfl | rfl | rfl | rfl | rfl | rfl
  · exact wf8 wr0
  · exact wf8 wr1
  · exact wf8 wr2
  · exact wf8 wr3
  · exact wf8 wr4
  · exact wf8 wr5
  · exact wf8 wr6
  · exact wf8 wr7
end Go.Proofs.Ytokbnffofaeipaa
