/-
  How a clock that is handed in by value is read; conditions: those of the row.
-/
import Derived.Test.YtjacadiaafcckacDoorTBase
import Derived.ProofKit
import Derived.OpenShut
import Derived.ChangeOld
import Derived.Below
import Derived.Carry
set_option linter.unusedSimpArgs false
set_option linter.unusedVariables false
namespace Go.Proofs.YtjacadiaafcckacDoor
open Go.ChangeShapes Go.WideShapes Go.ChangeAt Go.RowKit Classical
theorem cellsClk : Tryd.prog.cellsOf 24 = 13 := by kernel_rfl
theorem cellsU8 : Tryd.prog.cellsOf 5 = 1 := by kernel_rfl
theorem cellsU16 : Tryd.prog.cellsOf 22 = 1 := by kernel_rfl
theorem cellsBo : Tryd.prog.cellsOf 4 = 1 := by kernel_rfl
theorem list13 {l : List Value} (h : l.length = 13) : ∃ c0 c1 c2 c3 c4 c5 c6 c7 c8 c9 c10 c11 c12, l = [c0, c1, c2, c3, c4, c5, c6, c7, c8, c9, c10, c11, c12] := by
  match l, h with
  | [c0, c1, c2, c3, c4, c5, c6, c7, c8, c9, c10, c11, c12], _ => exact ⟨_, _, _, _, _, _, _, _, _, _, _, _, _, rfl⟩
theorem wf8 {n : Int} (h : (Lit.int .u8 n).wf = true) : 0 ≤ n ∧ n ≤ 255 := by
  simp [Lit.wf, IntKind.min, IntKind.max, IntKind.signed, IntKind.bits] at h
  omega
theorem wf16 {n : Int} (h : (Lit.int .u16 n).wf = true) : 0 ≤ n ∧ n ≤ 65535 := by
  simp [Lit.wf, IntKind.min, IntKind.max, IntKind.signed, IntKind.bits] at h
  omega
theorem wf64 {n : Int} (h : (Lit.int .i64 n).wf = true) : -9223372036854775808 ≤ n ∧ n ≤ 9223372036854775807 := by
  simp [Lit.wf, IntKind.min, IntKind.max, IntKind.signed, IntKind.bits] at h
  omega
theorem ck_of {H : Type} {enc : TypeId × Value → H} {W : World} {base : Nat} {v : Value} {d : DataW H} {p : List MemPlace}
    (hv : Value.okWide Tryd.prog W .any base 24 v) (h : DataW.Trod enc Tryd.prog W 0 (fun _ => true) true 24 v d p) :
    ∃ c : Ck, c.Ok ∧ v = .agg c.cells := by
  obtain ⟨cs, rfl, hcs⟩ := okWide_struct Tryd.underlying24 hv
  rw [cellsClk] at hcs
  obtain ⟨l⟩ := cs
  obtain ⟨c0, c1, c2, c3, c4, c5, c6, c7, c8, c9, c10, c11, c12, rfl⟩ := list13 (l := l) (by simpa using hcs)
  obtain ⟨fuel, hf⟩ := h
  obtain ⟨xs, n, _, -, -, hxl, hfld⟩ := DataW.trod_struct Tryd.underlying24 hf
  have hxl' : xs.length = 13 := hxl
  have f0 : DataW.trod enc Tryd.prog W 0 (fun _ => true) true n 22 [c0] = some (xs[0]'(by omega)) := by
    have := hfld 0 _ rfl
    rw [List.getElem?_eq_getElem (show 0 < xs.length by omega)] at this
    have e : [c0] = (([c0, c1, c2, c3, c4, c5, c6, c7, c8, c9, c10, c11, c12] : List Value).drop 0).take (Tryd.prog.cellsOf 22) := by rw [cellsU16]; rfl
    rw [e]; exact this
  obtain ⟨v0, e, -, w0⟩ := DataW.trod_int Tryd.underlying22 f0
  simp only [List.cons.injEq, and_true] at e
  subst e
  have f1 : DataW.trod enc Tryd.prog W 0 (fun _ => true) true n 22 [c1] = some (xs[1]'(by omega)) := by
    have := hfld 1 _ rfl
    rw [List.getElem?_eq_getElem (show 1 < xs.length by omega)] at this
    have e : [c1] = (([.int .u16 v0, c1, c2, c3, c4, c5, c6, c7, c8, c9, c10, c11, c12] : List Value).drop 1).take (Tryd.prog.cellsOf 22) := by rw [cellsU16]; rfl
    rw [e]; exact this
  obtain ⟨v1, e, -, w1⟩ := DataW.trod_int Tryd.underlying22 f1
  simp only [List.cons.injEq, and_true] at e
  subst e
  have f2 : DataW.trod enc Tryd.prog W 0 (fun _ => true) true n 22 [c2] = some (xs[2]'(by omega)) := by
    have := hfld 2 _ rfl
    rw [List.getElem?_eq_getElem (show 2 < xs.length by omega)] at this
    have e : [c2] = (([.int .u16 v0, .int .u16 v1, c2, c3, c4, c5, c6, c7, c8, c9, c10, c11, c12] : List Value).drop 2).take (Tryd.prog.cellsOf 22) := by rw [cellsU16]; rfl
    rw [e]; exact this
  obtain ⟨v2, e, -, w2⟩ := DataW.trod_int Tryd.underlying22 f2
  simp only [List.cons.injEq, and_true] at e
  subst e
  have f3 : DataW.trod enc Tryd.prog W 0 (fun _ => true) true n 5 [c3] = some (xs[3]'(by omega)) := by
    have := hfld 3 _ rfl
    rw [List.getElem?_eq_getElem (show 3 < xs.length by omega)] at this
    have e : [c3] = (([.int .u16 v0, .int .u16 v1, .int .u16 v2, c3, c4, c5, c6, c7, c8, c9, c10, c11, c12] : List Value).drop 3).take (Tryd.prog.cellsOf 5) := by rw [cellsU8]; rfl
    rw [e]; exact this
  obtain ⟨v3, e, -, w3⟩ := DataW.trod_int Tryd.underlying5 f3
  simp only [List.cons.injEq, and_true] at e
  subst e
  have f4 : DataW.trod enc Tryd.prog W 0 (fun _ => true) true n 5 [c4] = some (xs[4]'(by omega)) := by
    have := hfld 4 _ rfl
    rw [List.getElem?_eq_getElem (show 4 < xs.length by omega)] at this
    have e : [c4] = (([.int .u16 v0, .int .u16 v1, .int .u16 v2, .int .u8 v3, c4, c5, c6, c7, c8, c9, c10, c11, c12] : List Value).drop 4).take (Tryd.prog.cellsOf 5) := by rw [cellsU8]; rfl
    rw [e]; exact this
  obtain ⟨v4, e, -, w4⟩ := DataW.trod_int Tryd.underlying5 f4
  simp only [List.cons.injEq, and_true] at e
  subst e
  have f5 : DataW.trod enc Tryd.prog W 0 (fun _ => true) true n 4 [c5] = some (xs[5]'(by omega)) := by
    have := hfld 5 _ rfl
    rw [List.getElem?_eq_getElem (show 5 < xs.length by omega)] at this
    have e : [c5] = (([.int .u16 v0, .int .u16 v1, .int .u16 v2, .int .u8 v3, .int .u8 v4, c5, c6, c7, c8, c9, c10, c11, c12] : List Value).drop 5).take (Tryd.prog.cellsOf 4) := by rw [cellsBo]; rfl
    rw [e]; exact this
  obtain ⟨v5, e, -⟩ := DataW.trod_bool Tryd.underlying4 f5
  simp only [List.cons.injEq, and_true] at e
  subst e
  have f6 : DataW.trod enc Tryd.prog W 0 (fun _ => true) true n 4 [c6] = some (xs[6]'(by omega)) := by
    have := hfld 6 _ rfl
    rw [List.getElem?_eq_getElem (show 6 < xs.length by omega)] at this
    have e : [c6] = (([.int .u16 v0, .int .u16 v1, .int .u16 v2, .int .u8 v3, .int .u8 v4, .bool v5, c6, c7, c8, c9, c10, c11, c12] : List Value).drop 6).take (Tryd.prog.cellsOf 4) := by rw [cellsBo]; rfl
    rw [e]; exact this
  obtain ⟨v6, e, -⟩ := DataW.trod_bool Tryd.underlying4 f6
  simp only [List.cons.injEq, and_true] at e
  subst e
  have f7 : DataW.trod enc Tryd.prog W 0 (fun _ => true) true n 4 [c7] = some (xs[7]'(by omega)) := by
    have := hfld 7 _ rfl
    rw [List.getElem?_eq_getElem (show 7 < xs.length by omega)] at this
    have e : [c7] = (([.int .u16 v0, .int .u16 v1, .int .u16 v2, .int .u8 v3, .int .u8 v4, .bool v5, .bool v6, c7, c8, c9, c10, c11, c12] : List Value).drop 7).take (Tryd.prog.cellsOf 4) := by rw [cellsBo]; rfl
    rw [e]; exact this
  obtain ⟨v7, e, -⟩ := DataW.trod_bool Tryd.underlying4 f7
  simp only [List.cons.injEq, and_true] at e
  subst e
  have f8 : DataW.trod enc Tryd.prog W 0 (fun _ => true) true n 4 [c8] = some (xs[8]'(by omega)) := by
    have := hfld 8 _ rfl
    rw [List.getElem?_eq_getElem (show 8 < xs.length by omega)] at this
    have e : [c8] = (([.int .u16 v0, .int .u16 v1, .int .u16 v2, .int .u8 v3, .int .u8 v4, .bool v5, .bool v6, .bool v7, c8, c9, c10, c11, c12] : List Value).drop 8).take (Tryd.prog.cellsOf 4) := by rw [cellsBo]; rfl
    rw [e]; exact this
  obtain ⟨v8, e, -⟩ := DataW.trod_bool Tryd.underlying4 f8
  simp only [List.cons.injEq, and_true] at e
  subst e
  have f9 : DataW.trod enc Tryd.prog W 0 (fun _ => true) true n 4 [c9] = some (xs[9]'(by omega)) := by
    have := hfld 9 _ rfl
    rw [List.getElem?_eq_getElem (show 9 < xs.length by omega)] at this
    have e : [c9] = (([.int .u16 v0, .int .u16 v1, .int .u16 v2, .int .u8 v3, .int .u8 v4, .bool v5, .bool v6, .bool v7, .bool v8, c9, c10, c11, c12] : List Value).drop 9).take (Tryd.prog.cellsOf 4) := by rw [cellsBo]; rfl
    rw [e]; exact this
  obtain ⟨v9, e, -⟩ := DataW.trod_bool Tryd.underlying4 f9
  simp only [List.cons.injEq, and_true] at e
  subst e
  have f10 : DataW.trod enc Tryd.prog W 0 (fun _ => true) true n 22 [c10] = some (xs[10]'(by omega)) := by
    have := hfld 10 _ rfl
    rw [List.getElem?_eq_getElem (show 10 < xs.length by omega)] at this
    have e : [c10] = (([.int .u16 v0, .int .u16 v1, .int .u16 v2, .int .u8 v3, .int .u8 v4, .bool v5, .bool v6, .bool v7, .bool v8, .bool v9, c10, c11, c12] : List Value).drop 10).take (Tryd.prog.cellsOf 22) := by rw [cellsU16]; rfl
    rw [e]; exact this
  obtain ⟨v10, e, -, w10⟩ := DataW.trod_int Tryd.underlying22 f10
  simp only [List.cons.injEq, and_true] at e
  subst e
  have f11 : DataW.trod enc Tryd.prog W 0 (fun _ => true) true n 5 [c11] = some (xs[11]'(by omega)) := by
    have := hfld 11 _ rfl
    rw [List.getElem?_eq_getElem (show 11 < xs.length by omega)] at this
    have e : [c11] = (([.int .u16 v0, .int .u16 v1, .int .u16 v2, .int .u8 v3, .int .u8 v4, .bool v5, .bool v6, .bool v7, .bool v8, .bool v9, .int .u16 v10, c11, c12] : List Value).drop 11).take (Tryd.prog.cellsOf 5) := by rw [cellsU8]; rfl
    rw [e]; exact this
  obtain ⟨v11, e, -, w11⟩ := DataW.trod_int Tryd.underlying5 f11
  simp only [List.cons.injEq, and_true] at e
  subst e
  have f12 : DataW.trod enc Tryd.prog W 0 (fun _ => true) true n 5 [c12] = some (xs[12]'(by omega)) := by
    have := hfld 12 _ rfl
    rw [List.getElem?_eq_getElem (show 12 < xs.length by omega)] at this
    have e : [c12] = (([.int .u16 v0, .int .u16 v1, .int .u16 v2, .int .u8 v3, .int .u8 v4, .bool v5, .bool v6, .bool v7, .bool v8, .bool v9, .int .u16 v10, .int .u8 v11, c12] : List Value).drop 12).take (Tryd.prog.cellsOf 5) := by rw [cellsU8]; rfl
    rw [e]; exact this
  obtain ⟨v12, e, -, w12⟩ := DataW.trod_int Tryd.underlying5 f12
  simp only [List.cons.injEq, and_true] at e
  subst e
  exact ⟨⟨v0, v1, v2, v3, v4, v5, v6, v7, v8, v9, v10, v11, v12⟩, ⟨wf16 w0, wf16 w1, wf16 w2, wf8 w3, wf8 w4, wf16 w10, wf8 w11, wf8 w12⟩, rfl⟩
end Go.Proofs.YtjacadiaafcckacDoor
