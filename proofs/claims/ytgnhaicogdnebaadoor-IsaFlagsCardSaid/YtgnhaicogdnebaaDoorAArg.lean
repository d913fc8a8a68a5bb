/-
  How an Alu that is handed in by value is read: six bytes; conditions: those of the row.
-/
import Derived.Test.YtgnhaicogdnebaaDoorRows
import Derived.WalkKit
import Derived.ProofKit
import Derived.OpenShut
import Derived.ChangeOld
import Derived.Below
import Derived.Carry
namespace Go.Proofs.YtgnhaicogdnebaaDoor
open Go.ChangeShapes Go.WideShapes Go.ChangeAt Go.RowKit
theorem own : ownKnob Tryd.prog.godebug = none := by kernel_rfl
theorem laidOut : laidOutB Tryd.prog = true := by kernel_rfl
theorem cellsAlu : Tryd.prog.cellsOf 23 = 6 := by kernel_rfl
theorem cellsU : Tryd.prog.cellsOf 5 = 1 := by kernel_rfl
theorem list6 {l : List Value} (h : l.length = 6) : ∃ c0 c1 c2 c3 c4 c5, l = [c0, c1, c2, c3, c4, c5] := by
  match l, h with
  | [c0, c1, c2, c3, c4, c5], _ => exact ⟨_, _, _, _, _, _, rfl⟩
theorem wf8' {n : Int} (h : (Lit.int .u8 n).wf = true) : 0 ≤ n ∧ n ≤ 255 := by
  simp [Lit.wf, IntKind.min, IntKind.max, IntKind.signed, IntKind.bits] at h
  omega
/-- Six bytes. -/
structure Bytes6 (a x y s p m : Int) : Prop where
  a : 0 ≤ a ∧ a ≤ 255
  x : 0 ≤ x ∧ x ≤ 255
  y : 0 ≤ y ∧ y ≤ 255
  s : 0 ≤ s ∧ s ≤ 255
  p : 0 ≤ p ∧ p ≤ 255
  m : 0 ≤ m ∧ m ≤ 255
theorem alu_of {H : Type} {enc : TypeId × Value → H} {W : World} {base : Nat} {v : Value} {d : DataW H} {p : List MemPlace}
    (hv : Value.okWide Tryd.prog W .any base 23 v) (h : DataW.Trod enc Tryd.prog W 0 (fun _ => true) true 23 v d p) :
    ∃ a x y s p m : Int, Bytes6 a x y s p m ∧ v = .agg #[.int .u8 a, .int .u8 x, .int .u8 y, .int .u8 s, .int .u8 p, .int .u8 m] := by
  obtain ⟨cs, rfl, hcs⟩ := okWide_struct Tryd.underlying23 hv
  rw [cellsAlu] at hcs
  obtain ⟨l⟩ := cs
  obtain ⟨c0, c1, c2, c3, c4, c5, rfl⟩ := list6 (l := l) (by simpa using hcs)
  obtain ⟨fuel, hf⟩ := h
  obtain ⟨xs, n, _, -, -, hxl, hfld⟩ := DataW.trod_struct Tryd.underlying23 hf
  have hxl' : xs.length = 6 := hxl
  have f0 : DataW.trod enc Tryd.prog W 0 (fun _ => true) true n 5 [c0] = some (xs[0]'(by omega)) := by
    have := hfld 0 _ rfl
    rw [List.getElem?_eq_getElem (show 0 < xs.length by omega)] at this
    have e : [c0] = (([c0, c1, c2, c3, c4, c5] : List Value).drop 0).take (Tryd.prog.cellsOf 5) := by rw [cellsU]; rfl
    rw [e]; exact this
  obtain ⟨v0, e, -, w0⟩ := DataW.trod_int Tryd.underlying5 f0
  simp only [List.cons.injEq, and_true] at e
  subst e
  have f1 : DataW.trod enc Tryd.prog W 0 (fun _ => true) true n 5 [c1] = some (xs[1]'(by omega)) := by
    have := hfld 1 _ rfl
    rw [List.getElem?_eq_getElem (show 1 < xs.length by omega)] at this
    have e : [c1] = (([.int .u8 v0, c1, c2, c3, c4, c5] : List Value).drop 1).take (Tryd.prog.cellsOf 5) := by rw [cellsU]; rfl
    rw [e]; exact this
  obtain ⟨v1, e, -, w1⟩ := DataW.trod_int Tryd.underlying5 f1
  simp only [List.cons.injEq, and_true] at e
  subst e
  have f2 : DataW.trod enc Tryd.prog W 0 (fun _ => true) true n 5 [c2] = some (xs[2]'(by omega)) := by
    have := hfld 2 _ rfl
    rw [List.getElem?_eq_getElem (show 2 < xs.length by omega)] at this
    have e : [c2] = (([.int .u8 v0, .int .u8 v1, c2, c3, c4, c5] : List Value).drop 2).take (Tryd.prog.cellsOf 5) := by rw [cellsU]; rfl
    rw [e]; exact this
  obtain ⟨v2, e, -, w2⟩ := DataW.trod_int Tryd.underlying5 f2
  simp only [List.cons.injEq, and_true] at e
  subst e
  have f3 : DataW.trod enc Tryd.prog W 0 (fun _ => true) true n 5 [c3] = some (xs[3]'(by omega)) := by
    have := hfld 3 _ rfl
    rw [List.getElem?_eq_getElem (show 3 < xs.length by omega)] at this
    have e : [c3] = (([.int .u8 v0, .int .u8 v1, .int .u8 v2, c3, c4, c5] : List Value).drop 3).take (Tryd.prog.cellsOf 5) := by rw [cellsU]; rfl
    rw [e]; exact this
  obtain ⟨v3, e, -, w3⟩ := DataW.trod_int Tryd.underlying5 f3
  simp only [List.cons.injEq, and_true] at e
  subst e
  have f4 : DataW.trod enc Tryd.prog W 0 (fun _ => true) true n 5 [c4] = some (xs[4]'(by omega)) := by
    have := hfld 4 _ rfl
    rw [List.getElem?_eq_getElem (show 4 < xs.length by omega)] at this
    have e : [c4] = (([.int .u8 v0, .int .u8 v1, .int .u8 v2, .int .u8 v3, c4, c5] : List Value).drop 4).take (Tryd.prog.cellsOf 5) := by rw [cellsU]; rfl
    rw [e]; exact this
  obtain ⟨v4, e, -, w4⟩ := DataW.trod_int Tryd.underlying5 f4
  simp only [List.cons.injEq, and_true] at e
  subst e
  have f5 : DataW.trod enc Tryd.prog W 0 (fun _ => true) true n 5 [c5] = some (xs[5]'(by omega)) := by
    have := hfld 5 _ rfl
    rw [List.getElem?_eq_getElem (show 5 < xs.length by omega)] at this
    have e : [c5] = (([.int .u8 v0, .int .u8 v1, .int .u8 v2, .int .u8 v3, .int .u8 v4, c5] : List Value).drop 5).take (Tryd.prog.cellsOf 5) := by rw [cellsU]; rfl
    rw [e]; exact this
  obtain ⟨v5, e, -, w5⟩ := DataW.trod_int Tryd.underlying5 f5
  simp only [List.cons.injEq, and_true] at e
  subst e
  exact ⟨v0, v1, v2, v3, v4, v5, ⟨wf8' w0, wf8' w1, wf8' w2, wf8' w3, wf8' w4, wf8' w5⟩, rfl⟩
end Go.Proofs.YtgnhaicogdnebaaDoor
