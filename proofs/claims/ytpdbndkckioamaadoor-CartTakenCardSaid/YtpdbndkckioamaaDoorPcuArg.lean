/-
  How a Head that is handed in is read; conditions: those of the row.
-/
import Derived.Test.YtpdbndkckioamaaDoorPcuW
import Derived.ProofKit
import Derived.OpenShut
import Derived.ChangeOld
import Derived.Below
import Derived.Carry
import Derived.Deep.Slices
import Derived.Deep.SlicePairs
set_option linter.unusedSimpArgs false
set_option linter.unusedVariables false
namespace Go.Proofs.YtpdbndkckioamaaDoor
open Go.ChangeShapes Go.WideShapes Go.ChangeAt Go.RowKit Go.Deep
theorem own : ownKnob Tryd.prog.godebug = none := by kernel_rfl
theorem laidOut : laidOutB Tryd.prog = true := by kernel_rfl
theorem cellsHd : Tryd.prog.cellsOf 34 = 22 := by kernel_rfl
theorem cells16 : Tryd.prog.cellsOf 32 = 16 := by kernel_rfl
theorem cellsI : Tryd.prog.cellsOf 3 = 1 := by kernel_rfl
theorem cellsU : Tryd.prog.cellsOf 5 = 1 := by kernel_rfl
theorem cellsBo : Tryd.prog.cellsOf 4 = 1 := by kernel_rfl
theorem wf64 {n : Int} (h : (Lit.int .i64 n).wf = true) : -9223372036854775808 ≤ n ∧ n ≤ 9223372036854775807 := by
  simp [Lit.wf, IntKind.min, IntKind.max, IntKind.signed, IntKind.bits] at h
  omega
theorem one_at {l : List Value} {o : Nat} {v : Value} (e : (l.drop o).take 1 = [v]) : l[o]? = some v := by
  have h0 := congrArg (·[0]?) e
  simpa [List.getElem?_take, List.getElem?_drop] using h0
set_option maxRecDepth 100000 in
theorem head_of {H : Type} {enc : TypeId × Value → H} {W : World} {base : Nat} {v : Value} {d : DataW H} {p : List MemPlace}
    (hv : Value.okWide Tryd.prog W .any base 34 v) (h : DataW.Trod enc Tryd.prog W 0 (fun _ => true) true 34 v d p) :
    ∃ (hs : Array Value) (f : Int) (bl : List Nat) (p q : Int) (tr : Bool) (r fl : Int), v = .agg hs ∧ IsH hs f bl p q tr r fl ∧ (-9223372036854775808 ≤ f ∧ f  ≤ 9223372036854775807) ∧ (-9223372036854775808 ≤ p ∧ p  ≤ 9223372036854775807) ∧ (-9223372036854775808 ≤ q ∧ q  ≤ 9223372036854775807) ∧ (-9223372036854775808 ≤ r ∧ r  ≤ 9223372036854775807) ∧ (-9223372036854775808 ≤ fl ∧ fl  ≤ 9223372036854775807) := by
  obtain ⟨cs, rfl, hcs⟩ := okWide_struct Tryd.underlying34 hv
  rw [cellsHd] at hcs
  obtain ⟨fuel, hf⟩ := h
  obtain ⟨xs, n, _, -, -, hxl, hfld⟩ := DataW.trod_struct Tryd.underlying34 hf
  have hxl' : xs.length = 7 := hxl
  have fint : ∀ o (x : DataW H × List MemPlace), DataW.trod enc Tryd.prog W 0 (fun _ => true) true n 3 ((cs.toList.drop o).take (Tryd.prog.cellsOf 3)) = some x → ∃ v : Int, cs[o]? = some (.int .i64 v) ∧ -9223372036854775808 ≤ v ∧ v ≤ 9223372036854775807 := by
    intro o x hx
    rw [cellsI] at hx
    obtain ⟨k, e, _, hw⟩ := DataW.trod_int Tryd.underlying3 hx
    exact ⟨k, by rw [← Array.getElem?_toList]; exact one_at e, wf64 hw⟩
  have g : ∀ (i : Nat) (hi : i < 7), xs[i]? = some (xs[i]'(by omega)) := fun i hi => List.getElem?_eq_getElem (by omega)
  obtain ⟨f, ef, bf⟩ := fint 0 _ ((hfld 0 _ rfl).trans (g 0 (by decide)))
  obtain ⟨p, ep, bp⟩ := fint 17 _ ((hfld 2 _ rfl).trans (g 2 (by decide)))
  obtain ⟨q, eq, bq⟩ := fint 18 _ ((hfld 3 _ rfl).trans (g 3 (by decide)))
  obtain ⟨r, er, br⟩ := fint 20 _ ((hfld 5 _ rfl).trans (g 5 (by decide)))
  obtain ⟨fl, el, bl'⟩ := fint 21 _ ((hfld 6 _ rfl).trans (g 6 (by decide)))
  have hbo : DataW.trod enc Tryd.prog W 0 (fun _ => true) true n 4 ((cs.toList.drop 19).take (Tryd.prog.cellsOf 4)) = some (xs[4]'(by omega)) := (hfld 4 _ rfl).trans (g 4 (by decide))
  rw [cellsBo] at hbo
  obtain ⟨tr, eb, _⟩ := DataW.trod_bool Tryd.underlying4 hbo
  have et : cs[19]? = some (.bool tr) := by rw [← Array.getElem?_toList]; exact one_at eb
  have har : DataW.trod enc Tryd.prog W 0 (fun _ => true) true n 32 ((cs.toList.drop 1).take (Tryd.prog.cellsOf 32)) = some (xs[1]'(by omega)) := (hfld 1 _ rfl).trans (g 1 (by decide))
  rw [cells16] at har
  obtain ⟨ys, n', _, _, _, hyl, hall⟩ := DataW.trod_array Tryd.underlying32 har
  have hyl' : ys.length = 16 := hyl
  have hby : ∀ i : Nat, i < 16 → ∃ b : Nat, cs[1 + i]? = some (.int .u8 (b : Nat)) ∧ b < 256 := by
    intro i hi
    have e := hall i hi
    rw [cellsU, List.getElem?_eq_getElem (by omega)] at e
    obtain ⟨z, e0, _, hw⟩ := DataW.trod_int Tryd.underlying5 e
    have h1 := one_at e0
    simp [Lit.wf, IntKind.min, IntKind.max, IntKind.signed, IntKind.bits] at hw
    rw [Nat.mul_one, List.getElem?_take, if_pos hi, List.getElem?_drop, Array.getElem?_toList] at h1
    exact ⟨z.toNat, by rw [h1, Int.toNat_of_nonneg (by omega)], by omega⟩
  have hfun : ∃ fb : Nat → Nat, ∀ i, i < 16 → cs[1 + i]? = some (.int .u8 (fb i : Nat)) ∧ fb i < 256 :=
    ⟨fun i => if h : i < 16 then (hby i h).choose else 0, fun i hi => by simp only [dif_pos hi]; exact (hby i hi).choose_spec⟩
  obtain ⟨fb, hfb⟩ := hfun
  refine ⟨cs, f, (List.range 16).map fb, p, q, tr, r, fl, rfl, ⟨hcs, ?_, ef, ?_, ep, eq, et, er, el, by simp, ?_⟩, bf, bp, bq, br, bl'⟩
  · rw [Array.all_eq_true]
    intro i hi
    have fin : ∀ v : Value, cs[i]? = some v → v.oneCell' = true → (cs[i]'hi).oneCell' = true := fun v hv h1 => by
      rw [Array.getElem?_eq_getElem hi, Option.some.injEq] at hv
      rw [hv]; exact h1
    by_cases hr : 1 ≤ i ∧ i < 17
    · have := (hfb (i - 1) (by omega)).1
      rw [show 1 + (i - 1) = i by omega] at this
      exact fin _ this rfl
    · rcases (show i = 0 ∨ i = 17 ∨ i = 18 ∨ i = 19 ∨ i = 20 ∨ i = 21 by omega) with rfl | rfl | rfl | rfl | rfl | rfl
      · exact fin _ ef rfl
      · exact fin _ ep rfl
      · exact fin _ eq rfl
      · exact fin _ et rfl
      · exact fin _ er rfl
      · exact fin _ el rfl
  · intro i hi
    rw [(hfb i hi).1]
    simp [hi]
  · intro y hy
    simp only [List.mem_map, List.mem_range] at hy
    obtain ⟨i, hi, rfl⟩ := hy
    exact (hfb i hi).2
end Go.Proofs.YtpdbndkckioamaaDoor
