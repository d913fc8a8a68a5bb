/-
  That the listed tables lie in their variables; conditions: those of the row.
-/
import Derived.Test.YtpdbndkckioamaaDoorTakLaw
import Derived.Test.YtpdbndkckioamaaDoorPcuArg
import Derived.Test.YtpdbndkckioamaaDoorTie
import Derived.Test.YtpdbndkckioamaaDoorCards
import Derived.ShutString
import Derived.SizedLaws
import Derived.Deep.DeepHandedRow
import Derived.Lib.LaidTab
import Derived.LaidMore
set_option linter.unusedSimpArgs false
set_option linter.unusedVariables false
namespace Go.Proofs.YtpdbndkckioamaaDoor
open Go.ChangeShapes Go.WideShapes Go.ChangeAt Go.RowKit Classical
theorem gTz : Tryd.prog.globalNamed "math/bits.deBruijn64tab" = some 3 := by kernel_rfl
theorem gTzType : (Tryd.prog.globals[3]?).map (·.type) = some 123 := by kernel_rfl
theorem cells64 : Tryd.prog.cellsOf 123 = 64 := by kernel_rfl
theorem cells8 : Tryd.prog.cellsOf 5 = 1 := cellsU
theorem gBnd : Tryd.prog.globalNamed "tandem/cart.bounds" = some 1 := by kernel_rfl
theorem gBndType : (Tryd.prog.globals[1]?).map (·.type) = some 104 := by kernel_rfl
theorem cellsBd : Tryd.prog.cellsOf 103 = 7 := by kernel_rfl
theorem cellsBi : Tryd.prog.cellsOf 3 = 1 := cellsI
/-- The library's table as integers. -/
def tzZ : List Int := (List.range 64).map fun i => ((Lib.deBruijn64tab.getD i 0 : Nat) : Int)
theorem tzZ_at : ∀ i : Nat, i < 64 → tzZ.getD i 0 = ((Lib.deBruijn64tab.getD i 0 : Nat) : Int) := by decide +kernel
theorem tz_of {r : List (String × DataW Unit)} {W : World} (h : laidMet Tryd.prog (("math/bits.deBruijn64tab", Lib.tabData .u8 tzZ) :: r) W) : Tz W := by
  intro i hi
  have t := Lib.tabIs_of_head gTz gTzType Tryd.underlying123 Tryd.underlying5 cells8 cells64 h
  have hl : i < tzZ.length := by simpa [tzZ] using hi
  rw [t.cell gTz i hl, tzZ_at i hi]
/-- One format's bounds as a row lists them. -/
def bdData {H : Type} (zs : List Int) : DataW H := .agg (zs.map fun z => .lit (.int .i64 z))
theorem bfields_are {fs : Array Field} (h : Tryd.prog.underlying 103 = some (.struct fs)) : ∀ i, i < 7 → ∃ f, fs[i]? = some f ∧ f.offset = i ∧ f.type = 3 := by
  have e := Option.some.inj (h.symm.trans Tryd.underlying103)
  simp only [TypeDesc.struct.injEq] at e
  subst e
  intro i hi
  match i, hi with
  | 0, _ | 1, _ | 2, _ | 3, _ | 4, _ | 5, _ | 6, _ => exact ⟨_, rfl, rfl, rfl⟩
  | _ + 7, h => exact absurd h (by omega)
theorem bd_at {H : Type} {enc : TypeId × Value → H} {w : World} {base : Nat} {sp : Nat → Bool} {held : Bool} {fuel : Nat} {cs : List Value} {zs : List Int} {p : List MemPlace}
    (h : DataW.trod enc Tryd.prog w base sp held fuel 103 cs = some (bdData zs, p)) (j : Nat) (hj : j < 7) : cs[j]? = some (.int .i64 (zs.getD j 0)) := by
  obtain ⟨ys, m, _, hy, _, hyl, hfld⟩ := DataW.trod_struct Tryd.underlying103 h
  have hyl' : ys.length = 7 := hyl
  have hys : zs.map (fun z => (DataW.lit (.int .i64 z) : DataW H)) = ys.map (·.1) := by
    have := congrArg Prod.fst hy
    simpa [bdData] using this
  obtain ⟨f, hf, ho, ht⟩ := bfields_are Tryd.underlying103 j hj
  have e := hfld j f hf
  rw [ho, ht, cellsBi, List.getElem?_eq_getElem (by omega)] at e
  obtain ⟨v, e0, q0, -⟩ := DataW.trod_int Tryd.underlying3 e
  have hv : zs[j]? = some v := by
    have := congrArg (·[j]?) hys
    simp only [List.getElem?_map, List.getElem?_eq_getElem (show j < ys.length by omega), Option.map_some, q0, Option.map_eq_some_iff, DataW.lit.injEq, Lit.int.injEq, true_and] at this
    obtain ⟨z, hz, rfl⟩ := this
    exact hz
  have h0 := congrArg (·[0]?) e0
  simp [List.getElem?_drop] at h0
  rw [h0, List.getD, hv]
  rfl
def bd0 : List Int := [15, 0, 0, 0, 0, 0, 1]
def bd1 : List Int := [255, 0, 2, 1, 0, 0, 255]
def bd2 : List Int := [4095, 15, 3, 3, 63, 3, 0]
theorem bnd_at {H : Type} {enc : TypeId × Value → H} {w : World} {base : Nat} {sp : Nat → Bool} {held : Bool} {fuel : Nat} {cs : List Value} {p : List MemPlace}
    (h : DataW.trod enc Tryd.prog w base sp held fuel 104 cs = some (.agg [bdData bd0, bdData bd1, bdData bd2], p)) (k : Nat) (hk : k < 21) : cs[k]? = some (.int .i64 (bndL.getD k 0)) := by
  obtain ⟨xs, m, _, hx, _, hxl, hall⟩ := DataW.trod_array Tryd.underlying104 h
  have hxs : [bdData bd0, bdData bd1, bdData bd2] = xs.map (·.1) := by
    have := congrArg Prod.fst hx
    simpa using this
  obtain ⟨x0, x1, x2, rfl⟩ : ∃ x0 x1 x2, xs = [x0, x1, x2] := by
    have hl := congrArg List.length hxs
    simp at hl
    match xs, hl with
    | [x0, x1, x2], _ => exact ⟨_, _, _, rfl⟩
  simp only [List.map_cons, List.map_nil, List.cons.injEq, and_true] at hxs
  obtain ⟨i, j, hi, hj, rfl⟩ : ∃ i j, i < 3 ∧ j < 7 ∧ k = i * 7 + j := ⟨k / 7, k % 7, by omega, by omega, by omega⟩
  have el := hall i hi
  rw [cellsBd] at el
  have t0 : ∀ j : Nat, j < 7 → bndL.getD (0 * 7 + j) 0 = bd0.getD j 0 := by decide
  have t1 : ∀ j : Nat, j < 7 → bndL.getD (1 * 7 + j) 0 = bd1.getD j 0 := by decide
  have t2 : ∀ j : Nat, j < 7 → bndL.getD (2 * 7 + j) 0 = bd2.getD j 0 := by decide
  have fin : ∀ zs : List Int, ((cs.drop (i * 7)).take 7)[j]? = some (.int .i64 (zs.getD j 0)) → cs[i * 7 + j]? = some (.int .i64 (zs.getD j 0)) := by
    intro zs hz
    rw [List.getElem?_take, if_pos hj, List.getElem?_drop] at hz
    exact hz
  rcases (show i = 0 ∨ i = 1 ∨ i = 2 by omega) with rfl | rfl | rfl
  · rw [t0 j hj]
    obtain ⟨y, q⟩ := x0
    have e1 : bdData bd0 = y := hxs.1
    subst e1
    exact fin _ (bd_at el j hj)
  · rw [t1 j hj]
    obtain ⟨y, q⟩ := x1
    have e1 : bdData bd1 = y := hxs.2.1
    subst e1
    exact fin _ (bd_at el j hj)
  · rw [t2 j hj]
    obtain ⟨y, q⟩ := x2
    have e1 : bdData bd2 = y := hxs.2.2
    subst e1
    exact fin _ (bd_at el j hj)
theorem bnd_of {r : List (String × DataW Unit)} {W : World} (h : laidMet Tryd.prog (("tandem/cart.bounds", .agg [bdData bd0, bdData bd1, bdData bd2]) :: r) W) : Bnd W := by
  obtain ⟨ps, ⟨g', t', cs, fuel, p, q, hg', ht', hvar, hd, _, _⟩, _⟩ := h
  obtain rfl := Option.some.inj (gBnd.symm.trans hg')
  obtain rfl := Option.some.inj (gBndType.symm.trans ht')
  intro k hk
  have hc := bnd_at hd k hk
  have := World.var?_cell gBnd hvar k
  rw [← Array.getElem?_toList, hc] at this
  exact this
theorem tabs_of {W : World} (h : laidMetH Tryd.prog Rows.cartTakenRow.laid W) : Bnd W ∧ Tz W := by
  have h1 : laidMet Tryd.prog [("math/bits.deBruijn32tab", Rows.laid_math_bits_deBruijn32tab), ("math/bits.deBruijn64tab", Lib.tabData .u8 tzZ), ("tandem/cart.bounds", .agg [bdData bd0, bdData bd1, bdData bd2])] W := h
  have h2 : laidMet Tryd.prog [("math/bits.deBruijn64tab", Lib.tabData .u8 tzZ)] W := laidMet.filter (fun x => x.1 == "math/bits.deBruijn64tab") h1
  have h3 : laidMet Tryd.prog [("tandem/cart.bounds", .agg [bdData bd0, bdData bd1, bdData bd2])] W := laidMet.filter (fun x => x.1 == "tandem/cart.bounds") h1
  exact ⟨bnd_of h3, tz_of h2⟩
end Go.Proofs.YtpdbndkckioamaaDoor
