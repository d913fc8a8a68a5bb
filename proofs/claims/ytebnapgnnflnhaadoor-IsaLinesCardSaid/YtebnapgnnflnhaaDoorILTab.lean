/-
  That the four tables lie in their variables where the row's condition is met.
-/
import Derived.Test.YtebnapgnnflnhaaDoorIStr
import Derived.Test.YtebnapgnnflnhaaDoorILLaw
set_option linter.unusedSimpArgs false
set_option linter.unusedVariables false
namespace Go.Proofs.YtebnapgnnflnhaaDoor
open Go.ChangeShapes Go.WideShapes Go.ChangeAt Go.RowKit
theorem gNames : Tryd.prog.globalNamed "tandem/isa.names" = some 0 := by kernel_rfl
theorem gNamesType : (Tryd.prog.globals[0]?).map (·.type) = some 37 := by kernel_rfl
theorem cells70 : Tryd.prog.cellsOf 37 = 70 := by kernel_rfl
theorem gLett : Tryd.prog.globalNamed "tandem/tandemref4.letters" = some 3 := by kernel_rfl
theorem gLettType : (Tryd.prog.globals[3]?).map (·.type) = some 51 := by kernel_rfl
theorem cells13 : Tryd.prog.cellsOf 51 = 13 := by kernel_rfl
theorem gRf : Tryd.prog.globalNamed "tandem/tandemref4.forms" = some 1 := by kernel_rfl
theorem gRfType : (Tryd.prog.globals[1]?).map (·.type) = some 51 := by kernel_rfl
theorem gFm : Tryd.prog.globalNamed "tandem/isa.forms" = some 2 := by kernel_rfl
theorem gFmType : (Tryd.prog.globals[2]?).map (·.type) = some 56 := by kernel_rfl
theorem cellsFm : Tryd.prog.cellsOf 56 = 24 := by kernel_rfl
theorem cellsFe : Tryd.prog.cellsOf 55 = 2 := by kernel_rfl
theorem cellsMd : Tryd.prog.cellsOf 31 = 1 := by kernel_rfl
/-- A table of numbers and texts as a row lists it. -/
def pairData {H : Type} (zs : List (Int × List UInt8)) : DataW H := .agg (zs.map fun z => .agg [.lit (.int .i64 z.1), .lit (.string z.2)])
theorem pair_at {H : Type} {enc : TypeId × Value → H} {w : World} {base : Nat} {sp : Nat → Bool} {held : Bool} {fuel : Nat} {cs : List Value} {zs : List (Int × List UInt8)} {p : List MemPlace}
    (h : DataW.trod enc Tryd.prog w base sp held fuel 56 cs = some (pairData zs, p)) (i : Nat) (z : Int × List UInt8) (hz : zs[i]? = some z) :
    cs[i * 2]? = some (.int .i64 z.1) ∧ cs[i * 2 + 1]? = some (.string ⟨z.2.toArray⟩) := by
  obtain ⟨xs, m, _, hx, hcl, hxl, hall⟩ := DataW.trod_array Tryd.underlying56 h
  have hxs : zs.map (fun z => (DataW.agg [.lit (.int .i64 z.1), .lit (.string z.2)] : DataW H)) = xs.map (·.1) := by
    have := congrArg Prod.fst hx
    simpa [pairData] using this
  have hi : i < 12 := by
    have h1 := congrArg List.length hxs
    have h2 := (List.getElem?_eq_some_iff.1 hz).1
    simp at h1
    omega
  have hel := hall i hi
  rw [cellsFe] at hel
  obtain ⟨x, hxi⟩ : ∃ x, xs[i]? = some x := ⟨_, List.getElem?_eq_getElem (by omega)⟩
  rw [hxi] at hel
  have hx1 : x.1 = .agg [.lit (.int .i64 z.1), .lit (.string z.2)] := by
    have := congrArg (·[i]?) hxs
    simp [hz, hxi] at this
    exact this.symm
  obtain ⟨ys, m', _, hy, hcl', hyl, hfld⟩ := DataW.trod_struct Tryd.underlying55 hel
  have hyl' : ys.length = 2 := hyl
  have hys : ys.map (·.1) = [.lit (.int .i64 z.1), .lit (.string z.2)] := by
    have := congrArg Prod.fst hy
    rw [hx1] at this
    simpa using this.symm
  obtain ⟨y0, y1, rfl⟩ : ∃ y0 y1, ys = [y0, y1] := by
    match ys, hyl' with
    | [y0, y1], _ => exact ⟨_, _, rfl⟩
  have f0 := hfld 0 _ rfl
  have f1 := hfld 1 _ rfl
  simp only [List.map_cons, List.map_nil, List.cons.injEq, and_true] at hys
  obtain ⟨v0, e0, q0, -⟩ := DataW.trod_int Tryd.underlying31 f0
  obtain ⟨s1, e1, q1, -⟩ := DataW.trod_string Tryd.underlying9 f1
  have r0 : v0 = z.1 := by have := hys.1; rw [q0] at this; simpa using this
  have r1 : s1.data.toList = z.2 := by have := hys.2; rw [q1] at this; simpa using this
  refine ⟨?_, ?_⟩
  · have := congrArg (·[0]?) e0
    rw [← r0]
    simp [List.getElem?_take, List.getElem?_drop] at this
    exact this.2
  · have := congrArg (·[0]?) e1
    rw [← r1]
    simp [List.getElem?_take, List.getElem?_drop] at this
    exact this.2
/-- The code's forms as a list of pairs. -/
def fmL : List (Int × List UInt8) := [(0, []), (1, [32, 65]), (2, [32, 35, 36, 104, 104]), (3, [32, 36, 104, 104]), (4, [32, 36, 104, 104, 44, 88]), (5, [32, 36, 104, 104, 44, 89]), (6, [32, 40, 36, 104, 104, 44, 88, 41]), (7, [32, 40, 36, 104, 104, 41, 44, 89]), (8, [32, 36, 104, 104, 104, 104]), (9, [32, 36, 104, 104, 104, 104, 44, 88]), (10, [32, 36, 104, 104, 104, 104, 44, 89]), (11, [32, 40, 36, 104, 104, 104, 104, 41])]
theorem fm_at : ∀ i : Nat, i < 12 → fmL[i]? = some ((i : Int), wrL.getD i []) := by decide +kernel
theorem fm_of {P0 : List (String × DataW Unit)} {W : World} (h : laidMet Tryd.prog (("tandem/isa.forms", pairData fmL) :: P0) W) : FTab W := by
  obtain ⟨ps, ⟨g', t', cs, fuel, p, q, hg', ht', hvar, hd, _, _⟩, _⟩ := h
  obtain rfl := Option.some.inj (gFm.symm.trans hg')
  obtain rfl := Option.some.inj (gFmType.symm.trans ht')
  refine ⟨fun i hi => ?_, fun i hi => ?_⟩
  · have hc := (pair_at hd i _ (fm_at i hi)).1
    have := World.var?_cell gFm hvar (i * 2)
    rw [← Array.getElem?_toList, hc] at this
    exact this
  · have hc := (pair_at hd i _ (fm_at i hi)).2
    have := World.var?_cell gFm hvar (i * 2 + 1)
    rw [← Array.getElem?_toList, hc] at this
    exact this
theorem ltabs_of {W : World} (h : laidMetH Tryd.prog [("tandem/tandemref4.letters", Rows.laid_tandem_tandemref4_letters), ("tandem/tandemref4.forms", Rows.laid_tandem_tandemref4_forms), ("tandem/isa.names", Rows.laid_tandem_isa_names), ("tandem/isa.forms", Rows.laid_tandem_isa_forms)] W) : LTabs W := by
  have h1 : laidMet Tryd.prog [("tandem/tandemref4.letters", strData ltL), ("tandem/tandemref4.forms", strData rfL), ("tandem/isa.names", strData nmL), ("tandem/isa.forms", pairData fmL)] W := h
  have h2 : laidMet Tryd.prog [("tandem/tandemref4.forms", strData rfL)] W := laidMet.filter (fun x => x.1 == "tandem/tandemref4.forms") h1
  have h3 : laidMet Tryd.prog [("tandem/isa.names", strData nmL)] W := laidMet.filter (fun x => x.1 == "tandem/isa.names") h1
  have h4 : laidMet Tryd.prog [("tandem/isa.forms", pairData fmL)] W := laidMet.filter (fun x => x.1 == "tandem/isa.forms") h1
  exact ⟨⟨fun i hi => strIs_of_head gNames gNamesType Tryd.underlying37 Tryd.underlying9 cellsT cells70 h3 i hi⟩, fm_of h4,
    ⟨fun i hi => strIs_of_head gLett gLettType Tryd.underlying51 Tryd.underlying9 cellsT cells13 h1 i hi⟩,
    ⟨fun i hi => strIs_of_head gRf gRfType Tryd.underlying51 Tryd.underlying9 cellsT cells13 h2 i hi⟩⟩
end Go.Proofs.YtebnapgnnflnhaaDoor
