/-
  How a list of bytes that is handed in is read, and that the listed table lies in its variable; conditions: those of the row.
-/
import Derived.Test.YtilhlbnicmmaoaaDoorPreLaw
import Derived.Test.YtilhlbnicmmaoaaDoorTie
import Derived.Test.YtilhlbnicmmaoaaDoorCards
import Derived.ProofKit
import Derived.OpenShut
import Derived.ShutString
import Derived.ChangeOld
import Derived.Below
import Derived.SizedLaws
import Derived.Deep.DeepHandedRow
import Derived.Lib.LaidTab
import Derived.LaidMore
set_option linter.unusedSimpArgs false
set_option linter.unusedVariables false
namespace Go.Proofs.YtilhlbnicmmaoaaDoor
open Go.ChangeShapes Go.WideShapes Go.ChangeAt Go.RowKit
theorem own : ownKnob Tryd.prog.godebug = none := by kernel_rfl
theorem laidOut : laidOutB Tryd.prog = true := by kernel_rfl
theorem bytes5 : Tryd.prog.bytesOf 5 = 1 := by kernel_rfl
theorem cells8 : Tryd.prog.cellsOf 5 = 1 := by kernel_rfl
theorem gMg : Tryd.prog.globalNamed "tandem/tandemref1.magic" = some 0 := by kernel_rfl
theorem gMgType : (Tryd.prog.globals[0]?).map (·.type) = some 80 := by kernel_rfl
theorem cells4 : Tryd.prog.cellsOf 80 = 4 := by kernel_rfl
def mgZ : List Int := [78, 69, 83, 26]
theorem mg_of {r : List (String × DataW Unit)} {W : World} (h : laidMet Tryd.prog (("tandem/tandemref1.magic", Lib.tabData .u8 mgZ) :: r) W) : MgW W := by
  intro i hi
  have t := Lib.tabIs_of_head gMg gMgType Tryd.underlying80 Tryd.underlying5 cells8 cells4 h
  have hl : i < mgZ.length := hi
  rw [t.cell gMg i hl]
  rcases (show i = 0 ∨ i = 1 ∨ i = 2 ∨ i = 3 by omega) with rfl | rfl | rfl | rfl <;> rfl
theorem tabs_of {W : World} (h : laidMetH Tryd.prog Rows.cartParsesRow.laid W) : MgW W := by
  have h1 : laidMet Tryd.prog [("tandem/tandemref1.magic", Lib.tabData .u8 mgZ)] W := h
  exact mg_of h1
/-- What is known of a list of bytes that came in. -/
structure In (W : World) (a : Option Addr) (len cap : Nat) (l : List Nat) : Prop where
  bytes : Bytes l
  length : l.length = len
  le : len ≤ cap
  reach : cap ≤ 140737488351232
  row : Row W a l

theorem in_of {H : Type} {enc : TypeId × Value → H} {W : World} {a : Option Addr} {len cap : Nat} {d : DataW H} {p : List MemPlace} {ts : List TypeId} {ds : List (DataW H)} {j : Nat}
    (h : DataW.Trod enc Tryd.prog W 0 (fun _ => true) true 22 (Value.slice a len cap) d p)
    (hsz : (DataW.weightsEach Tryd.prog ts ds).all (· ≤ reachBytes) = true) (ht : ts[j]? = some 22) (hd : ds[j]? = some d) :
    ∃ l, In W a len cap l := by
  obtain ⟨fuel, hf⟩ := h
  rcases open_ints Tryd.underlying22 Tryd.underlying5 (by kernel_rfl) hf with ⟨hcs, _⟩ | ⟨x, l, c, zs, hcs, _, hl, hm, hz, hx, hcell, hwz⟩
  · simp [Value.cells] at hcs
    obtain ⟨rfl, rfl, rfl⟩ := hcs
    exact ⟨[], ⟨(fun _ h => by cases h), rfl, Nat.le_refl _, by decide, .inl rfl⟩⟩
  · simp [Value.cells] at hcs
    obtain ⟨rfl, rfl, rfl⟩ := hcs
    simp only [Prod.mk.injEq] at hx
    obtain ⟨rfl, rfl⟩ := hx
    have hb := sized_slice hsz ht hd Tryd.underlying22
    simp only [if_true] at hz
    rw [bytes5] at hb
    simp only [lits, List.length_map, List.length_take, List.length_drop, reachBytes] at hb
    have hw : ∀ n ∈ zs, 0 ≤ n ∧ n ≤ 255 := by
      intro n hn
      have := hwz n hn
      simp [Lit.wf, IntKind.min, IntKind.max, IntKind.signed, IntKind.bits] at this
      omega
    refine ⟨(zs.take len).map Int.toNat, ⟨?_, ?_, hl, by omega, ?_⟩⟩
    · intro y hy
      simp only [List.mem_map] at hy
      obtain ⟨z, hz', rfl⟩ := hy
      have := hw z (List.mem_of_mem_take hz')
      omega
    · simp; omega
    · by_cases h0 : len = 0
      · exact .inl (by simp [h0])
      · obtain ⟨b, off, spot⟩ := x
        have hc := hcell 0 (by omega)
        have hspot : spot = none := by simpa [Addr.add] using World.cell?_spot hc
        subst hspot
        refine .inr ⟨b, off, rfl, fun i hi => ?_⟩
        have hi' : i < len := by simp at hi; omega
        have hzi : i < zs.length := by omega
        have := hcell i (by omega)
        rw [Addr.add_lit] at this
        rw [this]
        have e : zs.getD i 0 = ((((zs.take len).map Int.toNat).getD i 0 : Nat) : Int) := by
          have h1 := hw zs[i] (List.getElem_mem hzi)
          simp [hi', hzi]
          omega
        rw [e]

end Go.Proofs.YtilhlbnicmmaoaaDoor
