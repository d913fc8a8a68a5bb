/-
  How a list of bytes that is handed in is read, and that the listed table lies in its variable; conditions: those of the row.
-/
import Derived.Test.YtlckjbangdnejaaDoorCrcs
import Derived.Test.YtlckjbangdnejaaDoorTie
import Derived.Test.YtlckjbangdnejaaDoorCards
import Derived.ProofKit
import Derived.OpenShut
import Derived.ShutString
import Derived.ChangeOld
import Derived.Below
import Derived.SizedLaws
import Derived.Deep.DeepHandedRow
import Derived.Lib.LaidTab
import Derived.LaidMore
namespace Go.Proofs.YtlckjbangdnejaaDoor
open Go.ChangeShapes Go.WideShapes Go.ChangeAt Go.RowKit
theorem own : ownKnob Tryd.prog.godebug = none := by kernel_rfl
theorem laidOut : laidOutB Tryd.prog = true := by kernel_rfl
theorem gTab : Tryd.prog.globalNamed "tandem/cart.turns" = some 0 := by kernel_rfl
theorem gTabType : (Tryd.prog.globals[0]?).map (·.type) = some 80 := by kernel_rfl
theorem cells45 : Tryd.prog.cellsOf 80 = 16 := by kernel_rfl
theorem cells23 : Tryd.prog.cellsOf 64 = 1 := by kernel_rfl
theorem bytes5 : Tryd.prog.bytesOf 5 = 1 := by kernel_rfl
def tabZ : List Int := CrcM.T.map fun n : Nat => (n : Int)
theorem table {W : World} (h : laidMetH Tryd.prog [("tandem/cart.turns", Rows.laid_tandem_cart_turns)] W) : Lib.TabIs Tryd.prog W "tandem/cart.turns" .u32 tabZ :=
  Lib.tabIs_of_head (rest := []) gTab gTabType Tryd.underlying80 Tryd.underlying64 cells23 cells45 h
theorem tabZ_at : ∀ i, i < 16 → tabZ.getD i 0 = (CrcM.t i : Nat) := by decide +kernel
theorem tab_of {W : World} (h : laidMetH Tryd.prog [("tandem/cart.turns", Rows.laid_tandem_cart_turns)] W) : Tab W := by
  intro i hi
  have hl : i < tabZ.length := by simp [tabZ, CrcM.T]; omega
  have := (table h).cell gTab i hl
  rw [this, ← tabZ_at i hi]

/-- What is known of a list of bytes that came in. -/
structure In (W : World) (a : Option Addr) (len cap : Nat) (l : List Nat) : Prop where
  bytes : Bytes l
  length : l.length = len
  le : len ≤ cap
  reach : cap ≤ 140737488351232
  row : Row W a l

theorem in_of {H : Type} {enc : TypeId × Value → H} {W : World} {a : Option Addr} {len cap : Nat} {d : DataW H} {p : List MemPlace} {ts : List TypeId} {ds : List (DataW H)} {j : Nat}
    (h : DataW.Trod enc Tryd.prog W 0 (fun _ => true) true 28 (Value.slice a len cap) d p)
    (hsz : (DataW.weightsEach Tryd.prog ts ds).all (· ≤ reachBytes) = true) (ht : ts[j]? = some 28) (hd : ds[j]? = some d) :
    ∃ l, In W a len cap l := by
  obtain ⟨fuel, hf⟩ := h
  rcases open_ints Tryd.underlying28 Tryd.underlying5 (by kernel_rfl) hf with ⟨hcs, _⟩ | ⟨x, l, c, zs, hcs, _, hl, hm, hz, hx, hcell, hwz⟩
  · simp [Value.cells] at hcs
    obtain ⟨rfl, rfl, rfl⟩ := hcs
    exact ⟨[], ⟨(fun _ h => by cases h), rfl, Nat.le_refl _, by decide, .inl rfl⟩⟩
  · simp [Value.cells] at hcs
    obtain ⟨rfl, rfl, rfl⟩ := hcs
    simp only [Prod.mk.injEq] at hx
    obtain ⟨rfl, rfl⟩ := hx
    have hb := sized_slice hsz ht hd Tryd.underlying28
    simp only [if_true] at hz
    rw [bytes5] at hb
    simp only [lits, List.length_map, List.length_take, List.length_drop, reachBytes] at hb
    have hw : ∀ n ∈ zs, 0 ≤ n ∧ n ≤ 255 := by
      intro n hn
      have := hwz n hn
      simp [Lit.wf, IntKind.min, IntKind.max, IntKind.signed, IntKind.bits] at this
      omega
    refine ⟨(zs.take len).map Int.toNat, ⟨?_, ?_, hl, by omega, ?_⟩⟩
    · intro y hy
      simp only [List.mem_map] at hy
      obtain ⟨z, hz', rfl⟩ := hy
      have := hw z (List.mem_of_mem_take hz')
      omega
    · simp; omega
    · by_cases h0 : len = 0
      · exact .inl (by simp [h0])
      · obtain ⟨b, off, spot⟩ := x
        have hc := hcell 0 (by omega)
        have hspot : spot = none := by simpa [Addr.add] using World.cell?_spot hc
        subst hspot
        refine .inr ⟨b, off, rfl, fun i hi => ?_⟩
        have hi' : i < len := by simp at hi; omega
        have hzi : i < zs.length := by omega
        have := hcell i (by omega)
        rw [Addr.add_lit] at this
        rw [this]
        have e : zs.getD i 0 = ((((zs.take len).map Int.toNat).getD i 0 : Nat) : Int) := by
          have h1 := hw zs[i] (List.getElem_mem hzi)
          simp [hi', hzi]
          omega
        rw [e]

end Go.Proofs.YtlckjbangdnejaaDoor
