/-
  How a list of bytes that is handed in is read, and that the listed tables lie in their variables; conditions: those of the row.
-/
import Derived.Test.YtfdiplgjiidnbaaDoorXlTr
import Derived.Test.YtfdiplgjiidnbaaDoorACardTab
import Derived.ShutString
set_option linter.unusedSimpArgs false
set_option linter.unusedVariables false
namespace Go.Proofs.YtfdiplgjiidnbaaDoor
open Go.ChangeShapes Go.WideShapes Go.ChangeAt Go.RowKit Classical
theorem own : ownKnob Tryd.prog.godebug = none := ownT
theorem laidOut : laidOutB Tryd.prog = true := laidOutT
theorem bytes5 : Tryd.prog.bytesOf 5 = 1 := by kernel_rfl
/-- Bytes in memory. -/
def Row (w : World) (a : Option Addr) (l : List Nat) : Prop :=
  l = [] ∨ ∃ b off, a = some ⟨b, off, none⟩ ∧ ∀ i, i < l.length → w.cell? ⟨b, off + i, none⟩ = some (.int .u8 (l.getD i 0 : Nat))
/-- What is known of a list of bytes that came in. -/
structure In (W : World) (a : Option Addr) (len cap : Nat) (l : List Nat) : Prop where
  bytes : Byts l
  length : l.length = len
  le : len ≤ cap
  reach : cap ≤ 140737488351232
  row : Row W a l
theorem in_of {H : Type} {enc : TypeId × Value → H} {W : World} {a : Option Addr} {len cap : Nat} {d : DataW H} {p : List MemPlace} {ts : List TypeId} {ds : List (DataW H)} {j : Nat}
    (h : DataW.Trod enc Tryd.prog W 0 (fun _ => true) true 23 (Value.slice a len cap) d p)
    (hsz : (DataW.weightsEach Tryd.prog ts ds).all (· ≤ reachBytes) = true) (ht : ts[j]? = some 23) (hd : ds[j]? = some d) :
    ∃ l, In W a len cap l := by
  obtain ⟨fuel, hf⟩ := h
  rcases open_ints Tryd.underlying23 Tryd.underlying5 (by kernel_rfl) hf with ⟨hcs, _⟩ | ⟨x, l, c, zs, hcs, _, hl, hm, hz, hx, hcell, hwz⟩
  · simp [Value.cells] at hcs
    obtain ⟨rfl, rfl, rfl⟩ := hcs
    exact ⟨[], ⟨(fun _ h => by cases h), rfl, Nat.le_refl _, by decide, .inl rfl⟩⟩
  · simp [Value.cells] at hcs
    obtain ⟨rfl, rfl, rfl⟩ := hcs
    simp only [Prod.mk.injEq] at hx
    obtain ⟨rfl, rfl⟩ := hx
    have hb := sized_slice hsz ht hd Tryd.underlying23
    simp only [if_true] at hz
    rw [bytes5] at hb
    simp only [lits, List.length_map, List.length_take, List.length_drop, reachBytes] at hb
    have hw : ∀ n ∈ zs, 0 ≤ n ∧ n ≤ 255 := by
      intro n hn
      have := hwz n hn
      simp [Lit.wf, IntKind.min, IntKind.max, IntKind.signed, IntKind.bits] at this
      omega
    refine ⟨(zs.take len).map Int.toNat, ⟨?_, ?_, hl, by omega, ?_⟩⟩
    · intro y hy
      simp only [List.mem_map] at hy
      obtain ⟨z, hz', rfl⟩ := hy
      have := hw z (List.mem_of_mem_take hz')
      omega
    · simp; omega
    · by_cases h0 : len = 0
      · exact .inl (by simp [h0])
      · obtain ⟨b, off, spot⟩ := x
        have hc := hcell 0 (by omega)
        have hspot : spot = none := by simpa [Addr.add] using World.cell?_spot hc
        subst hspot
        refine .inr ⟨b, off, rfl, fun i hi => ?_⟩
        have hi' : i < len := by simp at hi; omega
        have hzi : i < zs.length := by omega
        have := hcell i (by omega)
        rw [Addr.add_lit] at this
        rw [this]
        have e : zs.getD i 0 = ((((zs.take len).map Int.toNat).getD i 0 : Nat) : Int) := by
          have h1 := hw zs[i] (List.getElem_mem hzi)
          simp [hi', hzi]
          omega
        rw [e]

theorem In.code {W : World} {a : Option Addr} {len cap : Nat} {l : List Nat} (h : In W a len cap l) : ∃ b o, CodeAt W a cap l b o := by
  have hl := h.length
  have hle := h.le
  have hr := h.reach
  rcases h.row with e | ⟨b, off, e, hc⟩
  · exact ⟨0, 0, .inl e, fun i hi => by rw [e] at hi; simp at hi, by omega, by omega, by omega, h.bytes⟩
  · by_cases h0 : l = []
    · exact ⟨0, 0, .inl h0, fun i hi => by rw [h0] at hi; simp at hi, by omega, by omega, by omega, h.bytes⟩
    · have hp : 0 < l.length := List.length_pos_iff.2 h0
      exact ⟨b, off, .inr e, hc, Nat.lt_succ_of_lt (cell_lt (p := ⟨b, off + 0, none⟩) (hc 0 hp)), by omega, by omega, h.bytes⟩
theorem gRec : Tryd.prog.globalNamed "tandem/xlate.recipes" = some 2 := by kernel_rfl
theorem gRecType : (Tryd.prog.globals[2]?).map (·.type) = some 107 := by kernel_rfl
theorem cellsRA : Tryd.prog.cellsOf 90 = 4 := by kernel_rfl
theorem cellsK : Tryd.prog.cellsOf 31 = 1 := by kernel_rfl
/-- One kind's micro-ops as a row lists them. -/
def rcData {H : Type} (zs : List Nat) : DataW H := .agg (zs.map fun z : Nat => .lit (.int .u8 (z : Int)))
theorem rc_at {H : Type} {enc : TypeId × Value → H} {w : World} {base : Nat} {sp : Nat → Bool} {held : Bool} {fuel : Nat} {cs : List Value} {zs : List Nat} {p : List MemPlace} (hz : zs.length = 4)
    (h : DataW.trod enc Tryd.prog w base sp held fuel 90 cs = some (rcData zs, p)) (j : Nat) (hj : j < 4) : cs[j]? = some (.int .u8 ((zs.getD j 0 : Nat) : Int)) := by
  obtain ⟨ys, m, _, hy, _, hyl, hall⟩ := DataW.trod_array Tryd.underlying90 h
  have hyl' : ys.length = 4 := hyl
  have hys : zs.map (fun z : Nat => (DataW.lit (.int .u8 (z : Int)) : DataW H)) = ys.map (·.1) := by
    have := congrArg Prod.fst hy
    simpa [rcData] using this
  have e := hall j hj
  rw [cellsK, List.getElem?_eq_getElem (by omega)] at e
  obtain ⟨v, e0, q0, -⟩ := DataW.trod_int Tryd.underlying31 e
  have hv : ((zs[j]'(by omega) : Nat) : Int) = v := by
    have := congrArg (·[j]?) hys
    simp only [List.getElem?_map, List.getElem?_eq_getElem (show j < ys.length by omega), List.getElem?_eq_getElem (show j < zs.length by omega), Option.map_some, q0, Option.some.injEq, DataW.lit.injEq, Lit.int.injEq, true_and] at this
    exact this
  have h0 := congrArg (·[0]?) e0
  simp [List.getElem?_drop] at h0
  rw [h0, ← hv]
  simp [List.getD, List.getElem?_eq_getElem (show j < zs.length by omega)]
def rcR : List (List Nat) := [[4, 0, 0, 0], [1, 2, 4, 0], [1, 4, 5, 0], [1, 2, 4, 5], [1, 2, 0, 0], [8, 0, 0, 0], [9, 0, 0, 0], [11, 0, 0, 0], [12, 0, 0, 0], [4, 6, 0, 0], [7, 4, 0, 0], [0, 0, 0, 0], [0, 0, 0, 0]]
theorem rcR_at : ∀ i, i < 13 → ∀ j, j < 4 → (rcR.getD i []).getD j 0 = rcL.getD (i * 4 + j) 0 := by decide
theorem rcR_len : ∀ i, i < 13 → (rcR.getD i []).length = 4 := by decide
theorem rec_at {H : Type} {enc : TypeId × Value → H} {w : World} {base : Nat} {sp : Nat → Bool} {held : Bool} {fuel : Nat} {cs : List Value} {p : List MemPlace}
    (h : DataW.trod enc Tryd.prog w base sp held fuel 107 cs = some (.agg (rcR.map rcData), p)) (k : Nat) (hk : k < 52) : cs[k]? = some (.int .u8 ((rcL.getD k 0 : Nat) : Int)) := by
  obtain ⟨xs, m, _, hx, _, hxl, hall⟩ := DataW.trod_array Tryd.underlying107 h
  have hxl' : xs.length = 13 := hxl
  have hxs : rcR.map rcData = xs.map (·.1) := by
    have := congrArg Prod.fst hx
    simpa using this
  obtain ⟨i, j, hi, hj, rfl⟩ : ∃ i j, i < 13 ∧ j < 4 ∧ k = i * 4 + j := ⟨k / 4, k % 4, by omega, by omega, by omega⟩
  have el := hall i hi
  rw [cellsRA, List.getElem?_eq_getElem (by omega)] at el
  have hd : (xs[i]'(by omega)).1 = rcData (rcR.getD i []) := by
    have := congrArg (·[i]?) hxs
    have hr : i < rcR.length := hi
    simp only [List.getElem?_map, List.getElem?_eq_getElem (show i < xs.length by omega), List.getElem?_eq_getElem hr, Option.map_some, Option.some.injEq] at this
    rw [← this]
    simp [List.getD, List.getElem?_eq_getElem hr]
  have hp : xs[i]'(by omega) = (rcData (rcR.getD i []), (xs[i]'(by omega)).2) := by rw [← hd]
  rw [hp] at el
  have := rc_at (rcR_len i hi) el j hj
  rw [List.getElem?_take, if_pos hj, List.getElem?_drop] at this
  rw [this, rcR_at i hi j hj]
theorem rtab_of {r : List (String × DataW Unit)} {W : World} (h : laidMet Tryd.prog (("tandem/xlate.recipes", .agg (rcR.map rcData)) :: r) W) : Rtab W := by
  obtain ⟨ps, ⟨g', t', cs, fuel, p, q, hg', ht', hvar, hd, _, _⟩, _⟩ := h
  obtain rfl := Option.some.inj (gRec.symm.trans hg')
  obtain rfl := Option.some.inj (gRecType.symm.trans ht')
  intro k hk
  have hc := rec_at hd k hk
  have := World.var?_cell gRec hvar k
  rw [← Array.getElem?_toList, hc] at this
  exact this
theorem xtabs_of {W : World} (h : laidMetH Tryd.prog [("tandem/alu.needs", Rows.laid_tandem_alu_needs), ("tandem/alu.sets", Rows.laid_tandem_alu_sets), ("tandem/xlate.recipes", Rows.laid_tandem_xlate_recipes)] W) : Tabs W ∧ Rtab W := by
  have h1 : laidMet Tryd.prog [("tandem/alu.needs", Lib.tabData .u8 ndL), ("tandem/alu.sets", Lib.tabData .u8 stL), ("tandem/xlate.recipes", .agg (rcR.map rcData))] W := h
  have h2 : laidMet Tryd.prog [("tandem/alu.sets", Lib.tabData .u8 stL)] W := laidMet.filter (fun x => x.1 == "tandem/alu.sets") h1
  have h3 : laidMet Tryd.prog [("tandem/xlate.recipes", .agg (rcR.map rcData))] W := laidMet.filter (fun x => x.1 == "tandem/xlate.recipes") h1
  have h4 : laidMet Tryd.prog [("tandem/alu.needs", Lib.tabData .u8 ndL)] W := laidMet.filter (fun x => x.1 == "tandem/alu.needs") h1
  have t1 : Lib.TabIs Tryd.prog W "tandem/alu.needs" .u8 ndL := Lib.tabIs_of_head (rest := []) gNeeds gNeedsType Tryd.underlying72 Tryd.underlying5 cellsT cells70 h4
  have t2 : Lib.TabIs Tryd.prog W "tandem/alu.sets" .u8 stL := Lib.tabIs_of_head (rest := []) gSets gSetsType Tryd.underlying72 Tryd.underlying5 cellsT cells70 h2
  exact ⟨⟨fun i hi => t1.cell gNeeds i hi, fun i hi => t2.cell gSets i hi⟩, rtab_of h3⟩
theorem int_bd {n : Int} (h : (Lit.int .i64 n).wf = true) : -9223372036854775808 ≤ n ∧ n ≤ 9223372036854775807 := by
  simp [Lit.wf, IntKind.min, IntKind.max, IntKind.signed, IntKind.bits] at h
  omega
theorem u16_bd {n : Int} (h : (Lit.int .u16 n).wf = true) : 0 ≤ n ∧ n ≤ 65535 := by
  simp [Lit.wf, IntKind.min, IntKind.max, IntKind.signed, IntKind.bits] at h
  omega
end Go.Proofs.YtfdiplgjiidnbaaDoor
