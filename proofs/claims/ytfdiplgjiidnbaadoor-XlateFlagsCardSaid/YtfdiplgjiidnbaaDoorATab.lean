/-
  The two tables of package alu, as numbers and as they lie in memory; the contracts of Needs and Sets.
-/
import Derived.Test.YtfdiplgjiidnbaaDoorRows
import Derived.WalkKit
import Derived.WalkSpells
import Derived.WalkLawsBesides
namespace Go.Proofs.YtfdiplgjiidnbaaDoor
open Go.RowKit
def ndL : List Int := [9, 0, 0, 1, 1, 2, 0, 128, 2, 128, 207, 64, 64, 0, 0, 0, 0, 0, 0, 0, 0, 0, 0, 0, 0, 0, 0, 0, 0, 0, 0, 0, 0, 0, 0, 0, 207, 0, 0, 1, 1, 0, 0, 9, 0, 0, 0, 0, 0, 0, 0, 0, 0, 0, 0, 0, 0, 0, 9, 0, 9, 0, 0, 1, 9, 0, 0, 0, 0, 0]
def stL : List Int := [195, 130, 131, 0, 0, 0, 194, 0, 0, 0, 4, 0, 0, 1, 8, 4, 64, 131, 131, 131, 130, 130, 130, 130, 130, 130, 130, 0, 0, 130, 130, 130, 131, 0, 130, 0, 0, 130, 255, 131, 131, 255, 0, 195, 1, 8, 4, 0, 0, 0, 130, 130, 130, 130, 0, 130, 131, 131, 195, 131, 195, 130, 130, 131, 195, 0, 131, 131, 131, 0]
/-- What an operation needs, and sets. -/
def nd (op : Int) : Int := if 0 ≤ op ∧ op < 70 then ndL.getD op.toNat 0 else 0
def st (op : Int) : Int := if 0 ≤ op ∧ op < 70 then stL.getD op.toNat 0 else 0
theorem nd_bd (op : Int) : 0 ≤ nd op ∧ nd op ≤ 255 := by
  unfold nd
  split
  · have : ∀ k : Nat, k < 70 → 0 ≤ ndL.getD k 0 ∧ ndL.getD k 0 ≤ 255 := by decide +kernel
    exact this _ (by omega)
  · decide
theorem st_bd (op : Int) : 0 ≤ st op ∧ st op ≤ 255 := by
  unfold st
  split
  · have : ∀ k : Nat, k < 70 → 0 ≤ stL.getD k 0 ∧ stL.getD k 0 ≤ 255 := by decide +kernel
    exact this _ (by omega)
  · decide
/-- Both tables lie in their variables. -/
structure Tabs (w : World) : Prop where
  nd : ∀ i, i < 70 → w.cell? ⟨1, i, none⟩ = some (.int .u8 (ndL.getD i 0))
  st : ∀ i, i < 70 → w.cell? ⟨0, i, none⟩ = some (.int .u8 (stL.getD i 0))
theorem Tabs.below {w w' : World} {B : Nat} (h : Tabs w) (h1 : 1 < B) (h2 : 0 < B) (hb : Below B w w') : Tabs w' :=
  ⟨fun i hi => (hb.cell (p := ⟨1, i, none⟩) h1).trans (h.nd i hi), fun i hi => (hb.cell (p := ⟨0, i, none⟩) h2).trans (h.st i hi)⟩
theorem cell_lt {w : World} {p : Addr} {v : Value} (h : w.cell? p = some v) : p.block < w.heap.size := by
  refine Nat.lt_of_not_le fun hle => ?_
  have : w.heap[p.block]? = none := by simp [hle]
  simp [World.cell?, this] at h
theorem Tabs.lt {w : World} (h : Tabs w) : 1 < w.heap.size ∧ 0 < w.heap.size := ⟨cell_lt (h.nd 0 (by decide)), cell_lt (h.st 0 (by decide))⟩
theorem Tabs.on {w w' : World} (h : Tabs w) (hb : Below w.heap.size w w') : Tabs w' := h.below h.lt.1 h.lt.2 hb
/-- The table of what is set lies in its variable. -/
structure STab (w : World) : Prop where
  st : ∀ i, i < 70 → w.cell? ⟨0, i, none⟩ = some (.int .u8 (stL.getD i 0))
theorem STab.lt {w : World} (h : STab w) : 0 < w.heap.size := cell_lt (h.st 0 (by decide))
theorem STab.on {w w' : World} (h : STab w) (hb : Below w.heap.size w w') : STab w' :=
  ⟨fun i hi => (hb.cell (p := ⟨0, i, none⟩) h.lt).trans (h.st i hi)⟩
theorem Tabs.s {w : World} (h : Tabs w) : STab w := ⟨h.st⟩
theorem needs_any (op : Int) (w : World) (T : Tabs w) :
    Calls Tryd.prog 32 #[.int .i64 op] w fun e w' => e = .returned (.int .u8 (nd op)) ∧ w' = w := by
  by_cases h0 : 0 ≤ op
  · by_cases h1 : op < 70
    · obtain ⟨k, rfl⟩ := Int.eq_ofNat_of_zero_le h0
      have hc := T.nd k (by omega)
      have E : Hid (nd (k : Int) = ndL.getD k 0) := by
        unfold Hid nd; rw [if_pos ⟨h0, h1⟩]; rfl
      clear T
      generalize ndL.getD k 0 = z at *
      go_enter Tryd.func32, Tryd.ntmps32
      go_wp2
      go_ret
      exact ⟨congrArg (fun x => Ending.returned (.int .u8 x)) E.out.symm, rfl⟩
    · have E : Hid (nd op = 0) := by unfold Hid nd; rw [if_neg (by omega)]
      have h2 : 70 ≤ op := by omega
      clear T
      go_enter Tryd.func32, Tryd.ntmps32
      go_wp2
      go_ret
      exact ⟨congrArg (fun x => Ending.returned (.int .u8 x)) E.out.symm, rfl⟩
  · have E : Hid (nd op = 0) := by unfold Hid nd; rw [if_neg (by omega)]
    have h2 : op < 0 := by omega
    clear T
    go_enter Tryd.func32, Tryd.ntmps32
    go_wp2
    go_ret
    exact ⟨congrArg (fun x => Ending.returned (.int .u8 x)) E.out.symm, rfl⟩
theorem sets_any (op : Int) (w : World) (T : STab w) :
    Calls Tryd.prog 13 #[.int .i64 op] w fun e w' => e = .returned (.int .u8 (st op)) ∧ w' = w := by
  by_cases h0 : 0 ≤ op
  · by_cases h1 : op < 70
    · obtain ⟨k, rfl⟩ := Int.eq_ofNat_of_zero_le h0
      have hc := T.st k (by omega)
      have E : Hid (st (k : Int) = stL.getD k 0) := by
        unfold Hid st; rw [if_pos ⟨h0, h1⟩]; rfl
      clear T
      generalize stL.getD k 0 = z at *
      go_enter Tryd.func13, Tryd.ntmps13
      go_wp2
      go_ret
      exact ⟨congrArg (fun x => Ending.returned (.int .u8 x)) E.out.symm, rfl⟩
    · have E : Hid (st op = 0) := by unfold Hid st; rw [if_neg (by omega)]
      have h2 : 70 ≤ op := by omega
      clear T
      go_enter Tryd.func13, Tryd.ntmps13
      go_wp2
      go_ret
      exact ⟨congrArg (fun x => Ending.returned (.int .u8 x)) E.out.symm, rfl⟩
  · have E : Hid (st op = 0) := by unfold Hid st; rw [if_neg (by omega)]
    have h2 : op < 0 := by omega
    clear T
    go_enter Tryd.func13, Tryd.ntmps13
    go_wp2
    go_ret
    exact ⟨congrArg (fun x => Ending.returned (.int .u8 x)) E.out.symm, rfl⟩
end Go.Proofs.YtfdiplgjiidnbaaDoor
