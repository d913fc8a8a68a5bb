/-
  The contract of isa.written.
-/
import Derived.Test.YtebnapgnnflnhaaDoorILRow
set_option linter.unusedSimpArgs false
set_option linter.unusedVariables false
namespace Go.Proofs.YtebnapgnnflnhaaDoor
open Go.RowKit
/-- The forms lie in their variable. -/
structure FTab (w : World) : Prop where
  md : ∀ i, i < 12 → w.cell? ⟨2, i * 2, none⟩ = some (.int .i64 (i : Int))
  tx : ∀ i, i < 12 → w.cell? ⟨2, i * 2 + 1, none⟩ = some (.string ⟨(wrL.getD i []).toArray⟩)
theorem cell_ltL {w : World} {p : Addr} {v : Value} (h : w.cell? p = some v) : p.block < w.heap.size := by
  unfold World.cell? at h
  by_cases hb : p.block < w.heap.size
  · exact hb
  · rw [Array.getElem?_eq_none (by omega)] at h; simp at h
theorem FTab.lt {w : World} (h : FTab w) : 2 < w.heap.size := cell_ltL (h.md 0 (by decide))
theorem FTab.below {w w' : World} (h : FTab w) (hb : Below w.heap.size w w') : FTab w' :=
  ⟨fun i hi => (hb.cell (p := ⟨2, i * 2, none⟩) h.lt).trans (h.md i hi), fun i hi => (hb.cell (p := ⟨2, i * 2 + 1, none⟩) h.lt).trans (h.tx i hi)⟩
set_option maxRecDepth 100000 in
theorem written_any (m : Nat) (hm : m < 13) (w : World) (T : FTab w) :
    Calls Tryd.prog 13 #[.int .i64 (m : Nat)] w fun e w' => e = .returned (.string ⟨(wrB m).toArray⟩) ∧ w' = w := by
  have HT : Hid (FTab w) := T
  clear T
  go_enter Tryd.func13, Tryd.ntmps13
  go_upto_region 2 with fail
  go_loop [4] (fun x => ∃ i : Nat, i ≤ 12 ∧ i ≤ m ∧ x = .int .i64 i) (fun x => 12 - (intOf x).toNat)
  case atStart => exact ⟨0, by omega, by omega, rfl⟩
  case round =>
    obtain ⟨i, hi, him, rfl⟩ := hrel
    by_cases h12 : i < 12
    · have c0 := HT.out.md i h12
      have c1 := HT.out.tx i h12
      have HW : Hid (i = m → wrL.getD i [] = wrB m) := fun e => by subst e; unfold wrB; rw [if_pos h12]
      generalize wrL.getD i [] = t at *
      by_cases e : i = m
      · subst e
        have e2 := HW.out rfl
        go_wp2
        go_ret
        exact ⟨rfl, rfl⟩
      · have tn : ((i : Int) == (m : Int)) = false := by rw [beq_eq_false_iff_ne]; omega
        clear HW
        go_wp2
        go_round
        case rel => exact ⟨i + 1, by omega, by omega, by go_num⟩
        case measure => simp [intOf]; omega
    · obtain rfl : i = 12 := by omega
      obtain rfl : m = 12 := by omega
      have c1 : w.cell? ⟨2, 17, none⟩ = some (.string ⟨(wrB 12).toArray⟩) := HT.out.tx 8 (by decide)
      obtain ⟨t, ht⟩ : ∃ t, wrB 12 = t := ⟨_, rfl⟩
      rw [ht] at c1
      have HH : Hid (wrB 12 = t) := ht
      clear ht
      go_wp2
      go_ret
      exact ⟨by rw [HH.out]; rfl, rfl⟩
end Go.Proofs.YtebnapgnnflnhaaDoor
