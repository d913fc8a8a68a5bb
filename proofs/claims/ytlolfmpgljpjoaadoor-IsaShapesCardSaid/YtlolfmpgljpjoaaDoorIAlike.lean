/-
  What alike of the law answers of two lists that are one; conditions: both lie in memory.
-/
import Derived.Test.YtlolfmpgljpjoaaDoorIApp
import Derived.Deep.QuietTactic
import Derived.BigQuiet
set_option linter.unusedSimpArgs false
set_option linter.unusedVariables false
namespace Go.Proofs.YtlolfmpgljpjoaaDoor
open Go.RowKit
/-- The cells of a list. -/
def Cel (w : World) (g : Nat) (l : List Nat) : Prop := ∀ j, j < l.length → w.cell? ⟨g, j, none⟩ = some (.int .i64 (l.getD j 0 : Nat))
theorem Cel.of_blk {w : World} {g : Nat} {l : List Nat} {t : TypeId} (h : Blk w g (ints l).toArray t) : Cel w g l := fun j hj => by
  rw [h.cell j]; simp [ints, hj]
set_option maxRecDepth 100000 in
theorem alike_true (l : List Nat) (hl : l.length ≤ 100) (ga ca gb cb : Nat) (w : World) (ha : Cel w ga l) (hb : Cel w gb l) :
    Calls Tryd.prog 12 #[.slice (some ⟨ga, 0, none⟩) l.length ca, .slice (some ⟨gb, 0, none⟩) l.length cb] w fun e w' => e = .returned (.bool true) ∧ ∃ m, w' = w.drewN m := by
  go_enter Tryd.func12, Tryd.ntmps12
  go_wp2
  go_loopw [5] (fun i wr => ∃ k m : Nat, k ≤ l.length ∧ i = .int .i64 k ∧ wr = w.drewN m) (fun i _ => l.length - (intOf i).toNat)
  case atStart => exact ⟨0, 0, by omega, rfl, rfl⟩
  case round =>
    obtain ⟨k, m, hk, rfl, rfl⟩ := hrel
    by_cases hkl : k = l.length
    · subst hkl
      go_wp2
      go_ret
      exact ⟨rfl, m, rfl⟩
    · have hlt : (k : Int) < l.length := by omega
      have ca' := ha k (by omega)
      have cb' := hb k (by omega)
      generalize l.getD k 0 = x at *
      clear ha hb
      go_upto_region 6 with fail
      go_quiet (fail)
      go_wp2
      go_roundw
      case rel => exact ⟨k + 1, m + nq, by omega, by go_num, rfl⟩
      case measure => simp [intOf]; omega
end Go.Proofs.YtlolfmpgljpjoaaDoor
