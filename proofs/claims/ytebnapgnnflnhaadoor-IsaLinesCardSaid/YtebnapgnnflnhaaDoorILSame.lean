/-
  What the function same answers of equal bytes.
-/
import Derived.Test.YtebnapgnnflnhaaDoorBase
import Derived.BigQuiet
import Derived.Deep.QuietTactic
set_option linter.unusedSimpArgs false
set_option linter.unusedVariables false
namespace Go.Proofs.YtebnapgnnflnhaaDoor
open Go.RowKit
set_option maxHeartbeats 400000 in
theorem same_true (l : List Nat) (hlen : l.length ≤ 140737488355328) (a b : Option Addr) (capa capb : Nat) (w : World) (ra : Row w a l) (rb : Row w b l) :
    Calls Tryd.prog 7 #[.slice a l.length capa, .slice b l.length capb] w fun e w' => e = .returned (.bool true) ∧ ∃ m, w' = w.drewN m := by
  have hne : ((l.length : Int) != (l.length : Int)) = false := by simp
  go_enter Tryd.func7, Tryd.ntmps7
  go_wp2
  go_loopw [5] (fun i wr => ∃ k : Nat, k ≤ l.length ∧ i = .int .i64 k ∧ ∃ m, wr = w.drewN m) (fun i _ => l.length - (intOf i).toNat)
  case atStart => exact ⟨0, Nat.zero_le _, rfl, 0, rfl⟩
  case round =>
    obtain ⟨k, hk, rfl, m, rfl⟩ := hrel
    by_cases hkl : k < l.length
    · rcases ra with rfl | ⟨ab, aoff, rfl, ca⟩
      · simp at hkl
      rcases rb with rfl | ⟨bb, boff, rfl, cb⟩
      · simp at hkl
      have cak := ca k hkl
      have cbk := cb k hkl
      have hee : (((l.getD k 0 : Nat) : Int) != ((l.getD k 0 : Nat) : Int)) = false := by simp
      clear ca cb
      generalize l.getD k 0 = y at *
      have hki : (k : Int) < (l.length : Int) := by omega
      go_wp2
      go_quiet (fail)
      go_wp2
      go_roundw
      case rel => exact ⟨k + 1, by omega, by go_num, _, rfl⟩
      case measure => simp [intOf]; omega
    · go_wp2
      go_ret
      exact ⟨rfl, m, rfl⟩

theorem same_n (n m : Nat) (l : List Nat) (hn : l.length = n) (hm : l.length = m) (hlen : n ≤ 140737488355328) (a b : Option Addr) (capa capb : Nat) (w : World) (ra : Row w a l) (rb : Row w b l) :
    Calls Tryd.prog 7 #[.slice a n capa, .slice b m capb] w fun e w' => e = .returned (.bool true) ∧ ∃ m, w' = w.drewN m := by
  subst hn; subst hm; exact same_true l hlen a b capa capb w ra rb
theorem Row.drewN {w : World} {a : Option Addr} {l : List Nat} (h : Row w a l) (m : Nat) : Row (w.drewN m) a l := h

end Go.Proofs.YtebnapgnnflnhaaDoor
