/-
  What the document's entry answers of every address.
-/
import Derived.Test.YtecaipakaaongaaXvLeaf
set_option linter.unusedSimpArgs false
set_option linter.unusedVariables false
namespace Go.Proofs.Ytecaipakaaongaa
open Go.RowKit Classical
theorem rentry_any (n : Nat) (hn : n < 65536) (w : World) :
    Calls Try.prog 44 #[.int .i64 (n : Nat)] w fun e w' => e = .returned (.int .i64 (entN n : Nat)) ∧ w' = w := by
  have h1 : ((n : Int)).tmod 32 = ((n % 32 : Nat) : Int) := by rw [Int.tmod_eq_emod_of_nonneg (by omega)]; rfl
  obtain ⟨m, hm⟩ : ∃ m, m = n % 32 := ⟨_, rfl⟩
  have hm32 : m < 32 := by omega
  rw [← hm] at h1
  have h2 : ((m : Int)).tmod 4 = ((m % 4 : Nat) : Int) := by rw [Int.tmod_eq_emod_of_nonneg (by omega)]; rfl
  obtain ⟨q, hq⟩ : ∃ q, q = m % 4 := ⟨_, rfl⟩
  rw [← hq] at h2
  by_cases h16 : m < 16
  · have E : entN n = m := by unfold entN; rw [← hm]; split <;> omega
    have d : decide ((16 : Int) ≤ (m : Int)) = false := decide_eq_false (by omega)
    rw [E]
    clear E hm hq h16 hn
    go_enter Try.func44, Try.ntmps44
    go_wp2
    go_ret
    exact ⟨rfl, rfl⟩
  have d : decide ((16 : Int) ≤ (m : Int)) = true := decide_eq_true (by omega)
  by_cases h4 : q = 0
  · obtain ⟨z, hz⟩ : ∃ z, z = m - 16 := ⟨_, rfl⟩
    have E : entN n = z := by unfold entN; rw [← hm, ← hq, if_pos h4]; omega
    have ez : (m : Int) - 16 = (z : Int) := by omega
    have zb : z < 65536 := by omega
    rw [E]
    subst h4
    clear E hm hq h16 hn hz
    go_enter Try.func44, Try.ntmps44
    go_wp2
    go_ret
    exact ⟨rfl, rfl⟩
  · have E : entN n = m := by unfold entN; rw [← hm, ← hq, if_neg h4]
    have d4 : ((q : Int) == 0) = false := by simp; omega
    rw [E]
    clear E hm hq h16 hn h4
    go_enter Try.func44, Try.ntmps44
    go_wp2
    go_ret
    exact ⟨rfl, rfl⟩
end Go.Proofs.Ytecaipakaaongaa
