/-
  What kind of the document's isa answers; conditions: a byte's own name, mode and class.
-/
import Derived.Test.YtebnapgnnflnhaaDoorIRef4
set_option linter.unusedSimpArgs false
set_option linter.unusedVariables false
namespace Go.Proofs.YtebnapgnnflnhaaDoor
open Go.RowKit Go.WideShapes
set_option maxRecDepth 100000 in
set_option maxHeartbeats 2000000 in
theorem rkind_any (k : Nat) (hk : k < 256) (w : World) :
    Calls Tryd.prog 27 #[.string (nmB (opN k)), .int .i64 (mdN k : Nat), .bool (fil k)] w fun e w' => e = .returned (.int .i64 (kdN k : Nat)) ∧ w' = w := by
  have hW := isW_eq k hk
  have hM := isM_eq k hk
  have HW := Hid.mk1 hW
  have HM := Hid.mk1 hM
  clear hW hM
  unfold isW at HW
  unfold isM at HM
  go_enter Tryd.func27, Tryd.ntmps27
  go_wp2_with (go_at_call 33; refine (has_any _ _ (by decide) _ rfl _).mono ?_; rintro e w1 ⟨rfl, hw1⟩; obtain rfl := hw1.symm)
  all_goals
    go_ret
    refine ⟨ret64 ?_, rfl⟩
    repeat
      first
        | (rename hgo _ _ _ _ = true => h; first | rw [HW.out] at h | rw [HM.out] at h)
        | (rename hgo _ _ _ _ = false => h; first | rw [HW.out] at h | rw [HM.out] at h)
    clear HW HM
    go_light
    try simp only [nmB_toList] at *
    have H : true = true := rfl
    repeat
      first
        | (rename (_ == _) = true => h; replace H := bt H h; clear h)
        | (rename (_ == _) = false => h; replace H := bf H h; clear h)
        | (rename (_ != _) = true => h; replace H := bt H h; clear h)
        | (rename (_ != _) = false => h; replace H := bf H h; clear h)
        | (rename (_ || _) = true => h; replace H := bt H h; clear h)
        | (rename (_ || _) = false => h; replace H := bf H h; clear h)
        | (rename fil _ = true => h; replace H := bt H h; clear h)
        | (rename fil _ = false => h; replace H := bf H h; clear h)
        | (rename (_ : Int) < _ => h; replace H := bt H (decide_eq_true h); clear h)
        | (rename (_ : Int) ≤ _ => h; replace H := bt H (decide_eq_true h); clear h)
        | (rename _ ∨ _ => h; replace H := bt H (decide_eq_true h); clear h)
        | (rename _ ∧ _ => h; replace H := bt H (decide_eq_true h); clear h)
        | (rename ¬ ((_ : Int) = _) => h; replace H := bt H (decide_eq_true h); clear h)
        | (rename (_ : Int) = _ => h; replace H := bt H (decide_eq_true h); clear h)
        | (rename ¬ ((_ : List UInt8) = _) => h; replace H := bt H (decide_eq_true h); clear h)
        | (rename (_ : List UInt8) = _ => h; replace H := bt H (decide_eq_true h); clear h)
        | (rename ¬ ((_ : Nat) = _) => h; replace H := bt H (decide_eq_true h); clear h)
        | (rename (_ : Nat) = _ => h; replace H := bt H (decide_eq_true h); clear h)
    revert H
    revert k
    decide +kernel
end Go.Proofs.YtebnapgnnflnhaaDoor
