/-
  Plain facts on a patch's bytes and length.
-/
import Derived.Test.YtlckjbangdnejaaDoorXwRDiff
set_option linter.unusedSimpArgs false
set_option linter.unusedVariables false
namespace Go.Proofs.YtlckjbangdnejaaDoor
open Go.RowKit Classical
theorem bytes_app {a b : List Nat} (ha : Bytes a) (hb : Bytes b) : Bytes (a ++ b) := RwM.bytes_append ha hb
theorem sum4_bytes (c : Nat) : Bytes (sum4 c) := by
  intro x hx
  simp only [sum4, List.mem_cons, List.not_mem_nil, or_false] at hx
  omega
theorem diffL_bytes {F T : List Nat} (hF : Bytes F) (hT : Bytes T) : Bytes (diffL F T) := by
  unfold diffL
  refine bytes_app (bytes_app (bytes_app (bytes_app ?_ (bytes_app (RwM.num_bytes _) (RwM.num_bytes _))) (RwM.rb_bytes _ _ (Nat.le_refl _) (RwM.xr_bytes hF hT))) (bytes_app (RwM.num_bytes _) (RwM.num_bytes _))) (sum4_bytes _)
  intro x hx
  simp only [List.mem_cons, List.not_mem_nil, or_false] at hx
  omega
theorem diffL_len {F T : List Nat} (hF : F.length ≤ 65536) (hT : T.length ≤ 65536) : 10 ≤ (diffL F T).length ∧ (diffL F T).length ≤ 65560 := by
  have a1 := RwM.num_len F.length (by omega)
  have a2 := RwM.num_len T.length (by omega)
  have a3 := (RwM.rb_len 65536 (RwM.xr F T) (by rw [RwM.xr_len]; exact hT) (Nat.le_refl _)).1
  rw [RwM.xr_len] at a3
  unfold diffL
  simp only [List.length_append, List.length_cons, List.length_nil, RwM.num_zero, sum4]
  omega
theorem sameB_self (A : List Nat) : sameB A A = true := (sameB_iff A A).2 rfl
end Go.Proofs.YtlckjbangdnejaaDoor
