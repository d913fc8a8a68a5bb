/-
  Counting over the table; plain mathematics.
-/
import Derived.Test.YtlolfmpgljpjoaaDoorIBlk
import Derived.Test.YtlolfmpgljpjoaaDoorIRunP
import Derived.Test.YtlolfmpgljpjoaaDoorIEncP
set_option linter.unusedSimpArgs false
set_option linter.unusedVariables false
namespace Go.Proofs.YtlolfmpgljpjoaaDoor
open Go.RowKit
def bump (l : List Nat) (j : Nat) : List Nat := l.set j (l.getD j 0 + 1)
def tally (f : Nat → Nat) (n : Nat) : Nat → List Nat
  | 0 => List.replicate n 0
  | i + 1 => bump (tally f n i) (f i)
def sumN (f : Nat → Nat) : Nat → Nat
  | 0 => 0
  | i + 1 => sumN f i + f i
def ownB (k : Nat) : Bool := ((encS (opN k : Nat) (mdN k : Nat)).2 == 0) && ((encS (opN k : Nat) (mdN k : Nat)).1 == k)
def ownN (k : Nat) : Nat := (ownB k).toNat
def cyN (k : Nat) : Nat := (shQ k false false).length
theorem tally_length (f : Nat → Nat) (n : Nat) : ∀ i, (tally f n i).length = n
  | 0 => by simp [tally]
  | i + 1 => by simp [tally, bump, tally_length f n i]
theorem tally_le (f : Nat → Nat) (n : Nat) : ∀ i j, (tally f n i).getD j 0 ≤ i
  | 0, j => by simp [tally, List.getD, List.getElem?_replicate]; split <;> simp
  | i + 1, j => by
    have h := tally_le f n i j
    have h2 := tally_le f n i (f i)
    simp only [tally, bump, List.getD, List.getElem?_set]
    simp only [List.getD] at h h2
    split
    · split <;> simp <;> omega
    · omega
theorem sum_le (f : Nat → Nat) (c : Nat) (hf : ∀ k, k < 256 → f k ≤ c) : ∀ i, i ≤ 256 → sumN f i ≤ c * i
  | 0, _ => by simp [sumN]
  | i + 1, h => by
    have h1 := sum_le f c hf i (by omega)
    have h2 := hf i (by omega)
    simp only [sumN, Nat.mul_add]
    omega
theorem ints_cell {l : List Nat} {j : Nat} (h : j < l.length) : (ints l).toArray[j]? = some (.int .i64 (l.getD j 0 : Nat)) := by
  simp [ints, h]
theorem ints_bump {l : List Nat} {j : Nat} (h : j < l.length) : (ints l).toArray.setIfInBounds j (.int .i64 (((l.getD j 0 : Nat) : Int) + 1)) = (ints (bump l j)).toArray := by
  simp [ints, bump, List.map_set]
theorem ln_le : ∀ k, k < 256 → lnN k ≤ 3 := by decide +kernel
theorem cy_le : ∀ k, k < 256 → cyN k ≤ 8 := fun k hk => (shp_length k hk false false).1
theorem own_le (k : Nat) : ownN k ≤ 1 := by unfold ownN; cases ownB k <;> simp
theorem kd_le : ∀ k, k < 256 → kdN k ≤ 12 := by decide +kernel
theorem md_le : ∀ k, k < 256 → mdN k ≤ 12 := by decide +kernel
theorem cl_le : ∀ k, k < 256 → clN k ≤ 3 := by decide +kernel
theorem end_cl : tally clN 4 256 = [151, 86, 12, 7] := by decide +kernel
theorem end_kd : tally kdN 13 256 = [52, 86, 17, 66, 5, 8, 2, 1, 2, 2, 2, 1, 12] := by decide +kernel
theorem end_md : (tally mdN 13 256).getD 12 0 = 8 ∧ (tally mdN 13 256).getD 1 0 = 4 ∧ (tally mdN 13 256).getD 11 0 = 1 := by decide +kernel
theorem end_ln : sumN lnN 256 = 546 := by decide +kernel
theorem end_cy : sumN cyN 256 = 1055 := by decide +kernel
theorem end_own : sumN ownN 256 = 214 := by decide +kernel
end Go.Proofs.YtlolfmpgljpjoaaDoor
