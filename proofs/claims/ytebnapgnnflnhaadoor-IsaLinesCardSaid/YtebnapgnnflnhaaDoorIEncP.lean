/-
  Which opcode stands for an operation with a mode: plain mathematics over the table.
-/
import Derived.Test.YtebnapgnnflnhaaDoorITab
set_option linter.unusedSimpArgs false
set_option linter.unusedVariables false
namespace Go.Proofs.YtebnapgnnflnhaaDoor
open Go.RowKit
/-- Has an opcode this operation, this mode and this class? -/
def mt (op mode : Int) (c k : Nat) : Bool := ((opN k : Int) == op) && (((mdN k : Int) == mode) && (clN k == c))
def en0 (op mode : Int) (c i : Nat) : Option Nat := (List.range i).find? (mt op mode c)
def en12 (op mode : Int) (i : Nat) : Option Nat := (List.range i).find? fun k => mt op mode 1 k || mt op mode 2 k
/-- The answer: the opcode and the error's number. -/
def encS (op mode : Int) : Nat × Int :=
  if 0 ≤ op ∧ op < 70 then
    match en0 op mode 0 256 with
    | some k => (k, 0)
    | none => match en12 op mode 256 with
      | some k => (k, 0)
      | none => (0, 41)
  else (0, 40)
theorem find_succ (p : Nat → Bool) (i : Nat) : (List.range (i + 1)).find? p = ((List.range i).find? p).or (if p i = true then some i else none) := by
  rw [List.range_succ, List.find?_append]
  congr 1
  by_cases h : p i = true <;> simp [h]
theorem find_skip {p : Nat → Bool} {i : Nat} {o : Option Nat} (h : (List.range i).find? p = o) (hp : p i = false) : (List.range (i + 1)).find? p = o := by
  rw [find_succ, h, hp]; cases o <;> rfl
theorem find_new {p : Nat → Bool} {i : Nat} (h : (List.range i).find? p = none) (hp : p i = true) : (List.range (i + 1)).find? p = some i := by
  rw [find_succ, h, hp]; rfl
theorem find_old {p : Nat → Bool} {i j : Nat} (h : (List.range i).find? p = some j) : (List.range (i + 1)).find? p = some j := by
  rw [find_succ, h]; rfl
theorem find_on {p : Nat → Bool} {i j : Nat} (h : (List.range i).find? p = some j) (d : Nat) : (List.range (i + d)).find? p = some j := by
  induction d with
  | zero => exact h
  | succ d ih => exact find_old ih
theorem find_at {p : Nat → Bool} {i n : Nat} (h : (List.range i).find? p = none) (hp : p i = true) (hi : i < n) : (List.range n).find? p = some i := by
  have := find_on (find_new h hp) (n - (i + 1))
  rwa [show i + 1 + (n - (i + 1)) = n by omega] at this
theorem find_lt {p : Nat → Bool} {i j : Nat} (h : (List.range i).find? p = some j) : j < i := by
  simpa using List.mem_of_find?_eq_some h
theorem mt_mode {op mode : Int} {c k : Nat} (h : ((mdN k : Int) == mode) = false) : mt op mode c k = false := by
  unfold mt; rw [h]; simp
theorem mt_op {op mode : Int} {c k : Nat} (h : ((opN k : Int) == op) = false) : mt op mode c k = false := by
  unfold mt; rw [h]; rfl
theorem mt_cl {op mode : Int} {c k : Nat} (h : (clN k == c) = false) : mt op mode c k = false := by
  unfold mt; rw [h]; simp
theorem mt_yes {c k : Nat} (h : clN k = c) : mt (opN k : Nat) (mdN k : Nat) c k = true := by
  unfold mt; simp [h]
theorem jam2 : ∀ k, k < 256 → (opN k = 69 → clN k = 2) ∧ (clN k = 2 → opN k = 69) := by decide +kernel
theorem find_none_of {p : Nat → Bool} {i : Nat} (h : ∀ k, k < i → p k = false) : (List.range i).find? p = none := by
  rw [List.find?_eq_none]; intro k hk; simp [h k (by simpa using hk)]
theorem find_congr {p q : Nat → Bool} : ∀ {i : Nat}, (∀ k, k < i → p k = q k) → (List.range i).find? p = (List.range i).find? q
  | 0, _ => rfl
  | i + 1, h => by rw [find_succ, find_succ, find_congr fun k hk => h k (by omega), h i (by omega)]
/-- The two ways to look for an undocumented one are one. -/
theorem en12_eq (op mode : Int) : en12 op mode 256 = (en0 op mode 1 256).or (en0 op mode 2 256) := by
  by_cases h : op = 69
  · have h1 : ∀ k, k < 256 → mt op mode 1 k = false := fun k hk => by
      by_cases ho : ((opN k : Int) == op) = true
      · have e : opN k = 69 := by have := eq_of_beq ho; omega
        exact mt_cl (by rw [(jam2 k hk).1 e]; rfl)
      · exact mt_op (by simpa using ho)
    have e1 : en0 op mode 1 256 = none := find_none_of h1
    rw [e1, Option.none_or]
    exact find_congr fun k hk => by rw [h1 k hk]; rfl
  · have h2 : ∀ k, k < 256 → mt op mode 2 k = false := fun k hk => by
      by_cases ho : (clN k == 2) = true
      · have e : opN k = 69 := (jam2 k hk).2 (eq_of_beq ho)
        exact mt_op (by rw [e]; simp; omega)
      · exact mt_cl (by simpa using ho)
    have e1 : en0 op mode 2 256 = none := find_none_of h2
    rw [e1, Option.or_none]
    exact find_congr fun k hk => by rw [h2 k hk, Bool.or_false]
end Go.Proofs.YtebnapgnnflnhaaDoor
