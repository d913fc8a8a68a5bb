/-
  Plain facts on a ring of values in an array.
-/
import Derived.Test.YtlckjbangdnejaaDoorXwPat
set_option linter.unusedSimpArgs false
set_option linter.unusedVariables false
namespace Go.Proofs.YtlckjbangdnejaaDoor
open Go.RowKit Classical
/-- All blocks but those of S stay. -/
structure Kp (S : Nat → Prop) (w w' : World) : Prop where
  os : w'.os = w.os
  tape : w'.tape = w.tape
  output : w'.output = w.output
  size : w.heap.size ≤ w'.heap.size
  block : ∀ k, k < w.heap.size → ¬ S k → w'.heap[k]? = w.heap[k]?
theorem Kp.refl (S : Nat → Prop) (w : World) : Kp S w w := ⟨rfl, rfl, rfl, Nat.le_refl _, fun _ _ _ => rfl⟩
theorem Kp.trans {S : Nat → Prop} {a b c : World} (h : Kp S a b) (k : Kp S b c) : Kp S a c :=
  ⟨k.os.trans h.os, k.tape.trans h.tape, k.output.trans h.output, Nat.le_trans h.size k.size, fun m hm hn => (k.block m (Nat.lt_of_lt_of_le hm h.size) hn).trans (h.block m hm hn)⟩
theorem Kp.mono {S S' : Nat → Prop} {a b : World} (h : Kp S a b) (hs : ∀ k, S k → S' k) : Kp S' a b := ⟨h.os, h.tape, h.output, h.size, fun m hm hn => h.block m hm fun c => hn (hs m c)⟩
theorem Kp.of_grown {S : Nat → Prop} {a b : World} {g : Nat} (h : a.grownBy b (some g)) (hg : S g) : Kp S a b := ⟨h.os, h.tape, h.output, h.size, fun m hm hn => h.block m hm fun e => hn (by cases e; exact hg)⟩
theorem Kp.of_below {S : Nat → Prop} {a b : World} (h : Below a.heap.size a b) : Kp S a b := ⟨h.os, h.tape, h.output, h.size, fun m hm _ => h.block m hm⟩
theorem Kp.on {S : Nat → Prop} {a b c : World} (h : Kp S a b) (k : Below b.heap.size b c) : Kp S a c := h.trans (Kp.of_below k)
theorem Kp.blk {S : Nat → Prop} {a b : World} (h : Kp S a b) {g : Nat} {cs : Array Value} {t : TypeId} (hb : Blk a g cs t) (hg : ¬ S g) : Blk b g cs t := (h.block g hb.lt hg).trans hb
theorem Kp.own {S : Nat → Prop} {a b : World} (h : Kp S a b) {g : Nat} {l : List Nat} (hb : Own a g l) (hg : ¬ S g) : Own b g l := (h.block g hb.lt hg).trans hb
theorem Kp.below {S : Nat → Prop} {a b : World} (h : Kp S a b) {B : Nat} (hB : B ≤ a.heap.size) (hS : ∀ k, S k → B ≤ k) : Below B a b :=
  ⟨h.os, h.tape, h.output, h.size, fun k hk => h.block k (Nat.lt_of_lt_of_le hk hB) fun c => by have := hS k c; omega⟩
theorem mod_ne {K f x y : Nat} (hx : x < K) (hy : y < K) (h : x ≠ y) : (f + x) % K ≠ (f + y) % K := by
  have key : ∀ x y : Nat, x < y → y < K → (f + x) % K ≠ (f + y) % K := by
    intro x y hxy hy e
    have h1 : (f + y) % K = ((f + x) % K + (y - x) % K) % K := by rw [← Nat.add_mod]; congr 1; omega
    rw [← e, Nat.mod_eq_of_lt (show y - x < K by omega)] at h1
    have h2 := Nat.mod_lt (f + x) (show 0 < K by omega)
    generalize (f + x) % K = m at *
    by_cases h3 : m + (y - x) < K
    · rw [Nat.mod_eq_of_lt h3] at h1; omega
    · rw [Nat.mod_eq_sub_mod (by omega), Nat.mod_eq_of_lt (by omega)] at h1; omega
  rcases Nat.lt_or_gt_of_ne h with h | h
  · exact key x y h hy
  · exact fun e => key y x h hx e.symm
/-- The ring holds the values R, the newest first. -/
structure Rn (K f : Nat) (cur : Array Value) (R : List Value) : Prop where
  size : cur.size = K
  first : 0 < K → f < K
  le : R.length ≤ K
  at' : ∀ i, i < R.length → cur[(f + (R.length - 1 - i)) % K]? = R[i]?
theorem Rn.push {K f : Nat} {cur : Array Value} {R : List Value} (h : Rn K f cur R) (e : Value) (hl : R.length < K) : Rn K f (cur.setIfInBounds ((f + R.length) % K) e) (e :: R) := by
  refine ⟨by rw [Array.size_setIfInBounds]; exact h.size, h.first, by simp; omega, fun i hi => ?_⟩
  rw [List.length_cons] at hi ⊢
  have hm := Nat.mod_lt (f + R.length) (show 0 < K by omega)
  cases i with
  | zero =>
    rw [show R.length + 1 - 1 - 0 = R.length by omega, Array.getElem?_setIfInBounds_self_of_lt (by rw [h.size]; exact hm)]
    rfl
  | succ i =>
    rw [Array.getElem?_setIfInBounds_ne (mod_ne (by omega) (by omega) (by omega)), show R.length + 1 - 1 - (i + 1) = R.length - 1 - i by omega, h.at' i (by omega)]
    simp
theorem Rn.newest {K f : Nat} {cur : Array Value} {R : List Value} {e : Value} (h : Rn K f cur (e :: R)) (z : Value) : cur[(f + R.length) % K]? = some e ∧ Rn K f (cur.setIfInBounds ((f + R.length) % K) z) R := by
  have hl := h.le
  rw [List.length_cons] at hl
  refine ⟨by have := h.at' 0 (by simp); rw [List.length_cons, show R.length + 1 - 1 - 0 = R.length by omega] at this; exact this, by rw [Array.size_setIfInBounds]; exact h.size, h.first, by omega, fun i hi => ?_⟩
  rw [Array.getElem?_setIfInBounds_ne (mod_ne (by omega) (by omega) (by omega))]
  have := h.at' (i + 1) (by simp; omega)
  rw [List.length_cons, show R.length + 1 - 1 - (i + 1) = R.length - 1 - i by omega] at this
  rw [this]
  simp
theorem Rn.oldest {K f : Nat} {cur : Array Value} {R : List Value} {e : Value} (h : Rn K f cur (R ++ [e])) (z : Value) : cur[f]? = some e ∧ Rn K ((f + 1) % K) (cur.setIfInBounds f z) R := by
  have hl := h.le
  rw [List.length_append, List.length_singleton] at hl
  have hf := h.first (by omega)
  refine ⟨?_, by rw [Array.size_setIfInBounds]; exact h.size, fun hk => Nat.mod_lt _ hk, by omega, fun i hi => ?_⟩
  · have := h.at' R.length (by simp)
    rw [List.length_append, List.length_singleton, show R.length + 1 - 1 - R.length = 0 by omega, Nat.add_zero, Nat.mod_eq_of_lt hf] at this
    rw [this]
    simp
  · have e1 : ((f + 1) % K + (R.length - 1 - i)) % K = (f + (R.length - i)) % K := by rw [Nat.mod_add_mod]; congr 1; omega
    have e2 := mod_ne (K := K) (f := f) (x := 0) (y := R.length - i) (by omega) (by omega) (by omega)
    rw [Nat.add_zero, Nat.mod_eq_of_lt hf] at e2
    rw [e1, Array.getElem?_setIfInBounds_ne e2]
    have := h.at' i (by simp; omega)
    rw [List.length_append, List.length_singleton, show R.length + 1 - 1 - i = R.length - i by omega] at this
    rw [this, List.getElem?_append_left hi]
/-- The cells of a tape. -/
def tc (made held : Bool) (nv : Value) (s K f c : Nat) (ro : Int) : Array Value := #[.bool made, .bool held, nv, .slice (some ⟨s, 0, none⟩) K K, .int .i64 (f : Nat), .int .i64 (c : Nat), .int .i64 ro]
end Go.Proofs.YtlckjbangdnejaaDoor
