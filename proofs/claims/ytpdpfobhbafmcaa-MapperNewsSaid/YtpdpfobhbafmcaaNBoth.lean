/-
  Both New answer alike; conditions: what they look at lies in the cartridge's cells, the lengths are below 2000000.
-/
import Derived.Test.YtpdpfobhbafmcaaRNew2
namespace Go.Proofs.Ytpdpfobhbafmcaa
open Go.RowKit Classical
theorem zero_cells : (rB0 0 0 0 0).cells = Z31 := by kernel_rfl
theorem pre_eq (mp sub ram nv : Int) (vert four : Bool) (pp cc : Int) (hcc : 0 ≤ cc) :
    s4 (decide (0 < ram) || decide (0 < nv)) (s3 (8 * cc == 0) (s2 four (s1 vert (rB0 mp sub pp cc)))) = nB0 mp sub ram nv vert four pp cc := by
  have e1 : (8 * cc == 0) = (cc == 0) := by rw [Bool.eq_iff_iff]; simp only [beq_iff_eq]; omega
  rw [e1]
  unfold nB0
  generalize (decide (0 < ram) || decide (0 < nv)) = W
  by_cases c : cc = 0
  · subst c
    rw [show max (0 : Int) 1 = 1 by decide]
    cases vert <;> cases four <;> cases W <;> simp [s1, s2, s3, s4, rB0, hardV, Int.mul_comm]
  · have e2 : (cc == 0) = false := beq_eq_false_iff_ne.2 c
    have e3 : max cc 1 = cc := by omega
    rw [e2, e3]
    cases vert <;> cases four <;> cases W <;> simp [s1, s2, s3, s4, rB0, hardV, Int.mul_comm]
theorem X_no {p c : Nat} (hX : (((p : Int) % 16384 != 0) || (((p : Int) == 0) || decide (1048576 < (p : Int)))) = true) : (((p : Int) % 16384 == 0) && decide ((p : Int) / 16384 ≤ 64)) = false ∨ (((c : Int) % 8192 == 0) && decide ((c : Int) / 8192 ≤ 64)) = false ∨ p = 0 := by
  simp only [Bool.or_eq_true, bne_iff_ne, ne_eq, beq_iff_eq, decide_eq_true_eq] at hX
  rcases hX with h | h | h
  · left; simp [h]
  · right; right; omega
  · left
    by_cases h0 : (p : Int) % 16384 = 0
    · rw [decide_eq_false (by omega), Bool.and_false]
    · simp [h0]
theorem Y_no {c : Nat} (hY : (((c : Int) % 8192 != 0) || decide (524288 < (c : Int))) = true) : (((c : Int) % 8192 == 0) && decide ((c : Int) / 8192 ≤ 64)) = false := by
  simp only [Bool.or_eq_true, bne_iff_ne, ne_eq, decide_eq_true_eq] at hY
  rcases hY with h | h
  · simp [h]
  · by_cases h0 : (c : Int) % 8192 = 0
    · rw [decide_eq_false (by omega), Bool.and_false]
    · simp [h0]
theorem X_yes {p : Nat} (hX : (((p : Int) % 16384 != 0) || (((p : Int) == 0) || decide (1048576 < (p : Int)))) = false) : (((p : Int) % 16384 == 0) && decide ((p : Int) / 16384 ≤ 64)) = true ∧ ((p : Int) / 16384 == 0) = false := by
  simp only [Bool.or_eq_false_iff, bne_eq_false_iff_eq, beq_eq_false_iff_ne, ne_eq, decide_eq_false_iff_not] at hX
  obtain ⟨h1, h2, h3⟩ := hX
  exact ⟨by rw [h1, decide_eq_true (by omega)]; rfl, beq_eq_false_iff_ne.2 (by omega)⟩
theorem Y_yes {c : Nat} (hY : (((c : Int) % 8192 != 0) || decide (524288 < (c : Int))) = false) : (((c : Int) % 8192 == 0) && decide ((c : Int) / 8192 ≤ 64)) = true := by
  simp only [Bool.or_eq_false_iff, bne_eq_false_iff_eq, decide_eq_false_iff_not] at hY
  rw [hY.1, decide_eq_true (by omega)]; rfl
theorem lst_kinds' {k s : Int} (h : lst k s = true) : k = 0 ∨ k = 1 ∨ k = 2 ∨ k = 3 ∨ k = 4 ∨ k = 7 := by
  unfold lst at h
  by_cases h0 : k = 0
  · exact .inl h0
  by_cases h1 : k = 1
  · exact .inr (.inl h1)
  by_cases h2 : k = 2 ∨ k = 3 ∨ k = 7
  · omega
  by_cases h4 : k = 4
  · omega
  simp [h0, h1, h2, h4] at h
theorem new_0 (cs : Array Value) (sub ram nv : Int) (vert four : Bool) (x1 x2 : Option Addr) (p c k1 k2 : Nat) (C : IsN cs 0 sub ram nv vert four x1 x2 p c k1 k2) (w : World) (hl : lst 0 sub = true) (hp : p ≤ 2000000) (hc : c ≤ 2000000) (hX : (((p : Int) % 16384 != 0) || (((p : Int) == 0) || decide (1048576 < (p : Int)))) = false) (hY : (((c : Int) % 8192 != 0) || decide (524288 < (c : Int))) = false) :
    Calls Try.prog 6 #[.agg cs] w fun e w' => e = .returned (.tuple #[.agg (nB0 0 sub ram nv vert four ((p : Int) / 16384) ((c : Int) / 8192)).cells, .int .i64 0]) ∧ Below w.heap.size w w' :=
  new_ok cs 0 sub ram nv vert four x1 x2 p c k1 k2 C w hl hp hc (X_yes hX).1 (Y_yes hY) (X_yes hX).2 72 74 (k0c (nB0 0 sub ram nv vert four ((p : Int) / 16384) ((c : Int) / 8192))) (k0c (nB0 0 sub ram nv vert four ((p : Int) / 16384) ((c : Int) / 8192))) 57 (nB0 0 sub ram nv vert four ((p : Int) / 16384) ((c : Int) / 8192)) rfl
    (fun W => kindOf_0 W (nB0 0 sub ram nv vert four ((p : Int) / 16384) ((c : Int) / 8192)) rfl rfl) (fun _ _ => by kernel_rfl) (fun _ _ => by kernel_rfl) (fun W m K => (powerOn0 W m).mono (by rintro e w2 ⟨rfl, rfl⟩; exact ⟨rfl, Below.refl _ _, K⟩)) (fun W m K => plain_0 W (nB0 0 sub ram nv vert four ((p : Int) / 16384) ((c : Int) / 8192)) rfl m K)
theorem new_2 (cs : Array Value) (sub ram nv : Int) (vert four : Bool) (x1 x2 : Option Addr) (p c k1 k2 : Nat) (C : IsN cs 2 sub ram nv vert four x1 x2 p c k1 k2) (w : World) (hl : lst 2 sub = true) (hp : p ≤ 2000000) (hc : c ≤ 2000000) (hX : (((p : Int) % 16384 != 0) || (((p : Int) == 0) || decide (1048576 < (p : Int)))) = false) (hY : (((c : Int) % 8192 != 0) || decide (524288 < (c : Int))) = false) :
    Calls Try.prog 6 #[.agg cs] w fun e w' => e = .returned (.tuple #[.agg (nB0 2 sub ram nv vert four ((p : Int) / 16384) ((c : Int) / 8192)).cells, .int .i64 0]) ∧ Below w.heap.size w w' :=
  new_ok cs 2 sub ram nv vert four x1 x2 p c k1 k2 C w hl hp hc (X_yes hX).1 (Y_yes hY) (X_yes hX).2 58 62 (kLc (nB0 2 sub ram nv vert four ((p : Int) / 16384) ((c : Int) / 8192))) (kLc (nB0 2 sub ram nv vert four ((p : Int) / 16384) ((c : Int) / 8192))) 57 (nB0 2 sub ram nv vert four ((p : Int) / 16384) ((c : Int) / 8192)) rfl
    (fun W => kindOf_2 W (nB0 2 sub ram nv vert four ((p : Int) / 16384) ((c : Int) / 8192)) rfl rfl) (fun _ _ => by kernel_rfl) (fun _ _ => by kernel_rfl) (fun W m K => (powerOn0 W m).mono (by rintro e w2 ⟨rfl, rfl⟩; exact ⟨rfl, Below.refl _ _, K⟩)) (fun W m K => plain_2 W (nB0 2 sub ram nv vert four ((p : Int) / 16384) ((c : Int) / 8192)) rfl m K)
theorem new_3 (cs : Array Value) (sub ram nv : Int) (vert four : Bool) (x1 x2 : Option Addr) (p c k1 k2 : Nat) (C : IsN cs 3 sub ram nv vert four x1 x2 p c k1 k2) (w : World) (hl : lst 3 sub = true) (hp : p ≤ 2000000) (hc : c ≤ 2000000) (hX : (((p : Int) % 16384 != 0) || (((p : Int) == 0) || decide (1048576 < (p : Int)))) = false) (hY : (((c : Int) % 8192 != 0) || decide (524288 < (c : Int))) = false) :
    Calls Try.prog 6 #[.agg cs] w fun e w' => e = .returned (.tuple #[.agg (nB0 3 sub ram nv vert four ((p : Int) / 16384) ((c : Int) / 8192)).cells, .int .i64 0]) ∧ Below w.heap.size w w' :=
  new_ok cs 3 sub ram nv vert four x1 x2 p c k1 k2 C w hl hp hc (X_yes hX).1 (Y_yes hY) (X_yes hX).2 63 64 (kLc (nB0 3 sub ram nv vert four ((p : Int) / 16384) ((c : Int) / 8192))) (kLc (nB0 3 sub ram nv vert four ((p : Int) / 16384) ((c : Int) / 8192))) 57 (nB0 3 sub ram nv vert four ((p : Int) / 16384) ((c : Int) / 8192)) rfl
    (fun W => kindOf_3 W (nB0 3 sub ram nv vert four ((p : Int) / 16384) ((c : Int) / 8192)) rfl rfl) (fun _ _ => by kernel_rfl) (fun _ _ => by kernel_rfl) (fun W m K => (powerOn0 W m).mono (by rintro e w2 ⟨rfl, rfl⟩; exact ⟨rfl, Below.refl _ _, K⟩)) (fun W m K => plain_3 W (nB0 3 sub ram nv vert four ((p : Int) / 16384) ((c : Int) / 8192)) rfl m K)
theorem new_7 (cs : Array Value) (sub ram nv : Int) (vert four : Bool) (x1 x2 : Option Addr) (p c k1 k2 : Nat) (C : IsN cs 7 sub ram nv vert four x1 x2 p c k1 k2) (w : World) (hl : lst 7 sub = true) (hp : p ≤ 2000000) (hc : c ≤ 2000000) (hX : (((p : Int) % 16384 != 0) || (((p : Int) == 0) || decide (1048576 < (p : Int)))) = false) (hY : (((c : Int) % 8192 != 0) || decide (524288 < (c : Int))) = false) :
    Calls Try.prog 6 #[.agg cs] w fun e w' => e = .returned (.tuple #[.agg (nB0 7 sub ram nv vert four ((p : Int) / 16384) ((c : Int) / 8192)).cells, .int .i64 0]) ∧ Below w.heap.size w w' :=
  new_ok cs 7 sub ram nv vert four x1 x2 p c k1 k2 C w hl hp hc (X_yes hX).1 (Y_yes hY) (X_yes hX).2 70 71 (kLc (nB0 7 sub ram nv vert four ((p : Int) / 16384) ((c : Int) / 8192))) (kLc (nB0 7 sub ram nv vert four ((p : Int) / 16384) ((c : Int) / 8192))) 57 (nB0 7 sub ram nv vert four ((p : Int) / 16384) ((c : Int) / 8192)) rfl
    (fun W => kindOf_7 W (nB0 7 sub ram nv vert four ((p : Int) / 16384) ((c : Int) / 8192)) rfl rfl) (fun _ _ => by kernel_rfl) (fun _ _ => by kernel_rfl) (fun W m K => (powerOn0 W m).mono (by rintro e w2 ⟨rfl, rfl⟩; exact ⟨rfl, Below.refl _ _, K⟩)) (fun W m K => plain_7 W (nB0 7 sub ram nv vert four ((p : Int) / 16384) ((c : Int) / 8192)) rfl m K)
theorem new_1 (cs : Array Value) (sub ram nv : Int) (vert four : Bool) (x1 x2 : Option Addr) (p c k1 k2 : Nat) (C : IsN cs 1 sub ram nv vert four x1 x2 p c k1 k2) (w : World) (hl : lst 1 sub = true) (hp : p ≤ 2000000) (hc : c ≤ 2000000) (hX : (((p : Int) % 16384 != 0) || (((p : Int) == 0) || decide (1048576 < (p : Int)))) = false) (hY : (((c : Int) % 8192 != 0) || decide (524288 < (c : Int))) = false) :
    Calls Try.prog 6 #[.agg cs] w fun e w' => e = .returned (.tuple #[.agg ({ (nB0 1 sub ram nv vert four ((p : Int) / 16384) ((c : Int) / 8192)) with shift := 16, ctrl := 12, last := -2 } : Bd).cells, .int .i64 0]) ∧ Below w.heap.size w w' :=
  new_ok cs 1 sub ram nv vert four x1 x2 p c k1 k2 C w hl hp hc (X_yes hX).1 (Y_yes hY) (X_yes hX).2 55 57 (k1c (nB0 1 sub ram nv vert four ((p : Int) / 16384) ((c : Int) / 8192))) (k1c ({ (nB0 1 sub ram nv vert four ((p : Int) / 16384) ((c : Int) / 8192)) with shift := 16, ctrl := 12, last := -2 } : Bd)) 48 ({ (nB0 1 sub ram nv vert four ((p : Int) / 16384) ((c : Int) / 8192)) with shift := 16, ctrl := 12, last := -2 } : Bd) rfl
    (fun W => kindOf_1 W (nB0 1 sub ram nv vert four ((p : Int) / 16384) ((c : Int) / 8192)) rfl rfl) (fun _ _ => by kernel_rfl) (fun _ _ => by kernel_rfl) (fun W m K => powerOn1 W m (nB0 1 sub ram nv vert four ((p : Int) / 16384) ((c : Int) / 8192)) K) (fun W m K => plain_1 W ({ (nB0 1 sub ram nv vert four ((p : Int) / 16384) ((c : Int) / 8192)) with shift := 16, ctrl := 12, last := -2 } : Bd) rfl m K)
theorem new_4 (cs : Array Value) (sub ram nv : Int) (vert four : Bool) (x1 x2 : Option Addr) (p c k1 k2 : Nat) (C : IsN cs 4 sub ram nv vert four x1 x2 p c k1 k2) (w : World) (hl : lst 4 sub = true) (hp : p ≤ 2000000) (hc : c ≤ 2000000) (hX : (((p : Int) % 16384 != 0) || (((p : Int) == 0) || decide (1048576 < (p : Int)))) = false) (hY : (((c : Int) % 8192 != 0) || decide (524288 < (c : Int))) = false) :
    Calls Try.prog 6 #[.agg cs] w fun e w' => e = .returned (.tuple #[.agg ({ (nB0 4 sub ram nv vert four ((p : Int) / 16384) ((c : Int) / 8192)) with r := [0, 2, 4, 5, 6, 7, 0, 1], guard := 128 } : Bd).cells, .int .i64 0]) ∧ Below w.heap.size w w' :=
  new_ok cs 4 sub ram nv vert four x1 x2 p c k1 k2 C w hl hp hc (X_yes hX).1 (Y_yes hY) (X_yes hX).2 65 69 (k4c (nB0 4 sub ram nv vert four ((p : Int) / 16384) ((c : Int) / 8192))) (k4c ({ (nB0 4 sub ram nv vert four ((p : Int) / 16384) ((c : Int) / 8192)) with r := [0, 2, 4, 5, 6, 7, 0, 1], guard := 128 } : Bd)) 67 ({ (nB0 4 sub ram nv vert four ((p : Int) / 16384) ((c : Int) / 8192)) with r := [0, 2, 4, 5, 6, 7, 0, 1], guard := 128 } : Bd) rfl
    (fun W => kindOf_4 W (nB0 4 sub ram nv vert four ((p : Int) / 16384) ((c : Int) / 8192)) rfl rfl) (fun _ _ => by kernel_rfl) (fun _ _ => by kernel_rfl) (fun W m K => powerOn4 W m (nB0 4 sub ram nv vert four ((p : Int) / 16384) ((c : Int) / 8192)) rfl K) (fun W m K => plain_4 W ({ (nB0 4 sub ram nv vert four ((p : Int) / 16384) ((c : Int) / 8192)) with r := [0, 2, 4, 5, 6, 7, 0, 1], guard := 128 } : Bd) rfl m K)
theorem new_both (mp sub ram nv : Int) (vert four : Bool) (p c : Nat) (hp : p ≤ 2000000) (hc : c ≤ 2000000) : ∃ (D : Bd) (v : Int), D.r.length = 8 ∧
    ∀ (cs : Array Value) (x1 x2 : Option Addr) (k1 k2 : Nat), IsN cs mp sub ram nv vert four x1 x2 p c k1 k2 →
    (∀ W, Calls Try.prog 6 #[.agg cs] W fun e w' => e = .returned (.tuple #[.agg D.cells, .int .i64 v]) ∧ Below W.heap.size W w') ∧
    (∀ W, Calls Try.prog 8 #[.agg cs] W fun e w' => e = .returned (.tuple #[.agg D.cells, .int .i64 v]) ∧ Below W.heap.size W w') := by
  cases hl : lst mp sub
  · refine ⟨rB0 0 0 0 0, 20, rfl, fun cs x1 x2 k1 k2 C => ⟨fun W => ?_, fun W => ?_⟩⟩
    · rw [zero_cells]; exact new_bad1 cs mp sub ram nv vert four x1 x2 p c k1 k2 C W hl
    · rw [zero_cells]; exact rnew_bad1 cs mp sub ram nv vert four x1 x2 p c k1 k2 C W hl
  cases hX : (((p : Int) % 16384 != 0) || (((p : Int) == 0) || decide (1048576 < (p : Int))))
  · cases hY : (((c : Int) % 8192 != 0) || decide (524288 < (c : Int)))
    · have hcc : (0 : Int) ≤ (c : Int) / 8192 := by omega
      have hR := fun cs x1 x2 k1 k2 C W => rnew_ok cs mp sub ram nv vert four x1 x2 p c k1 k2 C W hl hp hc hX hY
      rw [pre_eq mp sub ram nv vert four _ _ hcc] at hR
      rcases lst_kinds' hl with hk | hk | hk | hk | hk | hk
      · subst hk
        exact ⟨_, 0, rfl, fun cs x1 x2 k1 k2 C => ⟨fun W => new_0 cs sub ram nv vert four x1 x2 p c k1 k2 C W hl hp hc hX hY, hR cs x1 x2 k1 k2 C⟩⟩
      · subst hk
        exact ⟨_, 0, rfl, fun cs x1 x2 k1 k2 C => ⟨fun W => new_1 cs sub ram nv vert four x1 x2 p c k1 k2 C W hl hp hc hX hY, hR cs x1 x2 k1 k2 C⟩⟩
      · subst hk
        exact ⟨_, 0, rfl, fun cs x1 x2 k1 k2 C => ⟨fun W => new_2 cs sub ram nv vert four x1 x2 p c k1 k2 C W hl hp hc hX hY, hR cs x1 x2 k1 k2 C⟩⟩
      · subst hk
        exact ⟨_, 0, rfl, fun cs x1 x2 k1 k2 C => ⟨fun W => new_3 cs sub ram nv vert four x1 x2 p c k1 k2 C W hl hp hc hX hY, hR cs x1 x2 k1 k2 C⟩⟩
      · subst hk
        exact ⟨_, 0, rfl, fun cs x1 x2 k1 k2 C => ⟨fun W => new_4 cs sub ram nv vert four x1 x2 p c k1 k2 C W hl hp hc hX hY, hR cs x1 x2 k1 k2 C⟩⟩
      · subst hk
        exact ⟨_, 0, rfl, fun cs x1 x2 k1 k2 C => ⟨fun W => new_7 cs sub ram nv vert four x1 x2 p c k1 k2 C W hl hp hc hX hY, hR cs x1 x2 k1 k2 C⟩⟩
    · refine ⟨rB0 0 0 0 0, 21, rfl, fun cs x1 x2 k1 k2 C => ⟨fun W => ?_, fun W => ?_⟩⟩
      · rw [zero_cells]; exact new_bad2 cs mp sub ram nv vert four x1 x2 p c k1 k2 C W hl hp hc _ _ rfl rfl (Or.inr (Or.inl (Y_no hY)))
      · rw [zero_cells]; exact rnew_bad3 cs mp sub ram nv vert four x1 x2 p c k1 k2 C W hl hp hc hX hY
  · refine ⟨rB0 0 0 0 0, 21, rfl, fun cs x1 x2 k1 k2 C => ⟨fun W => ?_, fun W => ?_⟩⟩
    · rw [zero_cells]; exact new_bad2 cs mp sub ram nv vert four x1 x2 p c k1 k2 C W hl hp hc _ _ rfl rfl (X_no hX)
    · rw [zero_cells]; exact rnew_bad2 cs mp sub ram nv vert four x1 x2 p c k1 k2 C W hl hp hX
end Go.Proofs.Ytpdpfobhbafmcaa
