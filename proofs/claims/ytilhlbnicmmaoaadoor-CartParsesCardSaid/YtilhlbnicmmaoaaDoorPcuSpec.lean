/-
  An image that must be taken, cut short or with a byte turned; plain facts, no conditions.
-/
import Derived.Test.YtilhlbnicmmaoaaDoorPag6
set_option linter.unusedSimpArgs false
set_option linter.unusedVariables false
namespace Go.Proofs.YtilhlbnicmmaoaaDoor
open Go.RowKit
/-- An image that must be taken; fin is where CHR ends. -/
structure Im (L : List Nat) (fin : Nat) : Prop where
  bys : Bytes L
  mg : L.getD 0 0 = 78 ∧ L.getD 1 0 = 69 ∧ L.getD 2 0 = 83 ∧ L.getD 3 0 = 26
  bad : (hdOf L).bad = 0
  prg : (hdOf L).prg ≠ 0 ∧ (hdOf L).prg ≤ 1048576
  chr : (hdOf L).chr ≤ 524288
  fe : (hdOf L).fin = fin
  le : fin ≤ L.length
  max : L.length ≤ 2097152
  tail : ((hdOf L).f = 2 ∧ (hdOf L).b14 % 4 = 0 → L.length = fin) ∧ (hdOf L).least ≤ L.length - fin
theorem fin_ge (h : Hq) : 16 ≤ h.fin := by unfold Hq.fin; omega
theorem front_good {L : List Nat} {n : Nat} (m : L.getD 0 0 = 78 ∧ L.getD 1 0 = 69 ∧ L.getD 2 0 = 83 ∧ L.getD 3 0 = 26) (h : 16 ≤ n) : frontE L n = (0, 0) := by
  obtain ⟨m0, m1, m2, m3⟩ := m
  unfold frontE
  rw [if_neg (by omega), if_neg (fun x => x m0), if_neg (by omega), if_neg (fun x => x m1), if_neg (by omega), if_neg (fun x => x m2), if_neg (by omega), if_neg (fun x => x m3), if_neg (by omega)]
theorem front_short {L : List Nat} {n : Nat} (m : (0 < n → L.getD 0 0 = 78) ∧ (1 < n → L.getD 1 0 = 69) ∧ (2 < n → L.getD 2 0 = 83) ∧ (3 < n → L.getD 3 0 = 26)) (h : n < 16) : frontE L n = (11, n) := by
  obtain ⟨m0, m1, m2, m3⟩ := m
  unfold frontE
  by_cases h0 : n ≤ 0
  · rw [if_pos h0]
  rw [if_neg h0, if_neg (fun x => x (m0 (by omega)))]
  by_cases h1 : n ≤ 1
  · rw [if_pos h1]
  rw [if_neg h1, if_neg (fun x => x (m1 (by omega)))]
  by_cases h2 : n ≤ 2
  · rw [if_pos h2]
  rw [if_neg h2, if_neg (fun x => x (m2 (by omega)))]
  by_cases h3 : n ≤ 3
  · rw [if_pos h3]
  rw [if_neg h3, if_neg (fun x => x (m3 (by omega))), if_pos h]
theorem Im.ok {L : List Nat} {fin : Nat} (h : Im L fin) : pz L = (0, 0) := by
  have h1 := h.max
  have h2 := h.le
  have h3 := h.fe
  have h4 := fin_ge (hdOf L)
  have hf := front_good (n := L.length) h.mg (by omega)
  have E := (e_cases (hdOf L) L.length h.bad).2.2.2 (fun x => x.elim h.prg.1 (fun y => by have := h.prg.2; omega)) (by have := h.chr; omega) (by omega)
  unfold pz
  rw [if_neg (by omega), hf, if_neg (fun x => x rfl), E, if_neg (fun x => by have := h.tail.1 ⟨x.1, x.2.1⟩; omega), if_neg (by have := h.tail.2; omega)]
theorem getD_take (L : List Nat) (k j : Nat) (h : j < k) : (L.take k).getD j 0 = L.getD j 0 := by
  rw [List.getD_eq_getElem?_getD, List.getD_eq_getElem?_getD, List.getElem?_take, if_pos h]
theorem hdOf_take (L : List Nat) (k : Nat) (h : 16 ≤ k) : hdOf (L.take k) = hdOf L := by
  unfold hdOf
  rw [getD_take L k 0 (by omega), getD_take L k 1 (by omega), getD_take L k 2 (by omega), getD_take L k 3 (by omega), getD_take L k 4 (by omega), getD_take L k 5 (by omega), getD_take L k 6 (by omega), getD_take L k 7 (by omega), getD_take L k 8 (by omega), getD_take L k 9 (by omega), getD_take L k 10 (by omega), getD_take L k 11 (by omega), getD_take L k 12 (by omega), getD_take L k 13 (by omega), getD_take L k 14 (by omega), getD_take L k 15 (by omega)]
theorem Im.cut {L : List Nat} {fin k : Nat} (h : Im L fin) (hk : k < fin) : pz (L.take k) = (11, k) := by
  have h1 := h.max
  have h2 := h.le
  have h3 := h.fe
  have hl : (L.take k).length = k := by rw [List.length_take]; omega
  obtain ⟨m0, m1, m2, m3⟩ := h.mg
  unfold pz
  rw [hl, if_neg (by omega)]
  by_cases h16 : k < 16
  · have := front_short (L := L.take k) (n := k) ⟨fun x => by rw [getD_take L k 0 x]; exact m0, fun x => by rw [getD_take L k 1 x]; exact m1, fun x => by rw [getD_take L k 2 x]; exact m2, fun x => by rw [getD_take L k 3 x]; exact m3⟩ h16
    rw [this, if_pos (by show (11 : Nat) ≠ 0; decide)]
  · have := front_good (L := L.take k) (n := k) ⟨by rw [getD_take L k 0 (by omega)]; exact m0, by rw [getD_take L k 1 (by omega)]; exact m1, by rw [getD_take L k 2 (by omega)]; exact m2, by rw [getD_take L k 3 (by omega)]; exact m3⟩ (by omega)
    rw [this, if_neg (fun x => x rfl), hdOf_take L k (by omega)]
    exact (e_cases (hdOf L) k h.bad).2.2.1 (fun x => x.elim h.prg.1 (fun y => by have := h.prg.2; omega)) (by have := h.chr; omega) (by omega)
theorem getD_set_ne (L : List Nat) (i j v : Nat) (h : i ≠ j) : (L.set i v).getD j 0 = L.getD j 0 := by
  rw [List.getD_eq_getElem?_getD, List.getD_eq_getElem?_getD, List.getElem?_set_ne h]
theorem getD_set_eq (L : List Nat) (i v : Nat) (h : i < L.length) : (L.set i v).getD i 0 = v := by
  rw [List.getD_eq_getElem?_getD, List.getElem?_set_self h]; rfl
theorem Im.turn {L : List Nat} {fin i v : Nat} (h : Im L fin) (hi : i < 4) (hv : v ≠ L.getD i 0) : pz (L.set i v) = (10, i) := by
  have h1 := h.max
  have h2 := h.le
  have h3 := h.fe
  have h4 := fin_ge (hdOf L)
  have hn : 16 ≤ L.length := by omega
  obtain ⟨m0, m1, m2, m3⟩ := h.mg
  have hf : frontE (L.set i v) L.length = (10, i) := by
    unfold frontE
    rcases (show i = 0 ∨ i = 1 ∨ i = 2 ∨ i = 3 by omega) with rfl | rfl | rfl | rfl
    · rw [m0] at hv
      rw [getD_set_eq L 0 v (by omega), if_neg (by omega), if_pos hv]
    · rw [m1] at hv
      rw [getD_set_ne L 1 0 v (by decide), getD_set_eq L 1 v (by omega), if_neg (by omega), if_neg (fun x => x m0), if_neg (by omega), if_pos hv]
    · rw [m2] at hv
      rw [getD_set_ne L 2 0 v (by decide), getD_set_ne L 2 1 v (by decide), getD_set_eq L 2 v (by omega), if_neg (by omega), if_neg (fun x => x m0), if_neg (by omega), if_neg (fun x => x m1), if_neg (by omega), if_pos hv]
    · rw [m3] at hv
      rw [getD_set_ne L 3 0 v (by decide), getD_set_ne L 3 1 v (by decide), getD_set_ne L 3 2 v (by decide), getD_set_eq L 3 v (by omega), if_neg (by omega), if_neg (fun x => x m0), if_neg (by omega), if_neg (fun x => x m1), if_neg (by omega), if_neg (fun x => x m2), if_neg (by omega), if_pos hv]
  unfold pz
  rw [List.length_set, if_neg (by omega), hf, if_pos (by show (10 : Nat) ≠ 0; decide)]
/-- Bits of one byte. -/
theorem an4 (b : Nat) (h : b < 256) : ∃ v : Nat, bits BinOp.andNot IntKind.u8 (b : Int) 4 = (v : Int) ∧ v < 256 ∧ v / 4 % 2 = 0 := by
  have g : ∀ t : Fin 256, bits BinOp.andNot IntKind.u8 ((t.val : Nat) : Int) 4 = ((t.val &&& 251 : Nat) : Int) ∧ (t.val &&& 251) < 256 ∧ (t.val &&& 251) / 4 % 2 = 0 := by decide +kernel
  obtain ⟨h1, h2, h3⟩ := g ⟨b, h⟩
  exact ⟨b &&& 251, h1, h2, h3⟩
theorem or4 (b : Nat) (h : b < 256) : ∃ v : Nat, bits BinOp.or IntKind.u8 (b : Int) 4 = (v : Int) ∧ v < 256 ∧ v / 4 % 2 = 1 ∧ (b / 4 % 4 = 0 → v / 4 % 4 = 1) := by
  have g : ∀ t : Fin 256, bits BinOp.or IntKind.u8 ((t.val : Nat) : Int) 4 = ((t.val ||| 4 : Nat) : Int) ∧ (t.val ||| 4) < 256 ∧ (t.val ||| 4) / 4 % 2 = 1 ∧ (t.val / 4 % 4 = 0 → (t.val ||| 4) / 4 % 4 = 1) := by decide +kernel
  obtain ⟨h1, h2, h3, h4⟩ := g ⟨b, h⟩
  exact ⟨b ||| 4, h1, h2, h3, h4⟩
theorem an12 (b : Nat) (h : b < 256) : ∃ v : Nat, bits BinOp.andNot IntKind.u8 (b : Int) 12 = (v : Int) ∧ v < 256 ∧ v / 4 % 4 = 0 := by
  have g : ∀ t : Fin 256, bits BinOp.andNot IntKind.u8 ((t.val : Nat) : Int) 12 = ((t.val &&& 243 : Nat) : Int) ∧ (t.val &&& 243) < 256 ∧ (t.val &&& 243) / 4 % 4 = 0 := by decide +kernel
  obtain ⟨h1, h2, h3⟩ := g ⟨b, h⟩
  exact ⟨b &&& 243, h1, h2, h3⟩
theorem or8 (b : Nat) (h : b < 256) (h0 : b / 4 % 4 = 0) : ∃ v : Nat, bits BinOp.or IntKind.u8 (b : Int) 8 = (v : Int) ∧ v < 256 ∧ v / 4 % 4 = 2 := by
  have g : ∀ t : Fin 256, bits BinOp.or IntKind.u8 ((t.val : Nat) : Int) 8 = ((t.val ||| 8 : Nat) : Int) ∧ (t.val ||| 8) < 256 ∧ (t.val / 4 % 4 = 0 → (t.val ||| 8) / 4 % 4 = 2) := by decide +kernel
  obtain ⟨h1, h2, h3⟩ := g ⟨b, h⟩
  exact ⟨b ||| 8, h1, h2, h3 h0⟩
theorem an3 (b : Nat) (h : b < 256) (h0 : b / 4 % 4 = 0) : ∃ v : Nat, bits BinOp.andNot IntKind.u8 (b : Int) 3 = (v : Int) ∧ v < 256 ∧ v / 4 % 4 = 0 ∧ v % 4 = 0 := by
  have g : ∀ t : Fin 256, bits BinOp.andNot IntKind.u8 ((t.val : Nat) : Int) 3 = ((t.val &&& 252 : Nat) : Int) ∧ (t.val &&& 252) < 256 ∧ (t.val / 4 % 4 = 0 → (t.val &&& 252) / 4 % 4 = 0) ∧ (t.val &&& 252) % 4 = 0 := by decide +kernel
  obtain ⟨h1, h2, h3, h4⟩ := g ⟨b, h⟩
  exact ⟨b &&& 252, h1, h2, h3 h0, h4⟩
theorem low_z (b : Nat) : bits BinOp.and IntKind.u8 ((b % 2 : Nat) : Int) 254 = 0 ∧ bits BinOp.and IntKind.u8 ((b % 4 : Nat) : Int) 252 = 0 ∧ bits BinOp.and IntKind.u8 ((b % 16 : Nat) : Int) 240 = 0 ∧ bits BinOp.and IntKind.u8 ((b % 64 : Nat) : Int) 192 = 0 := by
  have g1 : ∀ t : Fin 2, bits BinOp.and IntKind.u8 ((t.val : Nat) : Int) 254 = 0 := by decide +kernel
  have g2 : ∀ t : Fin 4, bits BinOp.and IntKind.u8 ((t.val : Nat) : Int) 252 = 0 := by decide +kernel
  have g3 : ∀ t : Fin 16, bits BinOp.and IntKind.u8 ((t.val : Nat) : Int) 240 = 0 := by decide +kernel
  have g4 : ∀ t : Fin 64, bits BinOp.and IntKind.u8 ((t.val : Nat) : Int) 192 = 0 := by decide +kernel
  exact ⟨g1 ⟨b % 2, Nat.mod_lt _ (by decide)⟩, g2 ⟨b % 4, Nat.mod_lt _ (by decide)⟩, g3 ⟨b % 16, Nat.mod_lt _ (by decide)⟩, g4 ⟨b % 64, Nat.mod_lt _ (by decide)⟩⟩
theorem bad_zero (h : Hq) (hz : ∀ j, j < 16 → bits BinOp.and IntKind.u8 ((h.l.getD j 0 : Nat) : Int) ((h.rs.getD j 0 : Nat) : Int) = 0) : h.bad = 0 := fb_at h 0 16 rfl hz
end Go.Proofs.YtilhlbnicmmaoaaDoor
