/-
  An image that must be taken, cut short or with a byte turned; plain facts, no conditions.
  The headers that image lays: no barred bit is set; plain facts, no conditions.
-/
import Derived.Test.YtpdbndkckioamaaDoorPagU
set_option linter.unusedSimpArgs false
set_option linter.unusedVariables false
namespace Go.Proofs.YtpdbndkckioamaaDoor
open Go.RowKit
/-- An image that must be taken; fin is where CHR ends. -/
structure Im (L : List Nat) (fin : Nat) : Prop where
  bys : Bytes L
  mg : L.getD 0 0 = 78 ∧ L.getD 1 0 = 69 ∧ L.getD 2 0 = 83 ∧ L.getD 3 0 = 26
  bad : (hdOf L).bad = 0
  prg : (hdOf L).prg ≠ 0 ∧ (hdOf L).prg ≤ 1048576
  chr : (hdOf L).chr ≤ 524288
  fe : (hdOf L).fin = fin
  le : fin ≤ L.length
  max : L.length ≤ 2097152
  tail : ((hdOf L).f = 2 ∧ (hdOf L).b14 % 4 = 0 → L.length = fin) ∧ (hdOf L).least ≤ L.length - fin
theorem fin_ge (h : Hq) : 16 ≤ h.fin := by unfold Hq.fin; omega
theorem front_good {L : List Nat} {n : Nat} (m : L.getD 0 0 = 78 ∧ L.getD 1 0 = 69 ∧ L.getD 2 0 = 83 ∧ L.getD 3 0 = 26) (h : 16 ≤ n) : frontE L n = (0, 0) := by
  obtain ⟨m0, m1, m2, m3⟩ := m
  unfold frontE
  rw [if_neg (by omega), if_neg (fun x => x m0), if_neg (by omega), if_neg (fun x => x m1), if_neg (by omega), if_neg (fun x => x m2), if_neg (by omega), if_neg (fun x => x m3), if_neg (by omega)]
theorem front_short {L : List Nat} {n : Nat} (m : (0 < n → L.getD 0 0 = 78) ∧ (1 < n → L.getD 1 0 = 69) ∧ (2 < n → L.getD 2 0 = 83) ∧ (3 < n → L.getD 3 0 = 26)) (h : n < 16) : frontE L n = (11, n) := by
  obtain ⟨m0, m1, m2, m3⟩ := m
  unfold frontE
  by_cases h0 : n ≤ 0
  · rw [if_pos h0]
  rw [if_neg h0, if_neg (fun x => x (m0 (by omega)))]
  by_cases h1 : n ≤ 1
  · rw [if_pos h1]
  rw [if_neg h1, if_neg (fun x => x (m1 (by omega)))]
  by_cases h2 : n ≤ 2
  · rw [if_pos h2]
  rw [if_neg h2, if_neg (fun x => x (m2 (by omega)))]
  by_cases h3 : n ≤ 3
  · rw [if_pos h3]
  rw [if_neg h3, if_neg (fun x => x (m3 (by omega))), if_pos h]
theorem Im.ok {L : List Nat} {fin : Nat} (h : Im L fin) : pz L = (0, 0) := by
  have h1 := h.max
  have h2 := h.le
  have h3 := h.fe
  have h4 := fin_ge (hdOf L)
  have hf := front_good (n := L.length) h.mg (by omega)
  have E := (e_cases (hdOf L) L.length h.bad).2.2.2 (fun x => x.elim h.prg.1 (fun y => by have := h.prg.2; omega)) (by have := h.chr; omega) (by omega)
  unfold pz
  rw [if_neg (by omega), hf, if_neg (fun x => x rfl), E, if_neg (fun x => by have := h.tail.1 ⟨x.1, x.2.1⟩; omega), if_neg (by have := h.tail.2; omega)]
theorem getD_take (L : List Nat) (k j : Nat) (h : j < k) : (L.take k).getD j 0 = L.getD j 0 := by
  rw [List.getD_eq_getElem?_getD, List.getD_eq_getElem?_getD, List.getElem?_take, if_pos h]
theorem hdOf_take (L : List Nat) (k : Nat) (h : 16 ≤ k) : hdOf (L.take k) = hdOf L := by
  unfold hdOf
  rw [getD_take L k 0 (by omega), getD_take L k 1 (by omega), getD_take L k 2 (by omega), getD_take L k 3 (by omega), getD_take L k 4 (by omega), getD_take L k 5 (by omega), getD_take L k 6 (by omega), getD_take L k 7 (by omega), getD_take L k 8 (by omega), getD_take L k 9 (by omega), getD_take L k 10 (by omega), getD_take L k 11 (by omega), getD_take L k 12 (by omega), getD_take L k 13 (by omega), getD_take L k 14 (by omega), getD_take L k 15 (by omega)]
theorem Im.cut {L : List Nat} {fin k : Nat} (h : Im L fin) (hk : k < fin) : pz (L.take k) = (11, k) := by
  have h1 := h.max
  have h2 := h.le
  have h3 := h.fe
  have hl : (L.take k).length = k := by rw [List.length_take]; omega
  obtain ⟨m0, m1, m2, m3⟩ := h.mg
  unfold pz
  rw [hl, if_neg (by omega)]
  by_cases h16 : k < 16
  · have := front_short (L := L.take k) (n := k) ⟨fun x => by rw [getD_take L k 0 x]; exact m0, fun x => by rw [getD_take L k 1 x]; exact m1, fun x => by rw [getD_take L k 2 x]; exact m2, fun x => by rw [getD_take L k 3 x]; exact m3⟩ h16
    rw [this, if_pos (by show (11 : Nat) ≠ 0; decide)]
  · have := front_good (L := L.take k) (n := k) ⟨by rw [getD_take L k 0 (by omega)]; exact m0, by rw [getD_take L k 1 (by omega)]; exact m1, by rw [getD_take L k 2 (by omega)]; exact m2, by rw [getD_take L k 3 (by omega)]; exact m3⟩ (by omega)
    rw [this, if_neg (fun x => x rfl), hdOf_take L k (by omega)]
    exact (e_cases (hdOf L) k h.bad).2.2.1 (fun x => x.elim h.prg.1 (fun y => by have := h.prg.2; omega)) (by have := h.chr; omega) (by omega)
theorem getD_set_ne (L : List Nat) (i j v : Nat) (h : i ≠ j) : (L.set i v).getD j 0 = L.getD j 0 := by
  rw [List.getD_eq_getElem?_getD, List.getD_eq_getElem?_getD, List.getElem?_set_ne h]
theorem getD_set_eq (L : List Nat) (i v : Nat) (h : i < L.length) : (L.set i v).getD i 0 = v := by
  rw [List.getD_eq_getElem?_getD, List.getElem?_set_self h]; rfl
theorem Im.turn {L : List Nat} {fin i v : Nat} (h : Im L fin) (hi : i < 4) (hv : v ≠ L.getD i 0) : pz (L.set i v) = (10, i) := by
  have h1 := h.max
  have h2 := h.le
  have h3 := h.fe
  have h4 := fin_ge (hdOf L)
  have hn : 16 ≤ L.length := by omega
  obtain ⟨m0, m1, m2, m3⟩ := h.mg
  have hf : frontE (L.set i v) L.length = (10, i) := by
    unfold frontE
    rcases (show i = 0 ∨ i = 1 ∨ i = 2 ∨ i = 3 by omega) with rfl | rfl | rfl | rfl
    · rw [m0] at hv
      rw [getD_set_eq L 0 v (by omega), if_neg (by omega), if_pos hv]
    · rw [m1] at hv
      rw [getD_set_ne L 1 0 v (by decide), getD_set_eq L 1 v (by omega), if_neg (by omega), if_neg (fun x => x m0), if_neg (by omega), if_pos hv]
    · rw [m2] at hv
      rw [getD_set_ne L 2 0 v (by decide), getD_set_ne L 2 1 v (by decide), getD_set_eq L 2 v (by omega), if_neg (by omega), if_neg (fun x => x m0), if_neg (by omega), if_neg (fun x => x m1), if_neg (by omega), if_pos hv]
    · rw [m3] at hv
      rw [getD_set_ne L 3 0 v (by decide), getD_set_ne L 3 1 v (by decide), getD_set_ne L 3 2 v (by decide), getD_set_eq L 3 v (by omega), if_neg (by omega), if_neg (fun x => x m0), if_neg (by omega), if_neg (fun x => x m1), if_neg (by omega), if_neg (fun x => x m2), if_neg (by omega), if_pos hv]
  unfold pz
  rw [List.length_set, if_neg (by omega), hf, if_pos (by show (10 : Nat) ≠ 0; decide)]
/-- Bits of one byte. -/
theorem an4 (b : Nat) (h : b < 256) : ∃ v : Nat, bits BinOp.andNot IntKind.u8 (b : Int) 4 = (v : Int) ∧ v < 256 ∧ v / 4 % 2 = 0 := by
  have g : ∀ t : Fin 256, bits BinOp.andNot IntKind.u8 ((t.val : Nat) : Int) 4 = ((t.val &&& 251 : Nat) : Int) ∧ (t.val &&& 251) < 256 ∧ (t.val &&& 251) / 4 % 2 = 0 := by decide +kernel
  obtain ⟨h1, h2, h3⟩ := g ⟨b, h⟩
  exact ⟨b &&& 251, h1, h2, h3⟩
theorem or4 (b : Nat) (h : b < 256) : ∃ v : Nat, bits BinOp.or IntKind.u8 (b : Int) 4 = (v : Int) ∧ v < 256 ∧ v / 4 % 2 = 1 ∧ (b / 4 % 4 = 0 → v / 4 % 4 = 1) := by
  have g : ∀ t : Fin 256, bits BinOp.or IntKind.u8 ((t.val : Nat) : Int) 4 = ((t.val ||| 4 : Nat) : Int) ∧ (t.val ||| 4) < 256 ∧ (t.val ||| 4) / 4 % 2 = 1 ∧ (t.val / 4 % 4 = 0 → (t.val ||| 4) / 4 % 4 = 1) := by decide +kernel
  obtain ⟨h1, h2, h3, h4⟩ := g ⟨b, h⟩
  exact ⟨b ||| 4, h1, h2, h3, h4⟩
theorem an12 (b : Nat) (h : b < 256) : ∃ v : Nat, bits BinOp.andNot IntKind.u8 (b : Int) 12 = (v : Int) ∧ v < 256 ∧ v / 4 % 4 = 0 := by
  have g : ∀ t : Fin 256, bits BinOp.andNot IntKind.u8 ((t.val : Nat) : Int) 12 = ((t.val &&& 243 : Nat) : Int) ∧ (t.val &&& 243) < 256 ∧ (t.val &&& 243) / 4 % 4 = 0 := by decide +kernel
  obtain ⟨h1, h2, h3⟩ := g ⟨b, h⟩
  exact ⟨b &&& 243, h1, h2, h3⟩
theorem or8 (b : Nat) (h : b < 256) (h0 : b / 4 % 4 = 0) : ∃ v : Nat, bits BinOp.or IntKind.u8 (b : Int) 8 = (v : Int) ∧ v < 256 ∧ v / 4 % 4 = 2 := by
  have g : ∀ t : Fin 256, bits BinOp.or IntKind.u8 ((t.val : Nat) : Int) 8 = ((t.val ||| 8 : Nat) : Int) ∧ (t.val ||| 8) < 256 ∧ (t.val / 4 % 4 = 0 → (t.val ||| 8) / 4 % 4 = 2) := by decide +kernel
  obtain ⟨h1, h2, h3⟩ := g ⟨b, h⟩
  exact ⟨b ||| 8, h1, h2, h3 h0⟩
theorem an3 (b : Nat) (h : b < 256) (h0 : b / 4 % 4 = 0) : ∃ v : Nat, bits BinOp.andNot IntKind.u8 (b : Int) 3 = (v : Int) ∧ v < 256 ∧ v / 4 % 4 = 0 ∧ v % 4 = 0 := by
  have g : ∀ t : Fin 256, bits BinOp.andNot IntKind.u8 ((t.val : Nat) : Int) 3 = ((t.val &&& 252 : Nat) : Int) ∧ (t.val &&& 252) < 256 ∧ (t.val / 4 % 4 = 0 → (t.val &&& 252) / 4 % 4 = 0) ∧ (t.val &&& 252) % 4 = 0 := by decide +kernel
  obtain ⟨h1, h2, h3, h4⟩ := g ⟨b, h⟩
  exact ⟨b &&& 252, h1, h2, h3 h0, h4⟩
theorem low_z (b : Nat) : bits BinOp.and IntKind.u8 ((b % 2 : Nat) : Int) 254 = 0 ∧ bits BinOp.and IntKind.u8 ((b % 4 : Nat) : Int) 252 = 0 ∧ bits BinOp.and IntKind.u8 ((b % 16 : Nat) : Int) 240 = 0 ∧ bits BinOp.and IntKind.u8 ((b % 64 : Nat) : Int) 192 = 0 := by
  have g1 : ∀ t : Fin 2, bits BinOp.and IntKind.u8 ((t.val : Nat) : Int) 254 = 0 := by decide +kernel
  have g2 : ∀ t : Fin 4, bits BinOp.and IntKind.u8 ((t.val : Nat) : Int) 252 = 0 := by decide +kernel
  have g3 : ∀ t : Fin 16, bits BinOp.and IntKind.u8 ((t.val : Nat) : Int) 240 = 0 := by decide +kernel
  have g4 : ∀ t : Fin 64, bits BinOp.and IntKind.u8 ((t.val : Nat) : Int) 192 = 0 := by decide +kernel
  exact ⟨g1 ⟨b % 2, Nat.mod_lt _ (by decide)⟩, g2 ⟨b % 4, Nat.mod_lt _ (by decide)⟩, g3 ⟨b % 16, Nat.mod_lt _ (by decide)⟩, g4 ⟨b % 64, Nat.mod_lt _ (by decide)⟩⟩
theorem bad_zero (h : Hq) (hz : ∀ j, j < 16 → bits BinOp.and IntKind.u8 ((h.l.getD j 0 : Nat) : Int) ((h.rs.getD j 0 : Nat) : Int) = 0) : h.bad = 0 := fb_at h 0 16 rfl hz
end Go.Proofs.YtpdbndkckioamaaDoor
namespace Go.Proofs.YtpdbndkckioamaaDoor
open Go.RowKit
/-- The cells of a Head. -/
structure IsH (hs : Array Value) (f : Int) (bl : List Nat) (p q : Int) (tr : Bool) (r fl : Int) : Prop where
  size : hs.size = 22
  one : hs.all (·.oneCell') = true
  h0 : hs[0]? = some (.int .i64 f)
  hb : ∀ i, i < 16 → hs[1 + i]? = some (.int .u8 (bl.getD i 0 : Nat))
  h17 : hs[17]? = some (.int .i64 p)
  h18 : hs[18]? = some (.int .i64 q)
  h19 : hs[19]? = some (.bool tr)
  h20 : hs[20]? = some (.int .i64 r)
  h21 : hs[21]? = some (.int .i64 fl)
  len : bl.length = 16
  bys : Bytes bl
/-- The Head's block, and the bytes of the header in the making. -/
structure Ig (w : World) (hs : Array Value) (g : Nat) (H : Hq) (W : World) : Prop where
  b : Blk W w.heap.size hs 34
  o : Own W g H.l
  hg : w.heap.size < g
  bl : Below w.heap.size w W
theorem Ig.set {w W : World} {hs : Array Value} {g : Nat} {H H' : Hq} (K : Ig w hs g H W) (i v : Nat) (e : H.l.set i v = H'.l) : Ig w hs g H' (W.setCell ⟨g, i, none⟩ (.int .u8 (v : Nat))) :=
  ⟨K.b.other (by have := K.hg; omega) i _, e ▸ K.o.set i v, K.hg, K.bl.setCell (p := ⟨g, i, none⟩) (by have := K.hg; show w.heap.size ≤ g; omega) _⟩
theorem Ig.below {w W W' : World} {hs : Array Value} {g : Nat} {H : Hq} (K : Ig w hs g H W) (hb : Below W.heap.size W W') : Ig w hs g H W' :=
  ⟨K.b.below K.b.lt hb, K.o.below K.o.lt hb, K.hg, K.bl.trans (hb.mono K.bl.size)⟩
theorem Ig.at {w W : World} {hs : Array Value} {g : Nat} {H : Hq} (K : Ig w hs g H W) (i : Nat) (hi : i < 16) : W.cell? ⟨g, i, none⟩ = some (.int .u8 (H.l.getD i 0 : Nat)) := K.o.cell i hi
/-- What image hands back. -/
def ImOk (w : World) (e : Ending) (w' : World) : Prop := ∃ (L : List Nat) (a : Option Addr) (n k fin : Nat), e = .returned (.tuple #[.slice a n k, .int .i64 (fin : Nat)]) ∧ L.length = n ∧ Im L fin ∧ RowF w.heap.size w' a L ∧ n ≤ k ∧ Below w.heap.size w w'
/-- The header behind the choice of a format. -/
structure Sw (H : Hq) (pp qq r : Nat) : Prop where
  mg : H.b0 = 78 ∧ H.b1 = 69 ∧ H.b2 = 83 ∧ H.b3 = 26
  p : H.b4 = pp
  q : H.b5 = qq
  t : H.b6 / 4 % 2 = 0
  bad : H.bad = 0
  h9 : H.f = 2 → H.b9 = 0
  tail : (H.f = 2 ∧ H.b14 % 4 = 0 → r = 0) ∧ H.least ≤ r
  r : r ≤ 43
theorem own_tx {W : World} {base g : Nat} {l : List Nat} (h : Own W g l) (hb : base ≤ g) (hl : l.length ≤ 1000) : Tx W base (.slice (some ⟨g, 0, none⟩) l.length l.length) l := by
  refine ⟨by rw [vals_len, Nat.mul_one], .inr ⟨g, l.length, (vals l).toArray, rfl, hb, h, Nat.le_refl _, by unfold maxLen; omega, by simp [vals_len], ?_⟩⟩
  rw [Nat.mul_one, List.take_of_length_le (by simp [vals_len])]
theorem f_zero (H : Hq) (h : H.b7 / 4 % 4 = 1) : H.f = 0 := by unfold Hq.f; rw [if_neg (by omega), if_neg (fun x => by have := x.1; omega)]
theorem f_one (H : Hq) (h : H.b7 / 4 % 4 = 0) (z : H.b12 = 0 ∧ H.b13 = 0 ∧ H.b14 = 0 ∧ H.b15 = 0) : H.f = 1 := by unfold Hq.f; rw [if_neg (by omega), if_pos ⟨h, z⟩]
theorem f_two (H : Hq) (h : H.b7 / 4 % 4 = 2) : H.f = 2 := by unfold Hq.f; rw [if_pos h]
theorem ex16 {j : Nat} (h : j < 16) : j = 0 ∨ j = 1 ∨ j = 2 ∨ j = 3 ∨ j = 4 ∨ j = 5 ∨ j = 6 ∨ j = 7 ∨ j = 8 ∨ j = 9 ∨ j = 10 ∨ j = 11 ∨ j = 12 ∨ j = 13 ∨ j = 14 ∨ j = 15 := by omega
theorem bad_old (H : Hq) (K : H.Ok) (h : H.f = 0) : H.bad = 0 := by
  refine bad_zero H fun j hj => ?_
  have e : H.rs = [0, 0, 0, 0, 0, 0, 0, 0, 0, 0, 0, 0, 0, 0, 0, 0] := by unfold Hq.rs; rw [if_neg (by omega), if_neg (by omega)]
  rw [e]
  rcases ex16 hj with rfl | rfl | rfl | rfl | rfl | rfl | rfl | rfl | rfl | rfl | rfl | rfl | rfl | rfl | rfl | rfl
  · exact and_z H.b0 K.k0
  · exact and_z H.b1 K.k1
  · exact and_z H.b2 K.k2
  · exact and_z H.b3 K.k3
  · exact and_z H.b4 K.k4
  · exact and_z H.b5 K.k5
  · exact and_z H.b6 K.k6
  · exact and_z H.b7 K.k7
  · exact and_z H.b8 K.k8
  · exact and_z H.b9 K.k9
  · exact and_z H.b10 K.k10
  · exact and_z H.b11 K.k11
  · exact and_z H.b12 K.k12
  · exact and_z H.b13 K.k13
  · exact and_z H.b14 K.k14
  · exact and_z H.b15 K.k15
theorem bad_ines (H : Hq) (K : H.Ok) (h : H.f = 1) (h7 : H.b7 % 4 < 2) (x : Nat) (h9 : H.b9 = x % 2) (h10 : H.b10 = 0) (h11 : H.b11 = 0) : H.bad = 0 := by
  refine bad_zero H fun j hj => ?_
  have e : H.rs = [0, 0, 0, 0, 0, 0, 0, 0, 0, 254, 255, 255, 0, 0, 0, 0] := by unfold Hq.rs; rw [if_pos h, if_neg (by omega)]
  rw [e]
  rcases ex16 hj with rfl | rfl | rfl | rfl | rfl | rfl | rfl | rfl | rfl | rfl | rfl | rfl | rfl | rfl | rfl | rfl
  · exact and_z H.b0 K.k0
  · exact and_z H.b1 K.k1
  · exact and_z H.b2 K.k2
  · exact and_z H.b3 K.k3
  · exact and_z H.b4 K.k4
  · exact and_z H.b5 K.k5
  · exact and_z H.b6 K.k6
  · exact and_z H.b7 K.k7
  · exact and_z H.b8 K.k8
  · show bits _ _ ((H.b9 : Nat) : Int) 254 = 0; rw [h9]; exact (low_z x).1
  · show bits _ _ ((H.b10 : Nat) : Int) 255 = 0; rw [h10]; decide
  · show bits _ _ ((H.b11 : Nat) : Int) 255 = 0; rw [h11]; decide
  · exact and_z H.b12 K.k12
  · exact and_z H.b13 K.k13
  · exact and_z H.b14 K.k14
  · exact and_z H.b15 K.k15
theorem bad_nes2 (H : Hq) (K : H.Ok) (h : H.f = 2) (x y z : Nat) (h12 : H.b12 = x % 4) (h14 : H.b14 = y % 4) (h15 : H.b15 = z % 64) (h13 : (H.b7 % 4 = 1) ∨ (H.b7 % 4 = 3 ∧ ∃ v, H.b13 = v % 16) ∨ H.b13 = 0) : H.bad = 0 := by
  refine bad_zero H fun j hj => ?_
  have e : H.rs = [0, 0, 0, 0, 0, 0, 0, 0, 0, 0, 0, 0, 252, Hq.kdM (H.b7 % 4), 252, 192] := by unfold Hq.rs; rw [if_neg (by omega), if_pos h]
  rw [e]
  rcases ex16 hj with rfl | rfl | rfl | rfl | rfl | rfl | rfl | rfl | rfl | rfl | rfl | rfl | rfl | rfl | rfl | rfl
  · exact and_z H.b0 K.k0
  · exact and_z H.b1 K.k1
  · exact and_z H.b2 K.k2
  · exact and_z H.b3 K.k3
  · exact and_z H.b4 K.k4
  · exact and_z H.b5 K.k5
  · exact and_z H.b6 K.k6
  · exact and_z H.b7 K.k7
  · exact and_z H.b8 K.k8
  · exact and_z H.b9 K.k9
  · exact and_z H.b10 K.k10
  · exact and_z H.b11 K.k11
  · show bits _ _ ((H.b12 : Nat) : Int) 252 = 0; rw [h12]; exact (low_z x).2.1
  · show bits _ _ ((H.b13 : Nat) : Int) ((Hq.kdM (H.b7 % 4) : Nat) : Int) = 0
    rcases h13 with h1 | ⟨h3, v, hv⟩ | h0
    · rw [h1]; exact and_z H.b13 K.k13
    · rw [h3, hv]; exact (low_z v).2.2.1
    · rw [h0]
      unfold Hq.kdM
      split
      · decide
      · split <;> decide
  · show bits _ _ ((H.b14 : Nat) : Int) 252 = 0; rw [h14]; exact (low_z y).2.1
  · show bits _ _ ((H.b15 : Nat) : Int) 192 = 0; rw [h15]; exact (low_z z).2.2.2
theorem fb_all (h : Hq) : ∀ (k i : Nat), i + k = 16 → 0 < i → h.fb k i = 0 → ∀ j, i ≤ j → j < 16 → bits BinOp.and IntKind.u8 ((h.l.getD j 0 : Nat) : Int) ((h.rs.getD j 0 : Nat) : Int) = 0
  | 0, i, e, _, _, j, h1, h2 => by omega
  | k + 1, i, e, hi, hf, j, h1, h2 => by
    have hf' : (if bits BinOp.and IntKind.u8 ((h.l.getD i 0 : Nat) : Int) ((h.rs.getD i 0 : Nat) : Int) = 0 then h.fb k (i + 1) else i) = 0 := hf
    by_cases hz : bits BinOp.and IntKind.u8 ((h.l.getD i 0 : Nat) : Int) ((h.rs.getD i 0 : Nat) : Int) = 0
    · rw [if_pos hz] at hf'
      rcases Nat.eq_or_lt_of_le h1 with rfl | hlt
      · exact hz
      · exact fb_all h k (i + 1) (by omega) (by omega) hf' j hlt h2
    · rw [if_neg hz] at hf'; omega
theorem bad_all (h : Hq) (K : h.Ok) (hb : h.bad = 0) (j : Nat) (hj : j < 16) : bits BinOp.and IntKind.u8 ((h.l.getD j 0 : Nat) : Int) ((h.rs.getD j 0 : Nat) : Int) = 0 := by
  have z0 : bits BinOp.and IntKind.u8 ((h.l.getD 0 0 : Nat) : Int) ((h.rs.getD 0 0 : Nat) : Int) = 0 := by rw [rs0]; exact and_z h.b0 K.k0
  rcases Nat.eq_zero_or_pos j with rfl | hp
  · exact z0
  · refine fb_all h 15 1 rfl (by decide) ?_ j hp hj
    have e : h.bad = (if bits BinOp.and IntKind.u8 ((h.l.getD 0 0 : Nat) : Int) ((h.rs.getD 0 0 : Nat) : Int) = 0 then h.fb 15 1 else 0) := rfl
    rw [if_pos z0] at e
    rw [← e]; exact hb
theorem rs6 (h : Hq) : h.rs.getD 6 0 = 0 := by
  unfold Hq.rs
  split
  · rfl
  · split <;> rfl
theorem bad_b6 (h : Hq) (K : h.Ok) (hb : h.bad = 0) (v : Nat) (hv : v < 256) : ({ h with b6 := v } : Hq).bad = 0 := by
  refine bad_zero _ fun j hj => ?_
  have hr : ({ h with b6 := v } : Hq).rs = h.rs := rfl
  rw [hr]
  have := bad_all h K hb j hj
  rcases ex16 hj with rfl | rfl | rfl | rfl | rfl | rfl | rfl | rfl | rfl | rfl | rfl | rfl | rfl | rfl | rfl | rfl
  · exact this
  · exact this
  · exact this
  · exact this
  · exact this
  · exact this
  · rw [rs6]; exact and_z v hv
  · exact this
  · exact this
  · exact this
  · exact this
  · exact this
  · exact this
  · exact this
  · exact this
  · exact this
theorem sw_im {H : Hq} {pp qq rn v nn : Nat} {F : List Nat} (S : Sw H pp qq rn) (K : H.Ok) (hp : 1 ≤ pp ∧ pp ≤ 3) (hq : qq ≤ 3) (hv : v < 256) (hn : nn = pp * 16384 + qq * 8192 + (if v / 4 % 2 = 1 then 512 else 0)) (hF : F.length = nn + rn) (by' : Bytes F) :
    Im (({ H with b6 := v } : Hq).l ++ F) (16 + nn) := by
  have e : hdOf (({ H with b6 := v } : Hq).l ++ F) = { H with b6 := v } := rfl
  have hf : ({ H with b6 := v } : Hq).f = H.f := rfl
  have hs : ∀ u x : Nat, x = 0 → Hq.sz u x 16384 = u * 16384 ∧ Hq.sz u x 8192 = u * 8192 := by
    intro u x hx
    subst hx
    unfold Hq.sz
    rw [if_neg (by decide), if_neg (by decide)]
    constructor <;> omega
  have h9 : (if H.f = 2 then H.b9 % 16 else 0) = 0 := by
    by_cases h2 : H.f = 2
    · rw [if_pos h2, S.h9 h2]
    · rw [if_neg h2]
  have h9' : (if H.f = 2 then H.b9 / 16 else 0) = 0 := by
    by_cases h2 : H.f = 2
    · rw [if_pos h2, S.h9 h2]
    · rw [if_neg h2]
  have ep : ({ H with b6 := v } : Hq).prg = pp * 16384 := by show Hq.sz H.b4 (if H.f = 2 then H.b9 % 16 else 0) 16384 = _; rw [(hs _ _ h9).1, S.p]
  have ec : ({ H with b6 := v } : Hq).chr = qq * 8192 := by show Hq.sz H.b5 (if H.f = 2 then H.b9 / 16 else 0) 8192 = _; rw [(hs _ _ h9').2, S.q]
  have et : ({ H with b6 := v } : Hq).tr = if v / 4 % 2 = 1 then 512 else 0 := rfl
  have ef : ({ H with b6 := v } : Hq).fin = 16 + nn := by show 16 + ({ H with b6 := v } : Hq).tr + ({ H with b6 := v } : Hq).prg + ({ H with b6 := v } : Hq).chr = _; rw [ep, ec, et, hn]; omega
  have hl : (({ H with b6 := v } : Hq).l ++ F).length = 16 + nn + rn := by rw [List.length_append, hF]; show 16 + _ = _; omega
  have hn2 : nn ≤ 74240 := by rw [hn]; split <;> omega
  have hr := S.r
  refine ⟨?_, ⟨S.mg.1, S.mg.2.1, S.mg.2.2.1, S.mg.2.2.2⟩, ?_, ?_, ?_, ?_, ?_, ?_, ?_, ?_⟩
  · intro y hy
    rcases List.mem_append.1 hy with h | h
    · simp only [Hq.l, List.mem_cons, List.not_mem_nil, or_false] at h
      rcases h with rfl | rfl | rfl | rfl | rfl | rfl | rfl | rfl | rfl | rfl | rfl | rfl | rfl | rfl | rfl | rfl
      · exact K.k0
      · exact K.k1
      · exact K.k2
      · exact K.k3
      · exact K.k4
      · exact K.k5
      · exact hv
      · exact K.k7
      · exact K.k8
      · exact K.k9
      · exact K.k10
      · exact K.k11
      · exact K.k12
      · exact K.k13
      · exact K.k14
      · exact K.k15
    · exact by' y h
  · rw [e]; exact bad_b6 H K S.bad v hv
  · rw [e, ep]; omega
  · rw [e, ec]; omega
  · rw [e]; exact ef
  · rw [hl]; omega
  · rw [hl]; omega
  · rw [e, hl]; exact fun h => by have := S.tail.1 h; omega
  · rw [e, hl]; show H.least ≤ _; have := S.tail.2; omega
theorem own_tx16 {W : World} {base g : Nat} {H : Hq} (h : Own W g H.l) (hb : base ≤ g) : Tx W base (.slice (some ⟨g, 0, none⟩) 16 16) H.l := own_tx h hb (by show 16 ≤ 1000; decide)
end Go.Proofs.YtpdbndkckioamaaDoor
