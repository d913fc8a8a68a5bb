/-
  What the document's PrgAt and ChrAt answer of every board.
-/
import Derived.Test.YtggphgmpdanliaaYRef2
import Derived.Test.YtggphgmpdanliaaYRef4
import Derived.Test.YtggphgmpdanliaaYApi2
set_option linter.unusedSimpArgs false
set_option linter.unusedVariables false
namespace Go.Proofs.Ytggphgmpdanliaa
open Go.RowKit
theorem bankBA_bd {b : Bd} (B : b.Wf) (x : Int) : -1 ≤ bankBA b x ∧ bankBA b x ≤ 127 := by
  unfold bankBA
  split
  · rename_i h
    have := bankB_lt (Bd.ok B h.1) x
    omega
  · decide
theorem chrBA_bd {b : Bd} (B : b.Wf) (x : Int) : -1 ≤ chrBA b x ∧ chrBA b x ≤ 511 := by
  unfold chrBA
  split
  · rename_i h
    have := chrB_lt (Bd.ok B h.1) x
    omega
  · decide
set_option maxRecDepth 100000 in
set_option maxHeartbeats 1000000 in
theorem rprgAt_out (w : World) (b : Bd) (a : Int) (B : b.Wf) (h : a < 32768) :
    Calls Try.prog 48 #[.agg b.cells, .int .u16 a] w fun e w' => e = .returned (.int .i64 (-1)) ∧ Below w.heap.size w w' := by
  have C := isB b B.rlen
  generalize b.cells = cs at C
  have x0 : decide (a < 32768) = true := decide_eq_true h
  clear h B C
  go_enter Try.func48, Try.ntmps48
  go_upto_region 1 with fail
  have hb0 : Below w.heap.size w (w.alloc (.cells cs 28)) := (Below.refl _ _).alloc (Nat.le_refl _) _
  generalize w.alloc (.cells cs 28) = W0 at *
  go_wp2
  go_ret
  exact ⟨rfl, hb0⟩
set_option maxRecDepth 100000 in
set_option maxHeartbeats 1000000 in
theorem rprgAt_in (w : World) (b : Bd) (a : Int) (B : b.Wf) (h : 32768 ≤ a) (h1 : a ≤ 65535) :
    Calls Try.prog 48 #[.agg b.cells, .int .u16 a] w fun e w' => e = .returned (.int .i64 (if bankBA b ((a - 32768) / 8192) < 0 then -1 else 8192 * bankBA b ((a - 32768) / 8192) + a % 8192)) ∧ Below w.heap.size w w' := by
  have C := isB b B.rlen
  have bd := bankBA_bd B ((a - 32768) / 8192)
  have BA : ∀ W, Calls Try.prog 29 #[.agg b.cells, .int .i64 ((a - 32768) / 8192)] W fun e w' => e = .returned (.int .i64 (bankBA b ((a - 32768) / 8192))) ∧ Below W.heap.size W w' := fun W => rbank_all W b ((a - 32768) / 8192) B
  generalize b.cells = cs at *
  have HS : Hid _ := C.size
  have x0 : decide (a < 32768) = false := decide_eq_false (by omega)
  have e1 : (a - 32768).tdiv 8192 = (a - 32768) / 8192 := Int.tdiv_eq_ediv_of_nonneg (by omega)
  have e2 : a.tmod 8192 = a % 8192 := Int.tmod_eq_emod_of_nonneg (by omega)
  have i0 : 0 ≤ (a - 32768) / 8192 := by omega
  have i1 : (a - 32768) / 8192 ≤ 7 := by omega
  have j0 : 0 ≤ a % 8192 := by omega
  have j1 : a % 8192 < 8192 := by omega
  obtain ⟨bd0, bd1⟩ := bd
  generalize bankBA b ((a - 32768) / 8192) = z at *
  generalize a % 8192 = jx at *
  generalize hix : (a - 32768) / 8192 = ix at *
  clear hix
  obtain ⟨v, hv⟩ : ∃ v, (if z < 0 then (-1 : Int) else 8192 * z + jx) = v := ⟨_, rfl⟩
  rw [hv]
  have HV : Hid _ := hv
  clear hv
  have HBA : Hid _ := BA
  clear BA B C
  go_enter Try.func48, Try.ntmps48
  go_upto_region 1 with fail
  have b0 : Blk (w.alloc (.cells cs 28)) w.heap.size cs 28 := Blk.new w cs _
  have hb0 : Below w.heap.size w (w.alloc (.cells cs 28)) := (Below.refl _ _).alloc (Nat.le_refl _) _
  generalize w.alloc (.cells cs 28) = W0 at *
  go_wp2_with (refine wpList_load_mid rfl 28 _ rfl w.heap.size 0 rfl cs.toList _ b0.range Try.underlying28 rfl (by rw [Array.length_toList, HS.out]; exact Try.infoBoard) ?_)
  refine (HBA.out W0).mono ?_
  rintro e W1 ⟨rfl, hb1'⟩
  have hb1 : Below w.heap.size w W1 := hb0.trans (hb1'.mono hb0.size)
  clear b0 hb0 hb1' HBA
  have hz : z < 0 ∨ ¬ z < 0 := Decidable.em _
  rcases hz with hz | hz
  · have HB : Hid ((if z < 0 then (-1 : Int) else 8192 * z + jx) = -1) := if_pos hz
    have zb : decide (z < 0) = true := decide_eq_true hz
    clear hz
    go_wp2
    go_ret
    exact ⟨fin64 (HB.out.symm.trans HV.out), hb1⟩
  · have HB : Hid ((if z < 0 then (-1 : Int) else 8192 * z + jx) = 8192 * z + jx) := if_neg hz
    have zb : decide (z < 0) = false := decide_eq_false hz
    have zn : 0 ≤ z := by omega
    clear hz
    go_wp2
    go_ret
    exact ⟨fin64 (HB.out.symm.trans HV.out), hb1⟩
set_option maxRecDepth 100000 in
set_option maxHeartbeats 1000000 in
theorem rchrAt_out (w : World) (b : Bd) (a : Int) (B : b.Wf) (h : 8192 ≤ a) :
    Calls Try.prog 50 #[.agg b.cells, .int .u16 a] w fun e w' => e = .returned (.int .i64 (-1)) ∧ Below w.heap.size w w' := by
  have C := isB b B.rlen
  generalize b.cells = cs at C
  have x0 : decide (8192 ≤ a) = true := decide_eq_true h
  clear h B C
  go_enter Try.func50, Try.ntmps50
  go_upto_region 1 with fail
  have hb0 : Below w.heap.size w (w.alloc (.cells cs 28)) := (Below.refl _ _).alloc (Nat.le_refl _) _
  generalize w.alloc (.cells cs 28) = W0 at *
  go_wp2
  go_ret
  exact ⟨rfl, hb0⟩
set_option maxRecDepth 100000 in
set_option maxHeartbeats 1000000 in
theorem rchrAt_in (w : World) (b : Bd) (a : Int) (B : b.Wf) (h0 : 0 ≤ a) (h : a < 8192) :
    Calls Try.prog 50 #[.agg b.cells, .int .u16 a] w fun e w' => e = .returned (.int .i64 (if chrBA b (a / 1024) < 0 then -1 else 1024 * chrBA b (a / 1024) + a % 1024)) ∧ Below w.heap.size w w' := by
  have C := isB b B.rlen
  have bd := chrBA_bd B (a / 1024)
  have BA : ∀ W, Calls Try.prog 31 #[.agg b.cells, .int .i64 (a / 1024)] W fun e w' => e = .returned (.int .i64 (chrBA b (a / 1024))) ∧ Below W.heap.size W w' := fun W => rchr_all W b (a / 1024) B
  generalize b.cells = cs at *
  have HS : Hid _ := C.size
  have x0 : decide (8192 ≤ a) = false := decide_eq_false (by omega)
  have e1 : a.tdiv 1024 = a / 1024 := Int.tdiv_eq_ediv_of_nonneg (by omega)
  have e2 : a.tmod 1024 = a % 1024 := Int.tmod_eq_emod_of_nonneg (by omega)
  have i0 : 0 ≤ a / 1024 := by omega
  have i1 : a / 1024 ≤ 7 := by omega
  have j0 : 0 ≤ a % 1024 := by omega
  have j1 : a % 1024 < 1024 := by omega
  obtain ⟨bd0, bd1⟩ := bd
  generalize chrBA b (a / 1024) = z at *
  generalize a % 1024 = jx at *
  generalize hix : a / 1024 = ix at *
  clear hix
  obtain ⟨v, hv⟩ : ∃ v, (if z < 0 then (-1 : Int) else 1024 * z + jx) = v := ⟨_, rfl⟩
  rw [hv]
  have HV : Hid _ := hv
  clear hv
  have HBA : Hid _ := BA
  clear BA B C
  go_enter Try.func50, Try.ntmps50
  go_upto_region 1 with fail
  have b0 : Blk (w.alloc (.cells cs 28)) w.heap.size cs 28 := Blk.new w cs _
  have hb0 : Below w.heap.size w (w.alloc (.cells cs 28)) := (Below.refl _ _).alloc (Nat.le_refl _) _
  generalize w.alloc (.cells cs 28) = W0 at *
  go_wp2_with (refine wpList_load_mid rfl 28 _ rfl w.heap.size 0 rfl cs.toList _ b0.range Try.underlying28 rfl (by rw [Array.length_toList, HS.out]; exact Try.infoBoard) ?_)
  refine (HBA.out W0).mono ?_
  rintro e W1 ⟨rfl, hb1'⟩
  have hb1 : Below w.heap.size w W1 := hb0.trans (hb1'.mono hb0.size)
  clear b0 hb0 hb1' HBA
  have hz : z < 0 ∨ ¬ z < 0 := Decidable.em _
  rcases hz with hz | hz
  · have HB : Hid ((if z < 0 then (-1 : Int) else 1024 * z + jx) = -1) := if_pos hz
    have zb : decide (z < 0) = true := decide_eq_true hz
    clear hz
    go_wp2
    go_ret
    exact ⟨fin64 (HB.out.symm.trans HV.out), hb1⟩
  · have HB : Hid ((if z < 0 then (-1 : Int) else 1024 * z + jx) = 1024 * z + jx) := if_neg hz
    have zb : decide (z < 0) = false := decide_eq_false hz
    have zn : 0 ≤ z := by omega
    clear hz
    go_wp2
    go_ret
    exact ⟨fin64 (HB.out.symm.trans HV.out), hb1⟩
theorem rprgAt_all (w : World) (b : Bd) (a : Int) (B : b.Wf) (a0 : 0 ≤ a) (a1 : a ≤ 65535) :
    Calls Try.prog 48 #[.agg b.cells, .int .u16 a] w fun e w' => e = .returned (.int .i64 (prgAtA b a)) ∧ Below w.heap.size w w' := by
  by_cases h : a < 32768
  · rw [show prgAtA b a = -1 from if_neg (by omega)]
    exact rprgAt_out w b a B h
  · have E : prgAtA b a = if bankBA b ((a - 32768) / 8192) < 0 then -1 else 8192 * bankBA b ((a - 32768) / 8192) + a % 8192 := by
      unfold prgAtA bankBA
      cases hv : validB b
      · simp
      · have := (bankB_lt (Bd.ok B hv) ((a - 32768) / 8192)).1
        rw [if_pos ⟨rfl, by omega⟩, show (if true = true ∧ 0 ≤ (a - 32768) / 8192 ∧ (a - 32768) / 8192 ≤ 3 then bankB b ((a - 32768) / 8192) else -1) = bankB b ((a - 32768) / 8192) from if_pos ⟨rfl, by omega, by omega⟩, if_neg (by omega)]
        omega
    rw [E]
    exact rprgAt_in w b a B (by omega) a1
theorem rchrAt_all (w : World) (b : Bd) (a : Int) (B : b.Wf) (a0 : 0 ≤ a) (a1 : a ≤ 65535) :
    Calls Try.prog 50 #[.agg b.cells, .int .u16 a] w fun e w' => e = .returned (.int .i64 (chrAtA b a)) ∧ Below w.heap.size w w' := by
  by_cases h : 8192 ≤ a
  · rw [show chrAtA b a = -1 from if_neg (by omega)]
    exact rchrAt_out w b a B h
  · have E : chrAtA b a = if chrBA b (a / 1024) < 0 then -1 else 1024 * chrBA b (a / 1024) + a % 1024 := by
      unfold chrAtA chrBA
      cases hv : validB b
      · simp
      · have := (chrB_lt (Bd.ok B hv) (a / 1024)).1
        rw [if_pos ⟨rfl, by omega⟩, show (if true = true ∧ 0 ≤ a / 1024 ∧ a / 1024 ≤ 7 then chrB b (a / 1024) else -1) = chrB b (a / 1024) from if_pos ⟨rfl, by omega, by omega⟩, if_neg (by omega)]
        omega
    rw [E]
    exact rchrAt_in w b a B a0 (by omega)
end Go.Proofs.Ytggphgmpdanliaa
