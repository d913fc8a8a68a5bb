/-
  Small functions that New leans on: length, units, wired, powerOn; conditions: the numbers fit their kinds.
-/
import Derived.Test.YtpdpfobhbafmcaaMPlain4
import Derived.Test.YtpdpfobhbafmcaaMPlain1
namespace Go.Proofs.Ytpdpfobhbafmcaa
open Go.RowKit Classical
theorem tmod_add (n m : Int) (hm : 0 < m) : n % m = if n.tmod m < 0 then n.tmod m + m else n.tmod m := by
  have h1 := Int.emod_nonneg n (show m ≠ 0 by omega)
  have h2 := Int.emod_lt_of_pos n hm
  have h3 := Int.tmod_eq_emod (a := n) (b := m)
  rw [h3]
  have h4 : (m.natAbs : Int) = m := Int.natAbs_of_nonneg (by omega)
  generalize n % m = r at *
  by_cases hc : 0 ≤ n ∨ m ∣ n
  · rw [if_pos hc, if_neg (by simp; omega)]
    simp
  · rw [if_neg hc, if_pos (by omega)]
    omega
theorem length_any (n m : Int) (w : World) (_hn : -9223372036854775808 ≤ n ∧ n ≤ 9223372036854775807) (hm : 0 < m ∧ m ≤ 2000000) :
    Calls Try.prog 20 #[.int .i64 n, .int .i64 m] w fun e w' => e = .returned (.int .i64 (n % m)) ∧ w' = w := by
  have h1 := Int.emod_nonneg n (show m ≠ 0 by omega)
  have h2 := Int.emod_lt_of_pos n (show 0 < m by omega)
  have hT := tmod_add n m hm.1
  by_cases h : n.tmod m < 0
  · rw [if_pos h] at hT
    have EH : Hid _ := hT
    have hb : n.tmod m + m ≤ 2000000 ∧ 0 ≤ n.tmod m + m := by omega
    clear hT h1 h2
    go_enter Try.func20, Try.ntmps20
    go_wp2
    go_ret
    exact ⟨by rw [EH.out]; rfl, rfl⟩
  · rw [if_neg h] at hT
    have EH : Hid _ := hT
    clear hT h1 h2
    go_enter Try.func20, Try.ntmps20
    go_wp2
    go_ret
    exact ⟨by rw [EH.out]; rfl, rfl⟩
theorem units_any (n u : Int) (w : World) (hn : 0 ≤ n ∧ n ≤ 2000000) (hu : 0 < u ∧ u ≤ 2000000) :
    Calls Try.prog 16 #[.int .i64 n, .int .i64 u] w fun e w' => e = .returned (.tuple #[.int .i64 (n / u), .bool (n % u == 0 && decide (n / u ≤ 64))]) ∧ w' = w := by
  have e1 : n.tdiv u = n / u := Int.tdiv_eq_ediv_of_nonneg hn.1
  have e2 : n.tmod u = n % u := Int.tmod_eq_emod_of_nonneg hn.1
  have h0 : 0 ≤ n / u := Int.ediv_nonneg hn.1 (by omega)
  have h1 : n / u ≤ n := Int.ediv_le_self _ hn.1
  by_cases c : n % u = 0
  · have K : Hid _ := c
    go_enter Try.func16, Try.ntmps16
    go_wp2
    go_ret2
    exact ⟨by rw [K.out]; rfl, rfl⟩
  · have K : Hid _ := c
    have kb : (n % u == 0) = false := beq_eq_false_iff_ne.2 c
    have KB : Hid _ := kb
    clear kb
    go_enter Try.func16, Try.ntmps16
    go_wp2
    go_ret2
    exact ⟨by rw [KB.out]; rfl, rfl⟩
/-- What New looks at of a cartridge. -/
structure IsN (cs : Array Value) (mp sub ram nv : Int) (vert four : Bool) (a1 a2 : Option Addr) (p c k1 k2 : Nat) : Prop where
  size : cs.size = 19
  one : cs.all (·.oneCell') = true
  h1 : cs[1]? = some (.int .i64 mp)
  h2 : cs[2]? = some (.int .i64 sub)
  h3 : cs[3]? = some (.bool vert)
  h4 : cs[4]? = some (.bool four)
  h11 : cs[11]? = some (.int .i64 ram)
  h12 : cs[12]? = some (.int .i64 nv)
  h16 : cs[16]? = some (.slice a1 p k1)
  h17 : cs[17]? = some (.slice a2 c k2)
/-- How the pages are wired. -/
def hardV (vert four : Bool) : Int := if four then 4 else if vert then 1 else 0
theorem wired_any (cs : Array Value) (mp sub ram nv : Int) (vert four : Bool) (a1 a2 : Option Addr) (p c k1 k2 : Nat) (C : IsN cs mp sub ram nv vert four a1 a2 p c k1 k2) (w : World) :
    Calls Try.prog 18 #[.agg cs] w fun e w' => e = .returned (.int .u8 (hardV vert four)) ∧ Below w.heap.size w w' := by
  have hsz := C.size
  have h3 := C.h3
  have h4 := C.h4
  have EH : Hid (hardV vert four = if four then 4 else if vert then 1 else 0) := rfl
  generalize hardV vert four = hv at *
  clear C
  go_enter Try.func18, Try.ntmps18
  go_upto_region 1 with fail
  have b0 : Blk (w.alloc (.cells cs 33)) w.heap.size cs 33 := Blk.new w cs _
  have hb0 : Below w.heap.size w (w.alloc (.cells cs 33)) := (Below.refl _ _).alloc (Nat.le_refl _) _
  generalize w.alloc (.cells cs 33) = W0 at *
  have d3 := (b0.cell 3).trans h3
  have d4 := (b0.cell 4).trans h4
  clear hsz h3 h4
  cases four
  · cases vert
    · go_wp2
      go_ret
      exact ⟨by rw [EH.out]; rfl, hb0⟩
    · go_wp2
      go_ret
      exact ⟨by rw [EH.out]; rfl, hb0⟩
  · go_wp2
    go_ret
    exact ⟨by rw [EH.out]; rfl, hb0⟩
theorem powerOn0 (w : World) (m : Nat) :
    Calls Try.prog 57 #[.pointer (some ⟨m, 0, none⟩)] w fun e w' => e = .returned (.tuple #[]) ∧ w' = w := by
  go_enter Try.func57, Try.ntmps57
  go_wp2
  go_end0
  exact ⟨rfl, rfl⟩
theorem powerOn1 (w : World) (m : Nat) (b : Bd) (K : Blk w m (k1c b) 57) :
    Calls Try.prog 48 #[.pointer (some ⟨m, 0, none⟩)] w fun e w' => e = .returned (.tuple #[]) ∧ Below m w w' ∧ Blk w' m (k1c { b with shift := 16, ctrl := 12, last := -2 }) 57 := by
  have hcell := K.cell
  have hfree := K.free
  have K1 := ((K.set 7 (.int .u8 16)).set 8 (.int .u8 12)).set 12 (.int .i64 (-2))
  have d7 : w.cell? ⟨m, 7, none⟩ = some (.int .u8 b.shift) := (hcell 7).trans rfl
  have d8 : w.cell? ⟨m, 8, none⟩ = some (.int .u8 b.ctrl) := (hcell 8).trans rfl
  have d12 : w.cell? ⟨m, 12, none⟩ = some (.int .i64 b.last) := (hcell 12).trans rfl
  have KH : Hid _ := K1
  clear K1 hcell K
  go_enter Try.func48, Try.ntmps48
  go_wp2
  go_end0
  refine ⟨rfl, ?_, KH.out⟩
  exact Below.setCell (p := ⟨m, 12, none⟩) (Below.setCell (p := ⟨m, 8, none⟩) (Below.setCell (p := ⟨m, 7, none⟩) (Below.refl m w) (Nat.le_refl m) _) (Nat.le_refl m) _) (Nat.le_refl m) _
set_option maxHeartbeats 1000000 in
theorem powerOn4 (w : World) (m : Nat) (b : Bd) (hr : b.r.length = 8) (K : Blk w m (k4c b) 69) :
    Calls Try.prog 67 #[.pointer (some ⟨m, 0, none⟩)] w fun e w' => e = .returned (.tuple #[]) ∧ Below m w w' ∧ Blk w' m (k4c { b with r := [0, 2, 4, 5, 6, 7, 0, 1], guard := 128 }) 69 := by
  obtain ⟨a0, a1, a2, a3, a4, a5, a6, a7, er⟩ := Bd.eight hr
  have K4 : k4c b = #[.int .i64 b.sub, .int .u8 b.hard, .bool b.work, .bool b.chrRam, .int .i64 b.prg, .int .i64 b.chr, .int .i64 b.epoch, .int .u8 b.sel, .int .u8 a0, .int .u8 a1, .int .u8 a2, .int .u8 a3, .int .u8 a4, .int .u8 a5, .int .u8 a6, .int .u8 a7, .int .u8 b.turn, .int .u8 b.guard, .int .u8 b.iLatch, .int .u8 b.iCount, .bool b.iLoad, .bool b.iOn, .bool b.irq] := by unfold k4c; rw [er]; rfl
  rw [K4] at K
  have K1 := ((((((((Blk.set K 8 (.int .u8 0)).set 9 (.int .u8 2)).set 10 (.int .u8 4)).set 11 (.int .u8 5)).set 12 (.int .u8 6)).set 13 (.int .u8 7)).set 14 (.int .u8 0)).set 15 (.int .u8 1)).set 17 (.int .u8 128)
  simp only [List.setIfInBounds_toArray, List.set_cons_succ, List.set_cons_zero] at K1
  have hcell := K.cell
  have hfree := K.free
  have KH : Hid _ := K1
  clear K1 K4 er hr K
  go_enter Try.func67, Try.ntmps67
  go_wp2
  go_end0
  refine ⟨rfl, ?_, by unfold k4c; exact KH.out⟩
  exact Below.setCell (p := ⟨m, 17, none⟩) (Below.setCell (p := ⟨m, 15, none⟩) (Below.setCell (p := ⟨m, 14, none⟩) (Below.setCell (p := ⟨m, 13, none⟩) (Below.setCell (p := ⟨m, 12, none⟩) (Below.setCell (p := ⟨m, 11, none⟩) (Below.setCell (p := ⟨m, 10, none⟩) (Below.setCell (p := ⟨m, 9, none⟩) (Below.setCell (p := ⟨m, 8, none⟩) (Below.refl m w) (Nat.le_refl m) _) (Nat.le_refl m) _) (Nat.le_refl m) _) (Nat.le_refl m) _) (Nat.le_refl m) _) (Nat.le_refl m) _) (Nat.le_refl m) _) (Nat.le_refl m) _) (Nat.le_refl m) _
end Go.Proofs.Ytpdpfobhbafmcaa
