/-
  The contract of same; conditions: the lists are in memory.
-/
import Derived.Test.YtkebkbiabdlomaaDoorXTB
set_option linter.unusedSimpArgs false
set_option linter.unusedVariables false
namespace Go.Proofs.YtkebkbiabdlomaaDoor
open Go.RowKit Classical
set_option maxRecDepth 100000 in
set_option maxHeartbeats 1000000 in
theorem same_yes (w : World) (a1 a2 : Option Addr) (len c1 c2 : Nat) (q : Nat → TuE) (b1 o1 b2 o2 : Nat) (hlen : len ≤ 9223372036854775807) (T1 : Tu w a1 len q b1 o1) (T2 : Tu w a2 len q b2 o2) :
    Calls Tryd.prog 11 #[.slice a1 len c1, .slice a2 len c2] w fun e w' => e = .returned (.bool true) ∧ Below w.heap.size w w' := by
  go_enter Tryd.func11, Tryd.ntmps11
  go_upto_region 4 with fail
  go_loopw [5] (fun i wr => ∃ k : Nat, k ≤ len ∧ i = .int .i64 k ∧ Below w.heap.size w wr) (fun i _ => len - (intOf i).toNat)
  case atStart => exact ⟨0, by omega, rfl, Below.refl _ _⟩
  case round =>
    obtain ⟨k, hk, rfl, hb⟩ := hrel
    by_cases hlt : k < len
    · obtain ⟨rfl, hb1⟩ := T1.at_ (by omega)
      obtain ⟨rfl, hb2⟩ := T2.at_ (by omega)
      obtain ⟨t, et⟩ : ∃ t, q k = t := ⟨_, rfl⟩
      have R1 : Hid (wr.rangeAt b1 (o1 + k * 5) t.cells.toList) := fun j v hv => (hb.cell (p := ⟨b1, o1 + k * 5 + j, none⟩) hb1).trans (T1.cells k hlt j v (by rw [et]; exact hv))
      have R2 : Hid (wr.rangeAt b2 (o2 + k * 5) t.cells.toList) := fun j v hv => (hb.cell (p := ⟨b2, o2 + k * 5 + j, none⟩) hb2).trans (T2.cells k hlt j v (by rw [et]; exact hv))
      have H1 : Hid (Tu _ _ _ _ _ _) := T1
      have H2 : Hid (Tu _ _ _ _ _ _) := T2
      clear T1 T2 et
      have hk9 : (k : Int) + 1 ≤ 9223372036854775807 := by omega
      have x0 : wr.cell? ⟨b1, o1 + k * 5, none⟩ = some (.int .u32 t.bu) := R1.out 0 _ rfl
      have x1 : wr.cell? ⟨b1, o1 + k * 5 + 1, none⟩ = some (.int .u8 t.one) := R1.out 1 _ rfl
      have x2 : wr.cell? ⟨b1, o1 + k * 5 + 2, none⟩ = some (.int .u8 t.two) := R1.out 2 _ rfl
      have x3 : wr.cell? ⟨b1, o1 + k * 5 + 3, none⟩ = some (.bool t.fl) := R1.out 3 _ rfl
      have x4 : wr.cell? ⟨b1, o1 + k * 5 + 4, none⟩ = some (.bool t.rs) := R1.out 4 _ rfl
      have y0 : wr.cell? ⟨b2, o2 + k * 5, none⟩ = some (.int .u32 t.bu) := R2.out 0 _ rfl
      have y1 : wr.cell? ⟨b2, o2 + k * 5 + 1, none⟩ = some (.int .u8 t.one) := R2.out 1 _ rfl
      have y2 : wr.cell? ⟨b2, o2 + k * 5 + 2, none⟩ = some (.int .u8 t.two) := R2.out 2 _ rfl
      have y3 : wr.cell? ⟨b2, o2 + k * 5 + 3, none⟩ = some (.bool t.fl) := R2.out 3 _ rfl
      have y4 : wr.cell? ⟨b2, o2 + k * 5 + 4, none⟩ = some (.bool t.rs) := R2.out 4 _ rfl
      have qN : ∀ W : World, (binOp .neq 25 (.agg #[.int .u32 t.bu, .int .u8 t.one, .int .u8 t.two, .bool t.fl, .bool t.rs]) (.agg #[.int .u32 t.bu, .int .u8 t.one, .int .u8 t.two, .bool t.fl, .bool t.rs])).run Tryd.prog W = .ok (.bool false) W := fun W => by
        have := neqT W t t
        rw [decide_eq_true rfl] at this
        exact this
      clear R1 R2
      go_upto_region 6 with fail
      go_quiet (fail)
      go_wp2
      go_roundw
      case rel => first | exact ⟨k + 1, by omega, by go_num, below_draws hb _⟩ | ((repeat apply Exists.intro); refine ⟨?_, rfl⟩; exact ⟨k + 1, by omega, by go_num, below_draws hb _⟩)
      case measure => simp [intOf]; omega
    · obtain rfl : k = len := by omega
      go_wp2
      go_ret
      exact ⟨rfl, hb⟩
end Go.Proofs.YtkebkbiabdlomaaDoor
