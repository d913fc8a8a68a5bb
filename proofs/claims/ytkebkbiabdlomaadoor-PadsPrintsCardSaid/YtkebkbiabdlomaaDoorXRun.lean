/-
  The contract of runOf; conditions: the list is in memory and has a turn.
-/
import Derived.Test.YtkebkbiabdlomaaDoorXTB
set_option linter.unusedSimpArgs false
set_option linter.unusedVariables false
namespace Go.Proofs.YtkebkbiabdlomaaDoor
open Go.RowKit Classical
/-- n is how many at the beginning of a list are equal. -/
structure RunIs (q : Nat → TuE) (len n : Nat) : Prop where
  one : 1 ≤ n
  le : n ≤ len
  eq : ∀ j, j < n → q j = q 0
  ne : n < len → q n ≠ q 0
theorem RunIs.same {q : Nat → TuE} {len n m : Nat} (h : RunIs q len n) (g : RunIs q len m) : n = m := by
  rcases Nat.lt_trichotomy n m with hl | hl | hl
  · exact absurd (g.eq n hl) (h.ne (Nat.lt_of_lt_of_le hl g.le))
  · exact hl
  · exact absurd (h.eq m hl) (g.ne (Nat.lt_of_lt_of_le hl h.le))
set_option maxRecDepth 100000 in
set_option maxHeartbeats 1000000 in
theorem runOf_any (w : World) (a : Option Addr) (len cap : Nat) (q : Nat → TuE) (b o : Nat) (hlen : len ≤ 9223372036854775807) (h1 : 1 ≤ len) (T : Tu w a len q b o) :
    Calls Tryd.prog 16 #[.slice a len cap] w fun e w' => ∃ n : Nat, RunIs q len n ∧ e = .returned (.int .i64 n) ∧ Below w.heap.size w w' := by
  go_enter Tryd.func16, Tryd.ntmps16
  go_upto_region 2 with fail
  go_loopw [3] (fun i wr => ∃ k : Nat, (1 ≤ k ∧ k ≤ len ∧ ∀ j, j < k → q j = q 0) ∧ i = .int .i64 k ∧ Below w.heap.size w wr) (fun i _ => len - (intOf i).toNat)
  case atStart => exact ⟨1, ⟨Nat.le_refl _, h1, fun j hj => by rw [show j = 0 by omega]⟩, rfl, Below.refl _ _⟩
  case round =>
    obtain ⟨k, ⟨hk1, hk, he⟩, rfl, hb⟩ := hrel
    have HE : Hid (∀ j, j < k → q j = q 0) := he
    clear he
    by_cases hlt : k < len
    · obtain ⟨rfl, hb1⟩ := T.at_ (by omega)
      obtain ⟨t, et⟩ : ∃ t, q k = t := ⟨_, rfl⟩
      obtain ⟨s, es⟩ : ∃ s, q 0 = s := ⟨_, rfl⟩
      have R1 : Hid (wr.rangeAt b (o + k * 5) t.cells.toList) := fun j v hv => (hb.cell (p := ⟨b, o + k * 5 + j, none⟩) hb1).trans (T.cells k hlt j v (by rw [et]; exact hv))
      have R2 : Hid (wr.rangeAt b o s.cells.toList) := fun j v hv => (hb.cell (p := ⟨b, o + j, none⟩) hb1).trans (by have := T.cells 0 (by omega) j v (by rw [es]; exact hv); simpa using this)
      have H1 : Hid (Tu _ _ _ _ _ _) := T
      have ET : Hid (q k = t) := et
      have ES : Hid (q 0 = s) := es
      clear T et es
      have hk9 : (k : Int) + 1 ≤ 9223372036854775807 := by omega
      have x0 : wr.cell? ⟨b, o + k * 5, none⟩ = some (.int .u32 t.bu) := R1.out 0 _ rfl
      have x1 : wr.cell? ⟨b, o + k * 5 + 1, none⟩ = some (.int .u8 t.one) := R1.out 1 _ rfl
      have x2 : wr.cell? ⟨b, o + k * 5 + 2, none⟩ = some (.int .u8 t.two) := R1.out 2 _ rfl
      have x3 : wr.cell? ⟨b, o + k * 5 + 3, none⟩ = some (.bool t.fl) := R1.out 3 _ rfl
      have x4 : wr.cell? ⟨b, o + k * 5 + 4, none⟩ = some (.bool t.rs) := R1.out 4 _ rfl
      have y0 : wr.cell? ⟨b, o, none⟩ = some (.int .u32 s.bu) := R2.out 0 _ rfl
      have y1 : wr.cell? ⟨b, o + 1, none⟩ = some (.int .u8 s.one) := R2.out 1 _ rfl
      have y2 : wr.cell? ⟨b, o + 2, none⟩ = some (.int .u8 s.two) := R2.out 2 _ rfl
      have y3 : wr.cell? ⟨b, o + 3, none⟩ = some (.bool s.fl) := R2.out 3 _ rfl
      have y4 : wr.cell? ⟨b, o + 4, none⟩ = some (.bool s.rs) := R2.out 4 _ rfl
      have qN : ∀ W : World, (binOp .eql 25 (.agg #[.int .u32 t.bu, .int .u8 t.one, .int .u8 t.two, .bool t.fl, .bool t.rs]) (.agg #[.int .u32 s.bu, .int .u8 s.one, .int .u8 s.two, .bool s.fl, .bool s.rs])).run Tryd.prog W = .ok (.bool (decide (t = s))) W := fun W => eqlT W t s
      clear R1 R2
      by_cases hts : t = s
      · simp only [hts, decide_true] at qN
        subst hts
        go_upto_region 2 with fail
        go_quiet (fail)
        go_wp2
        go_roundw
        case rel => first | exact ⟨k + 1, ⟨by omega, by omega, fun j hj => by
            by_cases hj' : j < k
            · exact HE.out j hj'
            · obtain rfl : j = k := by omega
              rw [ET.out, ES.out]⟩, by go_num, below_draws hb _⟩ | trace_state
        case measure => simp [intOf]; omega
      · simp only [hts, decide_false] at qN
        go_upto_region 2 with fail
        go_quiet (fail)
        go_wp2
        go_ret
        exact ⟨k, ⟨hk1, hk, HE.out, fun _ => by rw [ET.out, ES.out]; exact hts⟩, rfl, below_draws hb _⟩
    · obtain rfl : k = len := by omega
      go_upto_region 2 with fail
      go_quiet (fail)
      go_wp2
      go_ret
      exact ⟨k, ⟨hk1, Nat.le_refl _, HE.out, fun h => absurd h (by omega)⟩, rfl, below_draws hb _⟩
end Go.Proofs.YtkebkbiabdlomaaDoor
