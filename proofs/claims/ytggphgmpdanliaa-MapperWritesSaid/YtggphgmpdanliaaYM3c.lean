/-
  What mirror and workMode of an MMC3 answer; conditions: the cells that they read hold the board's numbers.
-/
import Derived.Test.YtggphgmpdanliaaYLat
set_option linter.unusedSimpArgs false
set_option linter.unusedVariables false
namespace Go.Proofs.Ytggphgmpdanliaa
open Go.RowKit
set_option maxRecDepth 100000 in
set_option maxHeartbeats 1000000 in
theorem mirror4_any (w : World) (m : Nat) (b : Bd) (S : Sh w m b) (M : M4 w m b) (hk : b.kind = 4) :
    Calls Try.prog 112 #[.pointer (some ⟨m, 0, none⟩)] w fun e w' => e = .returned (.int .u8 (mirB b)) ∧ ∃ n, w' = w.drewN n := by
  have E : mirB b = wiredV b (if b.turn = 0 then 1 else 0) := by simp [mirB, hk, wiredV]
  rw [E]
  have c16 := M.c16
  by_cases h : b.turn = 0
  · have H : Hid _ := wired_if w m b 1 S
    rw [if_pos h]
    rw [h] at c16
    clear S M hk E h
    go_enter Try.func112, Try.ntmps112
    go_wp2_with fail
    refine Calls.mono H.out ?_
    rintro e W ⟨rfl, rfl⟩
    go_wp2
    go_ret
    exact ⟨rfl, 0, rfl⟩
  · have H : Hid _ := wired_if w m b 0 S
    rw [if_neg h]
    have hb : (b.turn == 0) = false := by simpa using h
    clear S M hk E h
    go_enter Try.func112, Try.ntmps112
    go_wp2_with fail
    refine Calls.mono H.out ?_
    rintro e W ⟨rfl, rfl⟩
    go_wp2
    go_ret
    exact ⟨rfl, 0, rfl⟩
set_option maxRecDepth 100000 in
set_option maxHeartbeats 1000000 in
theorem mode4_any (w : World) (m : Nat) (b : Bd) (M : M4 w m b) (g0 : 0 ≤ b.guard) (g1 : b.guard ≤ 255) (hk : b.kind = 4) :
    Calls Try.prog 116 #[.pointer (some ⟨m, 0, none⟩)] w fun e w' => e = .returned (.int .i64 (modeB b)) ∧ ∃ n, w' = w.drewN n := by
  have E : modeB b = if b.guard < 128 then 0 else if b.guard / 64 % 2 = 1 then 1 else 2 := by simp [modeB, hk]
  rw [E]
  have e128 := bit128 g0 g1
  have e64 := bit64 g0 g1
  have c17 := M.c17
  clear M E hk
  by_cases h : b.guard < 128
  · rw [if_pos h]
    rw [show b.guard / 128 % 2 = 0 by omega] at e128
    clear h e64
    go_enter Try.func116, Try.ntmps116
    go_wp2
    go_ret
    exact ⟨rfl, 0, rfl⟩
  rw [if_neg h]
  rw [show b.guard / 128 % 2 = 1 by omega] at e128
  by_cases g : b.guard / 64 % 2 = 1
  · rw [if_pos g]
    rw [g] at e64
    clear h g
    go_enter Try.func116, Try.ntmps116
    go_wp2
    go_ret
    exact ⟨rfl, 0, rfl⟩
  · rw [if_neg g]
    rw [show b.guard / 64 % 2 = 0 by omega] at e64
    clear h g
    go_enter Try.func116, Try.ntmps116
    go_wp2
    go_ret
    exact ⟨rfl, 0, rfl⟩
end Go.Proofs.Ytggphgmpdanliaa
