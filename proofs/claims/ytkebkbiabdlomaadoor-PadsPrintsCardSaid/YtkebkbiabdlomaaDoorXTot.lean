/-
  The contracts of Total; conditions: the list is in memory.
-/
import Derived.Test.YtkebkbiabdlomaaDoorXTB
set_option linter.unusedSimpArgs false
set_option linter.unusedVariables false
namespace Go.Proofs.YtkebkbiabdlomaaDoor
open Go.RowKit Classical
set_option maxRecDepth 100000 in
set_option maxHeartbeats 1000000 in
theorem total_any (w : World) (a : Option Addr) (len cap : Nat) (q : Nat → TuE) (b o : Nat) (hlen : len ≤ 9223372036854775807) (T : Tu w a len q b o) :
    Calls Tryd.prog 9 #[.slice a len cap] w fun e w' => e = .returned (.int .i64 (tot q len)) ∧ Below w.heap.size w w' := by
  go_enter Tryd.func9, Tryd.ntmps9
  go_upto_region 3 with fail
  go_loopw [3, 8] (fun x i wr => ∃ k : Nat, k ≤ len ∧ i = .int .i64 k ∧ x = .int .i64 (tot q k) ∧ Below w.heap.size w wr) (fun _ i _ => len - (intOf i).toNat)
  case atStart => exact ⟨0, by omega, rfl, rfl, Below.refl _ _⟩
  case round =>
    obtain ⟨k, hk, rfl, rfl, hb⟩ := hrel
    by_cases hlt : k < len
    · obtain ⟨rfl, hbb⟩ := T.at_ (by omega)
      obtain ⟨t, et⟩ : ∃ t, q k = t := ⟨_, rfl⟩
      have R : Hid (wr.rangeAt b (o + k * 5) [.int .u32 t.bu, .int .u8 t.one, .int .u8 t.two, .bool t.fl, .bool t.rs]) := fun j v hv => (hb.cell (p := ⟨b, o + k * 5 + j, none⟩) hbb).trans (T.cells k hlt j v (by rw [et]; exact hv))
      have ok : 0 ≤ t.bu ∧ t.bu ≤ 4294967295 := by have := T.ok k hlt; rw [et] at this; exact ⟨this.bu0, this.bu1⟩
      obtain ⟨u0, u1⟩ := ok
      have ES : Hid (tot q (k + 1) = wrap64 (tot q k + t.bu)) := by unfold Hid; rw [← et]; rfl
      have TH : Hid (Tu _ _ _ _ _ _) := T
      clear T et
      have hk9 : (k : Int) + 1 ≤ 9223372036854775807 := by omega
      go_upto_region 5 with (refine wpList_load_mid rfl 25 _ rfl b (o + k * 5) rfl [.int .u32 t.bu, .int .u8 t.one, .int .u8 t.two, .bool t.fl, .bool t.rs] _ R.out Tryd.underlying25 rfl (by kernel_rfl) ?_)
      have c0 : (wr.alloc (.cells #[.int .u32 t.bu, .int .u8 t.one, .int .u8 t.two, .bool t.fl, .bool t.rs] 25)).cell? ⟨wr.heap.size, 0, none⟩ = some (.int .u32 t.bu) := (Blk.new wr #[.int .u32 t.bu, .int .u8 t.one, .int .u8 t.two, .bool t.fl, .bool t.rs] 25).cell 0
      replace hb : Below w.heap.size w (wr.alloc (.cells #[.int .u32 t.bu, .int .u8 t.one, .int .u8 t.two, .bool t.fl, .bool t.rs] 25)) := hb.alloc hb.size _
      generalize wr.alloc (.cells #[.int .u32 t.bu, .int .u8 t.one, .int .u8 t.two, .bool t.fl, .bool t.rs] 25) = W1 at *
      generalize wr.heap.size = nb at *
      clear R
      generalize tot q k = sm at *
      go_wp2
      go_roundw
      case rel => exact ⟨k + 1, by omega, by go_num, by rw [ES.out], hb⟩
      case measure => simp [intOf]; omega
    · obtain rfl : k = len := by omega
      go_wp2
      go_ret
      exact ⟨rfl, hb⟩
set_option maxRecDepth 100000 in
set_option maxHeartbeats 1000000 in
theorem rtotal_any (w : World) (a : Option Addr) (len cap : Nat) (q : Nat → TuE) (b o : Nat) (hlen : len ≤ 9223372036854775807) (T : Tu w a len q b o) :
    Calls Tryd.prog 10 #[.slice a len cap] w fun e w' => e = .returned (.int .i64 (tot q len)) ∧ Below w.heap.size w w' := by
  go_enter Tryd.func10, Tryd.ntmps10
  go_upto_region 3 with fail
  go_loopw [3, 4] (fun x i wr => ∃ k : Nat, k ≤ len ∧ i = .int .i64 k ∧ x = .int .i64 (tot q k) ∧ wr = w) (fun _ i _ => len - (intOf i).toNat)
  case atStart => exact ⟨0, by omega, rfl, rfl, rfl⟩
  case round =>
    obtain ⟨k, hk, rfl, rfl, rfl⟩ := hrel
    by_cases hlt : k < len
    · obtain ⟨rfl, hbb⟩ := T.at_ (by omega)
      obtain ⟨t, et⟩ : ∃ t, q k = t := ⟨_, rfl⟩
      have c0 : wr.cell? ⟨b, o + k * 5, none⟩ = some (.int .u32 t.bu) := T.cells k hlt 0 _ (by rw [et]; rfl)
      have ok : 0 ≤ t.bu ∧ t.bu ≤ 4294967295 := by have := T.ok k hlt; rw [et] at this; exact ⟨this.bu0, this.bu1⟩
      obtain ⟨u0, u1⟩ := ok
      have ES : Hid (tot q (k + 1) = wrap64 (tot q k + t.bu)) := by unfold Hid; rw [← et]; rfl
      have TH : Hid (Tu _ _ _ _ _ _) := T
      clear T et
      have hk9 : (k : Int) + 1 ≤ 9223372036854775807 := by omega
      generalize tot q k = sm at *
      go_wp2
      go_roundw
      case rel => exact ⟨k + 1, by omega, by go_num, by rw [ES.out], trivial⟩
      case measure => simp [intOf]; omega
    · obtain rfl : k = len := by omega
      go_wp2
      go_ret
      exact ⟨rfl, Below.refl _ _⟩
end Go.Proofs.YtkebkbiabdlomaaDoor
