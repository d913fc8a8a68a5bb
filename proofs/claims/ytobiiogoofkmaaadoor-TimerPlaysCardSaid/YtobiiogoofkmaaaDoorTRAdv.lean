/-
  The document's Advance; conditions: the numbers fit their kinds.
-/
import Derived.Test.YtobiiogoofkmaaaDoorTRTW
set_option linter.unusedSimpArgs false
set_option linter.unusedVariables false
namespace Go.Proofs.YtobiiogoofkmaaaDoor
open Go.RowKit Classical
set_option maxHeartbeats 1000000 in
theorem radv_any (c : Ck) (n : Int) (w : World) (o : c.Ok) (n1 : n ≤ 9223372036854775807) :
    Calls Tryd.prog 14 #[.agg c.cells, .int .i64 n] w fun e w' => e = .returned (.agg (c.it n.toNat).cells) ∧ Below w.heap.size w w' := by
  have IT : Hid _ := fun k => (Ck.it_ok o k).1
  have TK : Hid _ := fun (k : Nat) (W : World) => rtick_any (c.it k) W (IT.out k)
  go_enter Tryd.func14, Tryd.ntmps14
  go_upto_region 1 with fail
  have A : At w ((w.alloc (.cells c.cells 24)).alloc (.cells #[.int .u16 0, .int .u16 0, .int .u16 0, .int .u8 0, .int .u8 0, .bool false, .bool false, .bool false, .bool false, .bool false, .int .u16 0, .int .u8 0, .int .u8 0] 24)) w.heap.size c := At.begin w c
  generalize (w.alloc (.cells c.cells 24)).alloc (.cells #[.int .u16 0, .int .u16 0, .int .u16 0, .int .u8 0, .int .u8 0, .bool false, .bool false, .bool false, .bool false, .bool false, .int .u16 0, .int .u8 0, .int .u8 0] 24) = W0 at *
  go_wp2
  go_loopw [5] (fun i wr => ∃ k : Nat, k ≤ n.toNat ∧ i = .int .i64 k ∧ At w wr w.heap.size (c.it k)) (fun i _ => n.toNat - (intOf i).toNat)
  case atStart => exact ⟨0, Nat.zero_le _, rfl, A⟩
  case round =>
    clear A
    obtain ⟨k, hk, rfl, A⟩ := hrel
    by_cases hlt : (k : Int) < n
    · have T1 : Hid _ := fun (W : World) => TK.out k W
      rw [show (c.it k).tick = c.it (k + 1) from rfl] at T1
      have hk1 : k + 1 ≤ n.toNat := by omega
      have hk2 : (k : Int) + 1 ≤ 9223372036854775807 := by omega
      generalize c.it k = d at A T1
      go_wp2_with (first
        | (refine wpList_load_blk rfl 24 _ rfl w.heap.size rfl _ _ A.blk Tryd.underlying24 rfl (infoC' _) ?_)
        | (go_at_call 29; refine (T1.out _).mono ?_; rintro e Wx ⟨rfl, hbx⟩; replace A := A.on hbx; clear hbx)
        | (refine wpList_store_blk rfl 24 _ _ rfl _ _ (Ck.cells (c.it (k + 1))) 24 rfl rfl A.blk rfl (infoC' _) (Ck.cells_one _) w.heap.size w A.le A.bel ?_; intro Wy h1y h2y h3y; replace A := At.sto A h1y h2y h3y; clear h1y h2y h3y))
      go_roundw
      case rel => exact ⟨k + 1, hk1, by go_num, A⟩
      case measure => simp [intOf]; omega
    · have hkn : k = n.toNat := by omega
      subst hkn
      go_wp2_with (first
        | (refine wpList_load_blk rfl 24 _ rfl w.heap.size rfl _ _ A.blk Tryd.underlying24 rfl (infoC' _) ?_)
        | (obtain ⟨rc, hr⟩ := A.res; refine wpList_store_blk rfl 24 _ _ rfl _ rc.cells (Ck.cells (c.it n.toNat)) 24 rfl rfl hr rfl (infoC' _) (Ck.cells_one _) w.heap.size w (by omega) A.bel ?_; intro W5 hr5 hb5 ho5))
      refine bodyPost_ret (v := .agg (Ck.cells (c.it n.toNat))) (res_ck (r := w.heap.size + 1) Tryd.results14 rfl hr5) rfl ⟨rfl, hb5⟩
end Go.Proofs.YtobiiogoofkmaaaDoor
