/-
  The contract of Advance; conditions: the tables lie in their variables, the numbers fit their kinds.
-/
import Derived.Test.YtobiiogoofkmaaaDoorTTop0
import Derived.Test.YtobiiogoofkmaaaDoorTAdvT
import Derived.Test.YtobiiogoofkmaaaDoorTAdvS
set_option linter.unusedSimpArgs false
set_option linter.unusedVariables false
namespace Go.Proofs.YtobiiogoofkmaaaDoor
open Go.RowKit Classical
set_option maxHeartbeats 2000000 in
theorem adv_yes (c : Ck) (n : Int) (w : World) (o : c.Ok) (T : Tabs w) (hv : c.valid = true) (n0 : 0 < n) (n1 : n ≤ 9223372036854775807) :
    Calls Tryd.prog 9 #[.agg c.cells, .int .i64 n] w fun e w' => e = .returned (.agg ((c.advT n).advS n).cells) ∧ Below w.heap.size w w' := by
  have v := (Ck.valid_iff c).1 hv
  have V : Hid _ := fun W (hW : DTab W) => valid_any c W o hW
  rw [hv] at V
  have oA : (c.advT n).Ok := by
    obtain ⟨k, rfl⟩ := Int.eq_ofNat_of_zero_le (show 0 ≤ n by omega)
    exact (Ck.advT_ok o v k).1
  have hn : (decide (n ≤ 0)) = false := by simpa using n0
  clear hv
  go_enter Tryd.func9, Tryd.ntmps9
  go_upto_region 1 with fail
  have A : At w ((w.alloc (.cells c.cells 24)).alloc (.cells zeroC.cells 24)) w.heap.size c := ⟨(Blk.new w _ _).old _, Nat.le_refl _, below_a2 _ _ _, zeroC, by have := Blk.new (w.alloc (.cells c.cells 24)) zeroC.cells 24; simpa using this⟩
  have e0 : (w.alloc (.cells c.cells 24)).alloc (.cells zeroC.cells 24) = (w.alloc (.cells c.cells 24)).alloc (.cells #[.int .u16 0, .int .u16 0, .int .u16 0, .int .u8 0, .int .u8 0, .bool false, .bool false, .bool false, .bool false, .bool false, .int .u16 0, .int .u8 0, .int .u8 0] 24) := rfl
  rw [e0] at A
  clear e0
  generalize (w.alloc (.cells c.cells 24)).alloc (.cells #[.int .u16 0, .int .u16 0, .int .u16 0, .int .u8 0, .int .u8 0, .bool false, .bool false, .bool false, .bool false, .bool false, .int .u16 0, .int .u8 0, .int .u8 0] 24) = W0 at *
  go_wp2_with (first
    | (refine wpList_load_blk rfl 24 _ rfl w.heap.size rfl _ _ A.blk Tryd.underlying24 rfl (infoC' _) ?_)
    | (refine wpList_load_want (by rfl) 24 _ rfl w.heap.size rfl _ _ A.blk Tryd.underlying24 rfl (infoC' _) ?_)
    | (go_at_call 5; refine (V.out _ (T.d.on A.bel)).mono ?_; rintro e W1 ⟨rfl, hb⟩; replace A := A.on hb; clear hb)
    | (go_at_call 23; refine (advT_any c n w _ w.heap.size o v T.d A (by omega) n1).mono ?_; rintro e W2 ⟨rfl, A2⟩; replace A := A2; clear A2)
    | (go_at_call 24; refine (advS_any (c.advT n) n w _ w.heap.size oA T A n0 n1).mono ?_; rintro e W2 ⟨rfl, A2⟩; replace A := A2; clear A2)
    | (obtain ⟨rc, hr⟩ := A.res; refine wpList_store_blk rfl 24 _ _ rfl _ rc.cells ((c.advT n).advS n).cells 24 rfl rfl hr rfl (infoC' _) (Ck.cells_one _) w.heap.size w (by omega) A.bel ?_; intro W5 hr5 hb5 ho5))
  have hc5 := hr5.cell
  refine bodyPost_ret (v := .agg ((c.advT n).advS n).cells) (res_ck (r := w.heap.size + 1) Tryd.results9 rfl hr5) rfl ⟨rfl, hb5⟩
set_option maxHeartbeats 2000000 in
theorem adv_no (c : Ck) (n : Int) (w : World) (o : c.Ok) (T : Tabs w) (hv : c.valid = false) (n0 : 0 < n) :
    Calls Tryd.prog 9 #[.agg c.cells, .int .i64 n] w fun e w' => e = .returned (.agg (c).cells) ∧ Below w.heap.size w w' := by
  have V : Hid _ := fun W (hW : DTab W) => valid_any c W o hW
  rw [hv] at V
  have hn : (decide (n ≤ 0)) = false := by simpa using n0
  clear hv
  go_enter Tryd.func9, Tryd.ntmps9
  go_upto_region 1 with fail
  have A : At w ((w.alloc (.cells c.cells 24)).alloc (.cells zeroC.cells 24)) w.heap.size c := ⟨(Blk.new w _ _).old _, Nat.le_refl _, below_a2 _ _ _, zeroC, by have := Blk.new (w.alloc (.cells c.cells 24)) zeroC.cells 24; simpa using this⟩
  have e0 : (w.alloc (.cells c.cells 24)).alloc (.cells zeroC.cells 24) = (w.alloc (.cells c.cells 24)).alloc (.cells #[.int .u16 0, .int .u16 0, .int .u16 0, .int .u8 0, .int .u8 0, .bool false, .bool false, .bool false, .bool false, .bool false, .int .u16 0, .int .u8 0, .int .u8 0] 24) := rfl
  rw [e0] at A
  clear e0
  generalize (w.alloc (.cells c.cells 24)).alloc (.cells #[.int .u16 0, .int .u16 0, .int .u16 0, .int .u8 0, .int .u8 0, .bool false, .bool false, .bool false, .bool false, .bool false, .int .u16 0, .int .u8 0, .int .u8 0] 24) = W0 at *
  go_wp2_with (first
    | (refine wpList_load_blk rfl 24 _ rfl w.heap.size rfl _ _ A.blk Tryd.underlying24 rfl (infoC' _) ?_)
    | (refine wpList_load_want (by rfl) 24 _ rfl w.heap.size rfl _ _ A.blk Tryd.underlying24 rfl (infoC' _) ?_)
    | (go_at_call 5; refine (V.out _ (T.d.on A.bel)).mono ?_; rintro e W1 ⟨rfl, hb⟩; replace A := A.on hb; clear hb)
    | (obtain ⟨rc, hr⟩ := A.res; refine wpList_store_blk rfl 24 _ _ rfl _ rc.cells (c).cells 24 rfl rfl hr rfl (infoC' _) (Ck.cells_one _) w.heap.size w (by omega) A.bel ?_; intro W5 hr5 hb5 ho5))
  have hc5 := hr5.cell
  refine bodyPost_ret (v := .agg (c).cells) (res_ck (r := w.heap.size + 1) Tryd.results9 rfl hr5) rfl ⟨rfl, hb5⟩
set_option maxHeartbeats 2000000 in
theorem adv_0 (c : Ck) (n : Int) (w : World) (o : c.Ok) (T : Tabs w) (n0 : n ≤ 0) :
    Calls Tryd.prog 9 #[.agg c.cells, .int .i64 n] w fun e w' => e = .returned (.agg (c).cells) ∧ Below w.heap.size w w' := by
  have V : Hid _ := fun W (hW : DTab W) => valid_any c W o hW
  go_enter Tryd.func9, Tryd.ntmps9
  go_upto_region 1 with fail
  have A : At w ((w.alloc (.cells c.cells 24)).alloc (.cells zeroC.cells 24)) w.heap.size c := ⟨(Blk.new w _ _).old _, Nat.le_refl _, below_a2 _ _ _, zeroC, by have := Blk.new (w.alloc (.cells c.cells 24)) zeroC.cells 24; simpa using this⟩
  have e0 : (w.alloc (.cells c.cells 24)).alloc (.cells zeroC.cells 24) = (w.alloc (.cells c.cells 24)).alloc (.cells #[.int .u16 0, .int .u16 0, .int .u16 0, .int .u8 0, .int .u8 0, .bool false, .bool false, .bool false, .bool false, .bool false, .int .u16 0, .int .u8 0, .int .u8 0] 24) := rfl
  rw [e0] at A
  clear e0
  generalize (w.alloc (.cells c.cells 24)).alloc (.cells #[.int .u16 0, .int .u16 0, .int .u16 0, .int .u8 0, .int .u8 0, .bool false, .bool false, .bool false, .bool false, .bool false, .int .u16 0, .int .u8 0, .int .u8 0] 24) = W0 at *
  go_wp2_with (first
    | (refine wpList_load_blk rfl 24 _ rfl w.heap.size rfl _ _ A.blk Tryd.underlying24 rfl (infoC' _) ?_)
    | (refine wpList_load_want (by rfl) 24 _ rfl w.heap.size rfl _ _ A.blk Tryd.underlying24 rfl (infoC' _) ?_)
    | (go_at_call 5; refine (V.out _ (T.d.on A.bel)).mono ?_; rintro e W1 ⟨rfl, hb⟩; replace A := A.on hb; clear hb)
    | (obtain ⟨rc, hr⟩ := A.res; refine wpList_store_blk rfl 24 _ _ rfl _ rc.cells (c).cells 24 rfl rfl hr rfl (infoC' _) (Ck.cells_one _) w.heap.size w (by omega) A.bel ?_; intro W5 hr5 hb5 ho5))
  have hc5 := hr5.cell
  refine bodyPost_ret (v := .agg (c).cells) (res_ck (r := w.heap.size + 1) Tryd.results9 rfl hr5) rfl ⟨rfl, hb5⟩
theorem adv_any (c : Ck) (n : Int) (w : World) (o : c.Ok) (T : Tabs w) (n1 : n ≤ 9223372036854775807) :
    Calls Tryd.prog 9 #[.agg c.cells, .int .i64 n] w fun e w' => e = .returned (.agg (c.adv n).cells) ∧ Below w.heap.size w w' := by
  unfold Ck.adv
  by_cases h : 0 < n
  · cases hv : c.valid
    · rw [if_neg (by simp)]; exact adv_no c n w o T hv h
    · rw [if_pos ⟨h, rfl⟩]; exact adv_yes c n w o T hv h n1
  · rw [if_neg (fun hh => h hh.1)]; exact adv_0 c n w o T (by omega)
end Go.Proofs.YtobiiogoofkmaaaDoor
