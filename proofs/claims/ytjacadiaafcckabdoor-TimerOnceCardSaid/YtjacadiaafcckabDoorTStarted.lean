/-
  The laws' own started.
-/
import Derived.Test.YtjacadiaafcckabDoorTStart
import Derived.Test.YtjacadiaafcckabDoorTWrite
set_option linter.unusedSimpArgs false
set_option linter.unusedVariables false
namespace Go.Proofs.YtjacadiaafcckabDoor
open Go.RowKit Classical
/-- A timer that has been started. -/
def stC (latch p : Int) (once : Bool) : Ck := ⟨latch, latch, 0, 0, 3 + 8 * p + (if once = true then 4 else 0), false, false, false, false, false, 0, 0, 0⟩
set_option maxHeartbeats 1000000 in
theorem started_false (latch pick : Int) (w : World) (T : DTab w) (l0 : 0 ≤ latch) (l1 : latch ≤ 65535) (k0 : 0 ≤ pick) (k1 : pick ≤ 255) :
    Calls Tryd.prog 11 #[.int .u16 latch, .int .u8 pick, .bool false] w fun e w' => e = .returned (.agg (stC latch (pick % 4) false).cells) ∧ Below w.heap.size w w' := by
  have p0 : 0 ≤ pick % 4 := by omega
  have p1 : pick % 4 ≤ 3 := by omega
  obtain ⟨c1, hc1⟩ : ∃ c1 : Ck, c1 = zeroC.wr 16408 (latch % 256) 0 := ⟨_, rfl⟩
  obtain ⟨c2, hc2⟩ : ∃ c2 : Ck, c2 = c1.wr 16409 (latch / 256) 0 := ⟨_, rfl⟩
  have e1 : c1 = { zeroC with latch := latch % 256 } := by
    rw [hc1]; unfold Ck.wr; rw [if_neg (by rw [zero_valid]; decide), if_neg (by decide), if_pos rfl]
    apply Ck.ext <;> simp [zeroC]
  have o1 : c1.Ok := by rw [e1]; exact ⟨⟨by simp only; omega, by simp only; omega⟩, zero_ok.count, zero_ok.pre, zero_ok.hold, zero_ok.ctl, zero_ok.at_, zero_ok.wait, zero_ok.beats⟩
  have v1 : c1.valid = true := by rw [e1]; exact zero_valid
  have e2 : c2 = { zeroC with latch := latch } := by
    rw [hc2]; unfold Ck.wr; rw [if_neg (by rw [v1]; decide), if_neg (by decide), if_neg (by decide), if_pos rfl, e1]
    apply Ck.ext <;> simp only
    omega
  have o2 : c2.Ok := by rw [e2]; exact ⟨⟨l0, l1⟩, zero_ok.count, zero_ok.pre, zero_ok.hold, zero_ok.ctl, zero_ok.at_, zero_ok.wait, zero_ok.beats⟩
  have v2 : c2.valid = true := by rw [e2]; exact zero_valid
  have e3 : c2.wr 16410 (131 + 8 * (pick % 4)) 0 = stC latch (pick % 4) false := by
    unfold Ck.wr; rw [if_neg (by rw [v2]; decide), if_neg (by decide), if_neg (by decide), if_neg (by decide), if_pos rfl, if_pos (by omega), e2]
    unfold stC
    apply Ck.ext <;> simp [zeroC]
    omega
  have W1 : Hid (∀ V, DTab V → Calls Tryd.prog 14 #[.agg #[.int .u16 0, .int .u16 0, .int .u16 0, .int .u8 0, .int .u8 0, .bool false, .bool false, .bool false, .bool false, .bool false, .int .u16 0, .int .u8 0, .int .u8 0], .int .u16 16408, .int .u8 (latch % 256), .int .i64 0] V fun e w' => e = .returned (.agg c1.cells) ∧ Below V.heap.size V w') := by
    intro V hV
    rw [hc1]
    exact write_any zeroC V 16408 (latch % 256) 0 zero_ok hV (by omega) (by omega)
  have W2 : Hid _ := fun V (hV : DTab V) => write_any c1 V 16409 (latch / 256) 0 o1 hV (by omega) (by omega)
  rw [← hc2] at W2
  have W3 : Hid _ := fun V (hV : DTab V) => write_any c2 V 16410 (131 + 8 * (pick % 4)) 0 o2 hV (by omega) (by omega)
  rw [e3] at W3
  have b1 : bits .or .u8 131 (8 * (pick % 4)) = (131 + 8 * (pick % 4)) := by
    rcases (show pick % 4 = 0 ∨ pick % 4 = 1 ∨ pick % 4 = 2 ∨ pick % 4 = 3 by omega) with h | h | h | h <;> rw [h] <;> decide
  have b1' : bits .or .u8 131 (pick % 4 * 8) = (131 + 8 * (pick % 4)) := by rw [Int.mul_comm]; exact b1
  have b2 : bits .or .u8 (131 + 8 * (pick % 4)) 4 = (135 + 8 * (pick % 4)) := by
    rcases (show pick % 4 = 0 ∨ pick % 4 = 1 ∨ pick % 4 = 2 ∨ pick % 4 = 3 by omega) with h | h | h | h <;> rw [h] <;> decide
  generalize stC latch (pick % 4) false = c3 at *
  clear hc1 hc2 e1 e2 e3 o1 o2 v1 v2
  go_enter Tryd.func11, Tryd.ntmps11
  go_upto_region 1 with fail
  have s0 : St w [(w.heap.size, zeroC)] (w.alloc (.cells #[.int .u16 0, .int .u16 0, .int .u16 0, .int .u8 0, .int .u8 0, .bool false, .bool false, .bool false, .bool false, .bool false, .int .u16 0, .int .u8 0, .int .u8 0] 25)) := St.start w zeroC
  generalize w.alloc (.cells #[.int .u16 0, .int .u16 0, .int .u16 0, .int .u8 0, .int .u8 0, .bool false, .bool false, .bool false, .bool false, .bool false, .int .u16 0, .int .u8 0, .int .u8 0] 25) = W0 at *
  go_upto_region 2 with (first
    | (go_at_call_of 14 (Value.agg #[.int .u16 0, .int .u16 0, .int .u16 0, .int .u8 0, .int .u8 0, .bool false, .bool false, .bool false, .bool false, .bool false, .int .u16 0, .int .u8 0, .int .u8 0]); refine (W1.out _ (T.on s0.2)).mono ?_; rintro e Wx ⟨rfl, hbx⟩; replace s0 := s0.on hbx; clear hbx)
    | (have hlt := (s0.blk w.heap.size zeroC (by simp)).lt; have hle := s0.2.size; refine wpList_store_blk rfl 25 _ _ rfl _ zeroC.cells (Ck.cells c1) 25 rfl rfl (Blk.new _ _ _) rfl (infoC' _) (Ck.cells_one _) w.heap.size w s0.2.size (s0.2.alloc s0.2.size _) ?_; intro Wy by1 hby hoy; replace s0 := St.more s0 by1 hby hoy; clear hby hoy))
  simp only [Act.put]
  have hne : w.heap.size ≠ Wx.heap.size := Nat.ne_of_lt hlt
  clear hlt
  generalize Wx.heap.size = m1 at *
  clear by1
  go_upto_region 3 with (first
    | (refine wpList_load_blk rfl 25 _ rfl m1 rfl (Ck.cells c1) _ (s0.blk m1 c1 (by simp)) Tryd.underlying25 rfl (infoC' _) ?_)
    | (go_at_call_of 14 (Value.agg c1.cells); refine (W2.out _ (T.on s0.2)).mono ?_; rintro e Wx ⟨rfl, hbx⟩; replace s0 := s0.on hbx; clear hbx)
    | (refine wpList_store_blk rfl 25 _ _ rfl _ (Ck.cells c1) (Ck.cells c2) 25 rfl rfl (s0.blk m1 c1 (by simp)) rfl (infoC' _) (Ck.cells_one _) w.heap.size w hle s0.2 ?_; intro Wz by2 hbz hoz; replace s0 : St w [(m1, c2), (w.heap.size, zeroC)] Wz := ⟨fun p hp => by simp only [List.mem_cons, List.not_mem_nil, or_false] at hp; exact hp.elim (fun h => by subst h; exact by2) (fun h => by subst h; exact hoz _ _ _ hne (s0.blk w.heap.size zeroC (by simp))), hbz⟩; clear hbz hoz by2))
  simp only [Act.put]
  go_wp2_with (first
    | (refine wpList_load_blk rfl 25 _ rfl m1 rfl (Ck.cells c2) _ (s0.blk m1 c2 (by simp)) Tryd.underlying25 rfl (infoC' _) ?_)
    | (go_at_call_of 14 (Value.agg c2.cells); refine (W3.out _ (T.on s0.2)).mono ?_; rintro e Wx ⟨rfl, hbx⟩; replace s0 := s0.on hbx; clear hbx)
    | (refine wpList_store_blk rfl 25 _ _ rfl _ (Ck.cells zeroC) (Ck.cells c3) 25 rfl rfl (s0.blk w.heap.size zeroC (by simp)) rfl (infoC' _) (Ck.cells_one _) w.heap.size w (Nat.le_refl _) s0.2 ?_; intro W5 hr5 hb5 ho5))
  refine bodyPost_ret (v := .agg (Ck.cells c3)) (res_ck (r := w.heap.size) Tryd.results11 rfl hr5) rfl ⟨rfl, hb5⟩
end Go.Proofs.YtjacadiaafcckabDoor
