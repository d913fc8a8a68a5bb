/-
  The law CacheNil.
-/
import Derived.Test.YtfmcnkodocbdiaaXcNil
set_option linter.unusedSimpArgs false
set_option linter.unusedVariables false
namespace Go.Proofs.Ytfmcnkodocbdiaa
open Go.RowKit Classical
set_option maxRecDepth 100000 in
set_option maxHeartbeats 2000000 in
theorem blocks_zero (w : World) : Calls Try.prog 18 #[.agg #[.int .u16 0, .int .i64 0, .string ⟨#[]⟩, .int .i64 0, .slice none 0 0, .int .i64 0, .int .i64 0], .agg #[.int .u16 0, .int .i64 0, .string ⟨#[]⟩, .int .i64 0, .slice none 0 0, .int .i64 0, .int .i64 0]] w fun e w' => e = .returned (.bool true) ∧ Below w.heap.size w w' := by
  go_enter Try.func18, Try.ntmps18
  go_upto_region 1 with fail
  have hb0 : Below w.heap.size w ((w.alloc (.cells #[.int .u16 0, .int .i64 0, .string ⟨#[]⟩, .int .i64 0, .slice none 0 0, .int .i64 0, .int .i64 0] 34)).alloc (.cells #[.int .u16 0, .int .i64 0, .string ⟨#[]⟩, .int .i64 0, .slice none 0 0, .int .i64 0, .int .i64 0] 34)) := ((Below.refl _ _).alloc (Nat.le_refl _) _).alloc (by simp) _
  have P1 : Blk ((w.alloc (.cells #[.int .u16 0, .int .i64 0, .string ⟨#[]⟩, .int .i64 0, .slice none 0 0, .int .i64 0, .int .i64 0] 34)).alloc (.cells #[.int .u16 0, .int .i64 0, .string ⟨#[]⟩, .int .i64 0, .slice none 0 0, .int .i64 0, .int .i64 0] 34)) w.heap.size #[.int .u16 0, .int .i64 0, .string ⟨#[]⟩, .int .i64 0, .slice none 0 0, .int .i64 0, .int .i64 0] 34 := (Blk.new w #[.int .u16 0, .int .i64 0, .string ⟨#[]⟩, .int .i64 0, .slice none 0 0, .int .i64 0, .int .i64 0] 34).old _
  have P2 : Blk ((w.alloc (.cells #[.int .u16 0, .int .i64 0, .string ⟨#[]⟩, .int .i64 0, .slice none 0 0, .int .i64 0, .int .i64 0] 34)).alloc (.cells #[.int .u16 0, .int .i64 0, .string ⟨#[]⟩, .int .i64 0, .slice none 0 0, .int .i64 0, .int .i64 0] 34)) (w.heap.size + 1) #[.int .u16 0, .int .i64 0, .string ⟨#[]⟩, .int .i64 0, .slice none 0 0, .int .i64 0, .int .i64 0] 34 := by
    have := Blk.new (w.alloc (.cells #[.int .u16 0, .int .i64 0, .string ⟨#[]⟩, .int .i64 0, .slice none 0 0, .int .i64 0, .int .i64 0] 34)) #[.int .u16 0, .int .i64 0, .string ⟨#[]⟩, .int .i64 0, .slice none 0 0, .int .i64 0, .int .i64 0] 34
    simpa using this
  generalize (w.alloc (.cells #[.int .u16 0, .int .i64 0, .string ⟨#[]⟩, .int .i64 0, .slice none 0 0, .int .i64 0, .int .i64 0] 34)).alloc (.cells #[.int .u16 0, .int .i64 0, .string ⟨#[]⟩, .int .i64 0, .slice none 0 0, .int .i64 0, .int .i64 0] 34) = W at *
  have x0 := P1.cell 0; have x1 := P1.cell 1; have x2 := P1.cell 2; have x3 := P1.cell 3; have x4 := P1.cell 4; have x5 := P1.cell 5; have x6 := P1.cell 6
  have y0 := P2.cell 0; have y1 := P2.cell 1; have y2 := P2.cell 2; have y3 := P2.cell 3; have y4 := P2.cell 4; have y5 := P2.cell 5; have y6 := P2.cell 6
  simp at x0 x1 x2 x3 x4 x5 x6 y0 y1 y2 y3 y4 y5 y6
  clear P1 P2
  go_upto_region 4 with fail
  clear x0 x1 x2 x3 x5 x6 y0 y1 y2 y3 y4 y5 y6
  go_loopw [5] (fun i wr => i = .int .i64 0 ∧ wr = W) (fun _ _ => 0)
  case atStart => exact ⟨rfl, rfl⟩
  case round =>
    obtain ⟨rfl, rfl⟩ := hrel
    go_wp2
    go_ret
    exact ⟨rfl, hb0⟩
theorem neqK0 (w : World) : (binOp .neq 24 (.agg #[.int .u16 0, .int .i64 0]) (.agg #[.int .u16 0, .int .i64 0])).run Try.prog w = .ok (.bool false) w := by kernel_rfl
set_option maxRecDepth 100000 in
set_option maxHeartbeats 2000000 in
theorem nil_law (w : World) : Calls Try.prog 5 #[] w fun e w' => e = .returned (.bool true) ∧ Below w.heap.size w w' := by
  go_enter Try.func5, Try.ntmps5
  go_upto_region 2 with (go_at_call 11; go_must (refine (new_any 1 (by decide) (by decide) _).mono ?_; rintro e W1 ⟨q, v, m, rfl, -, -, -, -, -, hb1⟩))
  go_upto_region 5 with (go_at_call 11; go_must (refine (new_none _).mono ?_; rintro e W2 ⟨rfl, hb2⟩))
  have hB2 := hb1.trans (hb2.mono hb1.size)
  clear hb1 hb2
  go_upto_region 7 with fail
  go_cut [4, 5] (fun p x wx => ∃ b, p = .pointer (some ⟨b, 0, none⟩) ∧ x = .bool false ∧ Blk wx b #[.int .u16 0, .int .i64 0] 24 ∧ Below w.heap.size w wx)
  case first =>
    go_wp2_with (first
      | (go_at_call 12; go_must (refine (put_nil _ _ _ _ _ _ _ _).mono ?_; rintro e W3 ⟨rfl, hb3⟩; have hB3 := hB2.trans (hb3.mono hB2.size)))
      | (refine wpList_store_blk rfl 24 _ _ rfl W3.heap.size #[.int .u16 0, .int .i64 0] #[.int .u16 0, .int .i64 0] 24 rfl rfl (Blk.new W3 _ _) rfl (by kernel_rfl) (by kernel_rfl) w.heap.size w hB3.size (hB3.alloc hB3.size _) ?_; intro w5 z5 hb5 _))
    go_meet
    exact ⟨_, rfl, rfl, z5, hb5⟩
  case rest =>
  clear hB2
  obtain ⟨b, rfl, rfl, zK, hB2⟩ := hcut
  generalize wc = W3 at *
  go_upto_region 8 with fail
  go_cut [6, 7] (fun p x wx => ∃ b2, p = .pointer (some ⟨b2, 0, none⟩) ∧ x = .bool false ∧ Blk wx b #[.int .u16 0, .int .i64 0] 24 ∧ Blk wx b2 #[.int .u16 0, .int .i64 0, .string ⟨#[]⟩, .int .i64 0, .slice none 0 0, .int .i64 0, .int .i64 0] 34 ∧ Below w.heap.size w wx)
  case first =>
    go_wp2_with (first
      | (go_at_call 13; go_must (refine (get_nil _ _ _).mono ?_; rintro e W4 ⟨rfl, hb3⟩; have hB3 := hB2.trans (hb3.mono hB2.size); have zK4 := zK.below zK.lt hb3))
      | (refine wpList_store_blk rfl 34 _ _ rfl W4.heap.size #[.int .u16 0, .int .i64 0, .string ⟨#[]⟩, .int .i64 0, .slice none 0 0, .int .i64 0, .int .i64 0] #[.int .u16 0, .int .i64 0, .string ⟨#[]⟩, .int .i64 0, .slice none 0 0, .int .i64 0, .int .i64 0] 34 rfl rfl (Blk.new W4 _ _) rfl (by kernel_rfl) (by kernel_rfl) w.heap.size w hB3.size (hB3.alloc hB3.size _) ?_; intro w5 z5 hb5 hk))
    go_meet
    exact ⟨_, rfl, rfl, hk _ _ _ (by have := zK4.lt; omega) (zK4.old _), z5, hb5⟩
  case rest =>
  clear zK hB2
  obtain ⟨b2, rfl, rfl, zK, zB, hB2⟩ := hcut
  generalize wc = W4 at *
  have nq := neqK0
  go_upto_region 11 with (first
    | (refine wpList_load_want (by rfl) 24 _ rfl b 0 rfl _ _ zK.range' Try.underlying24 rfl (by kernel_rfl) ?_; rw [Array.toArray_toList])
    | (refine wpList_load_want (by rfl) 34 _ rfl b2 0 rfl _ _ zB.range' Try.underlying34 rfl (by kernel_rfl) ?_; rw [Array.toArray_toList])
    | (go_at_call 18; go_must (refine (blocks_zero _).mono ?_; rintro e W5 ⟨rfl, hb5⟩; have hB5 := hB2.trans (hb5.mono hB2.size))))
  clear zK zB hB2 hb5 nq
  go_wp2_with (first
    | (go_at_call 19; go_must (refine (store_nil _).mono ?_; rintro e W6 ⟨rfl, hb6⟩; have hB6 := hB5.trans (hb6.mono hB5.size); clear hb6))
    | (go_at_call 20; go_must (refine (marked_nil _ _).mono ?_; rintro e W7 ⟨rfl, hb7⟩; have hB7 := hB6.trans (hb7.mono hB6.size); clear hb7))
    | (go_at_call 21; go_must (refine (flush_nil _).mono ?_; rintro e W8 ⟨rfl, hb8⟩; have hB8 := hB7.trans (hb8.mono hB7.size); clear hb8))
    | (go_at_call 15; go_must (refine (len_nil _).mono ?_; rintro e W9 ⟨rfl, hb9⟩; have hB9 := hB8.trans (hb9.mono hB8.size); clear hb9))
    | (go_at_call 16; go_must (refine (keys_nil _).mono ?_; rintro e Wa ⟨rfl, hba⟩; have hBa := hB9.trans (hba.mono hB9.size); clear hba)))
  go_ret
  exact ⟨rfl, hBa⟩
end Go.Proofs.Ytfmcnkodocbdiaa
