/-
  The law TimerApart returns true; conditions: the tables lie in their variables, the numbers fit their kinds.
-/
import Derived.Test.YtjacadiaafcckaaDoorTMix
import Derived.Test.YtjacadiaafcckaaDoorTAdv
set_option linter.unusedSimpArgs false
set_option linter.unusedVariables false
namespace Go.Proofs.YtjacadiaafcckaaDoor
open Go.RowKit Classical
theorem St.start2 (w : World) (t s : Ck) : St w [(w.heap.size, t), ((w.heap.size + 1), s)] ((w.alloc (.cells t.cells 24)).alloc (.cells s.cells 24)) :=
  ⟨fun p hp => by
    simp only [List.mem_cons, List.not_mem_nil, or_false] at hp
    rcases hp with rfl | rfl
    · exact (Blk.new w _ _).old _
    · have := Blk.new (w.alloc (.cells t.cells 24)) s.cells 24
      simpa using this, below_a2 _ _ _⟩
set_option maxHeartbeats 2000000 in
theorem law_apart_tn (t s : Ck) (n : Int) (w : World) (ot : t.Ok) (os : s.Ok) (T : Tabs w) (ht : t.valid = false) :
    Calls Tryd.prog 6 #[.agg t.cells, .agg s.cells, .int .i64 n] w fun e w' => e = .returned (.bool true) ∧ Below w.heap.size w w' := by
  have VT : Hid _ := fun W (hW : DTab W) => valid_any t W ot hW
  rw [ht] at VT
  have VS : Hid _ := fun W (hW : DTab W) => valid_any s W os hW
  
  have A7 : Hid (∀ W, Tabs W → Calls Tryd.prog 13 #[.agg #[.int .u16 0, .int .u16 0, .int .u16 0, .int .u8 0, .int .u8 0, .bool false, .bool false, .bool false, .bool false, .bool false, .int .u16 0, .int .u8 0, .int .u8 0], .int .i64 7] W fun e w' => e = .returned (.agg #[.int .u16 0, .int .u16 0, .int .u16 0, .int .u8 0, .int .u8 0, .bool false, .bool false, .bool false, .bool false, .bool false, .int .u16 7, .int .u8 0, .int .u8 0]) ∧ Below W.heap.size W w') := by
    intro W hW
    have h := adv_any zeroC 7 W zero_ok hW (by decide)
    rw [zero_7] at h
    exact h
  have fld : ∀ w, (Instr.field 24 (.agg #[.int .u16 0, .int .u16 0, .int .u16 0, .int .u8 0, .int .u8 0, .bool false, .bool false, .bool false, .bool false, .bool false, .int .u16 7, .int .u8 0, .int .u8 0]) 10).run Tryd.prog w = .ok (.int .u16 7) w := fun w => by kernel_rfl
  have eA := and_hf n
  have hA := hf_bd n
  generalize hf n = A at *
  go_enter Tryd.func6, Tryd.ntmps6
  go_upto_region 1 with fail
  have s0 : St w [(w.heap.size, t), ((w.heap.size + 1), s)] ((w.alloc (.cells t.cells 24)).alloc (.cells s.cells 24)) := St.start2 w t s
  generalize (w.alloc (.cells t.cells 24)).alloc (.cells s.cells 24) = W0 at *
  go_wp2_with (first
    | (refine wpList_load_blk rfl 24 _ rfl w.heap.size rfl (Ck.cells t) _ (s0.blk w.heap.size t (by simp)) Tryd.underlying24 rfl (infoC' _) ?_)
    | (refine wpList_load_want (by rfl) 24 _ rfl (w.heap.size + 1) rfl (Ck.cells s) _ (s0.blk (w.heap.size + 1) s (by simp)) Tryd.underlying24 rfl (infoC' _) ?_)
    | (go_at_call_of 15 (Value.agg #[.int .u16 0, .int .u16 0, .int .u16 0, .int .u8 0, .int .u8 0, .bool false, .bool false, .bool false, .bool false, .bool false, .int .u16 0, .int .u8 0, .int .u8 0]); refine (vzero _ (T.d.on s0.2)).mono ?_; rintro e Wx ⟨rfl, hbx⟩; replace s0 := s0.on hbx; clear hbx)
    | (go_at_call_of 15 (Value.agg t.cells); refine (VT.out _ (T.d.on s0.2)).mono ?_; rintro e Wx ⟨rfl, hbx⟩; replace s0 := s0.on hbx; clear hbx)
    | (go_at_call_of 15 (Value.agg s.cells); refine (VS.out _ (T.d.on s0.2)).mono ?_; rintro e Wx ⟨rfl, hbx⟩; replace s0 := s0.on hbx; clear hbx)
    | (go_at_call_of 13 (Value.agg #[.int .u16 0, .int .u16 0, .int .u16 0, .int .u8 0, .int .u8 0, .bool false, .bool false, .bool false, .bool false, .bool false, .int .u16 0, .int .u8 0, .int .u8 0]); refine (A7.out _ (T.on s0.2)).mono ?_; rintro e Wx ⟨rfl, hbx⟩; replace s0 := s0.on hbx; clear hbx))
  go_ret
  exact ⟨rfl, s0.2⟩
set_option maxHeartbeats 2000000 in
theorem law_apart_sn (t s : Ck) (n : Int) (w : World) (ot : t.Ok) (os : s.Ok) (T : Tabs w) (ht : t.valid = true) (hs : s.valid = false) :
    Calls Tryd.prog 6 #[.agg t.cells, .agg s.cells, .int .i64 n] w fun e w' => e = .returned (.bool true) ∧ Below w.heap.size w w' := by
  have VT : Hid _ := fun W (hW : DTab W) => valid_any t W ot hW
  rw [ht] at VT
  have VS : Hid _ := fun W (hW : DTab W) => valid_any s W os hW
  rw [hs] at VS
  have A7 : Hid (∀ W, Tabs W → Calls Tryd.prog 13 #[.agg #[.int .u16 0, .int .u16 0, .int .u16 0, .int .u8 0, .int .u8 0, .bool false, .bool false, .bool false, .bool false, .bool false, .int .u16 0, .int .u8 0, .int .u8 0], .int .i64 7] W fun e w' => e = .returned (.agg #[.int .u16 0, .int .u16 0, .int .u16 0, .int .u8 0, .int .u8 0, .bool false, .bool false, .bool false, .bool false, .bool false, .int .u16 7, .int .u8 0, .int .u8 0]) ∧ Below W.heap.size W w') := by
    intro W hW
    have h := adv_any zeroC 7 W zero_ok hW (by decide)
    rw [zero_7] at h
    exact h
  have fld : ∀ w, (Instr.field 24 (.agg #[.int .u16 0, .int .u16 0, .int .u16 0, .int .u8 0, .int .u8 0, .bool false, .bool false, .bool false, .bool false, .bool false, .int .u16 7, .int .u8 0, .int .u8 0]) 10).run Tryd.prog w = .ok (.int .u16 7) w := fun w => by kernel_rfl
  have eA := and_hf n
  have hA := hf_bd n
  generalize hf n = A at *
  go_enter Tryd.func6, Tryd.ntmps6
  go_upto_region 1 with fail
  have s0 : St w [(w.heap.size, t), ((w.heap.size + 1), s)] ((w.alloc (.cells t.cells 24)).alloc (.cells s.cells 24)) := St.start2 w t s
  generalize (w.alloc (.cells t.cells 24)).alloc (.cells s.cells 24) = W0 at *
  go_wp2_with (first
    | (refine wpList_load_blk rfl 24 _ rfl w.heap.size rfl (Ck.cells t) _ (s0.blk w.heap.size t (by simp)) Tryd.underlying24 rfl (infoC' _) ?_)
    | (refine wpList_load_want (by rfl) 24 _ rfl (w.heap.size + 1) rfl (Ck.cells s) _ (s0.blk (w.heap.size + 1) s (by simp)) Tryd.underlying24 rfl (infoC' _) ?_)
    | (go_at_call_of 15 (Value.agg #[.int .u16 0, .int .u16 0, .int .u16 0, .int .u8 0, .int .u8 0, .bool false, .bool false, .bool false, .bool false, .bool false, .int .u16 0, .int .u8 0, .int .u8 0]); refine (vzero _ (T.d.on s0.2)).mono ?_; rintro e Wx ⟨rfl, hbx⟩; replace s0 := s0.on hbx; clear hbx)
    | (go_at_call_of 15 (Value.agg t.cells); refine (VT.out _ (T.d.on s0.2)).mono ?_; rintro e Wx ⟨rfl, hbx⟩; replace s0 := s0.on hbx; clear hbx)
    | (go_at_call_of 15 (Value.agg s.cells); refine (VS.out _ (T.d.on s0.2)).mono ?_; rintro e Wx ⟨rfl, hbx⟩; replace s0 := s0.on hbx; clear hbx)
    | (go_at_call_of 13 (Value.agg #[.int .u16 0, .int .u16 0, .int .u16 0, .int .u8 0, .int .u8 0, .bool false, .bool false, .bool false, .bool false, .bool false, .int .u16 0, .int .u8 0, .int .u8 0]); refine (A7.out _ (T.on s0.2)).mono ?_; rintro e Wx ⟨rfl, hbx⟩; replace s0 := s0.on hbx; clear hbx))
  go_ret
  exact ⟨rfl, s0.2⟩
set_option maxHeartbeats 2000000 in
theorem law_apart_yy (t s : Ck) (n : Int) (w : World) (ot : t.Ok) (os : s.Ok) (T : Tabs w) (ht : t.valid = true) (hs : s.valid = true) :
    Calls Tryd.prog 6 #[.agg t.cells, .agg s.cells, .int .i64 n] w fun e w' => e = .returned (.bool true) ∧ Below w.heap.size w w' := by
  have VT : Hid _ := fun W (hW : DTab W) => valid_any t W ot hW
  rw [ht] at VT
  have VS : Hid _ := fun W (hW : DTab W) => valid_any s W os hW
  rw [hs] at VS
  have A7 : Hid (∀ W, Tabs W → Calls Tryd.prog 13 #[.agg #[.int .u16 0, .int .u16 0, .int .u16 0, .int .u8 0, .int .u8 0, .bool false, .bool false, .bool false, .bool false, .bool false, .int .u16 0, .int .u8 0, .int .u8 0], .int .i64 7] W fun e w' => e = .returned (.agg #[.int .u16 0, .int .u16 0, .int .u16 0, .int .u8 0, .int .u8 0, .bool false, .bool false, .bool false, .bool false, .bool false, .int .u16 7, .int .u8 0, .int .u8 0]) ∧ Below W.heap.size W w') := by
    intro W hW
    have h := adv_any zeroC 7 W zero_ok hW (by decide)
    rw [zero_7] at h
    exact h
  have fld : ∀ w, (Instr.field 24 (.agg #[.int .u16 0, .int .u16 0, .int .u16 0, .int .u8 0, .int .u8 0, .bool false, .bool false, .bool false, .bool false, .bool false, .int .u16 7, .int .u8 0, .int .u8 0]) 10).run Tryd.prog w = .ok (.int .u16 7) w := fun w => by kernel_rfl
  have eA := and_hf n
  have hA := hf_bd n
  generalize hf n = A at *
  go_enter Tryd.func6, Tryd.ntmps6
  go_upto_region 1 with fail
  have s0 : St w [(w.heap.size, t), ((w.heap.size + 1), s)] ((w.alloc (.cells t.cells 24)).alloc (.cells s.cells 24)) := St.start2 w t s
  generalize (w.alloc (.cells t.cells 24)).alloc (.cells s.cells 24) = W0 at *
  go_wp2_with (first
    | (refine wpList_load_blk rfl 24 _ rfl w.heap.size rfl (Ck.cells t) _ (s0.blk w.heap.size t (by simp)) Tryd.underlying24 rfl (infoC' _) ?_)
    | (refine wpList_load_want (by rfl) 24 _ rfl (w.heap.size + 1) rfl (Ck.cells s) _ (s0.blk (w.heap.size + 1) s (by simp)) Tryd.underlying24 rfl (infoC' _) ?_)
    | (go_at_call_of 15 (Value.agg #[.int .u16 0, .int .u16 0, .int .u16 0, .int .u8 0, .int .u8 0, .bool false, .bool false, .bool false, .bool false, .bool false, .int .u16 0, .int .u8 0, .int .u8 0]); refine (vzero _ (T.d.on s0.2)).mono ?_; rintro e Wx ⟨rfl, hbx⟩; replace s0 := s0.on hbx; clear hbx)
    | (go_at_call_of 15 (Value.agg t.cells); refine (VT.out _ (T.d.on s0.2)).mono ?_; rintro e Wx ⟨rfl, hbx⟩; replace s0 := s0.on hbx; clear hbx)
    | (go_at_call_of 15 (Value.agg s.cells); refine (VS.out _ (T.d.on s0.2)).mono ?_; rintro e Wx ⟨rfl, hbx⟩; replace s0 := s0.on hbx; clear hbx)
    | (go_at_call_of 13 (Value.agg #[.int .u16 0, .int .u16 0, .int .u16 0, .int .u8 0, .int .u8 0, .bool false, .bool false, .bool false, .bool false, .bool false, .int .u16 0, .int .u8 0, .int .u8 0]); refine (A7.out _ (T.on s0.2)).mono ?_; rintro e Wx ⟨rfl, hbx⟩; replace s0 := s0.on hbx; clear hbx))
  clear VT VS A7 eA fld
  refine wp_region_held (S := St w [(w.heap.size, t), ((w.heap.size + 1), s)]) (by kernel_rfl) ?_
  refine takeH (i := 0) (v := .agg (Ck.cells t).toList.toArray) ⟨#[.agg t.cells, .agg s.cells, .int .i64 A, .pointer (some ⟨w.heap.size, 0, none⟩), .pointer (some ⟨(w.heap.size + 1), 0, none⟩), undef, .bool false, .agg #[.int .u16 0, .int .u16 0, .int .u16 0, .int .u8 0, .int .u8 0, .bool false, .bool false, .bool false, .bool false, .bool false, .int .u16 0, .int .u8 0, .int .u8 0], .bool true, .bool false, .bool false, .agg #[.int .u16 0, .int .u16 0, .int .u16 0, .int .u8 0, .int .u8 0, .bool false, .bool false, .bool false, .bool false, .bool false, .int .u16 0, .int .u8 0, .int .u8 0], .agg #[.int .u16 0, .int .u16 0, .int .u16 0, .int .u8 0, .int .u8 0, .bool false, .bool false, .bool false, .bool false, .bool false, .int .u16 7, .int .u8 0, .int .u8 0], .int .u16 7, .bool false, .bool false, .agg t.cells, .bool true, .bool false, .bool false, .agg s.cells, .bool true, .bool false, .bool false, .int .i64 n, .int .i64 A, .agg (Ck.cells t), undef, undef, undef, undef, undef, undef, undef, undef, undef, undef, undef, undef], []⟩ rfl (by kernel_rfl) (by kernel_rfl) (by kernel_rfl) (fun _ _ _ h => h) (yieldsIf_load_mid (by kernel_rfl) 24 (.tmp 3) rfl w.heap.size 0 (by kernel_rfl) (Ck.cells t).toList _ (fun v hv => Blk.range' (hv.blk w.heap.size t (by simp))) Tryd.underlying24 rfl (by rw [Array.length_toList]; exact infoC' t)) s0.drew (by kernel_rfl) ?_
  refine takeH (i := 1) (v := .agg (Ck.cells s).toList.toArray) ⟨#[.agg t.cells, .agg s.cells, .int .i64 A, .pointer (some ⟨w.heap.size, 0, none⟩), .pointer (some ⟨(w.heap.size + 1), 0, none⟩), undef, .bool false, .agg #[.int .u16 0, .int .u16 0, .int .u16 0, .int .u8 0, .int .u8 0, .bool false, .bool false, .bool false, .bool false, .bool false, .int .u16 0, .int .u8 0, .int .u8 0], .bool true, .bool false, .bool false, .agg #[.int .u16 0, .int .u16 0, .int .u16 0, .int .u8 0, .int .u8 0, .bool false, .bool false, .bool false, .bool false, .bool false, .int .u16 0, .int .u8 0, .int .u8 0], .agg #[.int .u16 0, .int .u16 0, .int .u16 0, .int .u8 0, .int .u8 0, .bool false, .bool false, .bool false, .bool false, .bool false, .int .u16 7, .int .u8 0, .int .u8 0], .int .u16 7, .bool false, .bool false, .agg t.cells, .bool true, .bool false, .bool false, .agg s.cells, .bool true, .bool false, .bool false, .int .i64 n, .int .i64 A, .agg (Ck.cells t), .agg (Ck.cells s), undef, undef, undef, undef, undef, undef, undef, undef, undef, undef, undef], []⟩ rfl (by kernel_rfl) (by kernel_rfl) (by kernel_rfl) (fun _ _ _ h => h) (yieldsIf_load_mid (by kernel_rfl) 24 (.tmp 4) rfl (w.heap.size + 1) 0 (by kernel_rfl) (Ck.cells s).toList _ (fun v hv => Blk.range' (hv.blk (w.heap.size + 1) s (by simp))) Tryd.underlying24 rfl (by rw [Array.length_toList]; exact infoC' s)) s0.drew (by kernel_rfl) ?_
  refine takeH (i := 3) (v := .int .i64 A) ⟨#[.agg t.cells, .agg s.cells, .int .i64 A, .pointer (some ⟨w.heap.size, 0, none⟩), .pointer (some ⟨(w.heap.size + 1), 0, none⟩), undef, .bool false, .agg #[.int .u16 0, .int .u16 0, .int .u16 0, .int .u8 0, .int .u8 0, .bool false, .bool false, .bool false, .bool false, .bool false, .int .u16 0, .int .u8 0, .int .u8 0], .bool true, .bool false, .bool false, .agg #[.int .u16 0, .int .u16 0, .int .u16 0, .int .u8 0, .int .u8 0, .bool false, .bool false, .bool false, .bool false, .bool false, .int .u16 0, .int .u8 0, .int .u8 0], .agg #[.int .u16 0, .int .u16 0, .int .u16 0, .int .u8 0, .int .u8 0, .bool false, .bool false, .bool false, .bool false, .bool false, .int .u16 7, .int .u8 0, .int .u8 0], .int .u16 7, .bool false, .bool false, .agg t.cells, .bool true, .bool false, .bool false, .agg s.cells, .bool true, .bool false, .bool false, .int .i64 n, .int .i64 A, .agg (Ck.cells t), .agg (Ck.cells s), undef, .int .i64 A, undef, undef, undef, undef, undef, undef, undef, undef, undef], []⟩ rfl (by kernel_rfl) (by kernel_rfl) (by kernel_rfl) (fun _ _ _ h => h) (.inl ⟨by kernel_rfl, fun _ _ => by kernel_rfl⟩) s0.drew (by kernel_rfl) ?_
  refine takeH (i := 5) (v := .agg (Ck.cells t).toList.toArray) ⟨#[.agg t.cells, .agg s.cells, .int .i64 A, .pointer (some ⟨w.heap.size, 0, none⟩), .pointer (some ⟨(w.heap.size + 1), 0, none⟩), undef, .bool false, .agg #[.int .u16 0, .int .u16 0, .int .u16 0, .int .u8 0, .int .u8 0, .bool false, .bool false, .bool false, .bool false, .bool false, .int .u16 0, .int .u8 0, .int .u8 0], .bool true, .bool false, .bool false, .agg #[.int .u16 0, .int .u16 0, .int .u16 0, .int .u8 0, .int .u8 0, .bool false, .bool false, .bool false, .bool false, .bool false, .int .u16 0, .int .u8 0, .int .u8 0], .agg #[.int .u16 0, .int .u16 0, .int .u16 0, .int .u8 0, .int .u8 0, .bool false, .bool false, .bool false, .bool false, .bool false, .int .u16 7, .int .u8 0, .int .u8 0], .int .u16 7, .bool false, .bool false, .agg t.cells, .bool true, .bool false, .bool false, .agg s.cells, .bool true, .bool false, .bool false, .int .i64 n, .int .i64 A, .agg (Ck.cells t), .agg (Ck.cells s), undef, .int .i64 A, undef, .agg (Ck.cells t), undef, undef, undef, undef, undef, undef, undef], []⟩ rfl (by kernel_rfl) (by kernel_rfl) (by kernel_rfl) (fun _ _ _ h => h) (yieldsIf_load_mid (by kernel_rfl) 24 (.tmp 3) rfl w.heap.size 0 (by kernel_rfl) (Ck.cells t).toList _ (fun v hv => Blk.range' (hv.blk w.heap.size t (by simp))) Tryd.underlying24 rfl (by rw [Array.length_toList]; exact infoC' t)) s0.drew (by kernel_rfl) ?_
  refine takeH (i := 6) (v := .int .i64 A) ⟨#[.agg t.cells, .agg s.cells, .int .i64 A, .pointer (some ⟨w.heap.size, 0, none⟩), .pointer (some ⟨(w.heap.size + 1), 0, none⟩), undef, .bool false, .agg #[.int .u16 0, .int .u16 0, .int .u16 0, .int .u8 0, .int .u8 0, .bool false, .bool false, .bool false, .bool false, .bool false, .int .u16 0, .int .u8 0, .int .u8 0], .bool true, .bool false, .bool false, .agg #[.int .u16 0, .int .u16 0, .int .u16 0, .int .u8 0, .int .u8 0, .bool false, .bool false, .bool false, .bool false, .bool false, .int .u16 0, .int .u8 0, .int .u8 0], .agg #[.int .u16 0, .int .u16 0, .int .u16 0, .int .u8 0, .int .u8 0, .bool false, .bool false, .bool false, .bool false, .bool false, .int .u16 7, .int .u8 0, .int .u8 0], .int .u16 7, .bool false, .bool false, .agg t.cells, .bool true, .bool false, .bool false, .agg s.cells, .bool true, .bool false, .bool false, .int .i64 n, .int .i64 A, .agg (Ck.cells t), .agg (Ck.cells s), undef, .int .i64 A, undef, .agg (Ck.cells t), .int .i64 A, undef, undef, undef, undef, undef, undef], []⟩ rfl (by kernel_rfl) (by kernel_rfl) (by kernel_rfl) (fun _ _ _ h => h) (.inl ⟨by kernel_rfl, fun _ _ => by kernel_rfl⟩) s0.drew (by kernel_rfl) ?_
  refine takeH (i := 8) (v := .agg (Ck.cells s).toList.toArray) ⟨#[.agg t.cells, .agg s.cells, .int .i64 A, .pointer (some ⟨w.heap.size, 0, none⟩), .pointer (some ⟨(w.heap.size + 1), 0, none⟩), undef, .bool false, .agg #[.int .u16 0, .int .u16 0, .int .u16 0, .int .u8 0, .int .u8 0, .bool false, .bool false, .bool false, .bool false, .bool false, .int .u16 0, .int .u8 0, .int .u8 0], .bool true, .bool false, .bool false, .agg #[.int .u16 0, .int .u16 0, .int .u16 0, .int .u8 0, .int .u8 0, .bool false, .bool false, .bool false, .bool false, .bool false, .int .u16 0, .int .u8 0, .int .u8 0], .agg #[.int .u16 0, .int .u16 0, .int .u16 0, .int .u8 0, .int .u8 0, .bool false, .bool false, .bool false, .bool false, .bool false, .int .u16 7, .int .u8 0, .int .u8 0], .int .u16 7, .bool false, .bool false, .agg t.cells, .bool true, .bool false, .bool false, .agg s.cells, .bool true, .bool false, .bool false, .int .i64 n, .int .i64 A, .agg (Ck.cells t), .agg (Ck.cells s), undef, .int .i64 A, undef, .agg (Ck.cells t), .int .i64 A, undef, .agg (Ck.cells s), undef, undef, undef, undef], []⟩ rfl (by kernel_rfl) (by kernel_rfl) (by kernel_rfl) (fun _ _ _ h => h) (yieldsIf_load_mid (by kernel_rfl) 24 (.tmp 4) rfl (w.heap.size + 1) 0 (by kernel_rfl) (Ck.cells s).toList _ (fun v hv => Blk.range' (hv.blk (w.heap.size + 1) s (by simp))) Tryd.underlying24 rfl (by rw [Array.length_toList]; exact infoC' s)) s0.drew (by kernel_rfl) ?_
  refine takeH (i := 9) (v := .int .i64 A) ⟨#[.agg t.cells, .agg s.cells, .int .i64 A, .pointer (some ⟨w.heap.size, 0, none⟩), .pointer (some ⟨(w.heap.size + 1), 0, none⟩), undef, .bool false, .agg #[.int .u16 0, .int .u16 0, .int .u16 0, .int .u8 0, .int .u8 0, .bool false, .bool false, .bool false, .bool false, .bool false, .int .u16 0, .int .u8 0, .int .u8 0], .bool true, .bool false, .bool false, .agg #[.int .u16 0, .int .u16 0, .int .u16 0, .int .u8 0, .int .u8 0, .bool false, .bool false, .bool false, .bool false, .bool false, .int .u16 0, .int .u8 0, .int .u8 0], .agg #[.int .u16 0, .int .u16 0, .int .u16 0, .int .u8 0, .int .u8 0, .bool false, .bool false, .bool false, .bool false, .bool false, .int .u16 7, .int .u8 0, .int .u8 0], .int .u16 7, .bool false, .bool false, .agg t.cells, .bool true, .bool false, .bool false, .agg s.cells, .bool true, .bool false, .bool false, .int .i64 n, .int .i64 A, .agg (Ck.cells t), .agg (Ck.cells s), undef, .int .i64 A, undef, .agg (Ck.cells t), .int .i64 A, undef, .agg (Ck.cells s), .int .i64 A, undef, undef, undef], []⟩ rfl (by kernel_rfl) (by kernel_rfl) (by kernel_rfl) (fun _ _ _ h => h) (.inl ⟨by kernel_rfl, fun _ _ => by kernel_rfl⟩) s0.drew (by kernel_rfl) ?_
  refine wpAnyH_all (rs := [2]) (by kernel_rfl) (by simp) ?_
  intro i hi
  obtain rfl : i = 2 := by simpa using hi
  refine wpOp_contract (f := 16) rfl (by kernel_rfl) (by kernel_rfl) (mix_any t s _) ⟨#[.agg t.cells, .agg s.cells, .int .i64 A, .pointer (some ⟨w.heap.size, 0, none⟩), .pointer (some ⟨(w.heap.size + 1), 0, none⟩), undef, .bool false, .agg #[.int .u16 0, .int .u16 0, .int .u16 0, .int .u8 0, .int .u8 0, .bool false, .bool false, .bool false, .bool false, .bool false, .int .u16 0, .int .u8 0, .int .u8 0], .bool true, .bool false, .bool false, .agg #[.int .u16 0, .int .u16 0, .int .u16 0, .int .u8 0, .int .u8 0, .bool false, .bool false, .bool false, .bool false, .bool false, .int .u16 0, .int .u8 0, .int .u8 0], .agg #[.int .u16 0, .int .u16 0, .int .u16 0, .int .u8 0, .int .u8 0, .bool false, .bool false, .bool false, .bool false, .bool false, .int .u16 7, .int .u8 0, .int .u8 0], .int .u16 7, .bool false, .bool false, .agg t.cells, .bool true, .bool false, .bool false, .agg s.cells, .bool true, .bool false, .bool false, .int .i64 n, .int .i64 A, .agg (Ck.cells t), .agg (Ck.cells s), .agg (mix t s).cells, .int .i64 A, undef, .agg (Ck.cells t), .int .i64 A, undef, .agg (Ck.cells s), .int .i64 A, undef, undef, undef], []⟩ (by kernel_rfl) ?_
  intro V1 hbq
  have s1 := s0.drew.on hbq
  clear hbq
  clear hi
  refine ⟨s1, ?_⟩
  refine wpAnyH_all (rs := [4]) (by kernel_rfl) (by simp) ?_
  intro i hi
  obtain rfl : i = 4 := by simpa using hi
  refine wpOp_contract (f := 13) rfl (by kernel_rfl) (by kernel_rfl) (adv_any (mix t s) A _ (mix_ok ot os) (T.on s1.2) (by omega)) ⟨#[.agg t.cells, .agg s.cells, .int .i64 A, .pointer (some ⟨w.heap.size, 0, none⟩), .pointer (some ⟨(w.heap.size + 1), 0, none⟩), undef, .bool false, .agg #[.int .u16 0, .int .u16 0, .int .u16 0, .int .u8 0, .int .u8 0, .bool false, .bool false, .bool false, .bool false, .bool false, .int .u16 0, .int .u8 0, .int .u8 0], .bool true, .bool false, .bool false, .agg #[.int .u16 0, .int .u16 0, .int .u16 0, .int .u8 0, .int .u8 0, .bool false, .bool false, .bool false, .bool false, .bool false, .int .u16 0, .int .u8 0, .int .u8 0], .agg #[.int .u16 0, .int .u16 0, .int .u16 0, .int .u8 0, .int .u8 0, .bool false, .bool false, .bool false, .bool false, .bool false, .int .u16 7, .int .u8 0, .int .u8 0], .int .u16 7, .bool false, .bool false, .agg t.cells, .bool true, .bool false, .bool false, .agg s.cells, .bool true, .bool false, .bool false, .int .i64 n, .int .i64 A, .agg (Ck.cells t), .agg (Ck.cells s), .agg (mix t s).cells, .int .i64 A, .agg ((mix t s).adv A).cells, .agg (Ck.cells t), .int .i64 A, undef, .agg (Ck.cells s), .int .i64 A, undef, undef, undef], []⟩ (by kernel_rfl) ?_
  intro V2 hbq
  have s2 := s1.on hbq
  clear hbq
  clear hi
  refine ⟨s2, ?_⟩
  refine wpAnyH_all (rs := [7]) (by kernel_rfl) (by simp) ?_
  intro i hi
  obtain rfl : i = 7 := by simpa using hi
  refine wpOp_contract (f := 13) rfl (by kernel_rfl) (by kernel_rfl) (adv_any t A _ ot (T.on s2.2) (by omega)) ⟨#[.agg t.cells, .agg s.cells, .int .i64 A, .pointer (some ⟨w.heap.size, 0, none⟩), .pointer (some ⟨(w.heap.size + 1), 0, none⟩), undef, .bool false, .agg #[.int .u16 0, .int .u16 0, .int .u16 0, .int .u8 0, .int .u8 0, .bool false, .bool false, .bool false, .bool false, .bool false, .int .u16 0, .int .u8 0, .int .u8 0], .bool true, .bool false, .bool false, .agg #[.int .u16 0, .int .u16 0, .int .u16 0, .int .u8 0, .int .u8 0, .bool false, .bool false, .bool false, .bool false, .bool false, .int .u16 0, .int .u8 0, .int .u8 0], .agg #[.int .u16 0, .int .u16 0, .int .u16 0, .int .u8 0, .int .u8 0, .bool false, .bool false, .bool false, .bool false, .bool false, .int .u16 7, .int .u8 0, .int .u8 0], .int .u16 7, .bool false, .bool false, .agg t.cells, .bool true, .bool false, .bool false, .agg s.cells, .bool true, .bool false, .bool false, .int .i64 n, .int .i64 A, .agg (Ck.cells t), .agg (Ck.cells s), .agg (mix t s).cells, .int .i64 A, .agg ((mix t s).adv A).cells, .agg (Ck.cells t), .int .i64 A, .agg (t.adv A).cells, .agg (Ck.cells s), .int .i64 A, undef, undef, undef], []⟩ (by kernel_rfl) ?_
  intro V3 hbq
  have s3 := s2.on hbq
  clear hbq
  clear hi
  refine ⟨s3, ?_⟩
  refine wpAnyH_all (rs := [10]) (by kernel_rfl) (by simp) ?_
  intro i hi
  obtain rfl : i = 10 := by simpa using hi
  refine wpOp_contract (f := 13) rfl (by kernel_rfl) (by kernel_rfl) (adv_any s A _ os (T.on s3.2) (by omega)) ⟨#[.agg t.cells, .agg s.cells, .int .i64 A, .pointer (some ⟨w.heap.size, 0, none⟩), .pointer (some ⟨(w.heap.size + 1), 0, none⟩), undef, .bool false, .agg #[.int .u16 0, .int .u16 0, .int .u16 0, .int .u8 0, .int .u8 0, .bool false, .bool false, .bool false, .bool false, .bool false, .int .u16 0, .int .u8 0, .int .u8 0], .bool true, .bool false, .bool false, .agg #[.int .u16 0, .int .u16 0, .int .u16 0, .int .u8 0, .int .u8 0, .bool false, .bool false, .bool false, .bool false, .bool false, .int .u16 0, .int .u8 0, .int .u8 0], .agg #[.int .u16 0, .int .u16 0, .int .u16 0, .int .u8 0, .int .u8 0, .bool false, .bool false, .bool false, .bool false, .bool false, .int .u16 7, .int .u8 0, .int .u8 0], .int .u16 7, .bool false, .bool false, .agg t.cells, .bool true, .bool false, .bool false, .agg s.cells, .bool true, .bool false, .bool false, .int .i64 n, .int .i64 A, .agg (Ck.cells t), .agg (Ck.cells s), .agg (mix t s).cells, .int .i64 A, .agg ((mix t s).adv A).cells, .agg (Ck.cells t), .int .i64 A, .agg (t.adv A).cells, .agg (Ck.cells s), .int .i64 A, .agg (s.adv A).cells, undef, undef], []⟩ (by kernel_rfl) ?_
  intro V4 hbq
  have s4 := s3.on hbq
  clear hbq
  clear hi
  refine ⟨s4, ?_⟩
  refine wpAnyH_all (rs := [11]) (by kernel_rfl) (by simp) ?_
  intro i hi
  obtain rfl : i = 11 := by simpa using hi
  refine wpOp_contract (f := 16) rfl (by kernel_rfl) (by kernel_rfl) (mix_any (t.adv A) (s.adv A) _) ⟨#[.agg t.cells, .agg s.cells, .int .i64 A, .pointer (some ⟨w.heap.size, 0, none⟩), .pointer (some ⟨(w.heap.size + 1), 0, none⟩), undef, .bool false, .agg #[.int .u16 0, .int .u16 0, .int .u16 0, .int .u8 0, .int .u8 0, .bool false, .bool false, .bool false, .bool false, .bool false, .int .u16 0, .int .u8 0, .int .u8 0], .bool true, .bool false, .bool false, .agg #[.int .u16 0, .int .u16 0, .int .u16 0, .int .u8 0, .int .u8 0, .bool false, .bool false, .bool false, .bool false, .bool false, .int .u16 0, .int .u8 0, .int .u8 0], .agg #[.int .u16 0, .int .u16 0, .int .u16 0, .int .u8 0, .int .u8 0, .bool false, .bool false, .bool false, .bool false, .bool false, .int .u16 7, .int .u8 0, .int .u8 0], .int .u16 7, .bool false, .bool false, .agg t.cells, .bool true, .bool false, .bool false, .agg s.cells, .bool true, .bool false, .bool false, .int .i64 n, .int .i64 A, .agg (Ck.cells t), .agg (Ck.cells s), .agg (mix t s).cells, .int .i64 A, .agg ((mix t s).adv A).cells, .agg (Ck.cells t), .int .i64 A, .agg (t.adv A).cells, .agg (Ck.cells s), .int .i64 A, .agg (s.adv A).cells, .agg (mix (t.adv A) (s.adv A)).cells, undef], []⟩ (by kernel_rfl) ?_
  intro V5 hbq
  have s5 := s4.on hbq
  clear hbq
  clear hi
  refine ⟨s5, ?_⟩
  refine takeH (i := 12) (v := .bool true) ⟨#[.agg t.cells, .agg s.cells, .int .i64 A, .pointer (some ⟨w.heap.size, 0, none⟩), .pointer (some ⟨(w.heap.size + 1), 0, none⟩), undef, .bool false, .agg #[.int .u16 0, .int .u16 0, .int .u16 0, .int .u8 0, .int .u8 0, .bool false, .bool false, .bool false, .bool false, .bool false, .int .u16 0, .int .u8 0, .int .u8 0], .bool true, .bool false, .bool false, .agg #[.int .u16 0, .int .u16 0, .int .u16 0, .int .u8 0, .int .u8 0, .bool false, .bool false, .bool false, .bool false, .bool false, .int .u16 0, .int .u8 0, .int .u8 0], .agg #[.int .u16 0, .int .u16 0, .int .u16 0, .int .u8 0, .int .u8 0, .bool false, .bool false, .bool false, .bool false, .bool false, .int .u16 7, .int .u8 0, .int .u8 0], .int .u16 7, .bool false, .bool false, .agg t.cells, .bool true, .bool false, .bool false, .agg s.cells, .bool true, .bool false, .bool false, .int .i64 n, .int .i64 A, .agg (Ck.cells t), .agg (Ck.cells s), .agg (mix t s).cells, .int .i64 A, .agg ((mix t s).adv A).cells, .agg (Ck.cells t), .int .i64 A, .agg (t.adv A).cells, .agg (Ck.cells s), .int .i64 A, .agg (s.adv A).cells, .agg (mix (t.adv A) (s.adv A)).cells, .bool true], []⟩ rfl (by kernel_rfl) (by kernel_rfl) (by kernel_rfl) (fun _ _ _ h => h) (.inl ⟨by kernel_rfl, fun v _ => exec_bin rfl (by kernel_rfl) (by kernel_rfl) (eql_yes v (mix_adv ot os ht hs A hA.1))⟩) s5 (by kernel_rfl) ?_
  refine takeH (i := 13) (v := .bool true) ⟨#[.agg t.cells, .agg s.cells, .int .i64 A, .pointer (some ⟨w.heap.size, 0, none⟩), .pointer (some ⟨(w.heap.size + 1), 0, none⟩), undef, .bool true, .agg #[.int .u16 0, .int .u16 0, .int .u16 0, .int .u8 0, .int .u8 0, .bool false, .bool false, .bool false, .bool false, .bool false, .int .u16 0, .int .u8 0, .int .u8 0], .bool true, .bool false, .bool false, .agg #[.int .u16 0, .int .u16 0, .int .u16 0, .int .u8 0, .int .u8 0, .bool false, .bool false, .bool false, .bool false, .bool false, .int .u16 0, .int .u8 0, .int .u8 0], .agg #[.int .u16 0, .int .u16 0, .int .u16 0, .int .u8 0, .int .u8 0, .bool false, .bool false, .bool false, .bool false, .bool false, .int .u16 7, .int .u8 0, .int .u8 0], .int .u16 7, .bool false, .bool false, .agg t.cells, .bool true, .bool false, .bool false, .agg s.cells, .bool true, .bool false, .bool false, .int .i64 n, .int .i64 A, .agg (Ck.cells t), .agg (Ck.cells s), .agg (mix t s).cells, .int .i64 A, .agg ((mix t s).adv A).cells, .agg (Ck.cells t), .int .i64 A, .agg (t.adv A).cells, .agg (Ck.cells s), .int .i64 A, .agg (s.adv A).cells, .agg (mix (t.adv A) (s.adv A)).cells, .bool true], []⟩ rfl (by kernel_rfl) (by kernel_rfl) (by kernel_rfl) (fun _ _ _ h => h) (.inl ⟨by kernel_rfl, fun _ _ => by kernel_rfl⟩) s5 (by kernel_rfl) ?_
  refine wpAnyH_done (by kernel_rfl) ?_ _
  go_wp2
  go_ret
  exact ⟨rfl, s5.2⟩
theorem law_timerApart (t s : Ck) (n : Int) (w : World) (ot : t.Ok) (os : s.Ok) (T : Tabs w) :
    Calls Tryd.prog 6 #[.agg t.cells, .agg s.cells, .int .i64 n] w fun e w' => e = .returned (.bool true) ∧ Below w.heap.size w w' := by
  cases ht : t.valid
  · exact law_apart_tn t s n w ot os T ht
  cases hs : s.valid
  · exact law_apart_sn t s n w ot os T ht hs
  · exact law_apart_yy t s n w ot os T ht hs
end Go.Proofs.YtjacadiaafcckaaDoor
