/-
  The law TimerNexts returns true; conditions: the tables lie in their variables, the numbers fit their kinds.
-/
import Derived.Test.YtjacadiaafcckabDoorTNxt
import Derived.Test.YtjacadiaafcckabDoorTAdv
import Derived.Test.YtjacadiaafcckabDoorTWrite
set_option linter.unusedSimpArgs false
set_option linter.unusedVariables false
namespace Go.Proofs.YtjacadiaafcckabDoor
open Go.RowKit Classical
theorem exec_rem {ρ : Operand → Value} {o : Oper} {x y : Operand} {t z : TypeId} {a b : Int} {w : World} (ho : o.op = .binOp .rem t x y z) (hx : ρ x = .int .i64 a) (hy : ρ y = .int .i64 b) (ht : Tryd.prog.underlying t = some (.int .i64))
    (a0 : 0 ≤ a) (a1 : a ≤ 9223372036854775807) (b0 : 0 < b) (b1 : b ≤ 9223372036854775807) : (execOp ρ o).run Tryd.prog w = .ok (.value (.int .i64 (a % b))) w := by
  obtain ⟨dst, o, ty, pos, after, guard⟩ := o
  simp only at ho
  subst ho
  rw [run_exec_binOp, hx, hy]
  have e : a.tmod b = a % b := Int.tmod_eq_emod_of_nonneg a0
  have hz : (b == 0) = false := by simpa using (show ¬ b = 0 by omega)
  have h0 := Int.emod_nonneg a (b := b) (by omega)
  have h1 := Int.emod_lt_of_pos a b0
  have hw := i64_in (a % b) (by omega)
  go_simp
  omega
theorem nz : zeroC.nxt = 29828 := by decide
theorem nw : (zeroC.wr 16407 192 0).nxt = 4611686018427387904 := by decide
theorem wz_ok : (zeroC.wr 16407 192 0).Ok := ⟨by decide, by decide, by decide, by decide, by decide, by decide, by decide, by decide⟩
set_option maxHeartbeats 4000000 in
theorem law_nexts_never (c : Ck) (k : Int) (w : World) (o : c.Ok) (T : Tabs w) (h : c.nxt = 4611686018427387904) :
    Calls Tryd.prog 4 #[.agg c.cells, .int .i64 k] w fun e w' => e = .returned (.bool true) ∧ Below w.heap.size w w' := by
  obtain ⟨hi, hn⟩ := nxt_never o h
  have NX : Hid _ := fun W (hW : Tabs W) => next_any c W o hW
  rw [h] at NX
  have IQ : Hid _ := fun W (hW : DTab W) => irq_any c W o hW
  rw [hi] at IQ
  have AD : Hid _ := fun W (hW : Tabs W) => adv_any c 1099511627776 W o hW (by decide)
  obtain ⟨d, hd⟩ : ∃ d : Ck, d = c.adv 1099511627776 := ⟨_, rfl⟩
  have od : d.Ok := by rw [hd]; exact (Ck.adv_ok o _).1
  have hid : d.irq = false := by rw [hd]; exact hn _ (by decide)
  rw [← hd] at AD
  have ID : Hid _ := fun W (hW : DTab W) => irq_any d W od hW
  rw [hid] at ID
  have WZ : Hid (∀ W, DTab W → Calls Tryd.prog 14 #[.agg #[.int .u16 0, .int .u16 0, .int .u16 0, .int .u8 0, .int .u8 0, .bool false, .bool false, .bool false, .bool false, .bool false, .int .u16 0, .int .u8 0, .int .u8 0], .int .u16 16407, .int .u8 192, .int .i64 0] W fun e w' => e = .returned (.agg (zeroC.wr 16407 192 0).cells) ∧ Below W.heap.size W w') := fun W hW => write_any zeroC W 16407 192 0 zero_ok hW (by decide) (by decide)
  have NZ : Hid (∀ W, Tabs W → Calls Tryd.prog 13 #[.agg #[.int .u16 0, .int .u16 0, .int .u16 0, .int .u8 0, .int .u8 0, .bool false, .bool false, .bool false, .bool false, .bool false, .int .u16 0, .int .u8 0, .int .u8 0]] W fun e w' => e = .returned (.int .i64 29828) ∧ Below W.heap.size W w') := by
    intro W hW
    have q := next_any zeroC W zero_ok hW
    rw [nz] at q
    exact q
  have NW : Hid _ := fun W (hW : Tabs W) => next_any _ W wz_ok hW
  rw [nw] at NW
  generalize zeroC.wr 16407 192 0 = z at *
  clear h hi hn hd od hid
  go_enter Tryd.func4, Tryd.ntmps4
  go_upto_region 1 with fail
  have s0 : St w [(w.heap.size, c)] (w.alloc (.cells c.cells 25)) := St.start w c
  generalize w.alloc (.cells c.cells 25) = W0 at *
  go_wp2_with (first
    | (refine wpList_load_blk rfl 25 _ rfl w.heap.size rfl (Ck.cells c) _ (s0.blk w.heap.size c (by simp)) Tryd.underlying25 rfl (infoC' _) ?_)
    | (refine wpList_load_want (by rfl) 25 _ rfl w.heap.size rfl (Ck.cells c) _ (s0.blk w.heap.size c (by simp)) Tryd.underlying25 rfl (infoC' _) ?_)
    | (go_at_call_of 13 (Value.agg c.cells); refine (NX.out _ (T.on s0.2)).mono ?_; rintro e Wx ⟨rfl, hbx⟩; replace s0 := s0.on hbx; clear hbx)
    | (go_at_call_of 12 (Value.agg c.cells); refine (IQ.out _ (T.d.on s0.2)).mono ?_; rintro e Wx ⟨rfl, hbx⟩; replace s0 := s0.on hbx; clear hbx)
    | (go_at_call_of 10 (Value.agg c.cells); refine (AD.out _ (T.on s0.2)).mono ?_; rintro e Wx ⟨rfl, hbx⟩; replace s0 := s0.on hbx; clear hbx)
    | (go_at_call_of 12 (Value.agg d.cells); refine (ID.out _ (T.d.on s0.2)).mono ?_; rintro e Wx ⟨rfl, hbx⟩; replace s0 := s0.on hbx; clear hbx)
    | (go_at_call_of 14 (Value.agg #[.int .u16 0, .int .u16 0, .int .u16 0, .int .u8 0, .int .u8 0, .bool false, .bool false, .bool false, .bool false, .bool false, .int .u16 0, .int .u8 0, .int .u8 0]); refine (WZ.out _ (T.d.on s0.2)).mono ?_; rintro e Wx ⟨rfl, hbx⟩; replace s0 := s0.on hbx; clear hbx)
    | (go_at_call_of 13 (Value.agg z.cells); refine (NW.out _ (T.on s0.2)).mono ?_; rintro e Wx ⟨rfl, hbx⟩; replace s0 := s0.on hbx; clear hbx)
    | (go_at_call_of 13 (Value.agg #[.int .u16 0, .int .u16 0, .int .u16 0, .int .u8 0, .int .u8 0, .bool false, .bool false, .bool false, .bool false, .bool false, .int .u16 0, .int .u8 0, .int .u8 0]); refine (NZ.out _ (T.on s0.2)).mono ?_; rintro e Wx ⟨rfl, hbx⟩; replace s0 := s0.on hbx; clear hbx))
  go_ret
  exact ⟨rfl, s0.2⟩
set_option maxHeartbeats 4000000 in
theorem law_nexts_zero (c : Ck) (k : Int) (w : World) (o : c.Ok) (T : Tabs w) (h : ¬ c.nxt = 4611686018427387904) (hz : c.nxt = 0) :
    Calls Tryd.prog 4 #[.agg c.cells, .int .i64 k] w fun e w' => e = .returned (.bool true) ∧ Below w.heap.size w w' := by
  obtain ⟨hv, n0, n1, hy, hno⟩ := nxt_some o h
  have NX : Hid _ := fun W (hW : Tabs W) => next_any c W o hW
  have VA : Hid _ := fun W (hW : DTab W) => valid_any c W o hW
  rw [hv] at VA
  have eK := and_hf k
  have hK := hf_bd k
  generalize hf k = K at *
  have K0 := hK.1
  have K1 := hK.2
  rw [hz] at NX n0 n1 hy hno
  obtain ⟨d, hd⟩ : ∃ d : Ck, d = c.adv (0) := ⟨_, rfl⟩
  have od : d.Ok := by rw [hd]; exact (Ck.adv_ok o _).1
  have Ad : Hid _ := fun W (hW : Tabs W) => adv_any c (0) W o hW (by omega)
  rw [← hd] at Ad
  have Id : Hid _ := fun W (hW : DTab W) => irq_any d W od hW
  rw [show d.irq = true by rw [hd]; exact hy _ (Int.le_refl _)] at Id
  obtain ⟨d2, hd2⟩ : ∃ d2 : Ck, d2 = c.adv (K) := ⟨_, rfl⟩
  have od2 : d2.Ok := by rw [hd2]; exact (Ck.adv_ok o _).1
  have Ad2 : Hid _ := fun W (hW : Tabs W) => adv_any c (K) W o hW (by omega)
  rw [← hd2] at Ad2
  have Id2 : Hid _ := fun W (hW : DTab W) => irq_any d2 W od2 hW
  rw [show d2.irq = true by rw [hd2]; exact hy _ (by omega)] at Id2
  clear h hz hy hno hd od hd2 od2 hv n0 n1 hK
  go_enter Tryd.func4, Tryd.ntmps4
  go_upto_region 1 with fail
  have s0 : St w [(w.heap.size, c)] (w.alloc (.cells c.cells 25)) := St.start w c
  generalize w.alloc (.cells c.cells 25) = W0 at *
  go_wp2_with (first
    | (refine wpList_load_blk rfl 25 _ rfl w.heap.size rfl (Ck.cells c) _ (s0.blk w.heap.size c (by simp)) Tryd.underlying25 rfl (infoC' _) ?_)
    | (refine wpList_load_want (by rfl) 25 _ rfl w.heap.size rfl (Ck.cells c) _ (s0.blk w.heap.size c (by simp)) Tryd.underlying25 rfl (infoC' _) ?_)
    | (go_at_call_of 13 (Value.agg c.cells); refine (NX.out _ (T.on s0.2)).mono ?_; rintro e Wx ⟨rfl, hbx⟩; replace s0 := s0.on hbx; clear hbx)
    | (go_at_call_of 15 (Value.agg c.cells); refine (VA.out _ (T.d.on s0.2)).mono ?_; rintro e Wx ⟨rfl, hbx⟩; replace s0 := s0.on hbx; clear hbx)
    | (go_at_call_of 10 (Value.int IntKind.i64 0); refine (Ad.out _ (T.on s0.2)).mono ?_; rintro e Wx ⟨rfl, hbx⟩; replace s0 := s0.on hbx; clear hbx)
    | (go_at_call_of 10 (Value.int IntKind.i64 K); refine (Ad2.out _ (T.on s0.2)).mono ?_; rintro e Wx ⟨rfl, hbx⟩; replace s0 := s0.on hbx; clear hbx)
    | (go_at_call_of 12 (Value.agg d.cells); refine (Id.out _ (T.d.on s0.2)).mono ?_; rintro e Wx ⟨rfl, hbx⟩; replace s0 := s0.on hbx; clear hbx)
    | (go_at_call_of 12 (Value.agg d2.cells); refine (Id2.out _ (T.d.on s0.2)).mono ?_; rintro e Wx ⟨rfl, hbx⟩; replace s0 := s0.on hbx; clear hbx))
  go_ret
  exact ⟨rfl, s0.2⟩
set_option maxHeartbeats 4000000 in
theorem law_nexts_some (c : Ck) (k : Int) (w : World) (o : c.Ok) (T : Tabs w) (h : ¬ c.nxt = 4611686018427387904) (hz : 0 < c.nxt) :
    Calls Tryd.prog 4 #[.agg c.cells, .int .i64 k] w fun e w' => e = .returned (.bool true) ∧ Below w.heap.size w w' := by
  obtain ⟨hv, n0, n1, hy, hno⟩ := nxt_some o h
  have NX : Hid _ := fun W (hW : Tabs W) => next_any c W o hW
  have VA : Hid _ := fun W (hW : DTab W) => valid_any c W o hW
  rw [hv] at VA
  have eK := and_hf k
  have hK := hf_bd k
  generalize hf k = K at *
  have K0 := hK.1
  have K1 := hK.2
  obtain ⟨N, hN⟩ : ∃ N, N = c.nxt := ⟨_, rfl⟩
  rw [← hN] at NX n0 n1 hy hno hz
  have r0 := Int.emod_nonneg K (b := N) (by omega)
  have r1 := Int.emod_lt_of_pos K (b := N) hz
  obtain ⟨d, hd⟩ : ∃ d : Ck, d = c.adv (N) := ⟨_, rfl⟩
  have od : d.Ok := by rw [hd]; exact (Ck.adv_ok o _).1
  have Ad : Hid _ := fun W (hW : Tabs W) => adv_any c (N) W o hW (by omega)
  rw [← hd] at Ad
  have Id : Hid _ := fun W (hW : DTab W) => irq_any d W od hW
  rw [show d.irq = true by rw [hd]; exact hy _ (Int.le_refl _)] at Id
  obtain ⟨d2, hd2⟩ : ∃ d2 : Ck, d2 = c.adv (N + K) := ⟨_, rfl⟩
  have od2 : d2.Ok := by rw [hd2]; exact (Ck.adv_ok o _).1
  have Ad2 : Hid _ := fun W (hW : Tabs W) => adv_any c (N + K) W o hW (by omega)
  rw [← hd2] at Ad2
  have Id2 : Hid _ := fun W (hW : DTab W) => irq_any d2 W od2 hW
  rw [show d2.irq = true by rw [hd2]; exact hy _ (by omega)] at Id2
  obtain ⟨d3, hd3⟩ : ∃ d3 : Ck, d3 = c.adv (N - 1) := ⟨_, rfl⟩
  have od3 : d3.Ok := by rw [hd3]; exact (Ck.adv_ok o _).1
  have Ad3 : Hid _ := fun W (hW : Tabs W) => adv_any c (N - 1) W o hW (by omega)
  rw [← hd3] at Ad3
  have Id3 : Hid _ := fun W (hW : DTab W) => irq_any d3 W od3 hW
  rw [show d3.irq = false by rw [hd3]; exact hno _ (by omega) (by omega)] at Id3
  obtain ⟨d4, hd4⟩ : ∃ d4 : Ck, d4 = c.adv (K % N) := ⟨_, rfl⟩
  have od4 : d4.Ok := by rw [hd4]; exact (Ck.adv_ok o _).1
  have Ad4 : Hid _ := fun W (hW : Tabs W) => adv_any c (K % N) W o hW (by omega)
  rw [← hd4] at Ad4
  have Id4 : Hid _ := fun W (hW : DTab W) => irq_any d4 W od4 hW
  rw [show d4.irq = false by rw [hd4]; exact hno _ r0 r1] at Id4
  have hne : (N == 4611686018427387904) = false := by simpa using (show ¬ N = 4611686018427387904 by omega)
  have hn0 : (N == 0) = false := by simpa using (show ¬ N = 0 by omega)
  have hlt : decide (N < 0) = false := decide_eq_false (by omega)
  have hgt : decide (33554432 < N) = false := decide_eq_false (by omega)
  have E1 : Hid _ := fun (_ : True) => i64_in (N - 1) (by omega)
  have eKH : Hid _ := fun (_ : True) => eK
  clear hN h hy hno hd od hd2 od2 hd3 od3 hd4 od4 hv hK
  go_enter Tryd.func4, Tryd.ntmps4
  go_upto_region 1 with fail
  have s0 : St w [(w.heap.size, c)] (w.alloc (.cells c.cells 25)) := St.start w c
  generalize w.alloc (.cells c.cells 25) = W0 at *
  go_wp2_with (first
    | (refine wpList_load_blk rfl 25 _ rfl w.heap.size rfl (Ck.cells c) _ (s0.blk w.heap.size c (by simp)) Tryd.underlying25 rfl (infoC' _) ?_)
    | (refine wpList_load_want (by rfl) 25 _ rfl w.heap.size rfl (Ck.cells c) _ (s0.blk w.heap.size c (by simp)) Tryd.underlying25 rfl (infoC' _) ?_)
    | (go_at_call_of 13 (Value.agg c.cells); refine (NX.out _ (T.on s0.2)).mono ?_; rintro e Wx ⟨rfl, hbx⟩; replace s0 := s0.on hbx; clear hbx)
    | (go_at_call_of 15 (Value.agg c.cells); refine (VA.out _ (T.d.on s0.2)).mono ?_; rintro e Wx ⟨rfl, hbx⟩; replace s0 := s0.on hbx; clear hbx)
    | (go_at_call_of 10 (Value.int IntKind.i64 N); refine (Ad.out _ (T.on s0.2)).mono ?_; rintro e Wx ⟨rfl, hbx⟩; replace s0 := s0.on hbx; clear hbx)
    | (go_at_call_of 10 (Value.int IntKind.i64 (N + K)); refine (Ad2.out _ (T.on s0.2)).mono ?_; rintro e Wx ⟨rfl, hbx⟩; replace s0 := s0.on hbx; clear hbx)
    | (go_at_call_of 12 (Value.agg d.cells); refine (Id.out _ (T.d.on s0.2)).mono ?_; rintro e Wx ⟨rfl, hbx⟩; replace s0 := s0.on hbx; clear hbx)
    | (go_at_call_of 12 (Value.agg d2.cells); refine (Id2.out _ (T.d.on s0.2)).mono ?_; rintro e Wx ⟨rfl, hbx⟩; replace s0 := s0.on hbx; clear hbx))
  refine wp_region_held (S := St w [(w.heap.size, c)]) (by kernel_rfl) ?_
  refine takeH (i := 0) (v := .agg (Ck.cells c).toList.toArray) ⟨#[.agg c.cells, .int .i64 k, .pointer (some ⟨w.heap.size, 0, none⟩), undef, .bool false, .int .i64 N, .agg c.cells, .int .i64 N, .int .i64 N, .bool false, undef, undef, undef, undef, undef, undef, undef, undef, undef, undef, undef, undef, undef, undef, undef, undef, undef, undef, undef, undef, undef, .int .i64 N, .bool false, .bool false, .int .i64 N, .bool false, .bool false, .bool false, .agg c.cells, .bool true, .bool false, .bool false, .bool false, .agg c.cells, .int .i64 N, .agg d.cells, .bool true, .bool false, .bool false, .bool false, .agg c.cells, .int .i64 N, .int .i64 k, .int .i64 K, .int .i64 (N + K), .agg d2.cells, .bool true, .bool false, .bool false, .int .i64 N, .bool false, .agg (Ck.cells c), undef, undef, undef, undef, undef, undef, undef, undef, undef, undef, undef, undef, undef, undef, undef], []⟩ rfl (by kernel_rfl) (by kernel_rfl) (by kernel_rfl) (fun _ _ _ h => h) (yieldsIf_load_mid (by kernel_rfl) 25 (.tmp 2) rfl w.heap.size 0 (by kernel_rfl) (Ck.cells c).toList _ (fun v hv => Blk.range' (hv.blk w.heap.size c (by simp))) Tryd.underlying25 rfl (by rw [Array.length_toList]; exact infoC' c)) s0.drew (by kernel_rfl) ?_
  refine takeH (i := 1) (v := .int .i64 N) ⟨#[.agg c.cells, .int .i64 k, .pointer (some ⟨w.heap.size, 0, none⟩), undef, .bool false, .int .i64 N, .agg c.cells, .int .i64 N, .int .i64 N, .bool false, undef, undef, undef, undef, undef, undef, undef, undef, undef, undef, undef, undef, undef, undef, undef, undef, undef, undef, undef, undef, undef, .int .i64 N, .bool false, .bool false, .int .i64 N, .bool false, .bool false, .bool false, .agg c.cells, .bool true, .bool false, .bool false, .bool false, .agg c.cells, .int .i64 N, .agg d.cells, .bool true, .bool false, .bool false, .bool false, .agg c.cells, .int .i64 N, .int .i64 k, .int .i64 K, .int .i64 (N + K), .agg d2.cells, .bool true, .bool false, .bool false, .int .i64 N, .bool false, .agg (Ck.cells c), .int .i64 N, undef, undef, undef, undef, undef, undef, undef, undef, undef, undef, undef, undef, undef, undef], []⟩ rfl (by kernel_rfl) (by kernel_rfl) (by kernel_rfl) (fun _ _ _ h => h) (.inl ⟨by kernel_rfl, fun _ _ => by kernel_rfl⟩) s0.drew (by kernel_rfl) ?_
  refine takeH (i := 2) (v := .int .i64 (N - 1)) ⟨#[.agg c.cells, .int .i64 k, .pointer (some ⟨w.heap.size, 0, none⟩), undef, .bool false, .int .i64 N, .agg c.cells, .int .i64 N, .int .i64 N, .bool false, undef, undef, undef, undef, undef, undef, undef, undef, undef, undef, undef, undef, undef, undef, undef, undef, undef, undef, undef, undef, undef, .int .i64 N, .bool false, .bool false, .int .i64 N, .bool false, .bool false, .bool false, .agg c.cells, .bool true, .bool false, .bool false, .bool false, .agg c.cells, .int .i64 N, .agg d.cells, .bool true, .bool false, .bool false, .bool false, .agg c.cells, .int .i64 N, .int .i64 k, .int .i64 K, .int .i64 (N + K), .agg d2.cells, .bool true, .bool false, .bool false, .int .i64 N, .bool false, .agg (Ck.cells c), .int .i64 N, .int .i64 (N - 1), undef, undef, undef, undef, undef, undef, undef, undef, undef, undef, undef, undef, undef], []⟩ rfl (by kernel_rfl) (by kernel_rfl) (by kernel_rfl) (fun _ _ _ h => h) (.inl ⟨by kernel_rfl, fun v _ => Eq.trans (b := .ok (.value (.int .i64 (IntKind.i64.wrap (N - 1)))) v) (by kernel_rfl) (by rw [E1.out trivial])⟩) s0.drew (by kernel_rfl) ?_
  refine wpAnyH_all (rs := [3]) (by kernel_rfl) (by simp) ?_
  intro i hi
  obtain rfl : i = 3 := by simpa using hi
  refine wpOp_contract (f := 10) rfl (by kernel_rfl) (by kernel_rfl) (Ad3.out _ (T.on s0.drew.2)) ⟨#[.agg c.cells, .int .i64 k, .pointer (some ⟨w.heap.size, 0, none⟩), undef, .bool false, .int .i64 N, .agg c.cells, .int .i64 N, .int .i64 N, .bool false, undef, undef, undef, undef, undef, undef, undef, undef, undef, undef, undef, undef, undef, undef, undef, undef, undef, undef, undef, undef, undef, .int .i64 N, .bool false, .bool false, .int .i64 N, .bool false, .bool false, .bool false, .agg c.cells, .bool true, .bool false, .bool false, .bool false, .agg c.cells, .int .i64 N, .agg d.cells, .bool true, .bool false, .bool false, .bool false, .agg c.cells, .int .i64 N, .int .i64 k, .int .i64 K, .int .i64 (N + K), .agg d2.cells, .bool true, .bool false, .bool false, .int .i64 N, .bool false, .agg (Ck.cells c), .int .i64 N, .int .i64 (N - 1), .agg d3.cells, undef, undef, undef, undef, undef, undef, undef, undef, undef, undef, undef, undef], []⟩ (by kernel_rfl) ?_
  intro V1 hbq
  have s1 := s0.drew.on hbq
  clear hbq
  clear hi
  refine ⟨s1, ?_⟩
  refine wpAnyH_all (rs := [4]) (by kernel_rfl) (by simp) ?_
  intro i hi
  obtain rfl : i = 4 := by simpa using hi
  refine wpOp_contract (f := 12) rfl (by kernel_rfl) (by kernel_rfl) (Id3.out _ (T.d.on s1.2)) ⟨#[.agg c.cells, .int .i64 k, .pointer (some ⟨w.heap.size, 0, none⟩), undef, .bool false, .int .i64 N, .agg c.cells, .int .i64 N, .int .i64 N, .bool false, undef, undef, undef, undef, undef, undef, undef, undef, undef, undef, undef, undef, undef, undef, undef, undef, undef, undef, undef, undef, undef, .int .i64 N, .bool false, .bool false, .int .i64 N, .bool false, .bool false, .bool false, .agg c.cells, .bool true, .bool false, .bool false, .bool false, .agg c.cells, .int .i64 N, .agg d.cells, .bool true, .bool false, .bool false, .bool false, .agg c.cells, .int .i64 N, .int .i64 k, .int .i64 K, .int .i64 (N + K), .agg d2.cells, .bool true, .bool false, .bool false, .int .i64 N, .bool false, .agg (Ck.cells c), .int .i64 N, .int .i64 (N - 1), .agg d3.cells, .bool false, undef, undef, undef, undef, undef, undef, undef, undef, undef, undef, undef], []⟩ (by kernel_rfl) ?_
  intro V2 hbq
  have s2 := s1.on hbq
  clear hbq
  clear hi
  refine ⟨s2, ?_⟩
  refine takeH (i := 5) (v := .bool true) ⟨#[.agg c.cells, .int .i64 k, .pointer (some ⟨w.heap.size, 0, none⟩), undef, .bool false, .int .i64 N, .agg c.cells, .int .i64 N, .int .i64 N, .bool false, undef, undef, undef, undef, undef, undef, undef, undef, undef, undef, undef, undef, undef, undef, undef, undef, undef, undef, undef, undef, undef, .int .i64 N, .bool false, .bool false, .int .i64 N, .bool false, .bool false, .bool false, .agg c.cells, .bool true, .bool false, .bool false, .bool false, .agg c.cells, .int .i64 N, .agg d.cells, .bool true, .bool false, .bool false, .bool false, .agg c.cells, .int .i64 N, .int .i64 k, .int .i64 K, .int .i64 (N + K), .agg d2.cells, .bool true, .bool false, .bool false, .int .i64 N, .bool false, .agg (Ck.cells c), .int .i64 N, .int .i64 (N - 1), .agg d3.cells, .bool false, .bool true, undef, undef, undef, undef, undef, undef, undef, undef, undef, undef], []⟩ rfl (by kernel_rfl) (by kernel_rfl) (by kernel_rfl) (fun _ _ _ h => h) (.inl ⟨by kernel_rfl, fun _ _ => by kernel_rfl⟩) s2 (by kernel_rfl) ?_
  refine takeH (i := 6) (v := .bool true) ⟨#[.agg c.cells, .int .i64 k, .pointer (some ⟨w.heap.size, 0, none⟩), undef, .bool false, .int .i64 N, .agg c.cells, .int .i64 N, .int .i64 N, .bool false, undef, undef, undef, undef, undef, undef, undef, undef, undef, undef, undef, undef, undef, undef, undef, undef, undef, undef, undef, undef, undef, .int .i64 N, .bool false, .bool false, .int .i64 N, .bool false, .bool false, .bool false, .agg c.cells, .bool true, .bool false, .bool false, .bool false, .agg c.cells, .int .i64 N, .agg d.cells, .bool true, .bool false, .bool false, .bool false, .agg c.cells, .int .i64 N, .int .i64 k, .int .i64 K, .int .i64 (N + K), .agg d2.cells, .bool true, .bool false, .bool false, .int .i64 N, .bool false, .agg (Ck.cells c), .int .i64 N, .int .i64 (N - 1), .agg d3.cells, .bool false, .bool true, .bool true, undef, undef, undef, undef, undef, undef, undef, undef, undef], []⟩ rfl (by kernel_rfl) (by kernel_rfl) (by kernel_rfl) (fun _ _ _ h => h) (.inl ⟨by kernel_rfl, fun _ _ => by kernel_rfl⟩) s2 (by kernel_rfl) ?_
  refine takeH (i := 7) (v := .agg (Ck.cells c).toList.toArray) ⟨#[.agg c.cells, .int .i64 k, .pointer (some ⟨w.heap.size, 0, none⟩), undef, .bool false, .int .i64 N, .agg c.cells, .int .i64 N, .int .i64 N, .bool false, undef, undef, undef, undef, undef, undef, undef, undef, undef, undef, undef, undef, undef, undef, undef, undef, undef, undef, undef, undef, undef, .int .i64 N, .bool false, .bool false, .int .i64 N, .bool false, .bool false, .bool false, .agg c.cells, .bool true, .bool false, .bool false, .bool false, .agg c.cells, .int .i64 N, .agg d.cells, .bool true, .bool false, .bool false, .bool false, .agg c.cells, .int .i64 N, .int .i64 k, .int .i64 K, .int .i64 (N + K), .agg d2.cells, .bool true, .bool false, .bool false, .int .i64 N, .bool false, .agg (Ck.cells c), .int .i64 N, .int .i64 (N - 1), .agg d3.cells, .bool false, .bool true, .bool true, .agg (Ck.cells c), undef, undef, undef, undef, undef, undef, undef, undef], []⟩ rfl (by kernel_rfl) (by kernel_rfl) (by kernel_rfl) (fun _ _ _ h => h) (yieldsIf_load_mid (by kernel_rfl) 25 (.tmp 2) rfl w.heap.size 0 (by kernel_rfl) (Ck.cells c).toList _ (fun v hv => Blk.range' (hv.blk w.heap.size c (by simp))) Tryd.underlying25 rfl (by rw [Array.length_toList]; exact infoC' c)) s2 (by kernel_rfl) ?_
  refine takeH (i := 8) (v := .int .i64 k) ⟨#[.agg c.cells, .int .i64 k, .pointer (some ⟨w.heap.size, 0, none⟩), undef, .bool false, .int .i64 N, .agg c.cells, .int .i64 N, .int .i64 N, .bool false, undef, undef, undef, undef, undef, undef, undef, undef, undef, undef, undef, undef, undef, undef, undef, undef, undef, undef, undef, undef, undef, .int .i64 N, .bool false, .bool false, .int .i64 N, .bool false, .bool false, .bool false, .agg c.cells, .bool true, .bool false, .bool false, .bool false, .agg c.cells, .int .i64 N, .agg d.cells, .bool true, .bool false, .bool false, .bool false, .agg c.cells, .int .i64 N, .int .i64 k, .int .i64 K, .int .i64 (N + K), .agg d2.cells, .bool true, .bool false, .bool false, .int .i64 N, .bool false, .agg (Ck.cells c), .int .i64 N, .int .i64 (N - 1), .agg d3.cells, .bool false, .bool true, .bool true, .agg (Ck.cells c), .int .i64 k, undef, undef, undef, undef, undef, undef, undef], []⟩ rfl (by kernel_rfl) (by kernel_rfl) (by kernel_rfl) (fun _ _ _ h => h) (.inl ⟨by kernel_rfl, fun _ _ => by kernel_rfl⟩) s2 (by kernel_rfl) ?_
  refine takeH (i := 9) (v := .int .i64 K) ⟨#[.agg c.cells, .int .i64 k, .pointer (some ⟨w.heap.size, 0, none⟩), undef, .bool false, .int .i64 N, .agg c.cells, .int .i64 N, .int .i64 N, .bool false, undef, undef, undef, undef, undef, undef, undef, undef, undef, undef, undef, undef, undef, undef, undef, undef, undef, undef, undef, undef, undef, .int .i64 N, .bool false, .bool false, .int .i64 N, .bool false, .bool false, .bool false, .agg c.cells, .bool true, .bool false, .bool false, .bool false, .agg c.cells, .int .i64 N, .agg d.cells, .bool true, .bool false, .bool false, .bool false, .agg c.cells, .int .i64 N, .int .i64 k, .int .i64 K, .int .i64 (N + K), .agg d2.cells, .bool true, .bool false, .bool false, .int .i64 N, .bool false, .agg (Ck.cells c), .int .i64 N, .int .i64 (N - 1), .agg d3.cells, .bool false, .bool true, .bool true, .agg (Ck.cells c), .int .i64 k, .int .i64 K, undef, undef, undef, undef, undef, undef], []⟩ rfl (by kernel_rfl) (by kernel_rfl) (by kernel_rfl) (fun _ _ _ h => h) (.inl ⟨by kernel_rfl, fun v _ => Eq.trans (b := .ok (.value (.int .i64 (bits .and .i64 k 4611686018427387903))) v) (by kernel_rfl) (by rw [eKH.out trivial])⟩) s2 (by kernel_rfl) ?_
  refine takeH (i := 10) (v := .int .i64 N) ⟨#[.agg c.cells, .int .i64 k, .pointer (some ⟨w.heap.size, 0, none⟩), undef, .bool false, .int .i64 N, .agg c.cells, .int .i64 N, .int .i64 N, .bool false, undef, undef, undef, undef, undef, undef, undef, undef, undef, undef, undef, undef, undef, undef, undef, undef, undef, undef, undef, undef, undef, .int .i64 N, .bool false, .bool false, .int .i64 N, .bool false, .bool false, .bool false, .agg c.cells, .bool true, .bool false, .bool false, .bool false, .agg c.cells, .int .i64 N, .agg d.cells, .bool true, .bool false, .bool false, .bool false, .agg c.cells, .int .i64 N, .int .i64 k, .int .i64 K, .int .i64 (N + K), .agg d2.cells, .bool true, .bool false, .bool false, .int .i64 N, .bool false, .agg (Ck.cells c), .int .i64 N, .int .i64 (N - 1), .agg d3.cells, .bool false, .bool true, .bool true, .agg (Ck.cells c), .int .i64 k, .int .i64 K, .int .i64 N, undef, undef, undef, undef, undef], []⟩ rfl (by kernel_rfl) (by kernel_rfl) (by kernel_rfl) (fun _ _ _ h => h) (.inl ⟨by kernel_rfl, fun _ _ => by kernel_rfl⟩) s2 (by kernel_rfl) ?_
  refine takeH (i := 11) (v := .int .i64 (K % N)) ⟨#[.agg c.cells, .int .i64 k, .pointer (some ⟨w.heap.size, 0, none⟩), undef, .bool false, .int .i64 N, .agg c.cells, .int .i64 N, .int .i64 N, .bool false, undef, undef, undef, undef, undef, undef, undef, undef, undef, undef, undef, undef, undef, undef, undef, undef, undef, undef, undef, undef, undef, .int .i64 N, .bool false, .bool false, .int .i64 N, .bool false, .bool false, .bool false, .agg c.cells, .bool true, .bool false, .bool false, .bool false, .agg c.cells, .int .i64 N, .agg d.cells, .bool true, .bool false, .bool false, .bool false, .agg c.cells, .int .i64 N, .int .i64 k, .int .i64 K, .int .i64 (N + K), .agg d2.cells, .bool true, .bool false, .bool false, .int .i64 N, .bool false, .agg (Ck.cells c), .int .i64 N, .int .i64 (N - 1), .agg d3.cells, .bool false, .bool true, .bool true, .agg (Ck.cells c), .int .i64 k, .int .i64 K, .int .i64 N, .int .i64 (K % N), undef, undef, undef, undef], []⟩ rfl (by kernel_rfl) (by kernel_rfl) (by kernel_rfl) (fun _ _ _ h => h) (.inl ⟨by kernel_rfl, fun v _ => exec_rem rfl (by kernel_rfl) (by kernel_rfl) Tryd.underlying3 (by omega) (by omega) (by omega) (by omega)⟩) s2 (by kernel_rfl) ?_
  refine wpAnyH_all (rs := [12]) (by kernel_rfl) (by simp) ?_
  intro i hi
  obtain rfl : i = 12 := by simpa using hi
  refine wpOp_contract (f := 10) rfl (by kernel_rfl) (by kernel_rfl) (Ad4.out _ (T.on s2.2)) ⟨#[.agg c.cells, .int .i64 k, .pointer (some ⟨w.heap.size, 0, none⟩), undef, .bool false, .int .i64 N, .agg c.cells, .int .i64 N, .int .i64 N, .bool false, undef, undef, undef, undef, undef, undef, undef, undef, undef, undef, undef, undef, undef, undef, undef, undef, undef, undef, undef, undef, undef, .int .i64 N, .bool false, .bool false, .int .i64 N, .bool false, .bool false, .bool false, .agg c.cells, .bool true, .bool false, .bool false, .bool false, .agg c.cells, .int .i64 N, .agg d.cells, .bool true, .bool false, .bool false, .bool false, .agg c.cells, .int .i64 N, .int .i64 k, .int .i64 K, .int .i64 (N + K), .agg d2.cells, .bool true, .bool false, .bool false, .int .i64 N, .bool false, .agg (Ck.cells c), .int .i64 N, .int .i64 (N - 1), .agg d3.cells, .bool false, .bool true, .bool true, .agg (Ck.cells c), .int .i64 k, .int .i64 K, .int .i64 N, .int .i64 (K % N), .agg d4.cells, undef, undef, undef], []⟩ (by kernel_rfl) ?_
  intro V3 hbq
  have s3 := s2.on hbq
  clear hbq
  clear hi
  refine ⟨s3, ?_⟩
  refine wpAnyH_all (rs := [13]) (by kernel_rfl) (by simp) ?_
  intro i hi
  obtain rfl : i = 13 := by simpa using hi
  refine wpOp_contract (f := 12) rfl (by kernel_rfl) (by kernel_rfl) (Id4.out _ (T.d.on s3.2)) ⟨#[.agg c.cells, .int .i64 k, .pointer (some ⟨w.heap.size, 0, none⟩), undef, .bool false, .int .i64 N, .agg c.cells, .int .i64 N, .int .i64 N, .bool false, undef, undef, undef, undef, undef, undef, undef, undef, undef, undef, undef, undef, undef, undef, undef, undef, undef, undef, undef, undef, undef, .int .i64 N, .bool false, .bool false, .int .i64 N, .bool false, .bool false, .bool false, .agg c.cells, .bool true, .bool false, .bool false, .bool false, .agg c.cells, .int .i64 N, .agg d.cells, .bool true, .bool false, .bool false, .bool false, .agg c.cells, .int .i64 N, .int .i64 k, .int .i64 K, .int .i64 (N + K), .agg d2.cells, .bool true, .bool false, .bool false, .int .i64 N, .bool false, .agg (Ck.cells c), .int .i64 N, .int .i64 (N - 1), .agg d3.cells, .bool false, .bool true, .bool true, .agg (Ck.cells c), .int .i64 k, .int .i64 K, .int .i64 N, .int .i64 (K % N), .agg d4.cells, .bool false, undef, undef], []⟩ (by kernel_rfl) ?_
  intro V4 hbq
  have s4 := s3.on hbq
  clear hbq
  clear hi
  refine ⟨s4, ?_⟩
  refine takeH (i := 14) (v := .bool true) ⟨#[.agg c.cells, .int .i64 k, .pointer (some ⟨w.heap.size, 0, none⟩), undef, .bool false, .int .i64 N, .agg c.cells, .int .i64 N, .int .i64 N, .bool false, undef, undef, undef, undef, undef, undef, undef, undef, undef, undef, undef, undef, undef, undef, undef, undef, undef, undef, undef, undef, undef, .int .i64 N, .bool false, .bool false, .int .i64 N, .bool false, .bool false, .bool false, .agg c.cells, .bool true, .bool false, .bool false, .bool false, .agg c.cells, .int .i64 N, .agg d.cells, .bool true, .bool false, .bool false, .bool false, .agg c.cells, .int .i64 N, .int .i64 k, .int .i64 K, .int .i64 (N + K), .agg d2.cells, .bool true, .bool false, .bool false, .int .i64 N, .bool false, .agg (Ck.cells c), .int .i64 N, .int .i64 (N - 1), .agg d3.cells, .bool false, .bool true, .bool true, .agg (Ck.cells c), .int .i64 k, .int .i64 K, .int .i64 N, .int .i64 (K % N), .agg d4.cells, .bool false, .bool true, undef], []⟩ rfl (by kernel_rfl) (by kernel_rfl) (by kernel_rfl) (fun _ _ _ h => h) (.inl ⟨by kernel_rfl, fun _ _ => by kernel_rfl⟩) s4 (by kernel_rfl) ?_
  refine takeH (i := 15) (v := .bool true) ⟨#[.agg c.cells, .int .i64 k, .pointer (some ⟨w.heap.size, 0, none⟩), undef, .bool false, .int .i64 N, .agg c.cells, .int .i64 N, .int .i64 N, .bool false, undef, undef, undef, undef, undef, undef, undef, undef, undef, undef, undef, undef, undef, undef, undef, undef, undef, undef, undef, undef, undef, .int .i64 N, .bool false, .bool false, .int .i64 N, .bool false, .bool false, .bool false, .agg c.cells, .bool true, .bool false, .bool false, .bool false, .agg c.cells, .int .i64 N, .agg d.cells, .bool true, .bool false, .bool false, .bool false, .agg c.cells, .int .i64 N, .int .i64 k, .int .i64 K, .int .i64 (N + K), .agg d2.cells, .bool true, .bool false, .bool false, .int .i64 N, .bool false, .agg (Ck.cells c), .int .i64 N, .int .i64 (N - 1), .agg d3.cells, .bool false, .bool true, .bool true, .agg (Ck.cells c), .int .i64 k, .int .i64 K, .int .i64 N, .int .i64 (K % N), .agg d4.cells, .bool false, .bool true, .bool true], []⟩ rfl (by kernel_rfl) (by kernel_rfl) (by kernel_rfl) (fun _ _ _ h => h) (.inl ⟨by kernel_rfl, fun _ _ => by kernel_rfl⟩) s4 (by kernel_rfl) ?_
  refine takeH (i := 16) (v := .bool true) ⟨#[.agg c.cells, .int .i64 k, .pointer (some ⟨w.heap.size, 0, none⟩), undef, .bool true, .int .i64 N, .agg c.cells, .int .i64 N, .int .i64 N, .bool false, undef, undef, undef, undef, undef, undef, undef, undef, undef, undef, undef, undef, undef, undef, undef, undef, undef, undef, undef, undef, undef, .int .i64 N, .bool false, .bool false, .int .i64 N, .bool false, .bool false, .bool false, .agg c.cells, .bool true, .bool false, .bool false, .bool false, .agg c.cells, .int .i64 N, .agg d.cells, .bool true, .bool false, .bool false, .bool false, .agg c.cells, .int .i64 N, .int .i64 k, .int .i64 K, .int .i64 (N + K), .agg d2.cells, .bool true, .bool false, .bool false, .int .i64 N, .bool false, .agg (Ck.cells c), .int .i64 N, .int .i64 (N - 1), .agg d3.cells, .bool false, .bool true, .bool true, .agg (Ck.cells c), .int .i64 k, .int .i64 K, .int .i64 N, .int .i64 (K % N), .agg d4.cells, .bool false, .bool true, .bool true], []⟩ rfl (by kernel_rfl) (by kernel_rfl) (by kernel_rfl) (fun _ _ _ h => h) (.inl ⟨by kernel_rfl, fun _ _ => by kernel_rfl⟩) s4 (by kernel_rfl) ?_
  refine wpAnyH_done (by kernel_rfl) ?_ _
  go_wp2
  go_ret
  exact ⟨rfl, s4.2⟩
theorem law_timerNexts (c : Ck) (k : Int) (w : World) (o : c.Ok) (T : Tabs w) :
    Calls Tryd.prog 4 #[.agg c.cells, .int .i64 k] w fun e w' => e = .returned (.bool true) ∧ Below w.heap.size w w' := by
  by_cases h : c.nxt = 4611686018427387904
  · exact law_nexts_never c k w o T h
  by_cases hz : c.nxt = 0
  · exact law_nexts_zero c k w o T h hz
  · exact law_nexts_some c k w o T h (by have := (nxt_some o h).2.1; omega)
end Go.Proofs.YtjacadiaafcckabDoor
