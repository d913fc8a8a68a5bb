/-
  What open answers of a board of kind 4 whose submapper is listed; conditions: eight bank registers.
-/
import Derived.Test.YtpdpfobhbafmcaaMOpen
import Derived.Test.YtpdpfobhbafmcaaMPlain4
namespace Go.Proofs.Ytpdpfobhbafmcaa
open Go.RowKit
theorem m4_of {W : World} {m : Nat} {b : Bd} (hr : b.r.length = 8) (B : Blk W m (k4c b) 69) : M4 W m b := by
  obtain ⟨a0, a1, a2, a3, a4, a5, a6, a7, er⟩ := Bd.eight hr
  have K4 : k4c b = #[.int .i64 b.sub, .int .u8 b.hard, .bool b.work, .bool b.chrRam, .int .i64 b.prg, .int .i64 b.chr, .int .i64 b.epoch, .int .u8 b.sel, .int .u8 a0, .int .u8 a1, .int .u8 a2, .int .u8 a3, .int .u8 a4, .int .u8 a5, .int .u8 a6, .int .u8 a7, .int .u8 b.turn, .int .u8 b.guard, .int .u8 b.iLatch, .int .u8 b.iCount, .bool b.iLoad, .bool b.iOn, .bool b.irq] := by unfold k4c; rw [er]; rfl
  rw [K4] at B
  refine ⟨(B.cell 7).trans rfl, ?_, (B.cell 16).trans rfl, (B.cell 17).trans rfl, (B.cell 18).trans rfl, (B.cell 19).trans rfl, (B.cell 20).trans rfl, (B.cell 21).trans rfl, (B.cell 22).trans rfl⟩
  intro i hi
  rw [B.cell (8 + i), er]
  match i, hi with
  | 0, _ | 1, _ | 2, _ | 3, _ | 4, _ | 5, _ | 6, _ | 7, _ => rfl
def val4 (b : Bd) : Bool := decide (n4 b = b) && (sizes b && regs4 b)
set_option maxRecDepth 100000 in
set_option maxHeartbeats 2000000 in
theorem open_4 (w : World) (b : Bd) (hr : b.r.length = 8) (hk : b.kind = 4) (hl : lst b.kind b.sub = true) :
    Calls Try.prog 22 #[.agg b.cells] w fun e w' => Below w.heap.size w w' ∧ (val4 b = false → e = .returned .nilIface) ∧ (val4 b = true → ∃ m, e = .returned (.iface 65 (.pointer (some ⟨m, 0, none⟩))) ∧ w.heap.size ≤ m ∧ Blk w' m (k4c b) 69) := by
  have C := isB b hr
  have KO := fun W => kindOf_4 W b hr hk
  generalize hcs : b.cells = cs at C KO
  have hsz := C.size
  have HS : Hid _ := hsz
  have HK : Hid _ := KO
  have HC : Hid _ := hcs
  have HL : Hid _ := hl
  clear KO hcs hl hk
  go_enter Try.func22, Try.ntmps22
  go_upto_region 1 with fail
  have b0 : Blk (w.alloc (.cells cs 27)) w.heap.size cs 27 := Blk.new w cs _
  have hb0 : Below w.heap.size w (w.alloc (.cells cs 27)) := (Below.refl _ _).alloc (Nat.le_refl _) _
  generalize w.alloc (.cells cs 27) = W0 at *
  have d0 := (b0.cell 0).trans C.h0
  have d1 := (b0.cell 1).trans C.h1
  clear C hsz
  go_wp2_with fail
  refine (listed_any b.kind b.sub W0).mono ?_
  rintro e W ⟨rfl, rfl⟩
  rw [HL.out]
  go_wp2_with (refine wpList_load_mid rfl 27 _ rfl w.heap.size 0 rfl cs.toList _ b0.range Try.underlying27 rfl (by rw [Array.length_toList, HS.out]; exact Try.infoBoard) ?_)
  refine (HK.out W).mono ?_
  rintro e W1 ⟨m, rfl, hm, hb1', B1⟩
  have b1 := b0.below b0.lt hb1'
  have hb1 : Below w.heap.size w W1 := hb0.trans (hb1'.mono hb0.size)
  have hmw : w.heap.size ≤ m := by have := hb0.size; omega
  clear hb1' hb0 b0 d0 d1 hm
  go_upto_region 4 with fail
  go_cut [25] (fun v wx => v = .bool (!val4 b) ∧ Below w.heap.size w wx ∧ Blk wx m (k4c b) 69)
  case first =>
    refine wp_region_held (S := fun v => Blk v w.heap.size cs 27) (by kernel_rfl) ?_
    refine takeH (i := 0) (v := (.iface 65 (.pointer (some ⟨m, 0, none⟩)))) ⟨#[.agg cs, .pointer (some ⟨w.heap.size, 0, none⟩), .nilIface, (.iface 65 (.pointer (some ⟨m, 0, none⟩))), .pointer (some ⟨w.heap.size, 0, none⟩), .int .i64 b.kind, .pointer (some ⟨w.heap.size, 1, none⟩), .int .i64 b.sub, .bool true, .bool false, .agg cs, (.iface 65 (.pointer (some ⟨m, 0, none⟩))), (.iface 65 (.pointer (some ⟨m, 0, none⟩))), undef, undef, undef, undef, undef, undef, undef, undef, undef, undef, undef, undef, undef, undef], []⟩ rfl (by kernel_rfl) (by kernel_rfl) (by kernel_rfl) (fun _ _ _ h => h) (.inl ⟨by kernel_rfl, fun _ _ => by kernel_rfl⟩) b1.drew (by kernel_rfl) ?_
    refine takeH (i := 2) (v := .agg cs.toList.toArray) ⟨#[.agg cs, .pointer (some ⟨w.heap.size, 0, none⟩), .nilIface, (.iface 65 (.pointer (some ⟨m, 0, none⟩))), .pointer (some ⟨w.heap.size, 0, none⟩), .int .i64 b.kind, .pointer (some ⟨w.heap.size, 1, none⟩), .int .i64 b.sub, .bool true, .bool false, .agg cs, (.iface 65 (.pointer (some ⟨m, 0, none⟩))), (.iface 65 (.pointer (some ⟨m, 0, none⟩))), undef, .agg cs, undef, undef, undef, undef, undef, undef, undef, undef, undef, undef, undef, undef], []⟩ rfl (by kernel_rfl) (by kernel_rfl) (by kernel_rfl) (fun _ _ _ h => h) (yieldsIf_load_mid (by kernel_rfl) 27 (.tmp 1) rfl w.heap.size 0 (by kernel_rfl) cs.toList _ (fun v hv => Blk.range hv) Try.underlying27 rfl (by rw [Array.length_toList, HS.out]; exact Try.infoBoard)) b1.drew (by kernel_rfl) ?_
    refine wpAnyH_all (rs := [1]) (by kernel_rfl) (by simp) ?_
    intro i hi
    obtain rfl : i = 1 := by simpa using hi
    refine wpOp_contract (f := 19) rfl (by kernel_rfl) (by kernel_rfl) (plain_4 W1.drew b hr m B1.drew) ⟨#[.agg cs, .pointer (some ⟨w.heap.size, 0, none⟩), .nilIface, (.iface 65 (.pointer (some ⟨m, 0, none⟩))), .pointer (some ⟨w.heap.size, 0, none⟩), .int .i64 b.kind, .pointer (some ⟨w.heap.size, 1, none⟩), .int .i64 b.sub, .bool true, .bool false, .agg cs, (.iface 65 (.pointer (some ⟨m, 0, none⟩))), (.iface 65 (.pointer (some ⟨m, 0, none⟩))), .agg (n4 b).cells, .agg cs, undef, undef, undef, undef, undef, undef, undef, undef, undef, undef, undef, undef], []⟩ (by kernel_rfl) ?_
    intro W2 hb2
    have b2 := (b1.drew).below b1.lt hb2
    have hb2' : Below w.heap.size w W2 := hb1.drew.trans (hb2.mono (by have := b1.lt; show w.heap.size ≤ W1.heap.size; omega))
    have B2 := B1.drew.below B1.lt hb2
    have S2 : Sh W2 m b := ⟨(B2.cell 0).trans rfl, (B2.cell 1).trans rfl, (B2.cell 2).trans rfl, (B2.cell 3).trans rfl, (B2.cell 4).trans rfl, (B2.cell 5).trans rfl, (B2.cell 6).trans rfl⟩
    refine ⟨b2, ?_⟩
    clear hb2 B1 b1 hb1 hi HK HL
    cases hv : decide (n4 b = b)
    · have E : val4 b = false := by unfold val4; rw [hv, Bool.false_and]
      refine takeH (i := 3) (v := .bool true) ⟨#[.agg cs, .pointer (some ⟨w.heap.size, 0, none⟩), .nilIface, (.iface 65 (.pointer (some ⟨m, 0, none⟩))), .pointer (some ⟨w.heap.size, 0, none⟩), .int .i64 b.kind, .pointer (some ⟨w.heap.size, 1, none⟩), .int .i64 b.sub, .bool true, .bool false, .agg cs, (.iface 65 (.pointer (some ⟨m, 0, none⟩))), (.iface 65 (.pointer (some ⟨m, 0, none⟩))), .agg (n4 b).cells, .agg cs, .bool true, undef, undef, undef, undef, undef, undef, undef, undef, undef, undef, undef], []⟩ rfl (by kernel_rfl) (by kernel_rfl) (by kernel_rfl) (fun _ _ _ h => h) (.inl ⟨by kernel_rfl, fun v _ => (Try.runNeq v _ _ _ _ _ _ _ _ _ (n4 b) b hr hr (by kernel_rfl) (by rw [HC.out]; kernel_rfl)).trans (by rw [hv]; rfl)⟩) b2 (by kernel_rfl) ?_
      refine takeH (i := 4) (v := .bool true) ⟨#[.agg cs, .pointer (some ⟨w.heap.size, 0, none⟩), .nilIface, (.iface 65 (.pointer (some ⟨m, 0, none⟩))), .pointer (some ⟨w.heap.size, 0, none⟩), .int .i64 b.kind, .pointer (some ⟨w.heap.size, 1, none⟩), .int .i64 b.sub, .bool true, .bool false, .agg cs, (.iface 65 (.pointer (some ⟨m, 0, none⟩))), (.iface 65 (.pointer (some ⟨m, 0, none⟩))), .agg (n4 b).cells, .agg cs, .bool true, .bool true, undef, undef, undef, undef, undef, undef, undef, undef, undef, undef], []⟩ rfl (by kernel_rfl) (by kernel_rfl) (by kernel_rfl) (fun _ _ _ h => h) (.inl ⟨by kernel_rfl, fun _ _ => by kernel_rfl⟩) b2 (by kernel_rfl) ?_
      refine takeH (i := 5) (v := undef) ⟨#[.agg cs, .pointer (some ⟨w.heap.size, 0, none⟩), .nilIface, (.iface 65 (.pointer (some ⟨m, 0, none⟩))), .pointer (some ⟨w.heap.size, 0, none⟩), .int .i64 b.kind, .pointer (some ⟨w.heap.size, 1, none⟩), .int .i64 b.sub, .bool true, .bool false, .agg cs, (.iface 65 (.pointer (some ⟨m, 0, none⟩))), (.iface 65 (.pointer (some ⟨m, 0, none⟩))), .agg (n4 b).cells, .agg cs, .bool true, .bool true, undef, undef, undef, undef, undef, undef, undef, undef, undef, undef], []⟩ rfl (by kernel_rfl) (by kernel_rfl) (by kernel_rfl) (fun _ _ _ h => h) (.inr ⟨by kernel_rfl, rfl⟩) b2 (by kernel_rfl) ?_
      refine takeH (i := 6) (v := undef) ⟨#[.agg cs, .pointer (some ⟨w.heap.size, 0, none⟩), .nilIface, (.iface 65 (.pointer (some ⟨m, 0, none⟩))), .pointer (some ⟨w.heap.size, 0, none⟩), .int .i64 b.kind, .pointer (some ⟨w.heap.size, 1, none⟩), .int .i64 b.sub, .bool true, .bool false, .agg cs, (.iface 65 (.pointer (some ⟨m, 0, none⟩))), (.iface 65 (.pointer (some ⟨m, 0, none⟩))), .agg (n4 b).cells, .agg cs, .bool true, .bool true, undef, undef, undef, undef, undef, undef, undef, undef, undef, undef], []⟩ rfl (by kernel_rfl) (by kernel_rfl) (by kernel_rfl) (fun _ _ _ h => h) (.inr ⟨by kernel_rfl, rfl⟩) b2 (by kernel_rfl) ?_
      refine takeH (i := 7) (v := undef) ⟨#[.agg cs, .pointer (some ⟨w.heap.size, 0, none⟩), .nilIface, (.iface 65 (.pointer (some ⟨m, 0, none⟩))), .pointer (some ⟨w.heap.size, 0, none⟩), .int .i64 b.kind, .pointer (some ⟨w.heap.size, 1, none⟩), .int .i64 b.sub, .bool true, .bool false, .agg cs, (.iface 65 (.pointer (some ⟨m, 0, none⟩))), (.iface 65 (.pointer (some ⟨m, 0, none⟩))), .agg (n4 b).cells, .agg cs, .bool true, .bool true, undef, undef, undef, undef, undef, undef, undef, undef, undef, undef], []⟩ rfl (by kernel_rfl) (by kernel_rfl) (by kernel_rfl) (fun _ _ _ h => h) (.inr ⟨by kernel_rfl, rfl⟩) b2 (by kernel_rfl) ?_
      refine takeH (i := 8) (v := .bool true) ⟨#[.agg cs, .pointer (some ⟨w.heap.size, 0, none⟩), .nilIface, (.iface 65 (.pointer (some ⟨m, 0, none⟩))), .pointer (some ⟨w.heap.size, 0, none⟩), .int .i64 b.kind, .pointer (some ⟨w.heap.size, 1, none⟩), .int .i64 b.sub, .bool true, .bool false, .agg cs, (.iface 65 (.pointer (some ⟨m, 0, none⟩))), (.iface 65 (.pointer (some ⟨m, 0, none⟩))), .agg (n4 b).cells, .agg cs, .bool true, .bool true, undef, undef, undef, .bool true, undef, undef, undef, undef, undef, undef], []⟩ rfl (by kernel_rfl) (by kernel_rfl) (by kernel_rfl) (fun _ _ _ h => h) (.inl ⟨by kernel_rfl, fun _ _ => by kernel_rfl⟩) b2 (by kernel_rfl) ?_
      refine takeH (i := 9) (v := .bool true) ⟨#[.agg cs, .pointer (some ⟨w.heap.size, 0, none⟩), .nilIface, (.iface 65 (.pointer (some ⟨m, 0, none⟩))), .pointer (some ⟨w.heap.size, 0, none⟩), .int .i64 b.kind, .pointer (some ⟨w.heap.size, 1, none⟩), .int .i64 b.sub, .bool true, .bool false, .agg cs, (.iface 65 (.pointer (some ⟨m, 0, none⟩))), (.iface 65 (.pointer (some ⟨m, 0, none⟩))), .agg (n4 b).cells, .agg cs, .bool true, .bool true, undef, undef, undef, .bool true, .bool true, undef, undef, undef, undef, undef], []⟩ rfl (by kernel_rfl) (by kernel_rfl) (by kernel_rfl) (fun _ _ _ h => h) (.inl ⟨by kernel_rfl, fun _ _ => by kernel_rfl⟩) b2 (by kernel_rfl) ?_
      refine takeH (i := 10) (v := undef) ⟨#[.agg cs, .pointer (some ⟨w.heap.size, 0, none⟩), .nilIface, (.iface 65 (.pointer (some ⟨m, 0, none⟩))), .pointer (some ⟨w.heap.size, 0, none⟩), .int .i64 b.kind, .pointer (some ⟨w.heap.size, 1, none⟩), .int .i64 b.sub, .bool true, .bool false, .agg cs, (.iface 65 (.pointer (some ⟨m, 0, none⟩))), (.iface 65 (.pointer (some ⟨m, 0, none⟩))), .agg (n4 b).cells, .agg cs, .bool true, .bool true, undef, undef, undef, .bool true, .bool true, undef, undef, undef, undef, undef], []⟩ rfl (by kernel_rfl) (by kernel_rfl) (by kernel_rfl) (fun _ _ _ h => h) (.inr ⟨by kernel_rfl, rfl⟩) b2 (by kernel_rfl) ?_
      refine takeH (i := 11) (v := undef) ⟨#[.agg cs, .pointer (some ⟨w.heap.size, 0, none⟩), .nilIface, (.iface 65 (.pointer (some ⟨m, 0, none⟩))), .pointer (some ⟨w.heap.size, 0, none⟩), .int .i64 b.kind, .pointer (some ⟨w.heap.size, 1, none⟩), .int .i64 b.sub, .bool true, .bool false, .agg cs, (.iface 65 (.pointer (some ⟨m, 0, none⟩))), (.iface 65 (.pointer (some ⟨m, 0, none⟩))), .agg (n4 b).cells, .agg cs, .bool true, .bool true, undef, undef, undef, .bool true, .bool true, undef, undef, undef, undef, undef], []⟩ rfl (by kernel_rfl) (by kernel_rfl) (by kernel_rfl) (fun _ _ _ h => h) (.inr ⟨by kernel_rfl, rfl⟩) b2 (by kernel_rfl) ?_
      refine takeH (i := 12) (v := undef) ⟨#[.agg cs, .pointer (some ⟨w.heap.size, 0, none⟩), .nilIface, (.iface 65 (.pointer (some ⟨m, 0, none⟩))), .pointer (some ⟨w.heap.size, 0, none⟩), .int .i64 b.kind, .pointer (some ⟨w.heap.size, 1, none⟩), .int .i64 b.sub, .bool true, .bool false, .agg cs, (.iface 65 (.pointer (some ⟨m, 0, none⟩))), (.iface 65 (.pointer (some ⟨m, 0, none⟩))), .agg (n4 b).cells, .agg cs, .bool true, .bool true, undef, undef, undef, .bool true, .bool true, undef, undef, undef, undef, undef], []⟩ rfl (by kernel_rfl) (by kernel_rfl) (by kernel_rfl) (fun _ _ _ h => h) (.inr ⟨by kernel_rfl, rfl⟩) b2 (by kernel_rfl) ?_
      refine takeH (i := 13) (v := .bool true) ⟨#[.agg cs, .pointer (some ⟨w.heap.size, 0, none⟩), .nilIface, (.iface 65 (.pointer (some ⟨m, 0, none⟩))), .pointer (some ⟨w.heap.size, 0, none⟩), .int .i64 b.kind, .pointer (some ⟨w.heap.size, 1, none⟩), .int .i64 b.sub, .bool true, .bool false, .agg cs, (.iface 65 (.pointer (some ⟨m, 0, none⟩))), (.iface 65 (.pointer (some ⟨m, 0, none⟩))), .agg (n4 b).cells, .agg cs, .bool true, .bool true, undef, undef, undef, .bool true, .bool true, undef, undef, undef, .bool true, undef], []⟩ rfl (by kernel_rfl) (by kernel_rfl) (by kernel_rfl) (fun _ _ _ h => h) (.inl ⟨by kernel_rfl, fun _ _ => by kernel_rfl⟩) b2 (by kernel_rfl) ?_
      refine wpAnyH_done (by kernel_rfl) ?_ _
      go_wp2
      go_meet
      exact ⟨by rw [E]; rfl, hb2', B2⟩
    refine takeH (i := 3) (v := .bool false) ⟨#[.agg cs, .pointer (some ⟨w.heap.size, 0, none⟩), .nilIface, (.iface 65 (.pointer (some ⟨m, 0, none⟩))), .pointer (some ⟨w.heap.size, 0, none⟩), .int .i64 b.kind, .pointer (some ⟨w.heap.size, 1, none⟩), .int .i64 b.sub, .bool true, .bool false, .agg cs, (.iface 65 (.pointer (some ⟨m, 0, none⟩))), (.iface 65 (.pointer (some ⟨m, 0, none⟩))), .agg (n4 b).cells, .agg cs, .bool false, undef, undef, undef, undef, undef, undef, undef, undef, undef, undef, undef], []⟩ rfl (by kernel_rfl) (by kernel_rfl) (by kernel_rfl) (fun _ _ _ h => h) (.inl ⟨by kernel_rfl, fun v _ => (Try.runNeq v _ _ _ _ _ _ _ _ _ (n4 b) b hr hr (by kernel_rfl) (by rw [HC.out]; kernel_rfl)).trans (by rw [hv]; rfl)⟩) b2 (by kernel_rfl) ?_
    refine takeH (i := 4) (v := .bool false) ⟨#[.agg cs, .pointer (some ⟨w.heap.size, 0, none⟩), .nilIface, (.iface 65 (.pointer (some ⟨m, 0, none⟩))), .pointer (some ⟨w.heap.size, 0, none⟩), .int .i64 b.kind, .pointer (some ⟨w.heap.size, 1, none⟩), .int .i64 b.sub, .bool true, .bool false, .agg cs, (.iface 65 (.pointer (some ⟨m, 0, none⟩))), (.iface 65 (.pointer (some ⟨m, 0, none⟩))), .agg (n4 b).cells, .agg cs, .bool false, .bool false, undef, undef, undef, undef, undef, undef, undef, undef, undef, undef], []⟩ rfl (by kernel_rfl) (by kernel_rfl) (by kernel_rfl) (fun _ _ _ h => h) (.inl ⟨by kernel_rfl, fun _ _ => by kernel_rfl⟩) b2 (by kernel_rfl) ?_
    refine takeH (i := 5) (v := (.iface 65 (.pointer (some ⟨m, 0, none⟩)))) ⟨#[.agg cs, .pointer (some ⟨w.heap.size, 0, none⟩), .nilIface, (.iface 65 (.pointer (some ⟨m, 0, none⟩))), .pointer (some ⟨w.heap.size, 0, none⟩), .int .i64 b.kind, .pointer (some ⟨w.heap.size, 1, none⟩), .int .i64 b.sub, .bool true, .bool false, .agg cs, (.iface 65 (.pointer (some ⟨m, 0, none⟩))), (.iface 65 (.pointer (some ⟨m, 0, none⟩))), .agg (n4 b).cells, .agg cs, .bool false, .bool false, (.iface 65 (.pointer (some ⟨m, 0, none⟩))), undef, undef, undef, undef, undef, undef, undef, undef, undef], []⟩ rfl (by kernel_rfl) (by kernel_rfl) (by kernel_rfl) (fun _ _ _ h => h) (.inl ⟨by kernel_rfl, fun _ _ => by kernel_rfl⟩) b2 (by kernel_rfl) ?_
    refine wpAnyH_all (rs := [6]) (by kernel_rfl) (by simp) ?_
    intro i hi
    obtain rfl : i = 6 := by simpa using hi
    refine wpOp_contract (f := 50) rfl (by kernel_rfl) (by kernel_rfl) (sizesFit_any W2 m b S2) ⟨#[.agg cs, .pointer (some ⟨w.heap.size, 0, none⟩), .nilIface, (.iface 65 (.pointer (some ⟨m, 0, none⟩))), .pointer (some ⟨w.heap.size, 0, none⟩), .int .i64 b.kind, .pointer (some ⟨w.heap.size, 1, none⟩), .int .i64 b.sub, .bool true, .bool false, .agg cs, (.iface 65 (.pointer (some ⟨m, 0, none⟩))), (.iface 65 (.pointer (some ⟨m, 0, none⟩))), .agg (n4 b).cells, .agg cs, .bool false, .bool false, (.iface 65 (.pointer (some ⟨m, 0, none⟩))), .bool (sizes b), undef, undef, undef, undef, undef, undef, undef, undef], []⟩ (by kernel_rfl) ?_
    rintro W3 rfl
    refine ⟨b2, ?_⟩
    cases hz : sizes b
    · have E : val4 b = false := by unfold val4; rw [hv, hz, Bool.true_and, Bool.false_and]
      refine takeH (i := 7) (v := .bool true) ⟨#[.agg cs, .pointer (some ⟨w.heap.size, 0, none⟩), .nilIface, (.iface 65 (.pointer (some ⟨m, 0, none⟩))), .pointer (some ⟨w.heap.size, 0, none⟩), .int .i64 b.kind, .pointer (some ⟨w.heap.size, 1, none⟩), .int .i64 b.sub, .bool true, .bool false, .agg cs, (.iface 65 (.pointer (some ⟨m, 0, none⟩))), (.iface 65 (.pointer (some ⟨m, 0, none⟩))), .agg (n4 b).cells, .agg cs, .bool false, .bool false, (.iface 65 (.pointer (some ⟨m, 0, none⟩))), .bool false, .bool true, undef, undef, undef, undef, undef, undef, undef], []⟩ rfl (by kernel_rfl) (by kernel_rfl) (by kernel_rfl) (fun _ _ _ h => h) (.inl ⟨by kernel_rfl, fun _ _ => by kernel_rfl⟩) b2 (by kernel_rfl) ?_
      refine takeH (i := 8) (v := .bool true) ⟨#[.agg cs, .pointer (some ⟨w.heap.size, 0, none⟩), .nilIface, (.iface 65 (.pointer (some ⟨m, 0, none⟩))), .pointer (some ⟨w.heap.size, 0, none⟩), .int .i64 b.kind, .pointer (some ⟨w.heap.size, 1, none⟩), .int .i64 b.sub, .bool true, .bool false, .agg cs, (.iface 65 (.pointer (some ⟨m, 0, none⟩))), (.iface 65 (.pointer (some ⟨m, 0, none⟩))), .agg (n4 b).cells, .agg cs, .bool false, .bool false, (.iface 65 (.pointer (some ⟨m, 0, none⟩))), .bool false, .bool true, .bool true, undef, undef, undef, undef, undef, undef], []⟩ rfl (by kernel_rfl) (by kernel_rfl) (by kernel_rfl) (fun _ _ _ h => h) (.inl ⟨by kernel_rfl, fun _ _ => by kernel_rfl⟩) b2 (by kernel_rfl) ?_
      refine takeH (i := 9) (v := .bool true) ⟨#[.agg cs, .pointer (some ⟨w.heap.size, 0, none⟩), .nilIface, (.iface 65 (.pointer (some ⟨m, 0, none⟩))), .pointer (some ⟨w.heap.size, 0, none⟩), .int .i64 b.kind, .pointer (some ⟨w.heap.size, 1, none⟩), .int .i64 b.sub, .bool true, .bool false, .agg cs, (.iface 65 (.pointer (some ⟨m, 0, none⟩))), (.iface 65 (.pointer (some ⟨m, 0, none⟩))), .agg (n4 b).cells, .agg cs, .bool false, .bool false, (.iface 65 (.pointer (some ⟨m, 0, none⟩))), .bool false, .bool true, .bool true, .bool true, undef, undef, undef, undef, undef], []⟩ rfl (by kernel_rfl) (by kernel_rfl) (by kernel_rfl) (fun _ _ _ h => h) (.inl ⟨by kernel_rfl, fun _ _ => by kernel_rfl⟩) b2 (by kernel_rfl) ?_
      refine takeH (i := 10) (v := undef) ⟨#[.agg cs, .pointer (some ⟨w.heap.size, 0, none⟩), .nilIface, (.iface 65 (.pointer (some ⟨m, 0, none⟩))), .pointer (some ⟨w.heap.size, 0, none⟩), .int .i64 b.kind, .pointer (some ⟨w.heap.size, 1, none⟩), .int .i64 b.sub, .bool true, .bool false, .agg cs, (.iface 65 (.pointer (some ⟨m, 0, none⟩))), (.iface 65 (.pointer (some ⟨m, 0, none⟩))), .agg (n4 b).cells, .agg cs, .bool false, .bool false, (.iface 65 (.pointer (some ⟨m, 0, none⟩))), .bool false, .bool true, .bool true, .bool true, undef, undef, undef, undef, undef], []⟩ rfl (by kernel_rfl) (by kernel_rfl) (by kernel_rfl) (fun _ _ _ h => h) (.inr ⟨by kernel_rfl, rfl⟩) b2 (by kernel_rfl) ?_
      refine takeH (i := 11) (v := undef) ⟨#[.agg cs, .pointer (some ⟨w.heap.size, 0, none⟩), .nilIface, (.iface 65 (.pointer (some ⟨m, 0, none⟩))), .pointer (some ⟨w.heap.size, 0, none⟩), .int .i64 b.kind, .pointer (some ⟨w.heap.size, 1, none⟩), .int .i64 b.sub, .bool true, .bool false, .agg cs, (.iface 65 (.pointer (some ⟨m, 0, none⟩))), (.iface 65 (.pointer (some ⟨m, 0, none⟩))), .agg (n4 b).cells, .agg cs, .bool false, .bool false, (.iface 65 (.pointer (some ⟨m, 0, none⟩))), .bool false, .bool true, .bool true, .bool true, undef, undef, undef, undef, undef], []⟩ rfl (by kernel_rfl) (by kernel_rfl) (by kernel_rfl) (fun _ _ _ h => h) (.inr ⟨by kernel_rfl, rfl⟩) b2 (by kernel_rfl) ?_
      refine takeH (i := 12) (v := undef) ⟨#[.agg cs, .pointer (some ⟨w.heap.size, 0, none⟩), .nilIface, (.iface 65 (.pointer (some ⟨m, 0, none⟩))), .pointer (some ⟨w.heap.size, 0, none⟩), .int .i64 b.kind, .pointer (some ⟨w.heap.size, 1, none⟩), .int .i64 b.sub, .bool true, .bool false, .agg cs, (.iface 65 (.pointer (some ⟨m, 0, none⟩))), (.iface 65 (.pointer (some ⟨m, 0, none⟩))), .agg (n4 b).cells, .agg cs, .bool false, .bool false, (.iface 65 (.pointer (some ⟨m, 0, none⟩))), .bool false, .bool true, .bool true, .bool true, undef, undef, undef, undef, undef], []⟩ rfl (by kernel_rfl) (by kernel_rfl) (by kernel_rfl) (fun _ _ _ h => h) (.inr ⟨by kernel_rfl, rfl⟩) b2 (by kernel_rfl) ?_
      refine takeH (i := 13) (v := .bool true) ⟨#[.agg cs, .pointer (some ⟨w.heap.size, 0, none⟩), .nilIface, (.iface 65 (.pointer (some ⟨m, 0, none⟩))), .pointer (some ⟨w.heap.size, 0, none⟩), .int .i64 b.kind, .pointer (some ⟨w.heap.size, 1, none⟩), .int .i64 b.sub, .bool true, .bool false, .agg cs, (.iface 65 (.pointer (some ⟨m, 0, none⟩))), (.iface 65 (.pointer (some ⟨m, 0, none⟩))), .agg (n4 b).cells, .agg cs, .bool false, .bool false, (.iface 65 (.pointer (some ⟨m, 0, none⟩))), .bool false, .bool true, .bool true, .bool true, undef, undef, undef, .bool true, undef], []⟩ rfl (by kernel_rfl) (by kernel_rfl) (by kernel_rfl) (fun _ _ _ h => h) (.inl ⟨by kernel_rfl, fun _ _ => by kernel_rfl⟩) b2 (by kernel_rfl) ?_
      refine wpAnyH_done (by kernel_rfl) ?_ _
      go_wp2
      go_meet
      exact ⟨by rw [E]; rfl, hb2', B2⟩
    refine takeH (i := 7) (v := .bool false) ⟨#[.agg cs, .pointer (some ⟨w.heap.size, 0, none⟩), .nilIface, (.iface 65 (.pointer (some ⟨m, 0, none⟩))), .pointer (some ⟨w.heap.size, 0, none⟩), .int .i64 b.kind, .pointer (some ⟨w.heap.size, 1, none⟩), .int .i64 b.sub, .bool true, .bool false, .agg cs, (.iface 65 (.pointer (some ⟨m, 0, none⟩))), (.iface 65 (.pointer (some ⟨m, 0, none⟩))), .agg (n4 b).cells, .agg cs, .bool false, .bool false, (.iface 65 (.pointer (some ⟨m, 0, none⟩))), .bool true, .bool false, undef, undef, undef, undef, undef, undef, undef], []⟩ rfl (by kernel_rfl) (by kernel_rfl) (by kernel_rfl) (fun _ _ _ h => h) (.inl ⟨by kernel_rfl, fun _ _ => by kernel_rfl⟩) b2 (by kernel_rfl) ?_
    refine takeH (i := 8) (v := .bool false) ⟨#[.agg cs, .pointer (some ⟨w.heap.size, 0, none⟩), .nilIface, (.iface 65 (.pointer (some ⟨m, 0, none⟩))), .pointer (some ⟨w.heap.size, 0, none⟩), .int .i64 b.kind, .pointer (some ⟨w.heap.size, 1, none⟩), .int .i64 b.sub, .bool true, .bool false, .agg cs, (.iface 65 (.pointer (some ⟨m, 0, none⟩))), (.iface 65 (.pointer (some ⟨m, 0, none⟩))), .agg (n4 b).cells, .agg cs, .bool false, .bool false, (.iface 65 (.pointer (some ⟨m, 0, none⟩))), .bool true, .bool false, .bool false, undef, undef, undef, undef, undef, undef], []⟩ rfl (by kernel_rfl) (by kernel_rfl) (by kernel_rfl) (fun _ _ _ h => h) (.inl ⟨by kernel_rfl, fun _ _ => by kernel_rfl⟩) b2 (by kernel_rfl) ?_
    refine takeH (i := 9) (v := .bool false) ⟨#[.agg cs, .pointer (some ⟨w.heap.size, 0, none⟩), .nilIface, (.iface 65 (.pointer (some ⟨m, 0, none⟩))), .pointer (some ⟨w.heap.size, 0, none⟩), .int .i64 b.kind, .pointer (some ⟨w.heap.size, 1, none⟩), .int .i64 b.sub, .bool true, .bool false, .agg cs, (.iface 65 (.pointer (some ⟨m, 0, none⟩))), (.iface 65 (.pointer (some ⟨m, 0, none⟩))), .agg (n4 b).cells, .agg cs, .bool false, .bool false, (.iface 65 (.pointer (some ⟨m, 0, none⟩))), .bool true, .bool false, .bool false, .bool false, undef, undef, undef, undef, undef], []⟩ rfl (by kernel_rfl) (by kernel_rfl) (by kernel_rfl) (fun _ _ _ h => h) (.inl ⟨by kernel_rfl, fun _ _ => by kernel_rfl⟩) b2 (by kernel_rfl) ?_
    refine takeH (i := 10) (v := (.iface 65 (.pointer (some ⟨m, 0, none⟩)))) ⟨#[.agg cs, .pointer (some ⟨w.heap.size, 0, none⟩), .nilIface, (.iface 65 (.pointer (some ⟨m, 0, none⟩))), .pointer (some ⟨w.heap.size, 0, none⟩), .int .i64 b.kind, .pointer (some ⟨w.heap.size, 1, none⟩), .int .i64 b.sub, .bool true, .bool false, .agg cs, (.iface 65 (.pointer (some ⟨m, 0, none⟩))), (.iface 65 (.pointer (some ⟨m, 0, none⟩))), .agg (n4 b).cells, .agg cs, .bool false, .bool false, (.iface 65 (.pointer (some ⟨m, 0, none⟩))), .bool true, .bool false, .bool false, .bool false, (.iface 65 (.pointer (some ⟨m, 0, none⟩))), undef, undef, undef, undef], []⟩ rfl (by kernel_rfl) (by kernel_rfl) (by kernel_rfl) (fun _ _ _ h => h) (.inl ⟨by kernel_rfl, fun _ _ => by kernel_rfl⟩) b2 (by kernel_rfl) ?_
    refine wpAnyH_all (rs := [11]) (by kernel_rfl) (by simp) ?_
    intro i hi
    obtain rfl : i = 11 := by simpa using hi
    refine wpOp_contract (f := 68) rfl (by kernel_rfl) (by kernel_rfl) (regs4_any W3 m b (m4_of hr B2)) ⟨#[.agg cs, .pointer (some ⟨w.heap.size, 0, none⟩), .nilIface, (.iface 65 (.pointer (some ⟨m, 0, none⟩))), .pointer (some ⟨w.heap.size, 0, none⟩), .int .i64 b.kind, .pointer (some ⟨w.heap.size, 1, none⟩), .int .i64 b.sub, .bool true, .bool false, .agg cs, (.iface 65 (.pointer (some ⟨m, 0, none⟩))), (.iface 65 (.pointer (some ⟨m, 0, none⟩))), .agg (n4 b).cells, .agg cs, .bool false, .bool false, (.iface 65 (.pointer (some ⟨m, 0, none⟩))), .bool true, .bool false, .bool false, .bool false, (.iface 65 (.pointer (some ⟨m, 0, none⟩))), .bool (regs4 b), undef, undef, undef], []⟩ (by kernel_rfl) ?_
    rintro W4 rfl
    refine ⟨b2, ?_⟩
    cases hg : regs4 b
    · have E : val4 b = false := by unfold val4; rw [hv, hz, hg]; rfl
      refine takeH (i := 12) (v := .bool true) ⟨#[.agg cs, .pointer (some ⟨w.heap.size, 0, none⟩), .nilIface, (.iface 65 (.pointer (some ⟨m, 0, none⟩))), .pointer (some ⟨w.heap.size, 0, none⟩), .int .i64 b.kind, .pointer (some ⟨w.heap.size, 1, none⟩), .int .i64 b.sub, .bool true, .bool false, .agg cs, (.iface 65 (.pointer (some ⟨m, 0, none⟩))), (.iface 65 (.pointer (some ⟨m, 0, none⟩))), .agg (n4 b).cells, .agg cs, .bool false, .bool false, (.iface 65 (.pointer (some ⟨m, 0, none⟩))), .bool true, .bool false, .bool false, .bool false, (.iface 65 (.pointer (some ⟨m, 0, none⟩))), .bool false, .bool true, undef, undef], []⟩ rfl (by kernel_rfl) (by kernel_rfl) (by kernel_rfl) (fun _ _ _ h => h) (.inl ⟨by kernel_rfl, fun _ _ => by kernel_rfl⟩) b2 (by kernel_rfl) ?_
      refine takeH (i := 13) (v := .bool true) ⟨#[.agg cs, .pointer (some ⟨w.heap.size, 0, none⟩), .nilIface, (.iface 65 (.pointer (some ⟨m, 0, none⟩))), .pointer (some ⟨w.heap.size, 0, none⟩), .int .i64 b.kind, .pointer (some ⟨w.heap.size, 1, none⟩), .int .i64 b.sub, .bool true, .bool false, .agg cs, (.iface 65 (.pointer (some ⟨m, 0, none⟩))), (.iface 65 (.pointer (some ⟨m, 0, none⟩))), .agg (n4 b).cells, .agg cs, .bool false, .bool false, (.iface 65 (.pointer (some ⟨m, 0, none⟩))), .bool true, .bool false, .bool false, .bool false, (.iface 65 (.pointer (some ⟨m, 0, none⟩))), .bool false, .bool true, .bool true, undef], []⟩ rfl (by kernel_rfl) (by kernel_rfl) (by kernel_rfl) (fun _ _ _ h => h) (.inl ⟨by kernel_rfl, fun _ _ => by kernel_rfl⟩) b2 (by kernel_rfl) ?_
      refine wpAnyH_done (by kernel_rfl) ?_ _
      go_wp2
      go_meet
      exact ⟨by rw [E]; rfl, hb2', B2⟩
    · have E : val4 b = true := by unfold val4; rw [hv, hz, hg]; rfl
      refine takeH (i := 12) (v := .bool false) ⟨#[.agg cs, .pointer (some ⟨w.heap.size, 0, none⟩), .nilIface, (.iface 65 (.pointer (some ⟨m, 0, none⟩))), .pointer (some ⟨w.heap.size, 0, none⟩), .int .i64 b.kind, .pointer (some ⟨w.heap.size, 1, none⟩), .int .i64 b.sub, .bool true, .bool false, .agg cs, (.iface 65 (.pointer (some ⟨m, 0, none⟩))), (.iface 65 (.pointer (some ⟨m, 0, none⟩))), .agg (n4 b).cells, .agg cs, .bool false, .bool false, (.iface 65 (.pointer (some ⟨m, 0, none⟩))), .bool true, .bool false, .bool false, .bool false, (.iface 65 (.pointer (some ⟨m, 0, none⟩))), .bool true, .bool false, undef, undef], []⟩ rfl (by kernel_rfl) (by kernel_rfl) (by kernel_rfl) (fun _ _ _ h => h) (.inl ⟨by kernel_rfl, fun _ _ => by kernel_rfl⟩) b2 (by kernel_rfl) ?_
      refine takeH (i := 13) (v := .bool false) ⟨#[.agg cs, .pointer (some ⟨w.heap.size, 0, none⟩), .nilIface, (.iface 65 (.pointer (some ⟨m, 0, none⟩))), .pointer (some ⟨w.heap.size, 0, none⟩), .int .i64 b.kind, .pointer (some ⟨w.heap.size, 1, none⟩), .int .i64 b.sub, .bool true, .bool false, .agg cs, (.iface 65 (.pointer (some ⟨m, 0, none⟩))), (.iface 65 (.pointer (some ⟨m, 0, none⟩))), .agg (n4 b).cells, .agg cs, .bool false, .bool false, (.iface 65 (.pointer (some ⟨m, 0, none⟩))), .bool true, .bool false, .bool false, .bool false, (.iface 65 (.pointer (some ⟨m, 0, none⟩))), .bool true, .bool false, .bool false, undef], []⟩ rfl (by kernel_rfl) (by kernel_rfl) (by kernel_rfl) (fun _ _ _ h => h) (.inl ⟨by kernel_rfl, fun _ _ => by kernel_rfl⟩) b2 (by kernel_rfl) ?_
      refine wpAnyH_done (by kernel_rfl) ?_ _
      go_wp2
      go_meet
      exact ⟨by rw [E]; rfl, hb2', B2⟩
  case rest =>
    obtain ⟨rfl, hbc, Bc⟩ := hcut
    clear HS HK HC HL b1 hb1 B1
    cases E : val4 b
    · have EH : Hid (val4 b = false) := E
      clear E
      go_wp2
      go_ret
      exact ⟨hbc, fun _ => rfl, fun h => by rw [EH.out] at h; cases h⟩
    · have EH : Hid (val4 b = true) := E
      clear E
      go_wp2
      go_ret
      exact ⟨hbc, fun h => (by rw [EH.out] at h; cases h), fun _ => ⟨m, rfl, hmw, Bc⟩⟩
end Go.Proofs.Ytpdpfobhbafmcaa
