/-
  What PrgAt and ChrAt answer of every board.
  What Mirror, Page and RamMode answer of every board.
-/
import Derived.Test.YtecaipakaaongaaXNK
set_option linter.unusedSimpArgs false
set_option linter.unusedVariables false
namespace Go.Proofs.Ytecaipakaaongaa
open Go.RowKit Classical
theorem chrB_lt {b : Bd} (o : b.Ok) (x : Int) : 0 ≤ chrB b x ∧ chrB b x ≤ 511 := by
  have h := o.c0
  have h1 := o.c1
  unfold chrB
  have := Int.emod_nonneg (chrN b x) (b := b.chr) (by omega)
  have := Int.emod_lt_of_pos (chrN b x) (b := b.chr) (by omega)
  omega
set_option maxRecDepth 100000 in
set_option maxHeartbeats 1000000 in
theorem chrAt_none (w : World) (b : Bd) (a : Int) (hr : b.r.length = 8) (hv : validB b = false) :
    Calls Try.prog 50 #[.agg b.cells, .int .u16 a] w fun e w' => e = .returned (.int .i64 (-1)) ∧ Below w.heap.size w w' := by
  have OA := fun W => open_any W b hr
  have C := isB b hr
  generalize b.cells = cs at C OA
  have hsz := C.size
  have HS : Hid _ := hsz
  have HO : Hid _ := OA
  have HV : Hid _ := hv
  clear OA hv
  have q0 : ∀ (w : World), (binOp .eql 68 .nilIface .nilIface).run Try.prog w = .ok (.bool true) w := fun w => by
    have := run_equal_nil_nil (P := Try.prog) w 68 (by kernel_rfl)
    simp only [binOp, Sem.run_bind, this, Result.andThen_ok, Sem.run_pure]
  go_enter Try.func50, Try.ntmps50
  go_upto_region 1 with fail
  have b0 : Blk (w.alloc (.cells cs 37)) w.heap.size cs 37 := Blk.new w cs _
  have hb0 : Below w.heap.size w (w.alloc (.cells cs 37)) := (Below.refl _ _).alloc (Nat.le_refl _) _
  generalize w.alloc (.cells cs 37) = W0 at *
  clear C hsz
  go_wp2_with (refine wpList_load_mid rfl 37 _ rfl w.heap.size 0 rfl cs.toList _ b0.range Try.underlying37 rfl (by rw [Array.length_toList, HS.out]; exact Try.infoBoard) ?_)
  refine (HO.out W0).mono ?_
  rintro e W1 ⟨hb1', h⟩
  have hb1 : Below w.heap.size w W1 := hb0.trans (hb1'.mono hb0.size)
  clear hb1' hb0 b0
  rcases h with ⟨E, rfl⟩ | ⟨E, T, m, rfl⟩
  · clear E
    go_wp2
    go_ret
    exact ⟨rfl, hb1⟩
  · exact absurd (HV.out.symm.trans E) (by decide)
set_option maxRecDepth 100000 in
set_option maxHeartbeats 1000000 in
theorem chrAt_out (w : World) (b : Bd) (a : Int) (ha : 8192 ≤ a) (o : b.Ok) :
    Calls Try.prog 50 #[.agg b.cells, .int .u16 a] w fun e w' => e = .returned (.int .i64 (-1)) ∧ Below w.heap.size w w' := by
  obtain ⟨T, t, kc, fC, fM, kn⟩ := kinds o
  have hr := o.wf.rlen
  have OA := fun W => kn.opn b o rfl W
  have C := isB b hr
  generalize b.cells = cs at C OA
  have hsz := C.size
  have HS : Hid _ := hsz
  have HO : Hid _ := OA
  clear OA kn o
  have q1 : ∀ (w : World) (T : TypeId) (x : Value), (binOp .eql 68 (.iface T x) .nilIface).run Try.prog w = .ok (.bool false) w := fun w T x => by
    have := run_equal_held_nil (P := Try.prog) w 68 T x (by kernel_rfl)
    simp only [binOp, Sem.run_bind, this, Result.andThen_ok, Sem.run_pure]
  have x0 : decide (8192 ≤ a) = true := decide_eq_true ha
  clear ha
  go_enter Try.func50, Try.ntmps50
  go_upto_region 1 with fail
  have b0 : Blk (w.alloc (.cells cs 37)) w.heap.size cs 37 := Blk.new w cs _
  have hb0 : Below w.heap.size w (w.alloc (.cells cs 37)) := (Below.refl _ _).alloc (Nat.le_refl _) _
  generalize w.alloc (.cells cs 37) = W0 at *
  clear C hsz
  go_wp2_with (refine wpList_load_mid rfl 37 _ rfl w.heap.size 0 rfl cs.toList _ b0.range Try.underlying37 rfl (by rw [Array.length_toList, HS.out]; exact Try.infoBoard) ?_)
  refine (HO.out W0).mono ?_
  rintro e W1 ⟨m, rfl, hm, hb1', K⟩
  have hb1 : Below w.heap.size w W1 := hb0.trans (hb1'.mono hb0.size)
  clear hb1' hb0 b0 K hm HO
  go_wp2
  go_ret
  exact ⟨rfl, hb1⟩
set_option maxRecDepth 100000 in
set_option maxHeartbeats 1000000 in
theorem chrAt_in (w : World) (b : Bd) (a : Int) (h0 : 0 ≤ a) (h1 : a < 8192) (o : b.Ok) :
    Calls Try.prog 50 #[.agg b.cells, .int .u16 a] w fun e w' => e = .returned (.int .i64 (chrB b (a / 1024) * 1024 + a % 1024)) ∧ Below w.heap.size w w' := by
  obtain ⟨T, t, kc, fC, fM, kn⟩ := kinds o
  have hr := o.wf.rlen
  have OA := fun W => kn.opn b o rfl W
  have C := isB b hr
  generalize b.cells = cs at C OA
  have hsz := C.size
  have HS : Hid _ := hsz
  have HO : Hid _ := OA
  have KN : Hid _ := kn
  have OK : Hid _ := o
  clear OA kn o
  have q1 : ∀ (w : World) (T : TypeId) (x : Value), (binOp .eql 68 (.iface T x) .nilIface).run Try.prog w = .ok (.bool false) w := fun w T x => by
    have := run_equal_held_nil (P := Try.prog) w 68 T x (by kernel_rfl)
    simp only [binOp, Sem.run_bind, this, Result.andThen_ok, Sem.run_pure]
  have x0 : decide (8192 ≤ a) = false := decide_eq_false (by omega)
  have e1 : a.tdiv 1024 = a / 1024 := Int.tdiv_eq_ediv_of_nonneg (by omega)
  have e2 : a.tmod 1024 = a % 1024 := Int.tmod_eq_emod_of_nonneg (by omega)
  have i0 : 0 ≤ a / 1024 := by omega
  have i1 : a / 1024 ≤ 7 := by omega
  have j0 : 0 ≤ a % 1024 := by omega
  have j1 : a % 1024 < 1024 := by omega
  have B01 := chrB_lt OK.out (a / 1024)
  obtain ⟨y0, y1⟩ := B01
  generalize a / 1024 = ix at *
  generalize a % 1024 = jx at *
  generalize hz : chrB b ix = z at *
  have HZ : Hid _ := hz
  clear hz
  go_enter Try.func50, Try.ntmps50
  go_upto_region 1 with fail
  have b0 : Blk (w.alloc (.cells cs 37)) w.heap.size cs 37 := Blk.new w cs _
  have hb0 : Below w.heap.size w (w.alloc (.cells cs 37)) := (Below.refl _ _).alloc (Nat.le_refl _) _
  generalize w.alloc (.cells cs 37) = W0 at *
  clear C hsz
  go_wp2_with (refine wpList_load_mid rfl 37 _ rfl w.heap.size 0 rfl cs.toList _ b0.range Try.underlying37 rfl (by rw [Array.length_toList, HS.out]; exact Try.infoBoard) ?_)
  refine (HO.out W0).mono ?_
  rintro e W1 ⟨m, rfl, hm, hb1', K⟩
  have hb1 : Below w.heap.size w W1 := hb0.trans (hb1'.mono hb0.size)
  have hM := fun w => KN.out.mC m w
  have hE := fun w => KN.out.eC #[.pointer (some ⟨m, 0, none⟩), .int .i64 ix] w
  have CT : Hid _ := (HZ.out ▸ KN.out.chr b OK.out rfl W1 m ix i0 i1 K)
  clear hb1' hb0 b0 K hm HO KN OK
  go_wp2_with fail
  refine Calls.mono CT.out ?_
  rintro e W2 ⟨rfl, hb2'⟩
  have hb2 : Below w.heap.size w W2 := hb1.trans (hb2'.mono hb1.size)
  clear hb2' hb1 CT hM hE
  go_wp2
  go_ret
  exact ⟨rfl, hb2⟩
def chrAtA (b : Bd) (a : Int) : Int := if validB b = true ∧ a < 8192 then chrB b (a / 1024) * 1024 + a % 1024 else -1
theorem chrAt_all (w : World) (b : Bd) (a : Int) (B : b.Wf) (a0 : 0 ≤ a) (a1 : a ≤ 65535) :
    Calls Try.prog 50 #[.agg b.cells, .int .u16 a] w fun e w' => e = .returned (.int .i64 (chrAtA b a)) ∧ Below w.heap.size w w' := by
  unfold chrAtA
  cases hv : validB b
  · rw [if_neg (by simp)]
    exact chrAt_none w b a B.rlen hv
  have o := Bd.ok B hv
  by_cases h0 : 8192 ≤ a
  · rw [if_neg (by omega)]
    exact chrAt_out w b a h0 o
  rw [if_pos ⟨rfl, by omega⟩]
  exact chrAt_in w b a (by omega) (by omega) o
end Go.Proofs.Ytecaipakaaongaa
namespace Go.Proofs.Ytecaipakaaongaa
open Go.RowKit Classical
theorem and3p : ∀ k : Nat, k < 64 → bits .and .u16 (k : Int) 3 = (k : Int) % 4 := by decide +kernel
theorem and1i : ∀ k : Nat, k < 4 → bits .and .i64 (k : Int) 1 = (k : Int) % 2 := by decide +kernel
theorem mirB_five {b : Bd} (o : b.Ok) : mirB b = 0 ∨ mirB b = 1 ∨ mirB b = 2 ∨ mirB b = 3 ∨ mirB b = 4 := by
  have h := o.hd
  unfold mirB
  (repeat' split) <;> omega
set_option maxRecDepth 100000 in
set_option maxHeartbeats 1000000 in
theorem page_none (w : World) (b : Bd) (a : Int) (hr : b.r.length = 8) (hv : validB b = false) :
    Calls Try.prog 49 #[.agg b.cells, .int .u16 a] w fun e w' => e = .returned (.int .i64 0) ∧ Below w.heap.size w w' := by
  have OA := fun W => open_any W b hr
  have C := isB b hr
  generalize b.cells = cs at C OA
  have hsz := C.size
  have HS : Hid _ := hsz
  have HO : Hid _ := OA
  have HV : Hid _ := hv
  clear OA hv
  have q0 : ∀ (w : World), (binOp .eql 68 .nilIface .nilIface).run Try.prog w = .ok (.bool true) w := fun w => by
    have := run_equal_nil_nil (P := Try.prog) w 68 (by kernel_rfl)
    simp only [binOp, Sem.run_bind, this, Result.andThen_ok, Sem.run_pure]
  go_enter Try.func49, Try.ntmps49
  go_upto_region 1 with fail
  have b0 : Blk (w.alloc (.cells cs 37)) w.heap.size cs 37 := Blk.new w cs _
  have hb0 : Below w.heap.size w (w.alloc (.cells cs 37)) := (Below.refl _ _).alloc (Nat.le_refl _) _
  generalize w.alloc (.cells cs 37) = W0 at *
  clear C hsz
  go_wp2_with (refine wpList_load_mid rfl 37 _ rfl w.heap.size 0 rfl cs.toList _ b0.range Try.underlying37 rfl (by rw [Array.length_toList, HS.out]; exact Try.infoBoard) ?_)
  refine (HO.out W0).mono ?_
  rintro e W1 ⟨hb1', h⟩
  have hb1 : Below w.heap.size w W1 := hb0.trans (hb1'.mono hb0.size)
  clear hb1' hb0 b0
  rcases h with ⟨E, rfl⟩ | ⟨E, T, m, rfl⟩
  · clear E
    go_wp2
    go_ret
    exact ⟨rfl, hb1⟩
  · exact absurd (HV.out.symm.trans E) (by decide)
set_option maxRecDepth 100000 in
set_option maxHeartbeats 1000000 in
theorem page_in (w : World) (b : Bd) (a : Int) (a0 : 0 ≤ a) (a1 : a ≤ 65535) (o : b.Ok) :
    Calls Try.prog 49 #[.agg b.cells, .int .u16 a] w fun e w' => e = .returned (.int .i64 (pageB b a)) ∧ Below w.heap.size w w' := by
  obtain ⟨T, t, kc, fC, fM, kn⟩ := kinds o
  have hr := o.wf.rlen
  have OA := fun W => kn.opn b o rfl W
  have C := isB b hr
  generalize b.cells = cs at C OA
  have hsz := C.size
  have HS : Hid _ := hsz
  have HO : Hid _ := OA
  have KN : Hid _ := kn
  have OK : Hid _ := o
  clear OA kn o
  have q1 : ∀ (w : World) (T : TypeId) (x : Value), (binOp .eql 68 (.iface T x) .nilIface).run Try.prog w = .ok (.bool false) w := fun w T x => by
    have := run_equal_held_nil (P := Try.prog) w 68 T x (by kernel_rfl)
    simp only [binOp, Sem.run_bind, this, Result.andThen_ok, Sem.run_pure]
  have k3 : bits .and .u16 (a / 1024) 3 = a / 1024 % 4 := by
    have := and3p (a / 1024).toNat (by omega)
    rwa [show (((a / 1024).toNat : Nat) : Int) = a / 1024 by omega] at this
  have k1 : bits .and .i64 (a / 1024 % 4) 1 = a / 1024 % 2 := by
    have := and1i (a / 1024 % 4).toNat (by omega)
    rw [show (((a / 1024 % 4).toNat : Nat) : Int) = a / 1024 % 4 by omega] at this
    rw [this]; omega
  have i0 : 0 ≤ a / 1024 % 4 := by omega
  have i1 : a / 1024 % 4 ≤ 3 := by omega
  have j0 : 0 ≤ a / 1024 := by omega
  have j1 : a / 1024 ≤ 63 := by omega
  have five := mirB_five OK.out
  obtain ⟨v, hv⟩ : ∃ v, pageB b a = v := ⟨_, rfl⟩
  rw [hv]
  have HV : Hid _ := hv
  clear hv
  have PB : Hid (pageB b a = (if mirB b = 0 then a / 1024 % 4 / 2 else if mirB b = 1 then a / 1024 % 2 else if mirB b = 2 then 0 else if mirB b = 3 then 1 else a / 1024 % 4)) := rfl
  have FV : Hid _ := five
  clear five
  go_enter Try.func49, Try.ntmps49
  go_upto_region 1 with fail
  have b0 : Blk (w.alloc (.cells cs 37)) w.heap.size cs 37 := Blk.new w cs _
  have hb0 : Below w.heap.size w (w.alloc (.cells cs 37)) := (Below.refl _ _).alloc (Nat.le_refl _) _
  generalize w.alloc (.cells cs 37) = W0 at *
  clear C hsz
  go_wp2_with (refine wpList_load_mid rfl 37 _ rfl w.heap.size 0 rfl cs.toList _ b0.range Try.underlying37 rfl (by rw [Array.length_toList, HS.out]; exact Try.infoBoard) ?_)
  refine (HO.out W0).mono ?_
  rintro e W1 ⟨m, rfl, hm, hb1', K⟩
  have hb1 : Below w.heap.size w W1 := hb0.trans (hb1'.mono hb0.size)
  have hM := fun w => KN.out.mM m w
  have hE := fun w => KN.out.eM #[.pointer (some ⟨m, 0, none⟩)] w
  have CT : Hid _ := KN.out.mir b OK.out rfl W1 m K
  clear hb1' hb0 b0 K hm HO KN OK
  go_wp2_with fail
  refine Calls.mono CT.out ?_
  rintro e W2 ⟨rfl, hb2'⟩
  have hb2 : Below w.heap.size w W2 := hb1.trans (hb2'.mono hb1.size)
  clear hb2' hb1 CT hM hE
  generalize mirB b = mm at *
  generalize a / 1024 % 4 = kk at *
  generalize a / 1024 % 2 = kp at *
  have five := FV.out
  have kq0 : 0 ≤ kk / 2 := by omega
  rcases five with rfl | rfl | rfl | rfl | rfl
  · have HB : Hid (pageB b a = kk / 2) := by unfold Hid; rw [PB.out]; rfl
    clear PB FV
    go_wp2
    go_ret
    exact ⟨by rw [← HV.out, HB.out]; rfl, hb2⟩
  · have HB : Hid (pageB b a = kp) := by unfold Hid; rw [PB.out]; rfl
    clear PB FV
    go_wp2
    go_ret
    exact ⟨by rw [← HV.out, HB.out]; rfl, hb2⟩
  · have HB : Hid (pageB b a = 0) := by unfold Hid; rw [PB.out]; rfl
    clear PB FV
    go_wp2
    go_ret
    exact ⟨by rw [← HV.out, HB.out]; rfl, hb2⟩
  · have HB : Hid (pageB b a = 1) := by unfold Hid; rw [PB.out]; rfl
    clear PB FV
    go_wp2
    go_ret
    exact ⟨by rw [← HV.out, HB.out]; rfl, hb2⟩
  · have HB : Hid (pageB b a = kk) := by unfold Hid; rw [PB.out]; rfl
    clear PB FV
    go_wp2
    go_ret
    exact ⟨by rw [← HV.out, HB.out]; rfl, hb2⟩
def pageA (b : Bd) (a : Int) : Int := if validB b = true then pageB b a else 0
theorem page_all (w : World) (b : Bd) (a : Int) (B : b.Wf) (a0 : 0 ≤ a) (a1 : a ≤ 65535) :
    Calls Try.prog 49 #[.agg b.cells, .int .u16 a] w fun e w' => e = .returned (.int .i64 (pageA b a)) ∧ Below w.heap.size w w' := by
  unfold pageA
  cases hv : validB b
  · rw [if_neg (by simp)]
    exact page_none w b a B.rlen hv
  rw [if_pos rfl]
  exact page_in w b a a0 a1 (Bd.ok B hv)
end Go.Proofs.Ytecaipakaaongaa
