/-
  What ToIrq answers of a valid board, kind by kind; conditions: the numbers fit their kinds.
  What Clock answers of a valid board with n above 0, kind by kind; conditions: the numbers fit their kinds.
  What Clock and ToIrq answer of a board that isn't valid, and Clock with n 0 or less; conditions: eight bank registers.
  Both Clock and both ToIrq of every board; conditions: the numbers fit their kinds.
-/
import Derived.Test.YtggphgmpdanliaaMC
import Derived.Test.YtggphgmpdanliaaMValid
import Derived.Test.YtggphgmpdanliaaMI
namespace Go.Proofs.Ytggphgmpdanliaa
open Go.RowKit Classical
theorem sh_of4 {w : World} {m : Nat} {b : Bd} (K : Blk w m (k4c b) 111) : Sh w m b := ⟨(K.cell 0).trans rfl, (K.cell 1).trans rfl, (K.cell 2).trans rfl, (K.cell 3).trans rfl, (K.cell 4).trans rfl, (K.cell 5).trans rfl, (K.cell 6).trans rfl⟩

set_option maxRecDepth 100000 in
theorem toIrqM_0 (w : World) (b : Bd) (B : b.Wf) (hk : b.kind = 0) (hl : lst b.kind b.sub = true) (hv : val0 b = true) :
    Calls Try.prog 25 #[.agg b.cells] w fun e w' => e = .returned (.int .i64 (-1)) ∧ Below w.heap.size w w' := by
  have hr := B.rlen
  have C := isB b hr
  have OA := fun W => open_0 W b hr hk hl
  generalize b.cells = cs at C OA
  have hsz := C.size
  have HS : Hid _ := hsz
  have HO : Hid _ := OA
  have HV : Hid _ := hv
  have HB : Hid _ := B
  have HR : Hid _ := hr
  clear OA hv B hk hl hr
  have q1 : ∀ (w : World) (T : TypeId) (x : Value), (binOp .eql 70 (.iface T x) .nilIface).run Try.prog w = .ok (.bool false) w := fun w T x => by
    have := run_equal_held_nil (P := Try.prog) w 70 T x (by kernel_rfl)
    simp only [binOp, Sem.run_bind, this, Result.andThen_ok, Sem.run_pure]
  go_enter Try.func25, Try.ntmps25
  go_upto_region 1 with fail
  have b0 : Blk (w.alloc (.cells cs 28)) w.heap.size cs 28 := Blk.new w cs _
  have hb0 : Below w.heap.size w (w.alloc (.cells cs 28)) := (Below.refl _ _).alloc (Nat.le_refl _) _
  generalize w.alloc (.cells cs 28) = W0 at *
  clear C hsz
  go_wp2_with (refine wpList_load_mid rfl 28 _ rfl w.heap.size 0 rfl cs.toList _ b0.range Try.underlying28 rfl (by rw [Array.length_toList, HS.out]; exact Try.infoBoard) ?_)
  refine (HO.out W0).mono ?_
  rintro e W1 ⟨hb1', -, h⟩
  obtain ⟨m, rfl, hm, K⟩ := h HV.out
  have hb1 : Below w.heap.size w W1 := hb0.trans (hb1'.mono hb0.size)
  have hM : ∀ w : World, (method 70 91 (.pointer (some ⟨m, 0, none⟩)) "tandem/mapper.toIrq").run Try.prog w = .ok (91, .pointer (some ⟨m, 0, none⟩)) w := fun _ => by kernel_rfl
  have KH : Hid (Blk W1 m (k0c b) 96) := K
  clear hb1' hb0 b0 h hm K HO
  go_wp2_with fail
  refine (toIrq0_any W1 m).mono ?_
  rintro e W2 ⟨rfl, rfl⟩
  go_wp2
  go_ret
  exact ⟨rfl, hb1⟩

set_option maxRecDepth 100000 in
theorem toIrqM_1 (w : World) (b : Bd) (B : b.Wf) (hk : b.kind = 1) (hl : lst b.kind b.sub = true) (hv : val1 b = true) :
    Calls Try.prog 25 #[.agg b.cells] w fun e w' => e = .returned (.int .i64 (-1)) ∧ Below w.heap.size w w' := by
  have hr := B.rlen
  have C := isB b hr
  have OA := fun W => open_1 W b hr hk hl
  generalize b.cells = cs at C OA
  have hsz := C.size
  have HS : Hid _ := hsz
  have HO : Hid _ := OA
  have HV : Hid _ := hv
  have HB : Hid _ := B
  have HR : Hid _ := hr
  clear OA hv B hk hl hr
  have q1 : ∀ (w : World) (T : TypeId) (x : Value), (binOp .eql 70 (.iface T x) .nilIface).run Try.prog w = .ok (.bool false) w := fun w T x => by
    have := run_equal_held_nil (P := Try.prog) w 70 T x (by kernel_rfl)
    simp only [binOp, Sem.run_bind, this, Result.andThen_ok, Sem.run_pure]
  go_enter Try.func25, Try.ntmps25
  go_upto_region 1 with fail
  have b0 : Blk (w.alloc (.cells cs 28)) w.heap.size cs 28 := Blk.new w cs _
  have hb0 : Below w.heap.size w (w.alloc (.cells cs 28)) := (Below.refl _ _).alloc (Nat.le_refl _) _
  generalize w.alloc (.cells cs 28) = W0 at *
  clear C hsz
  go_wp2_with (refine wpList_load_mid rfl 28 _ rfl w.heap.size 0 rfl cs.toList _ b0.range Try.underlying28 rfl (by rw [Array.length_toList, HS.out]; exact Try.infoBoard) ?_)
  refine (HO.out W0).mono ?_
  rintro e W1 ⟨hb1', -, h⟩
  obtain ⟨m, rfl, hm, K⟩ := h HV.out
  have hb1 : Below w.heap.size w W1 := hb0.trans (hb1'.mono hb0.size)
  have hM : ∀ w : World, (method 70 97 (.pointer (some ⟨m, 0, none⟩)) "tandem/mapper.toIrq").run Try.prog w = .ok (91, .pointer (some ⟨m, 0, none⟩)) w := fun _ => by kernel_rfl
  have KH : Hid (Blk W1 m (k1c b) 99) := K
  clear hb1' hb0 b0 h hm K HO
  go_wp2_with fail
  refine (toIrq0_any W1 m).mono ?_
  rintro e W2 ⟨rfl, rfl⟩
  go_wp2
  go_ret
  exact ⟨rfl, hb1⟩

set_option maxRecDepth 100000 in
theorem toIrqM_2 (w : World) (b : Bd) (B : b.Wf) (hk : b.kind = 2) (hl : lst b.kind b.sub = true) (hv : val2 b = true) :
    Calls Try.prog 25 #[.agg b.cells] w fun e w' => e = .returned (.int .i64 (-1)) ∧ Below w.heap.size w w' := by
  have hr := B.rlen
  have C := isB b hr
  have OA := fun W => open_2 W b hr hk hl
  generalize b.cells = cs at C OA
  have hsz := C.size
  have HS : Hid _ := hsz
  have HO : Hid _ := OA
  have HV : Hid _ := hv
  have HB : Hid _ := B
  have HR : Hid _ := hr
  clear OA hv B hk hl hr
  have q1 : ∀ (w : World) (T : TypeId) (x : Value), (binOp .eql 70 (.iface T x) .nilIface).run Try.prog w = .ok (.bool false) w := fun w T x => by
    have := run_equal_held_nil (P := Try.prog) w 70 T x (by kernel_rfl)
    simp only [binOp, Sem.run_bind, this, Result.andThen_ok, Sem.run_pure]
  go_enter Try.func25, Try.ntmps25
  go_upto_region 1 with fail
  have b0 : Blk (w.alloc (.cells cs 28)) w.heap.size cs 28 := Blk.new w cs _
  have hb0 : Below w.heap.size w (w.alloc (.cells cs 28)) := (Below.refl _ _).alloc (Nat.le_refl _) _
  generalize w.alloc (.cells cs 28) = W0 at *
  clear C hsz
  go_wp2_with (refine wpList_load_mid rfl 28 _ rfl w.heap.size 0 rfl cs.toList _ b0.range Try.underlying28 rfl (by rw [Array.length_toList, HS.out]; exact Try.infoBoard) ?_)
  refine (HO.out W0).mono ?_
  rintro e W1 ⟨hb1', -, h⟩
  obtain ⟨m, rfl, hm, K⟩ := h HV.out
  have hb1 : Below w.heap.size w W1 := hb0.trans (hb1'.mono hb0.size)
  have hM : ∀ w : World, (method 70 100 (.pointer (some ⟨m, 0, none⟩)) "tandem/mapper.toIrq").run Try.prog w = .ok (91, .pointer (some ⟨m, 0, none⟩)) w := fun _ => by kernel_rfl
  have KH : Hid (Blk W1 m (kLc b) 104) := K
  clear hb1' hb0 b0 h hm K HO
  go_wp2_with fail
  refine (toIrq0_any W1 m).mono ?_
  rintro e W2 ⟨rfl, rfl⟩
  go_wp2
  go_ret
  exact ⟨rfl, hb1⟩

set_option maxRecDepth 100000 in
theorem toIrqM_3 (w : World) (b : Bd) (B : b.Wf) (hk : b.kind = 3) (hl : lst b.kind b.sub = true) (hv : val3 b = true) :
    Calls Try.prog 25 #[.agg b.cells] w fun e w' => e = .returned (.int .i64 (-1)) ∧ Below w.heap.size w w' := by
  have hr := B.rlen
  have C := isB b hr
  have OA := fun W => open_3 W b hr hk hl
  generalize b.cells = cs at C OA
  have hsz := C.size
  have HS : Hid _ := hsz
  have HO : Hid _ := OA
  have HV : Hid _ := hv
  have HB : Hid _ := B
  have HR : Hid _ := hr
  clear OA hv B hk hl hr
  have q1 : ∀ (w : World) (T : TypeId) (x : Value), (binOp .eql 70 (.iface T x) .nilIface).run Try.prog w = .ok (.bool false) w := fun w T x => by
    have := run_equal_held_nil (P := Try.prog) w 70 T x (by kernel_rfl)
    simp only [binOp, Sem.run_bind, this, Result.andThen_ok, Sem.run_pure]
  go_enter Try.func25, Try.ntmps25
  go_upto_region 1 with fail
  have b0 : Blk (w.alloc (.cells cs 28)) w.heap.size cs 28 := Blk.new w cs _
  have hb0 : Below w.heap.size w (w.alloc (.cells cs 28)) := (Below.refl _ _).alloc (Nat.le_refl _) _
  generalize w.alloc (.cells cs 28) = W0 at *
  clear C hsz
  go_wp2_with (refine wpList_load_mid rfl 28 _ rfl w.heap.size 0 rfl cs.toList _ b0.range Try.underlying28 rfl (by rw [Array.length_toList, HS.out]; exact Try.infoBoard) ?_)
  refine (HO.out W0).mono ?_
  rintro e W1 ⟨hb1', -, h⟩
  obtain ⟨m, rfl, hm, K⟩ := h HV.out
  have hb1 : Below w.heap.size w W1 := hb0.trans (hb1'.mono hb0.size)
  have hM : ∀ w : World, (method 70 105 (.pointer (some ⟨m, 0, none⟩)) "tandem/mapper.toIrq").run Try.prog w = .ok (91, .pointer (some ⟨m, 0, none⟩)) w := fun _ => by kernel_rfl
  have KH : Hid (Blk W1 m (kLc b) 106) := K
  clear hb1' hb0 b0 h hm K HO
  go_wp2_with fail
  refine (toIrq0_any W1 m).mono ?_
  rintro e W2 ⟨rfl, rfl⟩
  go_wp2
  go_ret
  exact ⟨rfl, hb1⟩

set_option maxRecDepth 100000 in
theorem toIrqM_7 (w : World) (b : Bd) (B : b.Wf) (hk : b.kind = 7) (hl : lst b.kind b.sub = true) (hv : val7 b = true) :
    Calls Try.prog 25 #[.agg b.cells] w fun e w' => e = .returned (.int .i64 (-1)) ∧ Below w.heap.size w w' := by
  have hr := B.rlen
  have C := isB b hr
  have OA := fun W => open_7 W b hr hk hl
  generalize b.cells = cs at C OA
  have hsz := C.size
  have HS : Hid _ := hsz
  have HO : Hid _ := OA
  have HV : Hid _ := hv
  have HB : Hid _ := B
  have HR : Hid _ := hr
  clear OA hv B hk hl hr
  have q1 : ∀ (w : World) (T : TypeId) (x : Value), (binOp .eql 70 (.iface T x) .nilIface).run Try.prog w = .ok (.bool false) w := fun w T x => by
    have := run_equal_held_nil (P := Try.prog) w 70 T x (by kernel_rfl)
    simp only [binOp, Sem.run_bind, this, Result.andThen_ok, Sem.run_pure]
  go_enter Try.func25, Try.ntmps25
  go_upto_region 1 with fail
  have b0 : Blk (w.alloc (.cells cs 28)) w.heap.size cs 28 := Blk.new w cs _
  have hb0 : Below w.heap.size w (w.alloc (.cells cs 28)) := (Below.refl _ _).alloc (Nat.le_refl _) _
  generalize w.alloc (.cells cs 28) = W0 at *
  clear C hsz
  go_wp2_with (refine wpList_load_mid rfl 28 _ rfl w.heap.size 0 rfl cs.toList _ b0.range Try.underlying28 rfl (by rw [Array.length_toList, HS.out]; exact Try.infoBoard) ?_)
  refine (HO.out W0).mono ?_
  rintro e W1 ⟨hb1', -, h⟩
  obtain ⟨m, rfl, hm, K⟩ := h HV.out
  have hb1 : Below w.heap.size w W1 := hb0.trans (hb1'.mono hb0.size)
  have hM : ∀ w : World, (method 70 112 (.pointer (some ⟨m, 0, none⟩)) "tandem/mapper.toIrq").run Try.prog w = .ok (91, .pointer (some ⟨m, 0, none⟩)) w := fun _ => by kernel_rfl
  have KH : Hid (Blk W1 m (kLc b) 113) := K
  clear hb1' hb0 b0 h hm K HO
  go_wp2_with fail
  refine (toIrq0_any W1 m).mono ?_
  rintro e W2 ⟨rfl, rfl⟩
  go_wp2
  go_ret
  exact ⟨rfl, hb1⟩

set_option maxRecDepth 100000 in
theorem toIrqM_4 (w : World) (b : Bd) (B : b.Wf) (hk : b.kind = 4) (hl : lst b.kind b.sub = true) (hv : val4 b = true) :
    Calls Try.prog 25 #[.agg b.cells] w fun e w' => e = .returned (.int .i64 (irqV b)) ∧ Below w.heap.size w w' := by
  have hr := B.rlen
  have C := isB b hr
  have OA := fun W => open_4 W b hr hk hl
  generalize b.cells = cs at C OA
  have hsz := C.size
  have HS : Hid _ := hsz
  have HO : Hid _ := OA
  have HV : Hid _ := hv
  have HB : Hid _ := B
  have HR : Hid _ := hr
  clear OA hv B hk hl hr
  have q1 : ∀ (w : World) (T : TypeId) (x : Value), (binOp .eql 70 (.iface T x) .nilIface).run Try.prog w = .ok (.bool false) w := fun w T x => by
    have := run_equal_held_nil (P := Try.prog) w 70 T x (by kernel_rfl)
    simp only [binOp, Sem.run_bind, this, Result.andThen_ok, Sem.run_pure]
  go_enter Try.func25, Try.ntmps25
  go_upto_region 1 with fail
  have b0 : Blk (w.alloc (.cells cs 28)) w.heap.size cs 28 := Blk.new w cs _
  have hb0 : Below w.heap.size w (w.alloc (.cells cs 28)) := (Below.refl _ _).alloc (Nat.le_refl _) _
  generalize w.alloc (.cells cs 28) = W0 at *
  clear C hsz
  go_wp2_with (refine wpList_load_mid rfl 28 _ rfl w.heap.size 0 rfl cs.toList _ b0.range Try.underlying28 rfl (by rw [Array.length_toList, HS.out]; exact Try.infoBoard) ?_)
  refine (HO.out W0).mono ?_
  rintro e W1 ⟨hb1', -, h⟩
  obtain ⟨m, rfl, hm, K⟩ := h HV.out
  have hb1 : Below w.heap.size w W1 := hb0.trans (hb1'.mono hb0.size)
  have hM : ∀ w : World, (method 70 107 (.pointer (some ⟨m, 0, none⟩)) "tandem/mapper.toIrq").run Try.prog w = .ok (115, .pointer (some ⟨m, 0, none⟩)) w := fun _ => by kernel_rfl
  have KH : Hid (Blk W1 m (k4c b) 111) := K
  clear hb1' hb0 b0 h hm K HO
  go_wp2_with fail
  refine (toIrq4_any W1 m b HB.out (sh_of4 KH.out) (m4_of HR.out KH.out)).mono ?_
  rintro e W2 ⟨rfl, nd, rfl⟩
  go_wp2
  go_ret
  exact ⟨rfl, below_drewN hb1 nd⟩
end Go.Proofs.Ytggphgmpdanliaa
namespace Go.Proofs.Ytggphgmpdanliaa
open Go.RowKit Classical

set_option maxRecDepth 100000 in
set_option maxHeartbeats 1000000 in
theorem clockM_0 (w : World) (b : Bd) (n : Int) (B : b.Wf) (hn : 0 < n ∧ n ≤ 9223372036854775807) (hk : b.kind = 0) (hl : lst b.kind b.sub = true) (hv : val0 b = true) :
    Calls Try.prog 24 #[.agg b.cells, .int .i64 n] w fun e w' => e = .returned (.agg (bare 0 b).cells) ∧ Below w.heap.size w w' := by
  have hr := B.rlen
  have C := isB b hr
  have OA := fun W => open_0 W b hr hk hl
  generalize b.cells = cs at C OA
  have hsz := C.size
  have HS : Hid _ := hsz
  have HO : Hid _ := OA
  have HV : Hid _ := hv
  have HB : Hid _ := B
  have HR : Hid _ := hr
  have HN : Hid _ := hn
  have n0 : decide (n ≤ 0) = false := decide_eq_false (by omega)
  clear OA hv B hk hl hr hn
  have q1 : ∀ (w : World) (T : TypeId) (x : Value), (binOp .eql 70 (.iface T x) .nilIface).run Try.prog w = .ok (.bool false) w := fun w T x => by
    have := run_equal_held_nil (P := Try.prog) w 70 T x (by kernel_rfl)
    simp only [binOp, Sem.run_bind, this, Result.andThen_ok, Sem.run_pure]
  go_enter Try.func24, Try.ntmps24
  go_upto_region 1 with fail
  change Code.wp _ _ _ _ ((w.alloc (.cells cs 28)).alloc (.cells Z31 28))
  have b0 : Blk ((w.alloc (.cells cs 28)).alloc (.cells Z31 28)) w.heap.size cs 28 := (Blk.new w cs _).old _
  have z0 : Blk ((w.alloc (.cells cs 28)).alloc (.cells Z31 28)) (w.heap.size + 1) Z31 28 := by
    have := Blk.new (w.alloc (.cells cs 28)) Z31 28
    rwa [World.size_alloc] at this
  have hb0 : Below w.heap.size w ((w.alloc (.cells cs 28)).alloc (.cells Z31 28)) := ((Below.refl _ _).alloc (Nat.le_refl _) _).alloc (by simp) _
  generalize (w.alloc (.cells cs 28)).alloc (.cells Z31 28) = W0 at *
  clear C hsz
  go_wp2_with (refine wpList_load_mid rfl 28 _ rfl w.heap.size 0 rfl cs.toList _ b0.range Try.underlying28 rfl (by rw [Array.length_toList, HS.out]; exact Try.infoBoard) ?_)
  refine (HO.out W0).mono ?_
  rintro e W1 ⟨hb1', -, h⟩
  obtain ⟨m, rfl, hm, K⟩ := h HV.out
  have hb1 : Below w.heap.size w W1 := hb0.trans (hb1'.mono hb0.size)
  have hz := z0.lt
  have z1 := z0.below hz hb1'
  have hM : ∀ w : World, (method 70 91 (.pointer (some ⟨m, 0, none⟩)) "tandem/mapper.clock").run Try.prog w = .ok (84, .pointer (some ⟨m, 0, none⟩)) w := fun _ => by kernel_rfl
  have KH : Hid (Blk W1 m (k0c b) 96) := K
  have ZH : Hid (Blk W1 (w.heap.size + 1) Z31 28) := z1
  clear hb1' hb0 b0 z0 h K HO z1
  go_wp2_with fail
  refine (clock0_any W1 m n).mono ?_
  rintro e W2 ⟨rfl, rfl⟩
  have z2 : Blk W2 (w.heap.size + 1) Z31 28 := ZH.out
  have K2 : Blk W2 m (k0c b) 96 := KH.out
  have hb2 : Below w.heap.size w W2 := hb1
  have PL : Hid _ := plain_0 W2 b HR.out m K2
  have Z2H : Hid (Blk W2 (w.heap.size + 1) Z31 28) := z2
  clear z2 K2 KH ZH
  go_wp2_with fail
  refine Calls.mono PL.out ?_
  rintro e W3 ⟨rfl, hb3'⟩
  have z3 : Blk W3 (w.heap.size + 1) Z31 28 := Blk.below Z2H.out (Blk.lt Z2H.out) hb3'
  have hb3 : Below w.heap.size w W3 := hb2.trans (hb3'.mono (by have := hb2.size; omega))
  have Hs : Hid _ := (isB (bare 0 b) rfl).size
  have H1 : Hid _ := (isB (bare 0 b) rfl).one
  clear hb3' PL Z2H
  generalize hL : (bare 0 b).cells = L at *
  have HL : Hid _ := hL
  clear hL
  go_wp2_with (refine wpList_store_mid rfl 28 _ _ rfl (w.heap.size + 1) 0 L rfl rfl (by exact z3.there _ Hs.out.symm) (by rw [Hs.out]; exact Try.infoBoard) H1.out ?_)
  exact ret_agg (m := w.heap.size + 1) (L := L) Try.results24 (by rfl) (z3.setAll L Hs.out) Try.underlying28 rfl (by rw [Hs.out]; exact Try.infoBoard) ⟨by rw [HL.out], setCells_below (Nat.le_succ _) _ _ _ _ hb3⟩

set_option maxRecDepth 100000 in
set_option maxHeartbeats 1000000 in
theorem clockM_1 (w : World) (b : Bd) (n : Int) (B : b.Wf) (hn : 0 < n ∧ n ≤ 9223372036854775807) (hk : b.kind = 1) (hl : lst b.kind b.sub = true) (hv : val1 b = true) :
    Calls Try.prog 24 #[.agg b.cells, .int .i64 n] w fun e w' => e = .returned (.agg (n1 b).cells) ∧ Below w.heap.size w w' := by
  have hr := B.rlen
  have C := isB b hr
  have OA := fun W => open_1 W b hr hk hl
  generalize b.cells = cs at C OA
  have hsz := C.size
  have HS : Hid _ := hsz
  have HO : Hid _ := OA
  have HV : Hid _ := hv
  have HB : Hid _ := B
  have HR : Hid _ := hr
  have HN : Hid _ := hn
  have n0 : decide (n ≤ 0) = false := decide_eq_false (by omega)
  clear OA hv B hk hl hr hn
  have q1 : ∀ (w : World) (T : TypeId) (x : Value), (binOp .eql 70 (.iface T x) .nilIface).run Try.prog w = .ok (.bool false) w := fun w T x => by
    have := run_equal_held_nil (P := Try.prog) w 70 T x (by kernel_rfl)
    simp only [binOp, Sem.run_bind, this, Result.andThen_ok, Sem.run_pure]
  go_enter Try.func24, Try.ntmps24
  go_upto_region 1 with fail
  change Code.wp _ _ _ _ ((w.alloc (.cells cs 28)).alloc (.cells Z31 28))
  have b0 : Blk ((w.alloc (.cells cs 28)).alloc (.cells Z31 28)) w.heap.size cs 28 := (Blk.new w cs _).old _
  have z0 : Blk ((w.alloc (.cells cs 28)).alloc (.cells Z31 28)) (w.heap.size + 1) Z31 28 := by
    have := Blk.new (w.alloc (.cells cs 28)) Z31 28
    rwa [World.size_alloc] at this
  have hb0 : Below w.heap.size w ((w.alloc (.cells cs 28)).alloc (.cells Z31 28)) := ((Below.refl _ _).alloc (Nat.le_refl _) _).alloc (by simp) _
  generalize (w.alloc (.cells cs 28)).alloc (.cells Z31 28) = W0 at *
  clear C hsz
  go_wp2_with (refine wpList_load_mid rfl 28 _ rfl w.heap.size 0 rfl cs.toList _ b0.range Try.underlying28 rfl (by rw [Array.length_toList, HS.out]; exact Try.infoBoard) ?_)
  refine (HO.out W0).mono ?_
  rintro e W1 ⟨hb1', -, h⟩
  obtain ⟨m, rfl, hm, K⟩ := h HV.out
  have hb1 : Below w.heap.size w W1 := hb0.trans (hb1'.mono hb0.size)
  have hz := z0.lt
  have z1 := z0.below hz hb1'
  have hM : ∀ w : World, (method 70 97 (.pointer (some ⟨m, 0, none⟩)) "tandem/mapper.clock").run Try.prog w = .ok (84, .pointer (some ⟨m, 0, none⟩)) w := fun _ => by kernel_rfl
  have KH : Hid (Blk W1 m (k1c b) 99) := K
  have ZH : Hid (Blk W1 (w.heap.size + 1) Z31 28) := z1
  clear hb1' hb0 b0 z0 h K HO z1
  go_wp2_with fail
  refine (clock0_any W1 m n).mono ?_
  rintro e W2 ⟨rfl, rfl⟩
  have z2 : Blk W2 (w.heap.size + 1) Z31 28 := ZH.out
  have K2 : Blk W2 m (k1c b) 99 := KH.out
  have hb2 : Below w.heap.size w W2 := hb1
  have PL : Hid _ := plain_1 W2 b HR.out m K2
  have Z2H : Hid (Blk W2 (w.heap.size + 1) Z31 28) := z2
  clear z2 K2 KH ZH
  go_wp2_with fail
  refine Calls.mono PL.out ?_
  rintro e W3 ⟨rfl, hb3'⟩
  have z3 : Blk W3 (w.heap.size + 1) Z31 28 := Blk.below Z2H.out (Blk.lt Z2H.out) hb3'
  have hb3 : Below w.heap.size w W3 := hb2.trans (hb3'.mono (by have := hb2.size; omega))
  have Hs : Hid _ := (isB (n1 b) rfl).size
  have H1 : Hid _ := (isB (n1 b) rfl).one
  clear hb3' PL Z2H
  generalize hL : (n1 b).cells = L at *
  have HL : Hid _ := hL
  clear hL
  go_wp2_with (refine wpList_store_mid rfl 28 _ _ rfl (w.heap.size + 1) 0 L rfl rfl (by exact z3.there _ Hs.out.symm) (by rw [Hs.out]; exact Try.infoBoard) H1.out ?_)
  exact ret_agg (m := w.heap.size + 1) (L := L) Try.results24 (by rfl) (z3.setAll L Hs.out) Try.underlying28 rfl (by rw [Hs.out]; exact Try.infoBoard) ⟨by rw [HL.out], setCells_below (Nat.le_succ _) _ _ _ _ hb3⟩

set_option maxRecDepth 100000 in
set_option maxHeartbeats 1000000 in
theorem clockM_2 (w : World) (b : Bd) (n : Int) (B : b.Wf) (hn : 0 < n ∧ n ≤ 9223372036854775807) (hk : b.kind = 2) (hl : lst b.kind b.sub = true) (hv : val2 b = true) :
    Calls Try.prog 24 #[.agg b.cells, .int .i64 n] w fun e w' => e = .returned (.agg (nL 2 b).cells) ∧ Below w.heap.size w w' := by
  have hr := B.rlen
  have C := isB b hr
  have OA := fun W => open_2 W b hr hk hl
  generalize b.cells = cs at C OA
  have hsz := C.size
  have HS : Hid _ := hsz
  have HO : Hid _ := OA
  have HV : Hid _ := hv
  have HB : Hid _ := B
  have HR : Hid _ := hr
  have HN : Hid _ := hn
  have n0 : decide (n ≤ 0) = false := decide_eq_false (by omega)
  clear OA hv B hk hl hr hn
  have q1 : ∀ (w : World) (T : TypeId) (x : Value), (binOp .eql 70 (.iface T x) .nilIface).run Try.prog w = .ok (.bool false) w := fun w T x => by
    have := run_equal_held_nil (P := Try.prog) w 70 T x (by kernel_rfl)
    simp only [binOp, Sem.run_bind, this, Result.andThen_ok, Sem.run_pure]
  go_enter Try.func24, Try.ntmps24
  go_upto_region 1 with fail
  change Code.wp _ _ _ _ ((w.alloc (.cells cs 28)).alloc (.cells Z31 28))
  have b0 : Blk ((w.alloc (.cells cs 28)).alloc (.cells Z31 28)) w.heap.size cs 28 := (Blk.new w cs _).old _
  have z0 : Blk ((w.alloc (.cells cs 28)).alloc (.cells Z31 28)) (w.heap.size + 1) Z31 28 := by
    have := Blk.new (w.alloc (.cells cs 28)) Z31 28
    rwa [World.size_alloc] at this
  have hb0 : Below w.heap.size w ((w.alloc (.cells cs 28)).alloc (.cells Z31 28)) := ((Below.refl _ _).alloc (Nat.le_refl _) _).alloc (by simp) _
  generalize (w.alloc (.cells cs 28)).alloc (.cells Z31 28) = W0 at *
  clear C hsz
  go_wp2_with (refine wpList_load_mid rfl 28 _ rfl w.heap.size 0 rfl cs.toList _ b0.range Try.underlying28 rfl (by rw [Array.length_toList, HS.out]; exact Try.infoBoard) ?_)
  refine (HO.out W0).mono ?_
  rintro e W1 ⟨hb1', -, h⟩
  obtain ⟨m, rfl, hm, K⟩ := h HV.out
  have hb1 : Below w.heap.size w W1 := hb0.trans (hb1'.mono hb0.size)
  have hz := z0.lt
  have z1 := z0.below hz hb1'
  have hM : ∀ w : World, (method 70 100 (.pointer (some ⟨m, 0, none⟩)) "tandem/mapper.clock").run Try.prog w = .ok (84, .pointer (some ⟨m, 0, none⟩)) w := fun _ => by kernel_rfl
  have KH : Hid (Blk W1 m (kLc b) 104) := K
  have ZH : Hid (Blk W1 (w.heap.size + 1) Z31 28) := z1
  clear hb1' hb0 b0 z0 h K HO z1
  go_wp2_with fail
  refine (clock0_any W1 m n).mono ?_
  rintro e W2 ⟨rfl, rfl⟩
  have z2 : Blk W2 (w.heap.size + 1) Z31 28 := ZH.out
  have K2 : Blk W2 m (kLc b) 104 := KH.out
  have hb2 : Below w.heap.size w W2 := hb1
  have PL : Hid _ := plain_2 W2 b HR.out m K2
  have Z2H : Hid (Blk W2 (w.heap.size + 1) Z31 28) := z2
  clear z2 K2 KH ZH
  go_wp2_with fail
  refine Calls.mono PL.out ?_
  rintro e W3 ⟨rfl, hb3'⟩
  have z3 : Blk W3 (w.heap.size + 1) Z31 28 := Blk.below Z2H.out (Blk.lt Z2H.out) hb3'
  have hb3 : Below w.heap.size w W3 := hb2.trans (hb3'.mono (by have := hb2.size; omega))
  have Hs : Hid _ := (isB (nL 2 b) rfl).size
  have H1 : Hid _ := (isB (nL 2 b) rfl).one
  clear hb3' PL Z2H
  generalize hL : (nL 2 b).cells = L at *
  have HL : Hid _ := hL
  clear hL
  go_wp2_with (refine wpList_store_mid rfl 28 _ _ rfl (w.heap.size + 1) 0 L rfl rfl (by exact z3.there _ Hs.out.symm) (by rw [Hs.out]; exact Try.infoBoard) H1.out ?_)
  exact ret_agg (m := w.heap.size + 1) (L := L) Try.results24 (by rfl) (z3.setAll L Hs.out) Try.underlying28 rfl (by rw [Hs.out]; exact Try.infoBoard) ⟨by rw [HL.out], setCells_below (Nat.le_succ _) _ _ _ _ hb3⟩

set_option maxRecDepth 100000 in
set_option maxHeartbeats 1000000 in
theorem clockM_3 (w : World) (b : Bd) (n : Int) (B : b.Wf) (hn : 0 < n ∧ n ≤ 9223372036854775807) (hk : b.kind = 3) (hl : lst b.kind b.sub = true) (hv : val3 b = true) :
    Calls Try.prog 24 #[.agg b.cells, .int .i64 n] w fun e w' => e = .returned (.agg (nL 3 b).cells) ∧ Below w.heap.size w w' := by
  have hr := B.rlen
  have C := isB b hr
  have OA := fun W => open_3 W b hr hk hl
  generalize b.cells = cs at C OA
  have hsz := C.size
  have HS : Hid _ := hsz
  have HO : Hid _ := OA
  have HV : Hid _ := hv
  have HB : Hid _ := B
  have HR : Hid _ := hr
  have HN : Hid _ := hn
  have n0 : decide (n ≤ 0) = false := decide_eq_false (by omega)
  clear OA hv B hk hl hr hn
  have q1 : ∀ (w : World) (T : TypeId) (x : Value), (binOp .eql 70 (.iface T x) .nilIface).run Try.prog w = .ok (.bool false) w := fun w T x => by
    have := run_equal_held_nil (P := Try.prog) w 70 T x (by kernel_rfl)
    simp only [binOp, Sem.run_bind, this, Result.andThen_ok, Sem.run_pure]
  go_enter Try.func24, Try.ntmps24
  go_upto_region 1 with fail
  change Code.wp _ _ _ _ ((w.alloc (.cells cs 28)).alloc (.cells Z31 28))
  have b0 : Blk ((w.alloc (.cells cs 28)).alloc (.cells Z31 28)) w.heap.size cs 28 := (Blk.new w cs _).old _
  have z0 : Blk ((w.alloc (.cells cs 28)).alloc (.cells Z31 28)) (w.heap.size + 1) Z31 28 := by
    have := Blk.new (w.alloc (.cells cs 28)) Z31 28
    rwa [World.size_alloc] at this
  have hb0 : Below w.heap.size w ((w.alloc (.cells cs 28)).alloc (.cells Z31 28)) := ((Below.refl _ _).alloc (Nat.le_refl _) _).alloc (by simp) _
  generalize (w.alloc (.cells cs 28)).alloc (.cells Z31 28) = W0 at *
  clear C hsz
  go_wp2_with (refine wpList_load_mid rfl 28 _ rfl w.heap.size 0 rfl cs.toList _ b0.range Try.underlying28 rfl (by rw [Array.length_toList, HS.out]; exact Try.infoBoard) ?_)
  refine (HO.out W0).mono ?_
  rintro e W1 ⟨hb1', -, h⟩
  obtain ⟨m, rfl, hm, K⟩ := h HV.out
  have hb1 : Below w.heap.size w W1 := hb0.trans (hb1'.mono hb0.size)
  have hz := z0.lt
  have z1 := z0.below hz hb1'
  have hM : ∀ w : World, (method 70 105 (.pointer (some ⟨m, 0, none⟩)) "tandem/mapper.clock").run Try.prog w = .ok (84, .pointer (some ⟨m, 0, none⟩)) w := fun _ => by kernel_rfl
  have KH : Hid (Blk W1 m (kLc b) 106) := K
  have ZH : Hid (Blk W1 (w.heap.size + 1) Z31 28) := z1
  clear hb1' hb0 b0 z0 h K HO z1
  go_wp2_with fail
  refine (clock0_any W1 m n).mono ?_
  rintro e W2 ⟨rfl, rfl⟩
  have z2 : Blk W2 (w.heap.size + 1) Z31 28 := ZH.out
  have K2 : Blk W2 m (kLc b) 106 := KH.out
  have hb2 : Below w.heap.size w W2 := hb1
  have PL : Hid _ := plain_3 W2 b HR.out m K2
  have Z2H : Hid (Blk W2 (w.heap.size + 1) Z31 28) := z2
  clear z2 K2 KH ZH
  go_wp2_with fail
  refine Calls.mono PL.out ?_
  rintro e W3 ⟨rfl, hb3'⟩
  have z3 : Blk W3 (w.heap.size + 1) Z31 28 := Blk.below Z2H.out (Blk.lt Z2H.out) hb3'
  have hb3 : Below w.heap.size w W3 := hb2.trans (hb3'.mono (by have := hb2.size; omega))
  have Hs : Hid _ := (isB (nL 3 b) rfl).size
  have H1 : Hid _ := (isB (nL 3 b) rfl).one
  clear hb3' PL Z2H
  generalize hL : (nL 3 b).cells = L at *
  have HL : Hid _ := hL
  clear hL
  go_wp2_with (refine wpList_store_mid rfl 28 _ _ rfl (w.heap.size + 1) 0 L rfl rfl (by exact z3.there _ Hs.out.symm) (by rw [Hs.out]; exact Try.infoBoard) H1.out ?_)
  exact ret_agg (m := w.heap.size + 1) (L := L) Try.results24 (by rfl) (z3.setAll L Hs.out) Try.underlying28 rfl (by rw [Hs.out]; exact Try.infoBoard) ⟨by rw [HL.out], setCells_below (Nat.le_succ _) _ _ _ _ hb3⟩

set_option maxRecDepth 100000 in
set_option maxHeartbeats 1000000 in
theorem clockM_7 (w : World) (b : Bd) (n : Int) (B : b.Wf) (hn : 0 < n ∧ n ≤ 9223372036854775807) (hk : b.kind = 7) (hl : lst b.kind b.sub = true) (hv : val7 b = true) :
    Calls Try.prog 24 #[.agg b.cells, .int .i64 n] w fun e w' => e = .returned (.agg (nL 7 b).cells) ∧ Below w.heap.size w w' := by
  have hr := B.rlen
  have C := isB b hr
  have OA := fun W => open_7 W b hr hk hl
  generalize b.cells = cs at C OA
  have hsz := C.size
  have HS : Hid _ := hsz
  have HO : Hid _ := OA
  have HV : Hid _ := hv
  have HB : Hid _ := B
  have HR : Hid _ := hr
  have HN : Hid _ := hn
  have n0 : decide (n ≤ 0) = false := decide_eq_false (by omega)
  clear OA hv B hk hl hr hn
  have q1 : ∀ (w : World) (T : TypeId) (x : Value), (binOp .eql 70 (.iface T x) .nilIface).run Try.prog w = .ok (.bool false) w := fun w T x => by
    have := run_equal_held_nil (P := Try.prog) w 70 T x (by kernel_rfl)
    simp only [binOp, Sem.run_bind, this, Result.andThen_ok, Sem.run_pure]
  go_enter Try.func24, Try.ntmps24
  go_upto_region 1 with fail
  change Code.wp _ _ _ _ ((w.alloc (.cells cs 28)).alloc (.cells Z31 28))
  have b0 : Blk ((w.alloc (.cells cs 28)).alloc (.cells Z31 28)) w.heap.size cs 28 := (Blk.new w cs _).old _
  have z0 : Blk ((w.alloc (.cells cs 28)).alloc (.cells Z31 28)) (w.heap.size + 1) Z31 28 := by
    have := Blk.new (w.alloc (.cells cs 28)) Z31 28
    rwa [World.size_alloc] at this
  have hb0 : Below w.heap.size w ((w.alloc (.cells cs 28)).alloc (.cells Z31 28)) := ((Below.refl _ _).alloc (Nat.le_refl _) _).alloc (by simp) _
  generalize (w.alloc (.cells cs 28)).alloc (.cells Z31 28) = W0 at *
  clear C hsz
  go_wp2_with (refine wpList_load_mid rfl 28 _ rfl w.heap.size 0 rfl cs.toList _ b0.range Try.underlying28 rfl (by rw [Array.length_toList, HS.out]; exact Try.infoBoard) ?_)
  refine (HO.out W0).mono ?_
  rintro e W1 ⟨hb1', -, h⟩
  obtain ⟨m, rfl, hm, K⟩ := h HV.out
  have hb1 : Below w.heap.size w W1 := hb0.trans (hb1'.mono hb0.size)
  have hz := z0.lt
  have z1 := z0.below hz hb1'
  have hM : ∀ w : World, (method 70 112 (.pointer (some ⟨m, 0, none⟩)) "tandem/mapper.clock").run Try.prog w = .ok (84, .pointer (some ⟨m, 0, none⟩)) w := fun _ => by kernel_rfl
  have KH : Hid (Blk W1 m (kLc b) 113) := K
  have ZH : Hid (Blk W1 (w.heap.size + 1) Z31 28) := z1
  clear hb1' hb0 b0 z0 h K HO z1
  go_wp2_with fail
  refine (clock0_any W1 m n).mono ?_
  rintro e W2 ⟨rfl, rfl⟩
  have z2 : Blk W2 (w.heap.size + 1) Z31 28 := ZH.out
  have K2 : Blk W2 m (kLc b) 113 := KH.out
  have hb2 : Below w.heap.size w W2 := hb1
  have PL : Hid _ := plain_7 W2 b HR.out m K2
  have Z2H : Hid (Blk W2 (w.heap.size + 1) Z31 28) := z2
  clear z2 K2 KH ZH
  go_wp2_with fail
  refine Calls.mono PL.out ?_
  rintro e W3 ⟨rfl, hb3'⟩
  have z3 : Blk W3 (w.heap.size + 1) Z31 28 := Blk.below Z2H.out (Blk.lt Z2H.out) hb3'
  have hb3 : Below w.heap.size w W3 := hb2.trans (hb3'.mono (by have := hb2.size; omega))
  have Hs : Hid _ := (isB (nL 7 b) rfl).size
  have H1 : Hid _ := (isB (nL 7 b) rfl).one
  clear hb3' PL Z2H
  generalize hL : (nL 7 b).cells = L at *
  have HL : Hid _ := hL
  clear hL
  go_wp2_with (refine wpList_store_mid rfl 28 _ _ rfl (w.heap.size + 1) 0 L rfl rfl (by exact z3.there _ Hs.out.symm) (by rw [Hs.out]; exact Try.infoBoard) H1.out ?_)
  exact ret_agg (m := w.heap.size + 1) (L := L) Try.results24 (by rfl) (z3.setAll L Hs.out) Try.underlying28 rfl (by rw [Hs.out]; exact Try.infoBoard) ⟨by rw [HL.out], setCells_below (Nat.le_succ _) _ _ _ _ hb3⟩

set_option maxRecDepth 100000 in
set_option maxHeartbeats 1000000 in
theorem clockM_4 (w : World) (b : Bd) (n : Int) (B : b.Wf) (hn : 0 < n ∧ n ≤ 9223372036854775807) (hk : b.kind = 4) (hl : lst b.kind b.sub = true) (hv : val4 b = true) :
    Calls Try.prog 24 #[.agg b.cells, .int .i64 n] w fun e w' => e = .returned (.agg (n4 (clkB b n (b.sub == 4))).cells) ∧ Below w.heap.size w w' := by
  have hr := B.rlen
  have C := isB b hr
  have OA := fun W => open_4 W b hr hk hl
  generalize b.cells = cs at C OA
  have hsz := C.size
  have HS : Hid _ := hsz
  have HO : Hid _ := OA
  have HV : Hid _ := hv
  have HB : Hid _ := B
  have HR : Hid _ := hr
  have HN : Hid _ := hn
  have n0 : decide (n ≤ 0) = false := decide_eq_false (by omega)
  clear OA hv B hk hl hr hn
  have q1 : ∀ (w : World) (T : TypeId) (x : Value), (binOp .eql 70 (.iface T x) .nilIface).run Try.prog w = .ok (.bool false) w := fun w T x => by
    have := run_equal_held_nil (P := Try.prog) w 70 T x (by kernel_rfl)
    simp only [binOp, Sem.run_bind, this, Result.andThen_ok, Sem.run_pure]
  go_enter Try.func24, Try.ntmps24
  go_upto_region 1 with fail
  change Code.wp _ _ _ _ ((w.alloc (.cells cs 28)).alloc (.cells Z31 28))
  have b0 : Blk ((w.alloc (.cells cs 28)).alloc (.cells Z31 28)) w.heap.size cs 28 := (Blk.new w cs _).old _
  have z0 : Blk ((w.alloc (.cells cs 28)).alloc (.cells Z31 28)) (w.heap.size + 1) Z31 28 := by
    have := Blk.new (w.alloc (.cells cs 28)) Z31 28
    rwa [World.size_alloc] at this
  have hb0 : Below w.heap.size w ((w.alloc (.cells cs 28)).alloc (.cells Z31 28)) := ((Below.refl _ _).alloc (Nat.le_refl _) _).alloc (by simp) _
  generalize (w.alloc (.cells cs 28)).alloc (.cells Z31 28) = W0 at *
  clear C hsz
  go_wp2_with (refine wpList_load_mid rfl 28 _ rfl w.heap.size 0 rfl cs.toList _ b0.range Try.underlying28 rfl (by rw [Array.length_toList, HS.out]; exact Try.infoBoard) ?_)
  refine (HO.out W0).mono ?_
  rintro e W1 ⟨hb1', -, h⟩
  obtain ⟨m, rfl, hm, K⟩ := h HV.out
  have hb1 : Below w.heap.size w W1 := hb0.trans (hb1'.mono hb0.size)
  have hz := z0.lt
  have z1 := z0.below hz hb1'
  have hM : ∀ w : World, (method 70 107 (.pointer (some ⟨m, 0, none⟩)) "tandem/mapper.clock").run Try.prog w = .ok (111, .pointer (some ⟨m, 0, none⟩)) w := fun _ => by kernel_rfl
  have KH : Hid (Blk W1 m (k4c b) 111) := K
  have ZH : Hid (Blk W1 (w.heap.size + 1) Z31 28) := z1
  clear hb1' hb0 b0 z0 h K HO z1
  go_wp2_with fail
  refine (clock4_any W1 m b n HB.out HN.out KH.out).mono ?_
  rintro e W2 ⟨rfl, hb2', K2⟩
  have z2 : Blk W2 (w.heap.size + 1) Z31 28 := Blk.below ZH.out (by omega) hb2'
  have hb2 : Below w.heap.size w W2 := hb1.trans (hb2'.mono (by omega))
  have PL : Hid _ := plain_4 W2 (clkB b n (b.sub == 4)) HR.out m K2
  have Z2H : Hid (Blk W2 (w.heap.size + 1) Z31 28) := z2
  clear z2 K2 KH ZH
  go_wp2_with fail
  refine Calls.mono PL.out ?_
  rintro e W3 ⟨rfl, hb3'⟩
  have z3 : Blk W3 (w.heap.size + 1) Z31 28 := Blk.below Z2H.out (Blk.lt Z2H.out) hb3'
  have hb3 : Below w.heap.size w W3 := hb2.trans (hb3'.mono (by have := hb2.size; omega))
  have Hs : Hid _ := (isB (n4 (clkB b n (b.sub == 4))) HR.out).size
  have H1 : Hid _ := (isB (n4 (clkB b n (b.sub == 4))) HR.out).one
  clear hb3' PL Z2H
  generalize hL : (n4 (clkB b n (b.sub == 4))).cells = L at *
  have HL : Hid _ := hL
  clear hL
  go_wp2_with (refine wpList_store_mid rfl 28 _ _ rfl (w.heap.size + 1) 0 L rfl rfl (by exact z3.there _ Hs.out.symm) (by rw [Hs.out]; exact Try.infoBoard) H1.out ?_)
  exact ret_agg (m := w.heap.size + 1) (L := L) Try.results24 (by rfl) (z3.setAll L Hs.out) Try.underlying28 rfl (by rw [Hs.out]; exact Try.infoBoard) ⟨by rw [HL.out], setCells_below (Nat.le_succ _) _ _ _ _ hb3⟩
end Go.Proofs.Ytggphgmpdanliaa
namespace Go.Proofs.Ytggphgmpdanliaa
open Go.RowKit Classical
set_option maxRecDepth 100000 in
theorem toIrqNone (w : World) (b : Bd) (hr : b.r.length = 8) (hv : validB b = false) :
    Calls Try.prog 25 #[.agg b.cells] w fun e w' => e = .returned (.int .i64 (-1)) ∧ Below w.heap.size w w' := by
  have C := isB b hr
  have OA := fun W => open_any W b hr
  generalize b.cells = cs at C OA
  have hsz := C.size
  have HS : Hid _ := hsz
  have HO : Hid _ := OA
  have HV : Hid _ := hv
  clear OA hv
  have q0 : ∀ (w : World), (binOp .eql 70 .nilIface .nilIface).run Try.prog w = .ok (.bool true) w := fun w => by
    have := run_equal_nil_nil (P := Try.prog) w 70 (by kernel_rfl)
    simp only [binOp, Sem.run_bind, this, Result.andThen_ok, Sem.run_pure]
  go_enter Try.func25, Try.ntmps25
  go_upto_region 1 with fail
  have b0 : Blk (w.alloc (.cells cs 28)) w.heap.size cs 28 := Blk.new w cs _
  have hb0 : Below w.heap.size w (w.alloc (.cells cs 28)) := (Below.refl _ _).alloc (Nat.le_refl _) _
  generalize w.alloc (.cells cs 28) = W0 at *
  clear C hsz
  go_wp2_with (refine wpList_load_mid rfl 28 _ rfl w.heap.size 0 rfl cs.toList _ b0.range Try.underlying28 rfl (by rw [Array.length_toList, HS.out]; exact Try.infoBoard) ?_)
  refine (HO.out W0).mono ?_
  rintro e W1 ⟨hb1', h⟩
  have hb1 : Below w.heap.size w W1 := hb0.trans (hb1'.mono hb0.size)
  clear hb1' hb0 b0
  rcases h with ⟨-, rfl⟩ | ⟨E, -⟩
  · go_wp2
    go_ret
    exact ⟨rfl, hb1⟩
  · exact absurd (E.symm.trans HV.out) (by simp)
set_option maxRecDepth 100000 in
set_option maxHeartbeats 1000000 in
theorem clockSame (w : World) (b : Bd) (n : Int) (hr : b.r.length = 8) (hv : validB b = false ∨ n ≤ 0) :
    Calls Try.prog 24 #[.agg b.cells, .int .i64 n] w fun e w' => e = .returned (.agg b.cells) ∧ Below w.heap.size w w' := by
  have C := isB b hr
  have OA := fun W => open_any W b hr
  generalize b.cells = cs at C OA
  have hsz := C.size
  have HS : Hid _ := hsz
  have H1 : Hid _ := C.one
  have HO : Hid _ := OA
  have HV : Hid _ := hv
  clear OA hv
  have q0 : ∀ (w : World), (binOp .eql 70 .nilIface .nilIface).run Try.prog w = .ok (.bool true) w := fun w => by
    have := run_equal_nil_nil (P := Try.prog) w 70 (by kernel_rfl)
    simp only [binOp, Sem.run_bind, this, Result.andThen_ok, Sem.run_pure]
  have q1 : ∀ (w : World) (T : TypeId) (x : Value), (binOp .eql 70 (.iface T x) .nilIface).run Try.prog w = .ok (.bool false) w := fun w T x => by
    have := run_equal_held_nil (P := Try.prog) w 70 T x (by kernel_rfl)
    simp only [binOp, Sem.run_bind, this, Result.andThen_ok, Sem.run_pure]
  go_enter Try.func24, Try.ntmps24
  go_upto_region 1 with fail
  change Code.wp _ _ _ _ ((w.alloc (.cells cs 28)).alloc (.cells Z31 28))
  have b0 : Blk ((w.alloc (.cells cs 28)).alloc (.cells Z31 28)) w.heap.size cs 28 := (Blk.new w cs _).old _
  have z0 : Blk ((w.alloc (.cells cs 28)).alloc (.cells Z31 28)) (w.heap.size + 1) Z31 28 := by
    have := Blk.new (w.alloc (.cells cs 28)) Z31 28
    rwa [World.size_alloc] at this
  have hb0 : Below w.heap.size w ((w.alloc (.cells cs 28)).alloc (.cells Z31 28)) := ((Below.refl _ _).alloc (Nat.le_refl _) _).alloc (by simp) _
  generalize (w.alloc (.cells cs 28)).alloc (.cells Z31 28) = W0 at *
  clear C hsz
  go_wp2_with (refine wpList_load_mid rfl 28 _ rfl w.heap.size 0 rfl cs.toList _ b0.range Try.underlying28 rfl (by rw [Array.length_toList, HS.out]; exact Try.infoBoard) ?_)
  refine (HO.out W0).mono ?_
  rintro e W1 ⟨hb1', h⟩
  have hb1 : Below w.heap.size w W1 := hb0.trans (hb1'.mono hb0.size)
  have b1 := b0.below b0.lt hb1'
  have z1 := z0.below z0.lt hb1'
  clear hb1' hb0 b0 z0 HO
  rcases h with ⟨-, rfl⟩ | ⟨E, T, m, rfl⟩
  · clear HV
    go_wp2_with (first
      | refine wpList_load_mid rfl 28 _ rfl w.heap.size 0 rfl cs.toList _ b1.range Try.underlying28 rfl (by rw [Array.length_toList, HS.out]; exact Try.infoBoard) ?_
      | refine wpList_store_mid rfl 28 _ _ rfl (w.heap.size + 1) 0 cs rfl rfl (by exact z1.there _ HS.out.symm) (by rw [HS.out]; exact Try.infoBoard) H1.out ?_)
    exact ret_agg (m := w.heap.size + 1) (L := cs) Try.results24 (by rfl) (z1.setAll cs HS.out) Try.underlying28 rfl (by rw [HS.out]; exact Try.infoBoard) ⟨rfl, setCells_below (Nat.le_succ _) _ _ _ _ hb1⟩
  · have n0 : decide (n ≤ 0) = true := decide_eq_true (HV.out.resolve_left (by rw [E]; simp))
    clear HV E
    go_wp2_with (first
      | refine wpList_load_mid rfl 28 _ rfl w.heap.size 0 rfl cs.toList _ b1.range Try.underlying28 rfl (by rw [Array.length_toList, HS.out]; exact Try.infoBoard) ?_
      | refine wpList_store_mid rfl 28 _ _ rfl (w.heap.size + 1) 0 cs rfl rfl (by exact z1.there _ HS.out.symm) (by rw [HS.out]; exact Try.infoBoard) H1.out ?_)
    exact ret_agg (m := w.heap.size + 1) (L := cs) Try.results24 (by rfl) (z1.setAll cs HS.out) Try.underlying28 rfl (by rw [HS.out]; exact Try.infoBoard) ⟨rfl, setCells_below (Nat.le_succ _) _ _ _ _ hb1⟩
end Go.Proofs.Ytggphgmpdanliaa
namespace Go.Proofs.Ytggphgmpdanliaa
open Go.RowKit Classical
theorem valid_k {b : Bd} {x y : Bool} (h : validB b = (x && y)) (hv : validB b = true) : x = true ∧ y = true := by
  rw [h] at hv
  exact Bool.and_eq_true_iff.1 hv
theorem n4_clkB (b : Bd) (n : Int) (o : Bool) (h : n4 b = b) : n4 (clkB b n o) = clkB b n o := by
  have e : n4 (clkB b n o) = { n4 b with iLoad := (clkB b n o).iLoad, irq := (clkB b n o).irq, iCount := (clkB b n o).iCount } := rfl
  rw [e, h]
  rfl
theorem clock_both (b : Bd) (n : Int) (B : b.Wf) (hn : n ≤ 9223372036854775807) : ∃ d : Bd, d.r.length = 8 ∧
    (∀ W, Calls Try.prog 24 #[.agg b.cells, .int .i64 n] W fun e w' => e = .returned (.agg d.cells) ∧ Below W.heap.size W w') ∧
    (∀ W, Calls Try.prog 37 #[.agg b.cells, .int .i64 n] W fun e w' => e = .returned (.agg d.cells) ∧ Below W.heap.size W w') := by
  by_cases hz : validB b = false ∨ n ≤ 0
  · exact ⟨b, B.rlen, fun W => clockSame W b n B.rlen hz, fun W => rClock_same W b n B (hz.elim Or.inl fun h => Or.inr (Or.inr h))⟩
  · have hv : validB b = true := by
      cases h : validB b
      · exact absurd (Or.inl h) hz
      · rfl
    have hn1 : 0 < n ∧ n ≤ 9223372036854775807 := ⟨by omega, hn⟩
    have hl0 : lst b.kind b.sub = true := by unfold validB at hv; exact (Bool.and_eq_true_iff.1 hv).1
    rcases lst_kinds hl0 with hk | hk | hk | hk | hk | hk
    · obtain ⟨hl, hq⟩ := valid_k (validB_0 hk) hv
      have e : bare 0 b = b := sameB_eq (Bool.and_eq_true_iff.1 hq).1
      refine ⟨b, B.rlen, fun W => ?_, fun W => rClock_same W b n B (Or.inr (Or.inl (by omega)))⟩
      have h := clockM_0 W b n B hn1 hk hl hq
      rw [e] at h
      exact h
    · obtain ⟨hl, hq⟩ := valid_k (validB_1 hk) hv
      have e : n1 b = b := sameB_eq (Bool.and_eq_true_iff.1 hq).1
      refine ⟨b, B.rlen, fun W => ?_, fun W => rClock_same W b n B (Or.inr (Or.inl (by omega)))⟩
      have h := clockM_1 W b n B hn1 hk hl hq
      rw [e] at h
      exact h
    · obtain ⟨hl, hq⟩ := valid_k (validB_2 hk) hv
      have e : nL 2 b = b := sameB_eq (Bool.and_eq_true_iff.1 hq).1
      refine ⟨b, B.rlen, fun W => ?_, fun W => rClock_same W b n B (Or.inr (Or.inl (by omega)))⟩
      have h := clockM_2 W b n B hn1 hk hl hq
      rw [e] at h
      exact h
    · obtain ⟨hl, hq⟩ := valid_k (validB_3 hk) hv
      have e : nL 3 b = b := sameB_eq (Bool.and_eq_true_iff.1 hq).1
      refine ⟨b, B.rlen, fun W => ?_, fun W => rClock_same W b n B (Or.inr (Or.inl (by omega)))⟩
      have h := clockM_3 W b n B hn1 hk hl hq
      rw [e] at h
      exact h
    · obtain ⟨hl, hq⟩ := valid_k (validB_4 hk) hv
      have e : n4 b = b := sameB_eq (Bool.and_eq_true_iff.1 hq).1
      refine ⟨clkB b n (b.sub == 4), B.rlen, fun W => ?_, fun W => rClock_4 W b n B hn1 hk hv⟩
      have h := clockM_4 W b n B hn1 hk hl hq
      rw [n4_clkB b n _ e] at h
      exact h
    · obtain ⟨hl, hq⟩ := valid_k (validB_7 hk) hv
      have e : nL 7 b = b := sameB_eq (Bool.and_eq_true_iff.1 hq).1
      refine ⟨b, B.rlen, fun W => ?_, fun W => rClock_same W b n B (Or.inr (Or.inl (by omega)))⟩
      have h := clockM_7 W b n B hn1 hk hl hq
      rw [e] at h
      exact h
theorem toIrq_both (b : Bd) (B : b.Wf) : ∃ v : Int,
    (∀ W, Calls Try.prog 25 #[.agg b.cells] W fun e w' => e = .returned (.int .i64 v) ∧ Below W.heap.size W w') ∧
    (∀ W, Calls Try.prog 38 #[.agg b.cells] W fun e w' => e = .returned (.int .i64 v) ∧ Below W.heap.size W w') := by
  cases hv : validB b
  · exact ⟨-1, fun W => toIrqNone W b B.rlen hv, fun W => rToIrq_none W b B (Or.inl hv)⟩
  · have hl0 : lst b.kind b.sub = true := by unfold validB at hv; exact (Bool.and_eq_true_iff.1 hv).1
    rcases lst_kinds hl0 with hk | hk | hk | hk | hk | hk
    · obtain ⟨hl, hq⟩ := valid_k (validB_0 hk) hv
      have e : bare 0 b = b := sameB_eq (Bool.and_eq_true_iff.1 hq).1
      have hi : b.irq = false := by rw [← e]; rfl
      exact ⟨-1, fun W => toIrqM_0 W b B hk hl hq, fun W => rToIrq_none W b B (Or.inr ⟨by omega, hi⟩)⟩
    · obtain ⟨hl, hq⟩ := valid_k (validB_1 hk) hv
      have e : n1 b = b := sameB_eq (Bool.and_eq_true_iff.1 hq).1
      have hi : b.irq = false := by rw [← e]; rfl
      exact ⟨-1, fun W => toIrqM_1 W b B hk hl hq, fun W => rToIrq_none W b B (Or.inr ⟨by omega, hi⟩)⟩
    · obtain ⟨hl, hq⟩ := valid_k (validB_2 hk) hv
      have e : nL 2 b = b := sameB_eq (Bool.and_eq_true_iff.1 hq).1
      have hi : b.irq = false := by rw [← e]; rfl
      exact ⟨-1, fun W => toIrqM_2 W b B hk hl hq, fun W => rToIrq_none W b B (Or.inr ⟨by omega, hi⟩)⟩
    · obtain ⟨hl, hq⟩ := valid_k (validB_3 hk) hv
      have e : nL 3 b = b := sameB_eq (Bool.and_eq_true_iff.1 hq).1
      have hi : b.irq = false := by rw [← e]; rfl
      exact ⟨-1, fun W => toIrqM_3 W b B hk hl hq, fun W => rToIrq_none W b B (Or.inr ⟨by omega, hi⟩)⟩
    · obtain ⟨hl, hq⟩ := valid_k (validB_4 hk) hv
      exact ⟨irqV b, fun W => toIrqM_4 W b B hk hl hq, fun W => rToIrq_4 W b B hk hv⟩
    · obtain ⟨hl, hq⟩ := valid_k (validB_7 hk) hv
      have e : nL 7 b = b := sameB_eq (Bool.and_eq_true_iff.1 hq).1
      have hi : b.irq = false := by rw [← e]; rfl
      exact ⟨-1, fun W => toIrqM_7 W b B hk hl hq, fun W => rToIrq_none W b B (Or.inr ⟨by omega, hi⟩)⟩
theorem Try.runEql (w : World) (ρ : Operand → Value) (dst : Option Tmp) (ty : TypeId) (pos : String) (after : Array Edge) (guard : Option (Nat × Bool)) (z : TypeId) (x y : Operand) (b d : Bd) (hb : b.r.length = 8) (hd : d.r.length = 8) (hx : ρ x = .agg b.cells) (hy : ρ y = .agg d.cells) :
    (execOp ρ { dst, op := .binOp .eql 28 x y z, type := ty, pos, after, guard }).run Try.prog w = .ok (.value (.bool (decide (b = d)))) w := by
  rw [run_exec_binOp, hx, hy, run_eqGuard_agg w .eql 28 _ _ _ _ (by kernel_rfl), Result.andThen_ok, Try.eqlB w b d hb hd]
  rfl
end Go.Proofs.Ytggphgmpdanliaa
