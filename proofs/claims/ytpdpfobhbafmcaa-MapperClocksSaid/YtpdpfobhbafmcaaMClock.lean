/-
  What Clock answers of a valid board with n above 0, kind by kind; conditions: the numbers fit their kinds.
-/
import Derived.Test.YtpdpfobhbafmcaaMToIrq
namespace Go.Proofs.Ytpdpfobhbafmcaa
open Go.RowKit Classical

set_option maxRecDepth 100000 in
set_option maxHeartbeats 1000000 in
theorem clockM_0 (w : World) (b : Bd) (n : Int) (B : b.Wf) (hn : 0 < n ∧ n ≤ 9223372036854775807) (hk : b.kind = 0) (hl : lst b.kind b.sub = true) (hv : val0 b = true) :
    Calls Try.prog 11 #[.agg b.cells, .int .i64 n] w fun e w' => e = .returned (.agg (bare 0 b).cells) ∧ Below w.heap.size w w' := by
  have hr := B.rlen
  have C := isB b hr
  have OA := fun W => open_0 W b hr hk hl
  generalize b.cells = cs at C OA
  have hsz := C.size
  have HS : Hid _ := hsz
  have HO : Hid _ := OA
  have HV : Hid _ := hv
  have HB : Hid _ := B
  have HR : Hid _ := hr
  have HN : Hid _ := hn
  have n0 : decide (n ≤ 0) = false := decide_eq_false (by omega)
  clear OA hv B hk hl hr hn
  have q1 : ∀ (w : World) (T : TypeId) (x : Value), (binOp .eql 44 (.iface T x) .nilIface).run Try.prog w = .ok (.bool false) w := fun w T x => by
    have := run_equal_held_nil (P := Try.prog) w 44 T x (by kernel_rfl)
    simp only [binOp, Sem.run_bind, this, Result.andThen_ok, Sem.run_pure]
  go_enter Try.func11, Try.ntmps11
  go_upto_region 1 with fail
  change Code.wp _ _ _ _ ((w.alloc (.cells cs 27)).alloc (.cells Z31 27))
  have b0 : Blk ((w.alloc (.cells cs 27)).alloc (.cells Z31 27)) w.heap.size cs 27 := (Blk.new w cs _).old _
  have z0 : Blk ((w.alloc (.cells cs 27)).alloc (.cells Z31 27)) (w.heap.size + 1) Z31 27 := by
    have := Blk.new (w.alloc (.cells cs 27)) Z31 27
    rwa [World.size_alloc] at this
  have hb0 : Below w.heap.size w ((w.alloc (.cells cs 27)).alloc (.cells Z31 27)) := ((Below.refl _ _).alloc (Nat.le_refl _) _).alloc (by simp) _
  generalize (w.alloc (.cells cs 27)).alloc (.cells Z31 27) = W0 at *
  clear C hsz
  go_wp2_with (refine wpList_load_mid rfl 27 _ rfl w.heap.size 0 rfl cs.toList _ b0.range Try.underlying27 rfl (by rw [Array.length_toList, HS.out]; exact Try.infoBoard) ?_)
  refine (HO.out W0).mono ?_
  rintro e W1 ⟨hb1', -, h⟩
  obtain ⟨m, rfl, hm, K⟩ := h HV.out
  have hb1 : Below w.heap.size w W1 := hb0.trans (hb1'.mono hb0.size)
  have hz := z0.lt
  have z1 := z0.below hz hb1'
  have hM : ∀ w : World, (method 44 72 (.pointer (some ⟨m, 0, none⟩)) "tandem/mapper.clock").run Try.prog w = .ok (44, .pointer (some ⟨m, 0, none⟩)) w := fun _ => by kernel_rfl
  have KH : Hid (Blk W1 m (k0c b) 74) := K
  have ZH : Hid (Blk W1 (w.heap.size + 1) Z31 27) := z1
  clear hb1' hb0 b0 z0 h K HO z1
  go_wp2_with fail
  refine (clock0_any W1 m n).mono ?_
  rintro e W2 ⟨rfl, rfl⟩
  have z2 : Blk W2 (w.heap.size + 1) Z31 27 := ZH.out
  have K2 : Blk W2 m (k0c b) 74 := KH.out
  have hb2 : Below w.heap.size w W2 := hb1
  have PL : Hid _ := plain_0 W2 b HR.out m K2
  have Z2H : Hid (Blk W2 (w.heap.size + 1) Z31 27) := z2
  clear z2 K2 KH ZH
  go_wp2_with fail
  refine Calls.mono PL.out ?_
  rintro e W3 ⟨rfl, hb3'⟩
  have z3 : Blk W3 (w.heap.size + 1) Z31 27 := Blk.below Z2H.out (Blk.lt Z2H.out) hb3'
  have hb3 : Below w.heap.size w W3 := hb2.trans (hb3'.mono (by have := hb2.size; omega))
  have Hs : Hid _ := (isB (bare 0 b) rfl).size
  have H1 : Hid _ := (isB (bare 0 b) rfl).one
  clear hb3' PL Z2H
  generalize hL : (bare 0 b).cells = L at *
  have HL : Hid _ := hL
  clear hL
  go_wp2_with (refine wpList_store_mid rfl 27 _ _ rfl (w.heap.size + 1) 0 L rfl rfl (by exact z3.there _ Hs.out.symm) (by rw [Hs.out]; exact Try.infoBoard) H1.out ?_)
  exact ret_agg (m := w.heap.size + 1) (L := L) Try.results11 (by rfl) (z3.setAll L Hs.out) Try.underlying27 rfl (by rw [Hs.out]; exact Try.infoBoard) ⟨by rw [HL.out], setCells_below (Nat.le_succ _) _ _ _ _ hb3⟩

set_option maxRecDepth 100000 in
set_option maxHeartbeats 1000000 in
theorem clockM_1 (w : World) (b : Bd) (n : Int) (B : b.Wf) (hn : 0 < n ∧ n ≤ 9223372036854775807) (hk : b.kind = 1) (hl : lst b.kind b.sub = true) (hv : val1 b = true) :
    Calls Try.prog 11 #[.agg b.cells, .int .i64 n] w fun e w' => e = .returned (.agg (n1 b).cells) ∧ Below w.heap.size w w' := by
  have hr := B.rlen
  have C := isB b hr
  have OA := fun W => open_1 W b hr hk hl
  generalize b.cells = cs at C OA
  have hsz := C.size
  have HS : Hid _ := hsz
  have HO : Hid _ := OA
  have HV : Hid _ := hv
  have HB : Hid _ := B
  have HR : Hid _ := hr
  have HN : Hid _ := hn
  have n0 : decide (n ≤ 0) = false := decide_eq_false (by omega)
  clear OA hv B hk hl hr hn
  have q1 : ∀ (w : World) (T : TypeId) (x : Value), (binOp .eql 44 (.iface T x) .nilIface).run Try.prog w = .ok (.bool false) w := fun w T x => by
    have := run_equal_held_nil (P := Try.prog) w 44 T x (by kernel_rfl)
    simp only [binOp, Sem.run_bind, this, Result.andThen_ok, Sem.run_pure]
  go_enter Try.func11, Try.ntmps11
  go_upto_region 1 with fail
  change Code.wp _ _ _ _ ((w.alloc (.cells cs 27)).alloc (.cells Z31 27))
  have b0 : Blk ((w.alloc (.cells cs 27)).alloc (.cells Z31 27)) w.heap.size cs 27 := (Blk.new w cs _).old _
  have z0 : Blk ((w.alloc (.cells cs 27)).alloc (.cells Z31 27)) (w.heap.size + 1) Z31 27 := by
    have := Blk.new (w.alloc (.cells cs 27)) Z31 27
    rwa [World.size_alloc] at this
  have hb0 : Below w.heap.size w ((w.alloc (.cells cs 27)).alloc (.cells Z31 27)) := ((Below.refl _ _).alloc (Nat.le_refl _) _).alloc (by simp) _
  generalize (w.alloc (.cells cs 27)).alloc (.cells Z31 27) = W0 at *
  clear C hsz
  go_wp2_with (refine wpList_load_mid rfl 27 _ rfl w.heap.size 0 rfl cs.toList _ b0.range Try.underlying27 rfl (by rw [Array.length_toList, HS.out]; exact Try.infoBoard) ?_)
  refine (HO.out W0).mono ?_
  rintro e W1 ⟨hb1', -, h⟩
  obtain ⟨m, rfl, hm, K⟩ := h HV.out
  have hb1 : Below w.heap.size w W1 := hb0.trans (hb1'.mono hb0.size)
  have hz := z0.lt
  have z1 := z0.below hz hb1'
  have hM : ∀ w : World, (method 44 55 (.pointer (some ⟨m, 0, none⟩)) "tandem/mapper.clock").run Try.prog w = .ok (44, .pointer (some ⟨m, 0, none⟩)) w := fun _ => by kernel_rfl
  have KH : Hid (Blk W1 m (k1c b) 57) := K
  have ZH : Hid (Blk W1 (w.heap.size + 1) Z31 27) := z1
  clear hb1' hb0 b0 z0 h K HO z1
  go_wp2_with fail
  refine (clock0_any W1 m n).mono ?_
  rintro e W2 ⟨rfl, rfl⟩
  have z2 : Blk W2 (w.heap.size + 1) Z31 27 := ZH.out
  have K2 : Blk W2 m (k1c b) 57 := KH.out
  have hb2 : Below w.heap.size w W2 := hb1
  have PL : Hid _ := plain_1 W2 b HR.out m K2
  have Z2H : Hid (Blk W2 (w.heap.size + 1) Z31 27) := z2
  clear z2 K2 KH ZH
  go_wp2_with fail
  refine Calls.mono PL.out ?_
  rintro e W3 ⟨rfl, hb3'⟩
  have z3 : Blk W3 (w.heap.size + 1) Z31 27 := Blk.below Z2H.out (Blk.lt Z2H.out) hb3'
  have hb3 : Below w.heap.size w W3 := hb2.trans (hb3'.mono (by have := hb2.size; omega))
  have Hs : Hid _ := (isB (n1 b) rfl).size
  have H1 : Hid _ := (isB (n1 b) rfl).one
  clear hb3' PL Z2H
  generalize hL : (n1 b).cells = L at *
  have HL : Hid _ := hL
  clear hL
  go_wp2_with (refine wpList_store_mid rfl 27 _ _ rfl (w.heap.size + 1) 0 L rfl rfl (by exact z3.there _ Hs.out.symm) (by rw [Hs.out]; exact Try.infoBoard) H1.out ?_)
  exact ret_agg (m := w.heap.size + 1) (L := L) Try.results11 (by rfl) (z3.setAll L Hs.out) Try.underlying27 rfl (by rw [Hs.out]; exact Try.infoBoard) ⟨by rw [HL.out], setCells_below (Nat.le_succ _) _ _ _ _ hb3⟩

set_option maxRecDepth 100000 in
set_option maxHeartbeats 1000000 in
theorem clockM_2 (w : World) (b : Bd) (n : Int) (B : b.Wf) (hn : 0 < n ∧ n ≤ 9223372036854775807) (hk : b.kind = 2) (hl : lst b.kind b.sub = true) (hv : val2 b = true) :
    Calls Try.prog 11 #[.agg b.cells, .int .i64 n] w fun e w' => e = .returned (.agg (nL 2 b).cells) ∧ Below w.heap.size w w' := by
  have hr := B.rlen
  have C := isB b hr
  have OA := fun W => open_2 W b hr hk hl
  generalize b.cells = cs at C OA
  have hsz := C.size
  have HS : Hid _ := hsz
  have HO : Hid _ := OA
  have HV : Hid _ := hv
  have HB : Hid _ := B
  have HR : Hid _ := hr
  have HN : Hid _ := hn
  have n0 : decide (n ≤ 0) = false := decide_eq_false (by omega)
  clear OA hv B hk hl hr hn
  have q1 : ∀ (w : World) (T : TypeId) (x : Value), (binOp .eql 44 (.iface T x) .nilIface).run Try.prog w = .ok (.bool false) w := fun w T x => by
    have := run_equal_held_nil (P := Try.prog) w 44 T x (by kernel_rfl)
    simp only [binOp, Sem.run_bind, this, Result.andThen_ok, Sem.run_pure]
  go_enter Try.func11, Try.ntmps11
  go_upto_region 1 with fail
  change Code.wp _ _ _ _ ((w.alloc (.cells cs 27)).alloc (.cells Z31 27))
  have b0 : Blk ((w.alloc (.cells cs 27)).alloc (.cells Z31 27)) w.heap.size cs 27 := (Blk.new w cs _).old _
  have z0 : Blk ((w.alloc (.cells cs 27)).alloc (.cells Z31 27)) (w.heap.size + 1) Z31 27 := by
    have := Blk.new (w.alloc (.cells cs 27)) Z31 27
    rwa [World.size_alloc] at this
  have hb0 : Below w.heap.size w ((w.alloc (.cells cs 27)).alloc (.cells Z31 27)) := ((Below.refl _ _).alloc (Nat.le_refl _) _).alloc (by simp) _
  generalize (w.alloc (.cells cs 27)).alloc (.cells Z31 27) = W0 at *
  clear C hsz
  go_wp2_with (refine wpList_load_mid rfl 27 _ rfl w.heap.size 0 rfl cs.toList _ b0.range Try.underlying27 rfl (by rw [Array.length_toList, HS.out]; exact Try.infoBoard) ?_)
  refine (HO.out W0).mono ?_
  rintro e W1 ⟨hb1', -, h⟩
  obtain ⟨m, rfl, hm, K⟩ := h HV.out
  have hb1 : Below w.heap.size w W1 := hb0.trans (hb1'.mono hb0.size)
  have hz := z0.lt
  have z1 := z0.below hz hb1'
  have hM : ∀ w : World, (method 44 58 (.pointer (some ⟨m, 0, none⟩)) "tandem/mapper.clock").run Try.prog w = .ok (44, .pointer (some ⟨m, 0, none⟩)) w := fun _ => by kernel_rfl
  have KH : Hid (Blk W1 m (kLc b) 62) := K
  have ZH : Hid (Blk W1 (w.heap.size + 1) Z31 27) := z1
  clear hb1' hb0 b0 z0 h K HO z1
  go_wp2_with fail
  refine (clock0_any W1 m n).mono ?_
  rintro e W2 ⟨rfl, rfl⟩
  have z2 : Blk W2 (w.heap.size + 1) Z31 27 := ZH.out
  have K2 : Blk W2 m (kLc b) 62 := KH.out
  have hb2 : Below w.heap.size w W2 := hb1
  have PL : Hid _ := plain_2 W2 b HR.out m K2
  have Z2H : Hid (Blk W2 (w.heap.size + 1) Z31 27) := z2
  clear z2 K2 KH ZH
  go_wp2_with fail
  refine Calls.mono PL.out ?_
  rintro e W3 ⟨rfl, hb3'⟩
  have z3 : Blk W3 (w.heap.size + 1) Z31 27 := Blk.below Z2H.out (Blk.lt Z2H.out) hb3'
  have hb3 : Below w.heap.size w W3 := hb2.trans (hb3'.mono (by have := hb2.size; omega))
  have Hs : Hid _ := (isB (nL 2 b) rfl).size
  have H1 : Hid _ := (isB (nL 2 b) rfl).one
  clear hb3' PL Z2H
  generalize hL : (nL 2 b).cells = L at *
  have HL : Hid _ := hL
  clear hL
  go_wp2_with (refine wpList_store_mid rfl 27 _ _ rfl (w.heap.size + 1) 0 L rfl rfl (by exact z3.there _ Hs.out.symm) (by rw [Hs.out]; exact Try.infoBoard) H1.out ?_)
  exact ret_agg (m := w.heap.size + 1) (L := L) Try.results11 (by rfl) (z3.setAll L Hs.out) Try.underlying27 rfl (by rw [Hs.out]; exact Try.infoBoard) ⟨by rw [HL.out], setCells_below (Nat.le_succ _) _ _ _ _ hb3⟩

set_option maxRecDepth 100000 in
set_option maxHeartbeats 1000000 in
theorem clockM_3 (w : World) (b : Bd) (n : Int) (B : b.Wf) (hn : 0 < n ∧ n ≤ 9223372036854775807) (hk : b.kind = 3) (hl : lst b.kind b.sub = true) (hv : val3 b = true) :
    Calls Try.prog 11 #[.agg b.cells, .int .i64 n] w fun e w' => e = .returned (.agg (nL 3 b).cells) ∧ Below w.heap.size w w' := by
  have hr := B.rlen
  have C := isB b hr
  have OA := fun W => open_3 W b hr hk hl
  generalize b.cells = cs at C OA
  have hsz := C.size
  have HS : Hid _ := hsz
  have HO : Hid _ := OA
  have HV : Hid _ := hv
  have HB : Hid _ := B
  have HR : Hid _ := hr
  have HN : Hid _ := hn
  have n0 : decide (n ≤ 0) = false := decide_eq_false (by omega)
  clear OA hv B hk hl hr hn
  have q1 : ∀ (w : World) (T : TypeId) (x : Value), (binOp .eql 44 (.iface T x) .nilIface).run Try.prog w = .ok (.bool false) w := fun w T x => by
    have := run_equal_held_nil (P := Try.prog) w 44 T x (by kernel_rfl)
    simp only [binOp, Sem.run_bind, this, Result.andThen_ok, Sem.run_pure]
  go_enter Try.func11, Try.ntmps11
  go_upto_region 1 with fail
  change Code.wp _ _ _ _ ((w.alloc (.cells cs 27)).alloc (.cells Z31 27))
  have b0 : Blk ((w.alloc (.cells cs 27)).alloc (.cells Z31 27)) w.heap.size cs 27 := (Blk.new w cs _).old _
  have z0 : Blk ((w.alloc (.cells cs 27)).alloc (.cells Z31 27)) (w.heap.size + 1) Z31 27 := by
    have := Blk.new (w.alloc (.cells cs 27)) Z31 27
    rwa [World.size_alloc] at this
  have hb0 : Below w.heap.size w ((w.alloc (.cells cs 27)).alloc (.cells Z31 27)) := ((Below.refl _ _).alloc (Nat.le_refl _) _).alloc (by simp) _
  generalize (w.alloc (.cells cs 27)).alloc (.cells Z31 27) = W0 at *
  clear C hsz
  go_wp2_with (refine wpList_load_mid rfl 27 _ rfl w.heap.size 0 rfl cs.toList _ b0.range Try.underlying27 rfl (by rw [Array.length_toList, HS.out]; exact Try.infoBoard) ?_)
  refine (HO.out W0).mono ?_
  rintro e W1 ⟨hb1', -, h⟩
  obtain ⟨m, rfl, hm, K⟩ := h HV.out
  have hb1 : Below w.heap.size w W1 := hb0.trans (hb1'.mono hb0.size)
  have hz := z0.lt
  have z1 := z0.below hz hb1'
  have hM : ∀ w : World, (method 44 63 (.pointer (some ⟨m, 0, none⟩)) "tandem/mapper.clock").run Try.prog w = .ok (44, .pointer (some ⟨m, 0, none⟩)) w := fun _ => by kernel_rfl
  have KH : Hid (Blk W1 m (kLc b) 64) := K
  have ZH : Hid (Blk W1 (w.heap.size + 1) Z31 27) := z1
  clear hb1' hb0 b0 z0 h K HO z1
  go_wp2_with fail
  refine (clock0_any W1 m n).mono ?_
  rintro e W2 ⟨rfl, rfl⟩
  have z2 : Blk W2 (w.heap.size + 1) Z31 27 := ZH.out
  have K2 : Blk W2 m (kLc b) 64 := KH.out
  have hb2 : Below w.heap.size w W2 := hb1
  have PL : Hid _ := plain_3 W2 b HR.out m K2
  have Z2H : Hid (Blk W2 (w.heap.size + 1) Z31 27) := z2
  clear z2 K2 KH ZH
  go_wp2_with fail
  refine Calls.mono PL.out ?_
  rintro e W3 ⟨rfl, hb3'⟩
  have z3 : Blk W3 (w.heap.size + 1) Z31 27 := Blk.below Z2H.out (Blk.lt Z2H.out) hb3'
  have hb3 : Below w.heap.size w W3 := hb2.trans (hb3'.mono (by have := hb2.size; omega))
  have Hs : Hid _ := (isB (nL 3 b) rfl).size
  have H1 : Hid _ := (isB (nL 3 b) rfl).one
  clear hb3' PL Z2H
  generalize hL : (nL 3 b).cells = L at *
  have HL : Hid _ := hL
  clear hL
  go_wp2_with (refine wpList_store_mid rfl 27 _ _ rfl (w.heap.size + 1) 0 L rfl rfl (by exact z3.there _ Hs.out.symm) (by rw [Hs.out]; exact Try.infoBoard) H1.out ?_)
  exact ret_agg (m := w.heap.size + 1) (L := L) Try.results11 (by rfl) (z3.setAll L Hs.out) Try.underlying27 rfl (by rw [Hs.out]; exact Try.infoBoard) ⟨by rw [HL.out], setCells_below (Nat.le_succ _) _ _ _ _ hb3⟩

set_option maxRecDepth 100000 in
set_option maxHeartbeats 1000000 in
theorem clockM_7 (w : World) (b : Bd) (n : Int) (B : b.Wf) (hn : 0 < n ∧ n ≤ 9223372036854775807) (hk : b.kind = 7) (hl : lst b.kind b.sub = true) (hv : val7 b = true) :
    Calls Try.prog 11 #[.agg b.cells, .int .i64 n] w fun e w' => e = .returned (.agg (nL 7 b).cells) ∧ Below w.heap.size w w' := by
  have hr := B.rlen
  have C := isB b hr
  have OA := fun W => open_7 W b hr hk hl
  generalize b.cells = cs at C OA
  have hsz := C.size
  have HS : Hid _ := hsz
  have HO : Hid _ := OA
  have HV : Hid _ := hv
  have HB : Hid _ := B
  have HR : Hid _ := hr
  have HN : Hid _ := hn
  have n0 : decide (n ≤ 0) = false := decide_eq_false (by omega)
  clear OA hv B hk hl hr hn
  have q1 : ∀ (w : World) (T : TypeId) (x : Value), (binOp .eql 44 (.iface T x) .nilIface).run Try.prog w = .ok (.bool false) w := fun w T x => by
    have := run_equal_held_nil (P := Try.prog) w 44 T x (by kernel_rfl)
    simp only [binOp, Sem.run_bind, this, Result.andThen_ok, Sem.run_pure]
  go_enter Try.func11, Try.ntmps11
  go_upto_region 1 with fail
  change Code.wp _ _ _ _ ((w.alloc (.cells cs 27)).alloc (.cells Z31 27))
  have b0 : Blk ((w.alloc (.cells cs 27)).alloc (.cells Z31 27)) w.heap.size cs 27 := (Blk.new w cs _).old _
  have z0 : Blk ((w.alloc (.cells cs 27)).alloc (.cells Z31 27)) (w.heap.size + 1) Z31 27 := by
    have := Blk.new (w.alloc (.cells cs 27)) Z31 27
    rwa [World.size_alloc] at this
  have hb0 : Below w.heap.size w ((w.alloc (.cells cs 27)).alloc (.cells Z31 27)) := ((Below.refl _ _).alloc (Nat.le_refl _) _).alloc (by simp) _
  generalize (w.alloc (.cells cs 27)).alloc (.cells Z31 27) = W0 at *
  clear C hsz
  go_wp2_with (refine wpList_load_mid rfl 27 _ rfl w.heap.size 0 rfl cs.toList _ b0.range Try.underlying27 rfl (by rw [Array.length_toList, HS.out]; exact Try.infoBoard) ?_)
  refine (HO.out W0).mono ?_
  rintro e W1 ⟨hb1', -, h⟩
  obtain ⟨m, rfl, hm, K⟩ := h HV.out
  have hb1 : Below w.heap.size w W1 := hb0.trans (hb1'.mono hb0.size)
  have hz := z0.lt
  have z1 := z0.below hz hb1'
  have hM : ∀ w : World, (method 44 70 (.pointer (some ⟨m, 0, none⟩)) "tandem/mapper.clock").run Try.prog w = .ok (44, .pointer (some ⟨m, 0, none⟩)) w := fun _ => by kernel_rfl
  have KH : Hid (Blk W1 m (kLc b) 71) := K
  have ZH : Hid (Blk W1 (w.heap.size + 1) Z31 27) := z1
  clear hb1' hb0 b0 z0 h K HO z1
  go_wp2_with fail
  refine (clock0_any W1 m n).mono ?_
  rintro e W2 ⟨rfl, rfl⟩
  have z2 : Blk W2 (w.heap.size + 1) Z31 27 := ZH.out
  have K2 : Blk W2 m (kLc b) 71 := KH.out
  have hb2 : Below w.heap.size w W2 := hb1
  have PL : Hid _ := plain_7 W2 b HR.out m K2
  have Z2H : Hid (Blk W2 (w.heap.size + 1) Z31 27) := z2
  clear z2 K2 KH ZH
  go_wp2_with fail
  refine Calls.mono PL.out ?_
  rintro e W3 ⟨rfl, hb3'⟩
  have z3 : Blk W3 (w.heap.size + 1) Z31 27 := Blk.below Z2H.out (Blk.lt Z2H.out) hb3'
  have hb3 : Below w.heap.size w W3 := hb2.trans (hb3'.mono (by have := hb2.size; omega))
  have Hs : Hid _ := (isB (nL 7 b) rfl).size
  have H1 : Hid _ := (isB (nL 7 b) rfl).one
  clear hb3' PL Z2H
  generalize hL : (nL 7 b).cells = L at *
  have HL : Hid _ := hL
  clear hL
  go_wp2_with (refine wpList_store_mid rfl 27 _ _ rfl (w.heap.size + 1) 0 L rfl rfl (by exact z3.there _ Hs.out.symm) (by rw [Hs.out]; exact Try.infoBoard) H1.out ?_)
  exact ret_agg (m := w.heap.size + 1) (L := L) Try.results11 (by rfl) (z3.setAll L Hs.out) Try.underlying27 rfl (by rw [Hs.out]; exact Try.infoBoard) ⟨by rw [HL.out], setCells_below (Nat.le_succ _) _ _ _ _ hb3⟩

set_option maxRecDepth 100000 in
set_option maxHeartbeats 1000000 in
theorem clockM_4 (w : World) (b : Bd) (n : Int) (B : b.Wf) (hn : 0 < n ∧ n ≤ 9223372036854775807) (hk : b.kind = 4) (hl : lst b.kind b.sub = true) (hv : val4 b = true) :
    Calls Try.prog 11 #[.agg b.cells, .int .i64 n] w fun e w' => e = .returned (.agg (n4 (clkB b n (b.sub == 4))).cells) ∧ Below w.heap.size w w' := by
  have hr := B.rlen
  have C := isB b hr
  have OA := fun W => open_4 W b hr hk hl
  generalize b.cells = cs at C OA
  have hsz := C.size
  have HS : Hid _ := hsz
  have HO : Hid _ := OA
  have HV : Hid _ := hv
  have HB : Hid _ := B
  have HR : Hid _ := hr
  have HN : Hid _ := hn
  have n0 : decide (n ≤ 0) = false := decide_eq_false (by omega)
  clear OA hv B hk hl hr hn
  have q1 : ∀ (w : World) (T : TypeId) (x : Value), (binOp .eql 44 (.iface T x) .nilIface).run Try.prog w = .ok (.bool false) w := fun w T x => by
    have := run_equal_held_nil (P := Try.prog) w 44 T x (by kernel_rfl)
    simp only [binOp, Sem.run_bind, this, Result.andThen_ok, Sem.run_pure]
  go_enter Try.func11, Try.ntmps11
  go_upto_region 1 with fail
  change Code.wp _ _ _ _ ((w.alloc (.cells cs 27)).alloc (.cells Z31 27))
  have b0 : Blk ((w.alloc (.cells cs 27)).alloc (.cells Z31 27)) w.heap.size cs 27 := (Blk.new w cs _).old _
  have z0 : Blk ((w.alloc (.cells cs 27)).alloc (.cells Z31 27)) (w.heap.size + 1) Z31 27 := by
    have := Blk.new (w.alloc (.cells cs 27)) Z31 27
    rwa [World.size_alloc] at this
  have hb0 : Below w.heap.size w ((w.alloc (.cells cs 27)).alloc (.cells Z31 27)) := ((Below.refl _ _).alloc (Nat.le_refl _) _).alloc (by simp) _
  generalize (w.alloc (.cells cs 27)).alloc (.cells Z31 27) = W0 at *
  clear C hsz
  go_wp2_with (refine wpList_load_mid rfl 27 _ rfl w.heap.size 0 rfl cs.toList _ b0.range Try.underlying27 rfl (by rw [Array.length_toList, HS.out]; exact Try.infoBoard) ?_)
  refine (HO.out W0).mono ?_
  rintro e W1 ⟨hb1', -, h⟩
  obtain ⟨m, rfl, hm, K⟩ := h HV.out
  have hb1 : Below w.heap.size w W1 := hb0.trans (hb1'.mono hb0.size)
  have hz := z0.lt
  have z1 := z0.below hz hb1'
  have hM : ∀ w : World, (method 44 65 (.pointer (some ⟨m, 0, none⟩)) "tandem/mapper.clock").run Try.prog w = .ok (65, .pointer (some ⟨m, 0, none⟩)) w := fun _ => by kernel_rfl
  have KH : Hid (Blk W1 m (k4c b) 69) := K
  have ZH : Hid (Blk W1 (w.heap.size + 1) Z31 27) := z1
  clear hb1' hb0 b0 z0 h K HO z1
  go_wp2_with fail
  refine (clock4_any W1 m b n HB.out HN.out KH.out).mono ?_
  rintro e W2 ⟨rfl, hb2', K2⟩
  have z2 : Blk W2 (w.heap.size + 1) Z31 27 := Blk.below ZH.out (by omega) hb2'
  have hb2 : Below w.heap.size w W2 := hb1.trans (hb2'.mono (by omega))
  have PL : Hid _ := plain_4 W2 (clkB b n (b.sub == 4)) HR.out m K2
  have Z2H : Hid (Blk W2 (w.heap.size + 1) Z31 27) := z2
  clear z2 K2 KH ZH
  go_wp2_with fail
  refine Calls.mono PL.out ?_
  rintro e W3 ⟨rfl, hb3'⟩
  have z3 : Blk W3 (w.heap.size + 1) Z31 27 := Blk.below Z2H.out (Blk.lt Z2H.out) hb3'
  have hb3 : Below w.heap.size w W3 := hb2.trans (hb3'.mono (by have := hb2.size; omega))
  have Hs : Hid _ := (isB (n4 (clkB b n (b.sub == 4))) HR.out).size
  have H1 : Hid _ := (isB (n4 (clkB b n (b.sub == 4))) HR.out).one
  clear hb3' PL Z2H
  generalize hL : (n4 (clkB b n (b.sub == 4))).cells = L at *
  have HL : Hid _ := hL
  clear hL
  go_wp2_with (refine wpList_store_mid rfl 27 _ _ rfl (w.heap.size + 1) 0 L rfl rfl (by exact z3.there _ Hs.out.symm) (by rw [Hs.out]; exact Try.infoBoard) H1.out ?_)
  exact ret_agg (m := w.heap.size + 1) (L := L) Try.results11 (by rfl) (z3.setAll L Hs.out) Try.underlying27 rfl (by rw [Hs.out]; exact Try.infoBoard) ⟨by rw [HL.out], setCells_below (Nat.le_succ _) _ _ _ _ hb3⟩
end Go.Proofs.Ytpdpfobhbafmcaa
