/-
  The document's single scanline clock; conditions: eight bank registers, the counter and its latch are bytes.
-/
import Derived.Test.YtpdpfobhbafmcaaRIt
import Derived.Deep.CutBlock
namespace Go.Proofs.Ytpdpfobhbafmcaa
open Go.RowKit Classical
theorem cells_26 (b : Bd) (hr : b.r.length = 8) (v : Int) : b.cells.setIfInBounds 26 (.int .u8 v) = ({ b with iCount := v } : Bd).cells := by
  obtain ⟨a0, a1, a2, a3, a4, a5, a6, a7, er⟩ := Bd.eight hr
  unfold Bd.cells
  rw [er]
  rfl
theorem cells_27 (b : Bd) (hr : b.r.length = 8) (v : Bool) : b.cells.setIfInBounds 27 (.bool v) = ({ b with iLoad := v } : Bd).cells := by
  obtain ⟨a0, a1, a2, a3, a4, a5, a6, a7, er⟩ := Bd.eight hr
  unfold Bd.cells
  rw [er]
  rfl
theorem cells_29 (b : Bd) (hr : b.r.length = 8) (v : Bool) : b.cells.setIfInBounds 29 (.bool v) = ({ b with irq := v } : Bd).cells := by
  obtain ⟨a0, a1, a2, a3, a4, a5, a6, a7, er⟩ := Bd.eight hr
  unfold Bd.cells
  rw [er]
  rfl
set_option maxRecDepth 100000 in
set_option maxHeartbeats 1000000 in
theorem rclock_any (w : World) (b : Bd) (hr : b.r.length = 8) (hc : 0 ≤ b.iCount ∧ b.iCount ≤ 255) (_hl : 0 ≤ b.iLatch ∧ b.iLatch ≤ 255) :
    Calls Try.prog 24 #[.agg b.cells] w fun e w' => e = .returned (.agg (clk1 b).cells) ∧ Below w.heap.size w w' := by
  have C := isB b hr
  have HB : Hid _ := hr
  have HCB : Hid _ := hc
  generalize hcs : b.cells = cs at C
  have HCS : Hid _ := hcs
  have hsz := C.size
  clear hcs hr _hl hc
  go_enter Try.func24, Try.ntmps24
  go_upto_region 1 with fail
  change Code.wp _ _ _ _ ((w.alloc (.cells cs 27)).alloc (.cells Z31 27))
  have b0 : Blk ((w.alloc (.cells cs 27)).alloc (.cells Z31 27)) w.heap.size cs 27 := (Blk.new w cs _).old _
  have z0 : Blk ((w.alloc (.cells cs 27)).alloc (.cells Z31 27)) (w.heap.size + 1) Z31 27 := by
    have := Blk.new (w.alloc (.cells cs 27)) Z31 27
    rwa [World.size_alloc] at this
  have hb0 : Below w.heap.size w ((w.alloc (.cells cs 27)).alloc (.cells Z31 27)) := ((Below.refl _ _).alloc (Nat.le_refl _) _).alloc (by simp) _
  generalize (w.alloc (.cells cs 27)).alloc (.cells Z31 27) = W0 at *
  have d25 := (b0.cell 25).trans C.h25
  have d26 := (b0.cell 26).trans C.h26
  have d27 := (b0.cell 27).trans C.h27
  have f26 := b0.free 26
  clear C hsz
  go_upto_region 3 with fail
  go_cut [3, 14] (fun q3 q wx => q3 = .int .u8 b.iCount ∧ q = .bool ((b.iCount == 0) || b.iLoad) ∧ W0 = wx)
  case first =>
    by_cases c0 : b.iCount = 0
    · have K : Hid _ := c0
      go_wp2
      go_meet
      exact ⟨by rw [K.out], by rw [K.out]; rfl, rfl⟩
    · have K : Hid _ := c0
      go_wp2
      go_meet
      exact ⟨rfl, by first | rfl | simp [K.out], rfl⟩
  case rest =>
  obtain ⟨rfl, rfl, rfl⟩ := hcut
  go_upto_if 14 with fail
  go_cut [] (fun wx => Blk wx w.heap.size ({ b with iCount := cnt1 b } : Bd).cells 27 ∧ Blk wx (w.heap.size + 1) Z31 27 ∧ Below w.heap.size w wx)
  case first =>
    cases c0 : ((b.iCount == 0) || b.iLoad)
    · have e : cnt1 b = b.iCount - 1 := by
        unfold cnt1
        rw [if_neg (by simpa using c0)]
      have hc0 : b.iCount ≠ 0 := by intro h; simp [h] at c0
      have ew : IntKind.u8.wrap (b.iCount - 1) = cnt1 b := by rw [e, IntKind.wrap_u8]; have := HCB.out; omega
      have ew' : (b.iCount - 1) % 256 = cnt1 b := by rw [e]; have := HCB.out; omega
      clear hc0 e
      go_wp2
      go_meet
      exact ⟨by have q := b0.set 26 (.int .u8 (cnt1 b)); rw [← HCS.out, cells_26 b HB.out] at q; exact q, z0.other (by omega) _ _, hb0.setCell (Nat.le_refl _) _⟩
    · have e : cnt1 b = b.iLatch := by
        unfold cnt1
        rw [if_pos (by simpa using c0)]
      have EH : Hid _ := e
      clear e
      go_wp2
      go_meet
      exact ⟨by have q := b0.set 26 (.int .u8 (cnt1 b)); rw [← HCS.out, cells_26 b HB.out] at q; rw [EH.out] at q ⊢; exact q, z0.other (by omega) _ _, hb0.setCell (Nat.le_refl _) _⟩
  case rest =>
  clear b0 z0 hb0 d25 d26 d27 f26
  obtain ⟨b1, z1, hb1⟩ := hcut
  have C1 := isB ({ b with iCount := cnt1 b } : Bd) HB.out
  have d1 := (b1.cell 1).trans C1.h1
  have d26 : wc.cell? ⟨w.heap.size, 26, none⟩ = some (.int .u8 (cnt1 b)) := (b1.cell 26).trans C1.h26
  have d28 := (b1.cell 28).trans C1.h28
  have d29 := (b1.cell 29).trans C1.h29
  have f29 := b1.free 29
  dsimp only at d1 d28 d29
  clear C1
  obtain ⟨W1, hW1⟩ : ∃ x, x = wc := ⟨wc, rfl⟩
  subst hW1
  go_upto_region 7 with fail
  go_cut [3, 35] (fun q3 q wx => q3 = .int .u8 b.iCount ∧ q = .bool ((b.sub == 4) && ((b.iCount == 0) && !b.iLoad)) ∧ W1 = wx)
  case first =>
    by_cases c1 : b.sub = 4
    · have K1 : Hid _ := c1
      by_cases c0 : b.iCount = 0
      · have K0 : Hid _ := c0
        go_wp2
        go_meet
        exact ⟨by rw [K0.out], by simp [c0, c1], rfl⟩
      · have K0 : Hid _ := c0
        go_wp2
        go_meet
        exact ⟨rfl, by simp [c0, c1], rfl⟩
    · have K1 : Hid _ := c1
      go_wp2
      go_meet
      exact ⟨rfl, by simp [c1], rfl⟩
  case rest =>
  obtain ⟨rfl, rfl, rfl⟩ := hcut
  go_upto_if 35 with fail
  go_cut [5] (fun q wx => q = .bool (fire1 b) ∧ W1 = wx)
  case first =>
    have e : fire1 b = ((cnt1 b == 0) && !((b.sub == 4) && ((b.iCount == 0) && !b.iLoad))) := rfl
    have EH : Hid _ := e
    clear e
    cases c : ((b.sub == 4) && ((b.iCount == 0) && !b.iLoad))
    · have CH : Hid _ := c
      go_wp2
      go_meet
      exact ⟨by rw [EH.out, CH.out]; simp, rfl⟩
    · have CH : Hid _ := c
      go_wp2
      go_meet
      exact ⟨by rw [EH.out, CH.out]; simp, rfl⟩
  case rest =>
  obtain ⟨rfl, rfl⟩ := hcut
  go_upto_region 9 with fail
  go_cut [5, 40] (fun _ q wx => q = .bool (fire1 b && b.iOn) ∧ W1 = wx)
  case first =>
    cases c : fire1 b
    · have CH : Hid _ := c
      go_wp2
      go_meet
      exact ⟨by first | rfl | (rw [CH.out]; rfl), rfl⟩
    · have CH : Hid _ := c
      go_wp2
      go_meet
      exact ⟨by first | rfl | (rw [CH.out]; rfl), rfl⟩
  case rest =>
  obtain ⟨rfl, rfl⟩ := hcut
  go_upto_if 40 with fail
  go_cut [] (fun wx => Blk wx w.heap.size ({ b with iCount := cnt1 b, irq := b.irq || (fire1 b && b.iOn) } : Bd).cells 27 ∧ Blk wx (w.heap.size + 1) Z31 27 ∧ Below w.heap.size w wx)
  case first =>
    cases c : (fire1 b && b.iOn)
    · have CH : Hid _ := c
      go_wp2
      go_meet
      exact ⟨by rw [CH.out, Bool.or_false]; exact b1, z1, hb1⟩
    · have CH : Hid _ := c
      go_wp2
      go_meet
      exact ⟨by have q := b1.set 29 (.bool true); rw [cells_29 ({ b with iCount := cnt1 b } : Bd) HB.out] at q; rw [CH.out, Bool.or_true]; exact q, z1.other (by omega) _ _, hb1.setCell (Nat.le_refl _) _⟩
  case rest =>
  clear b1 z1 hb1 d1 d26 d28 d29 f29
  obtain ⟨b1, z1, hb1⟩ := hcut
  have f27 := b1.free 27
  have h27 := (b1.cell 27).trans (isB ({ b with iCount := cnt1 b, irq := b.irq || (fire1 b && b.iOn) } : Bd) HB.out).h27
  go_upto_region 11 with fail
  go_cut [] (fun wx => Blk wx w.heap.size (clk1 b).cells 27 ∧ Blk wx (w.heap.size + 1) Z31 27 ∧ Below w.heap.size w wx)
  case first =>
    go_wp2
    go_meet
    exact ⟨by have q := b1.set 27 (.bool false); rw [cells_27 ({ b with iCount := cnt1 b, irq := b.irq || (fire1 b && b.iOn) } : Bd) HB.out] at q; exact q, z1.other (by omega) _ _, hb1.setCell (Nat.le_refl _) _⟩
  case rest =>
  clear b1 z1 hb1 f27 h27
  obtain ⟨b1, z1, hb1⟩ := hcut
  have Hs : Hid _ := (isB (clk1 b) HB.out).size
  have H1 : Hid _ := (isB (clk1 b) HB.out).one
  generalize hL : (clk1 b).cells = L at *
  have HL : Hid _ := hL
  clear hL
  go_wp2_with (first
    | refine wpList_load_mid rfl 27 _ rfl w.heap.size 0 rfl L.toList _ b1.range Try.underlying27 rfl (by rw [Array.length_toList, Hs.out]; exact Try.infoBoard) ?_
    | refine wpList_store_mid rfl 27 _ _ rfl (w.heap.size + 1) 0 L rfl rfl (by exact z1.there _ Hs.out.symm) (by rw [Hs.out]; exact Try.infoBoard) H1.out ?_)
  exact ret_agg (m := w.heap.size + 1) (L := L) Try.results24 (by rfl) (z1.setAll L Hs.out) Try.underlying27 rfl (by rw [Hs.out]; exact Try.infoBoard) ⟨by rw [HL.out], setCells_below (Nat.le_succ _) _ _ _ _ hb1⟩
end Go.Proofs.Ytpdpfobhbafmcaa
