/-
  The document's Clock where nothing is done, and its ToIrq; conditions: the numbers of the board fit their kinds.
-/
import Derived.Test.YtpdpfobhbafmcaaRClk2
namespace Go.Proofs.Ytpdpfobhbafmcaa
open Go.RowKit Classical
set_option maxRecDepth 100000 in
set_option maxHeartbeats 1000000 in
theorem rClock_same (w : World) (b : Bd) (n : Int) (B : b.Wf) (hv : validB b = false ∨ b.kind ≠ 4 ∨ n ≤ 0) :
    Calls Try.prog 12 #[.agg b.cells, .int .i64 n] w fun e w' => e = .returned (.agg b.cells) ∧ Below w.heap.size w w' := by
  have hr := B.rlen
  have C := isB b hr
  have RV := fun W => refValid_any W b B
  generalize b.cells = cs at C RV
  have hsz := C.size
  have HS : Hid _ := hsz
  have HO : Hid _ := RV
  have H1 : Hid _ := C.one
  have d0h := C.h0
  have HV : Hid _ := hv
  clear RV hr hv
  go_enter Try.func12, Try.ntmps12
  go_upto_region 1 with fail
  change Code.wp _ _ _ _ ((w.alloc (.cells cs 27)).alloc (.cells Z31 27))
  have b0 : Blk ((w.alloc (.cells cs 27)).alloc (.cells Z31 27)) w.heap.size cs 27 := (Blk.new w cs _).old _
  have z0 : Blk ((w.alloc (.cells cs 27)).alloc (.cells Z31 27)) (w.heap.size + 1) Z31 27 := by
    have := Blk.new (w.alloc (.cells cs 27)) Z31 27
    rwa [World.size_alloc] at this
  have hb0 : Below w.heap.size w ((w.alloc (.cells cs 27)).alloc (.cells Z31 27)) := ((Below.refl _ _).alloc (Nat.le_refl _) _).alloc (by simp) _
  generalize (w.alloc (.cells cs 27)).alloc (.cells Z31 27) = W0 at *
  clear C hsz
  go_cut [17] (fun q wx => q = .bool true ∧ Blk wx w.heap.size cs 27 ∧ Blk wx (w.heap.size + 1) Z31 27 ∧ Below w.heap.size w wx)
  case first =>
    cases hvb : validB b
    · rw [hvb] at HO
      go_wp2_with (first
        | refine wpList_load_mid rfl 27 _ rfl w.heap.size 0 rfl cs.toList _ b0.range Try.underlying27 rfl (by rw [Array.length_toList, HS.out]; exact Try.infoBoard) ?_
        | (go_at_call 10; refine (HO.out W0).mono ?_; rintro e W1 ⟨rfl, hb1⟩; have b1 := b0.below b0.lt hb1))
      go_meet
      exact ⟨rfl, b1, z0.below z0.lt hb1, hb0.trans (hb1.mono hb0.size)⟩
    · rw [hvb] at HO
      by_cases hk : b.kind = 4
      · have hn : n ≤ 0 := by
          rcases HV.out with h | h | h
          · rw [hvb] at h; exact absurd h (by decide)
          · exact absurd hk h
          · exact h
        rw [hk] at d0h
        clear hk
        go_wp2_with (first
          | refine wpList_load_mid rfl 27 _ rfl w.heap.size 0 rfl cs.toList _ b0.range Try.underlying27 rfl (by rw [Array.length_toList, HS.out]; exact Try.infoBoard) ?_
          | (go_at_call 10; refine (HO.out W0).mono ?_; rintro e W1 ⟨rfl, hb1⟩; have b1 := b0.below b0.lt hb1; have d0 := (b1.cell 0).trans d0h))
        go_meet
        exact ⟨rfl, b1, z0.below z0.lt hb1, hb0.trans (hb1.mono hb0.size)⟩
      · go_wp2_with (first
          | refine wpList_load_mid rfl 27 _ rfl w.heap.size 0 rfl cs.toList _ b0.range Try.underlying27 rfl (by rw [Array.length_toList, HS.out]; exact Try.infoBoard) ?_
          | (go_at_call 10; refine (HO.out W0).mono ?_; rintro e W1 ⟨rfl, hb1⟩; have b1 := b0.below b0.lt hb1; have d0 := (b1.cell 0).trans d0h))
        go_meet
        exact ⟨by first | rfl | simp [hk], b1, z0.below z0.lt hb1, hb0.trans (hb1.mono hb0.size)⟩
  case rest =>
  clear b0 z0 hb0 d0h
  obtain ⟨rfl, b0, z0, hb0⟩ := hcut
  go_wp2_with (first
    | refine wpList_load_mid rfl 27 _ rfl w.heap.size 0 rfl cs.toList _ b0.range Try.underlying27 rfl (by rw [Array.length_toList, HS.out]; exact Try.infoBoard) ?_
    | refine wpList_store_mid rfl 27 _ _ rfl (w.heap.size + 1) 0 cs rfl rfl (by exact z0.there _ HS.out.symm) (by rw [HS.out]; exact Try.infoBoard) H1.out ?_)
  exact ret_agg (m := w.heap.size + 1) (L := cs) Try.results12 (by rfl) (z0.setAll cs HS.out) Try.underlying27 rfl (by rw [HS.out]; exact Try.infoBoard) ⟨rfl, setCells_below (Nat.le_succ _) _ _ _ _ hb0⟩
set_option maxRecDepth 100000 in
set_option maxHeartbeats 1000000 in
theorem rToIrq_none (w : World) (b : Bd) (B : b.Wf) (hv : validB b = false ∨ (b.kind ≠ 4 ∧ b.irq = false)) :
    Calls Try.prog 14 #[.agg b.cells] w fun e w' => e = .returned (.int .i64 (-1)) ∧ Below w.heap.size w w' := by
  have hr := B.rlen
  have C := isB b hr
  have RV := fun W => refValid_any W b B
  generalize b.cells = cs at C RV
  have hsz := C.size
  have HS : Hid _ := hsz
  have HO : Hid _ := RV
  have d0h := C.h0
  have d29h := C.h29
  have HV : Hid _ := hv
  clear RV hr hv
  go_enter Try.func14, Try.ntmps14
  go_upto_region 1 with fail
  have b0 : Blk (w.alloc (.cells cs 27)) w.heap.size cs 27 := Blk.new w cs _
  have hb0 : Below w.heap.size w (w.alloc (.cells cs 27)) := (Below.refl _ _).alloc (Nat.le_refl _) _
  generalize w.alloc (.cells cs 27) = W0 at *
  clear C hsz
  cases hvb : validB b
  · rw [hvb] at HO
    go_wp2_with (first
      | refine wpList_load_mid rfl 27 _ rfl w.heap.size 0 rfl cs.toList _ b0.range Try.underlying27 rfl (by rw [Array.length_toList, HS.out]; exact Try.infoBoard) ?_
      | (go_at_call 10; refine (HO.out W0).mono ?_; rintro e W1 ⟨rfl, hb1⟩))
    go_ret
    exact ⟨rfl, hb0.trans (hb1.mono hb0.size)⟩
  · rw [hvb] at HO
    obtain ⟨hk, hi⟩ : b.kind ≠ 4 ∧ b.irq = false := by
      rcases HV.out with h | h
      · rw [hvb] at h; exact absurd h (by decide)
      · exact h
    rw [hi] at d29h
    clear hi hvb HV
    go_wp2_with (first
      | refine wpList_load_mid rfl 27 _ rfl w.heap.size 0 rfl cs.toList _ b0.range Try.underlying27 rfl (by rw [Array.length_toList, HS.out]; exact Try.infoBoard) ?_
      | (go_at_call 10; refine (HO.out W0).mono ?_; rintro e W1 ⟨rfl, hb1⟩; have b1 := b0.below b0.lt hb1; have d0 := (b1.cell 0).trans d0h; have d29 := (b1.cell 29).trans d29h))
    have hb : Below w.heap.size w W1 := hb0.trans (hb1.mono hb0.size)
    clear hb0 hb1 b0 b1
    go_loopw [3] (fun i wr => i = .int .i64 0 ∧ wr = W1) (fun _ _ => 0)
    case atStart => exact ⟨rfl, rfl⟩
    case round =>
      obtain ⟨rfl, rfl⟩ := hrel
      go_wp2
      go_ret
      exact ⟨rfl, hb⟩
set_option maxRecDepth 100000 in
set_option maxHeartbeats 1000000 in
theorem rToIrq_4 (w : World) (b : Bd) (B : b.Wf) (hk : b.kind = 4) (hv : validB b = true) :
    Calls Try.prog 14 #[.agg b.cells] w fun e w' => e = .returned (.int .i64 (irqV b)) ∧ Below w.heap.size w w' := by
  have hr := B.rlen
  have C := isB b hr
  have RV := fun W => refValid_any W b B
  rw [hv] at RV
  have RC : Hid (∀ (k : Nat) (W : World), Calls Try.prog 24 #[.agg (it k b).cells] W fun e w' => e = .returned (.agg (it (k + 1) b).cells) ∧ Below W.heap.size W w') := fun k W =>
    rclock_any W (it k b) (by rw [it_r]; exact hr) (it_count k b B.iCount B.iLatch) (by rw [it_latch]; exact B.iLatch)
  have F1 : Hid _ := fun k => irq_first b B.iCount B.iLatch (valid_fits hv hk) k
  have F2 : Hid _ := irq_never b B.iCount B.iLatch (valid_fits hv hk)
  have HK : Hid _ := hk
  have HR : Hid _ := hr
  generalize hcs : b.cells = cs at C RV
  have HCS : Hid _ := hcs
  have hsz := C.size
  have HS : Hid _ := hsz
  have HO : Hid _ := RV
  clear RV hr hv hk hcs B
  go_enter Try.func14, Try.ntmps14
  go_upto_region 1 with fail
  have b0 : Blk (w.alloc (.cells cs 27)) w.heap.size cs 27 := Blk.new w cs _
  have hb0 : Below w.heap.size w (w.alloc (.cells cs 27)) := (Below.refl _ _).alloc (Nat.le_refl _) _
  generalize w.alloc (.cells cs 27) = W0 at *
  clear C hsz
  go_wp2_with (first
    | refine wpList_load_mid rfl 27 _ rfl w.heap.size 0 rfl cs.toList _ b0.range Try.underlying27 rfl (by rw [Array.length_toList, HS.out]; exact Try.infoBoard) ?_
    | (go_at_call 10; refine (HO.out W0).mono ?_; rintro e W1 ⟨rfl, hb1⟩; have b1 := b0.below b0.lt hb1))
  have hb : Below w.heap.size w W1 := hb0.trans (hb1.mono hb0.size)
  clear hb0 hb1 b0
  go_loopw [3] (fun i wr => ∃ k : Nat, k ≤ 601 ∧ i = .int .i64 k ∧ Hid (∀ j, j < k → (it j b).irq = false) ∧ Blk wr w.heap.size (it k b).cells 27 ∧ Below w.heap.size w wr) (fun i _ => 601 - (intOf i).toNat)
  case atStart => exact ⟨0, by omega, rfl, fun j hj => absurd hj (by omega), by rw [show it 0 b = b from rfl, HCS.out]; exact b1, hb⟩
  case round =>
    clear b1 hb
    obtain ⟨k, hk, rfl, hj, bk, hbk⟩ := hrel
    have Ck := isB (it k b) (by rw [it_r]; exact HR.out)
    have d0 : wr.cell? ⟨w.heap.size, 0, none⟩ = some (.int .i64 4) := (bk.cell 0).trans (by rw [Ck.h0, it_kind, HK.out])
    have d29 := (bk.cell 29).trans Ck.h29
    have Hs : Hid _ := Ck.size
    clear Ck
    by_cases hk6 : k = 601
    · subst hk6
      clear d0 d29
      go_wp2
      go_ret
      exact ⟨by rw [F2.out hj.out]; rfl, hbk⟩
    · have hlt : (k : Int) ≤ 600 := by omega
      cases hq : (it k b).irq
      · rw [hq] at d29
        have hj' : Hid (∀ j, j < k + 1 → (it j b).irq = false) := fun j h => by
          by_cases e : j = k
          · rw [e]; exact hq
          · exact hj.out j (by omega)
        have Ck1 := isB (it (k + 1) b) (by rw [it_r]; exact HR.out)
        have Hs1 : Hid _ := Ck1.size
        have H1 : Hid _ := Ck1.one
        have RK : Hid _ := RC.out k
        clear Ck1 hq
        generalize hL : (it k b).cells = L at *
        generalize hL1 : (it (k + 1) b).cells = L1 at *
        have HL1 : Hid _ := hL1
        clear hL hL1
        go_wp2_with (first
          | refine wpList_load_mid rfl 27 _ rfl w.heap.size 0 rfl L.toList _ bk.range Try.underlying27 rfl (by rw [Array.length_toList, Hs.out]; exact Try.infoBoard) ?_
          | (go_at_call 24; refine (RK.out _).mono ?_; rintro e W2 ⟨rfl, hb2⟩; have b2 := bk.below bk.lt hb2)
          | refine wpList_store_mid rfl 27 _ _ rfl w.heap.size 0 L1 rfl rfl (by exact b2.there _ (Hs.out.trans Hs1.out.symm)) (by rw [Hs1.out]; exact Try.infoBoard) H1.out ?_)
        have b3 := b2.setAll L1 (Hs1.out.trans Hs.out.symm)
        have h3 := setCells_below (Nat.le_refl w.heap.size) L1.toList 0 _ _ (hbk.trans (hb2.mono hbk.size))
        generalize W2.setCells w.heap.size 0 L1.toList = W3 at *
        clear b2 bk hbk hb2
        go_wp2
        go_roundw
        case rel => exact ⟨k + 1, by omega, by go_num, hj', by rw [HL1.out]; exact b3, h3⟩
        case measure => simp [intOf]; omega
      · have HQ : Hid _ := F1.out k hq hj.out
        rw [hq] at d29
        clear hq
        go_wp2
        go_ret
        exact ⟨by rw [HQ.out]; rfl, hbk⟩
end Go.Proofs.Ytpdpfobhbafmcaa
