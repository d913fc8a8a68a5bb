/-
  The document's Clock; conditions: the numbers of the board fit their kinds.
-/
import Derived.Test.YtpdpfobhbafmcaaRClk
import Derived.Test.YtpdpfobhbafmcaaMValidR
namespace Go.Proofs.Ytpdpfobhbafmcaa
open Go.RowKit Classical
theorem it_r (n : Nat) (b : Bd) : (it n b).r = b.r := by
  induction n with
  | zero => rfl
  | succ n ih => exact ih
theorem it_latch (n : Nat) (b : Bd) : (it n b).iLatch = b.iLatch := by
  induction n with
  | zero => rfl
  | succ n ih => exact ih
theorem it_kind (n : Nat) (b : Bd) : (it n b).kind = b.kind := by
  induction n with
  | zero => rfl
  | succ n ih => exact ih
theorem it_count (n : Nat) (b : Bd) (hc : 0 ≤ b.iCount ∧ b.iCount ≤ 255) (hl : 0 ≤ b.iLatch ∧ b.iLatch ≤ 255) : 0 ≤ (it n b).iCount ∧ (it n b).iCount ≤ 255 := by
  induction n with
  | zero => exact hc
  | succ n ih =>
    show 0 ≤ cnt1 (it n b) ∧ cnt1 (it n b) ≤ 255
    unfold cnt1
    rw [it_latch]
    split
    · exact hl
    · rename_i h
      have : (it n b).iCount ≠ 0 := fun e => h (Or.inl e)
      omega
theorem valid_fits {b : Bd} (hv : validB b = true) (hk : b.kind = 4) : b.iLoad = true → b.iCount = 0 := by
  intro h
  rw [validB_4 hk] at hv
  simp only [val4, sameB_dec, regs4, fitsV, Bool.and_eq_true] at hv
  have := hv.2.2.2.2.2.2.1
  rw [h] at this
  simpa using this
/-- How many clocks are made. -/
def fewer (b : Bd) (n : Int) : Int := if 1200 < n then 600 + (n - 600).tmod (b.iLatch + 1) else n
set_option maxRecDepth 100000 in
set_option maxHeartbeats 1000000 in
theorem rClock_4 (w : World) (b : Bd) (n : Int) (B : b.Wf) (hn : 0 < n ∧ n ≤ 9223372036854775807) (hk : b.kind = 4) (hv : validB b = true) :
    Calls Try.prog 12 #[.agg b.cells, .int .i64 n] w fun e w' => e = .returned (.agg (clkB b n (b.sub == 4)).cells) ∧ Below w.heap.size w w' := by
  have hr := B.rlen
  have C := isB b hr
  have RV := fun W => refValid_any W b B
  rw [hv] at RV
  have hN1 : 1 ≤ fewer b n ∧ fewer b n ≤ n := by
    unfold fewer
    split
    · have hl := B.iLatch
      have := mod_bd (n - 600) (b.iLatch + 1) (by omega) (by omega)
      omega
    · omega
  have hE : clkB b (fewer b n) (b.sub == 4) = clkB b n (b.sub == 4) := by
    unfold fewer
    split
    · exact clkB_cut b n _ B.iCount B.iLatch (by omega)
    · rfl
  obtain ⟨N, hN⟩ := Int.eq_ofNat_of_zero_le (show 0 ≤ fewer b n by omega)
  have hIt : it N b = clkB b n (b.sub == 4) := by
    rw [it_pos b B.iCount B.iLatch (valid_fits hv hk) N (by omega), ← hN, hE]
  have HIt : Hid _ := hIt
  have HNh : Hid _ := hN
  have HN1 : Hid _ := hN1
  have HB : Hid _ := B
  have HBN : Hid _ := hn
  have RC : Hid (∀ (k : Nat) (W : World), Calls Try.prog 24 #[.agg (it k b).cells] W fun e w' => e = .returned (.agg (it (k + 1) b).cells) ∧ Below W.heap.size W w') := fun k W =>
    rclock_any W (it k b) (by rw [it_r]; exact hr) (it_count k b B.iCount B.iLatch) (by rw [it_latch]; exact B.iLatch)
  generalize hcs : b.cells = cs at C RV
  have HCS : Hid _ := hcs
  have hsz := C.size
  have HS : Hid _ := hsz
  have HO : Hid _ := RV
  have d25h : Hid _ := C.h25
  have d0h : cs[0]? = some (.int .i64 4) := by rw [C.h0, hk]
  have n0 : decide (n ≤ 0) = false := decide_eq_false (by omega)
  clear RV hcs hv hk hr hE hN hN1 hIt hn
  go_enter Try.func12, Try.ntmps12
  go_upto_region 1 with fail
  change Code.wp _ _ _ _ ((w.alloc (.cells cs 27)).alloc (.cells Z31 27))
  have b0 : Blk ((w.alloc (.cells cs 27)).alloc (.cells Z31 27)) w.heap.size cs 27 := (Blk.new w cs _).old _
  have z0 : Blk ((w.alloc (.cells cs 27)).alloc (.cells Z31 27)) (w.heap.size + 1) Z31 27 := by
    have := Blk.new (w.alloc (.cells cs 27)) Z31 27
    rwa [World.size_alloc] at this
  have hb0 : Below w.heap.size w ((w.alloc (.cells cs 27)).alloc (.cells Z31 27)) := ((Below.refl _ _).alloc (Nat.le_refl _) _).alloc (by simp) _
  generalize (w.alloc (.cells cs 27)).alloc (.cells Z31 27) = W0 at *
  clear C hsz
  go_cut [17] (fun q wx => q = .bool false ∧ Blk wx w.heap.size cs 27 ∧ Blk wx (w.heap.size + 1) Z31 27 ∧ Below w.heap.size w wx)
  case first =>
    go_wp2_with (first
      | refine wpList_load_mid rfl 27 _ rfl w.heap.size 0 rfl cs.toList _ b0.range Try.underlying27 rfl (by rw [Array.length_toList, HS.out]; exact Try.infoBoard) ?_
      | (go_at_call 10; refine (HO.out W0).mono ?_; rintro e W1 ⟨rfl, hb1⟩; have b1 := b0.below b0.lt hb1; have d0 := (b1.cell 0).trans d0h))
    go_meet
    exact ⟨rfl, b1, z0.below z0.lt hb1, hb0.trans (hb1.mono hb0.size)⟩
  case rest =>
  clear b0 z0 hb0 n0 d0h
  obtain ⟨rfl, b0, z0, hb0⟩ := hcut
  have d25 := (b0.cell 25).trans d25h.out
  obtain ⟨W1, hW1⟩ : ∃ x, x = wc := ⟨wc, rfl⟩
  subst hW1
  go_upto_if 20 with fail
  go_cut [1] (fun q wx => q = .int .i64 (fewer b n) ∧ W1 = wx)
  case first =>
    by_cases c : 1200 < n
    · have e : fewer b n = 600 + (n - 600).tmod (b.iLatch + 1) := by unfold fewer; rw [if_pos c]
      have EH : Hid _ := e
      have hl := HB.out.iLatch
      have hn := HBN.out
      have hm := mod_bd (n - 600) (b.iLatch + 1) (by omega) (by omega)
      clear e
      go_wp2
      go_meet
      exact ⟨by rw [EH.out, ← Int.tmod_eq_emod_of_nonneg (by omega), IntWalk.wrap64_in _ ⟨by omega, by omega⟩], rfl⟩
    · have e : fewer b n = n := by unfold fewer; rw [if_neg c]
      have EH : Hid _ := e
      clear e
      go_wp2
      go_meet
      exact ⟨by rw [EH.out], rfl⟩
  case rest =>
  obtain ⟨rfl, rfl⟩ := hcut
  rw [HNh.out]
  have hNb : (N : Int) ≤ 9223372036854775807 := by have h1 := HN1.out; have h2 := HBN.out; rw [HNh.out] at h1; omega
  clear d25
  go_wp2
  go_loopw [5] (fun i wr => ∃ k : Nat, k ≤ N ∧ i = .int .i64 k ∧ Blk wr w.heap.size (it k b).cells 27 ∧ Blk wr (w.heap.size + 1) Z31 27 ∧ Below w.heap.size w wr) (fun i _ => N - (intOf i).toNat)
  case atStart => exact ⟨0, by omega, rfl, by rw [show it 0 b = b from rfl, HCS.out]; exact b0, z0, hb0⟩
  case round =>
    clear b0 z0 hb0
    obtain ⟨k, hk, rfl, bk, zk, hbk⟩ := hrel
    have HB' := fun j : Nat => isB (it j b) (by rw [it_r]; exact HB.out.rlen)
    have Hs : Hid _ := (HB' k).size
    by_cases hkN : k = N
    · subst hkN
      have H1 : Hid _ := (HB' k).one
      generalize hL : (it k b).cells = L at *
      have HL : Hid _ := hL
      clear hL HB'
      go_wp2_with (first
        | refine wpList_load_mid rfl 27 _ rfl w.heap.size 0 rfl L.toList _ bk.range Try.underlying27 rfl (by rw [Array.length_toList, Hs.out]; exact Try.infoBoard) ?_
        | refine wpList_store_mid rfl 27 _ _ rfl (w.heap.size + 1) 0 L rfl rfl (by exact zk.there _ Hs.out.symm) (by rw [Hs.out]; exact Try.infoBoard) H1.out ?_)
      exact ret_agg (m := w.heap.size + 1) (L := L) Try.results12 (by rfl) (zk.setAll L Hs.out) Try.underlying27 rfl (by rw [Hs.out]; exact Try.infoBoard) ⟨by rw [← HL.out, HIt.out], setCells_below (Nat.le_succ _) _ _ _ _ hbk⟩
    · have hlt : (k : Int) < N := by omega
      have Hs1 : Hid _ := (HB' (k + 1)).size
      have H1 : Hid _ := (HB' (k + 1)).one
      have RK : Hid _ := RC.out k
      clear HB'
      generalize hL : (it k b).cells = L at *
      generalize hL1 : (it (k + 1) b).cells = L1 at *
      have HL1 : Hid _ := hL1
      clear hL hL1
      go_wp2_with (first
        | refine wpList_load_mid rfl 27 _ rfl w.heap.size 0 rfl L.toList _ bk.range Try.underlying27 rfl (by rw [Array.length_toList, Hs.out]; exact Try.infoBoard) ?_
        | (go_at_call 24; refine (RK.out _).mono ?_; rintro e W2 ⟨rfl, hb2⟩; have b2 := bk.below bk.lt hb2; have z2 := zk.below zk.lt hb2)
        | refine wpList_store_mid rfl 27 _ _ rfl w.heap.size 0 L1 rfl rfl (by exact b2.there _ (Hs.out.trans Hs1.out.symm)) (by rw [Hs1.out]; exact Try.infoBoard) H1.out ?_)
      have b3 := b2.setAll L1 (Hs1.out.trans Hs.out.symm)
      have z3 : Blk (W2.setCells w.heap.size 0 L1.toList) (w.heap.size + 1) Z31 27 := Blk.otherCells z2 (m := w.heap.size) (by omega) L1.toList 0
      have h3 := setCells_below (Nat.le_refl w.heap.size) L1.toList 0 _ _ (hbk.trans (hb2.mono hbk.size))
      generalize W2.setCells w.heap.size 0 L1.toList = W3 at *
      clear b2 z2 bk zk hbk hb2
      go_wp2
      go_roundw
      case rel => exact ⟨k + 1, by omega, by go_num, by rw [HL1.out]; exact b3, z3, h3⟩
      case measure => simp [intOf]; omega
end Go.Proofs.Ytpdpfobhbafmcaa
