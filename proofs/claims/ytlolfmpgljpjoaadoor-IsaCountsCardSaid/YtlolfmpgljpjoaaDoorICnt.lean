/-
  The law IsaCounts by what Decode and Encode answer; conditions: the names lie in their variable.
-/
import Derived.Test.YtlolfmpgljpjoaaDoorICntP
import Derived.Test.YtlolfmpgljpjoaaDoorIShape
import Derived.Test.YtlolfmpgljpjoaaDoorIEnc
set_option linter.unusedSimpArgs false
set_option linter.unusedVariables false
namespace Go.Proofs.YtlolfmpgljpjoaaDoor
open Go.RowKit
theorem NTab.below {w w' : World} (T : NTab w) (hb : Below w.heap.size w w') : NTab w' :=
  ⟨fun i hi => (hb.cell (p := ⟨0, i, none⟩) (cell_ltx (T.nm i hi))).trans (T.nm i hi)⟩
theorem neq4 (w : World) : (binOp .neq 22 (.agg #[.int .i64 151, .int .i64 86, .int .i64 12, .int .i64 7]) (.agg #[.int .i64 151, .int .i64 86, .int .i64 12, .int .i64 7])).run Tryd.prog w = .ok (.bool false) w := by kernel_rfl
theorem decode_cy (k : Nat) (hk : k < 256) (w : World) :
    Calls Tryd.prog 6 #[.int .u8 (k : Nat)] w fun e w' => e = .returned (.agg #[.int .i64 (opN k : Nat), .int .i64 (mdN k : Nat), .int .i64 (kdN k : Nat), .int .i64 (lnN k : Nat), .int .i64 (cyN k : Nat), .int .i64 (clN k : Nat)]) ∧ Below w.heap.size w w' := decode_any k hk w
abbrev Z4 : Array Value := #[.int .i64 0, .int .i64 0, .int .i64 0, .int .i64 0]
abbrev Z13 : Array Value := #[.int .i64 0, .int .i64 0, .int .i64 0, .int .i64 0, .int .i64 0, .int .i64 0, .int .i64 0, .int .i64 0, .int .i64 0, .int .i64 0, .int .i64 0, .int .i64 0, .int .i64 0]
set_option maxRecDepth 100000 in
set_option maxHeartbeats 4000000 in
theorem law_isaCounts (w : World) (T : NTab w) :
    Calls Tryd.prog 3 #[] w fun e w' => e = .returned (.bool true) ∧ Below w.heap.size w w' := by
  have TT := Hid.mk1' T
  clear T
  go_enter Tryd.func3, Tryd.ntmps3
  go_upto_region 7 with fail
  have hb0 : Below w.heap.size w (((w.alloc (.cells Z4 22)).alloc (.cells Z13 23)).alloc (.cells Z13 23)) := (((Below.refl _ _).alloc (Nat.le_refl _) _).alloc (by simp) _).alloc (by simp; omega) _
  have k1 : Blk (((w.alloc (.cells Z4 22)).alloc (.cells Z13 23)).alloc (.cells Z13 23)) w.heap.size (ints (tally clN 4 0)).toArray 22 := ((Blk.new w Z4 _).old _).old _
  have k2 : Blk (((w.alloc (.cells Z4 22)).alloc (.cells Z13 23)).alloc (.cells Z13 23)) (w.heap.size + 1) (ints (tally kdN 13 0)).toArray 23 := by
    have := (Blk.new (w.alloc (.cells Z4 22)) Z13 23).old (.cells Z13 23)
    rwa [World.size_alloc] at this
  have k3 : Blk (((w.alloc (.cells Z4 22)).alloc (.cells Z13 23)).alloc (.cells Z13 23)) (w.heap.size + 1 + 1) (ints (tally mdN 13 0)).toArray 23 := by
    have := Blk.new ((w.alloc (.cells Z4 22)).alloc (.cells Z13 23)) Z13 23
    rwa [World.size_alloc, World.size_alloc] at this
  change Code.wp _ _ _ _ (((w.alloc (.cells Z4 22)).alloc (.cells Z13 23)).alloc (.cells Z13 23))
  generalize (((w.alloc (.cells Z4 22)).alloc (.cells Z13 23)).alloc (.cells Z13 23)) = W at *
  go_wp2
  go_loopw [4, 5, 6, 7] (fun by' cy ow i wr => ∃ k : Nat, k ≤ 256 ∧ i = .int .i64 k ∧ by' = .int .i64 (sumN lnN k : Nat) ∧ cy = .int .i64 (sumN cyN k : Nat) ∧ ow = .int .i64 (sumN ownN k : Nat) ∧ Blk wr w.heap.size (ints (tally clN 4 k)).toArray 22 ∧ Blk wr (w.heap.size + 1) (ints (tally kdN 13 k)).toArray 23 ∧ Blk wr (w.heap.size + 1 + 1) (ints (tally mdN 13 k)).toArray 23 ∧ Below w.heap.size w wr) (fun _ _ _ i _ => 256 - (intOf i).toNat)
  case atStart => exact ⟨0, by omega, rfl, rfl, rfl, rfl, k1, k2, k3, hb0⟩
  case round =>
    clear k1 k2 k3 hb0
    obtain ⟨k, hk, rfl, rfl, rfl, rfl, k1, k2, k3, hb⟩ := hrel
    by_cases hk8 : k = 256
    · subst hk8
      rw [end_cl] at k1
      rw [end_kd] at k2
      have q1 : Blk wr w.heap.size #[.int .i64 151, .int .i64 86, .int .i64 12, .int .i64 7] 22 := k1
      have q2 : Blk wr (w.heap.size + 1) #[.int .i64 52, .int .i64 86, .int .i64 17, .int .i64 66, .int .i64 5, .int .i64 8, .int .i64 2, .int .i64 1, .int .i64 2, .int .i64 2, .int .i64 2, .int .i64 1, .int .i64 12] 23 := k2
      have c1 := q1.cell
      have c2 := q2.cell
      have m12 := (k3.cell 12).trans (ints_cell (by rw [tally_length]; omega))
      have m1 := (k3.cell 1).trans (ints_cell (by rw [tally_length]; omega))
      have m11 := (k3.cell 11).trans (ints_cell (by rw [tally_length]; omega))
      rw [end_md.1] at m12
      rw [end_md.2.1] at m1
      rw [end_md.2.2] at m11
      rw [end_ln, end_cy, end_own]
      have hneq := neq4
      clear k1 k2 k3 q1 q2
      go_wp2
      go_ret
      exact ⟨rfl, hb⟩
    · have hk' : k < 256 := by omega
      have hlt : (k : Int) < 256 := by omega
      have hcv := u8_conv k hk'
      have sl := sum_le lnN 3 ln_le k hk
      have sc := sum_le cyN 8 cy_le k hk
      have so := sum_le ownN 1 (fun k _ => own_le k) k hk
      have x1 := cl_le k hk'
      have x2 := kd_le k hk'
      have x3 := md_le k hk'
      have x4 := ln_le k hk'
      have x5 := cy_le k hk'
      go_upto_region 11 with (go_at_call 6; go_must (refine (decode_cy k hk' _).mono ?_; rintro e w1 ⟨rfl, hb1⟩))
      have iB : Blk (w1.alloc (.cells #[.int .i64 (opN k : Nat), .int .i64 (mdN k : Nat), .int .i64 (kdN k : Nat), .int .i64 (lnN k : Nat), .int .i64 (cyN k : Nat), .int .i64 (clN k : Nat)] 28)) w1.heap.size #[.int .i64 (opN k : Nat), .int .i64 (mdN k : Nat), .int .i64 (kdN k : Nat), .int .i64 (lnN k : Nat), .int .i64 (cyN k : Nat), .int .i64 (clN k : Nat)] 28 := Blk.new w1 _ _
      have l1 := (k1.below k1.lt hb1).old (.cells #[.int .i64 (opN k : Nat), .int .i64 (mdN k : Nat), .int .i64 (kdN k : Nat), .int .i64 (lnN k : Nat), .int .i64 (cyN k : Nat), .int .i64 (clN k : Nat)] 28)
      have l2 := (k2.below k2.lt hb1).old (.cells #[.int .i64 (opN k : Nat), .int .i64 (mdN k : Nat), .int .i64 (kdN k : Nat), .int .i64 (lnN k : Nat), .int .i64 (cyN k : Nat), .int .i64 (clN k : Nat)] 28)
      have l3 := (k3.below k3.lt hb1).old (.cells #[.int .i64 (opN k : Nat), .int .i64 (mdN k : Nat), .int .i64 (kdN k : Nat), .int .i64 (lnN k : Nat), .int .i64 (cyN k : Nat), .int .i64 (clN k : Nat)] 28)
      have hl3 := Nat.lt_of_lt_of_le k3.lt hb1.size
      have hB := (hb.trans (hb1.mono hb.size)).alloc (Nat.le_trans hb.size hb1.size) (.cells #[.int .i64 (opN k : Nat), .int .i64 (mdN k : Nat), .int .i64 (kdN k : Nat), .int .i64 (lnN k : Nat), .int .i64 (cyN k : Nat), .int .i64 (clN k : Nat)] 28)
      clear k1 k2 k3 hb hb1
      change Code.wp _ _ _ _ (w1.alloc (.cells #[.int .i64 (opN k : Nat), .int .i64 (mdN k : Nat), .int .i64 (kdN k : Nat), .int .i64 (lnN k : Nat), .int .i64 (cyN k : Nat), .int .i64 (clN k : Nat)] 28))
      generalize (w1.alloc (.cells #[.int .i64 (opN k : Nat), .int .i64 (mdN k : Nat), .int .i64 (kdN k : Nat), .int .i64 (lnN k : Nat), .int .i64 (cyN k : Nat), .int .i64 (clN k : Nat)] 28)) = W2 at *
      generalize w1.heap.size = b at *
      have e0 : ((tally clN 4 k)).length = 4 := tally_length _ _ _
      have b0 := tally_le clN 4 k (clN k)
      have hc0 := (l1.cell (clN k)).trans (ints_cell (by omega))
      have hf0 := l1.free (clN k)
      have ic0 := iB.cell
      have y0 : (clN k : Int) < 4 := by omega
      have BM0 := Hid.mk1' (l1.set (clN k) (.int .i64 ((((tally clN 4 k).getD (clN k) 0 : Nat) : Int) + 1)))
      rw [ints_bump (by omega)] at BM0
      generalize hg0 : (tally clN 4 k).getD (clN k) 0 = g0 at *
      clear hg0 e0
      go_upto_region 14 with fail
      have l1' := BM0.out
      have l2' := l2.other (m := w.heap.size) (by omega) (clN k) (.int .i64 ((g0 : Int) + 1))
      have l3' := l3.other (m := w.heap.size) (by omega) (clN k) (.int .i64 ((g0 : Int) + 1))
      have iB' := iB.other (m := w.heap.size) (by omega) (clN k) (.int .i64 ((g0 : Int) + 1))
      have hB' := hB.setCell (p := ⟨w.heap.size, clN k, none⟩) (show w.heap.size ≤ w.heap.size by omega) (.int .i64 ((g0 : Int) + 1))
      clear l1 l2 l3 iB hB hc0 hf0 ic0 BM0 y0
      generalize (W2.setCell ⟨w.heap.size, clN k, none⟩ (.int .i64 ((g0 : Int) + 1))) = W3 at *
      have l1 := l1'
      clear l1'
      have l2 := l2'
      clear l2'
      have l3 := l3'
      clear l3'
      have iB := iB'
      clear iB'
      have hB := hB'
      clear hB'
      have e1 : ((tally kdN 13 k)).length = 13 := tally_length _ _ _
      have b1 := tally_le kdN 13 k (kdN k)
      have hc1 := (l2.cell (kdN k)).trans (ints_cell (by omega))
      have hf1 := l2.free (kdN k)
      have ic1 := iB.cell
      have y1 : (kdN k : Int) < 13 := by omega
      have BM1 := Hid.mk1' (l2.set (kdN k) (.int .i64 ((((tally kdN 13 k).getD (kdN k) 0 : Nat) : Int) + 1)))
      rw [ints_bump (by omega)] at BM1
      generalize hg1 : (tally kdN 13 k).getD (kdN k) 0 = g1 at *
      clear hg1 e1
      go_upto_region 15 with fail
      have l2' := BM1.out
      have l1' := l1.other (m := (w.heap.size + 1)) (by omega) (kdN k) (.int .i64 ((g1 : Int) + 1))
      have l3' := l3.other (m := (w.heap.size + 1)) (by omega) (kdN k) (.int .i64 ((g1 : Int) + 1))
      have iB' := iB.other (m := (w.heap.size + 1)) (by omega) (kdN k) (.int .i64 ((g1 : Int) + 1))
      have hB' := hB.setCell (p := ⟨(w.heap.size + 1), kdN k, none⟩) (show w.heap.size ≤ (w.heap.size + 1) by omega) (.int .i64 ((g1 : Int) + 1))
      clear l1 l2 l3 iB hB hc1 hf1 ic1 BM1 y1
      generalize (W3.setCell ⟨(w.heap.size + 1), kdN k, none⟩ (.int .i64 ((g1 : Int) + 1))) = W4 at *
      have l1 := l1'
      clear l1'
      have l2 := l2'
      clear l2'
      have l3 := l3'
      clear l3'
      have iB := iB'
      clear iB'
      have hB := hB'
      clear hB'
      have e2 : ((tally mdN 13 k)).length = 13 := tally_length _ _ _
      have b2 := tally_le mdN 13 k (mdN k)
      have hc2 := (l3.cell (mdN k)).trans (ints_cell (by omega))
      have hf2 := l3.free (mdN k)
      have ic2 := iB.cell
      have y2 : (mdN k : Int) < 13 := by omega
      have BM2 := Hid.mk1' (l3.set (mdN k) (.int .i64 ((((tally mdN 13 k).getD (mdN k) 0 : Nat) : Int) + 1)))
      rw [ints_bump (by omega)] at BM2
      generalize hg2 : (tally mdN 13 k).getD (mdN k) 0 = g2 at *
      clear hg2 e2
      go_upto_region 16 with fail
      have l3' := BM2.out
      have l1' := l1.other (m := (w.heap.size + 1 + 1)) (by omega) (mdN k) (.int .i64 ((g2 : Int) + 1))
      have l2' := l2.other (m := (w.heap.size + 1 + 1)) (by omega) (mdN k) (.int .i64 ((g2 : Int) + 1))
      have iB' := iB.other (m := (w.heap.size + 1 + 1)) (by omega) (mdN k) (.int .i64 ((g2 : Int) + 1))
      have hB' := hB.setCell (p := ⟨(w.heap.size + 1 + 1), mdN k, none⟩) (show w.heap.size ≤ (w.heap.size + 1 + 1) by omega) (.int .i64 ((g2 : Int) + 1))
      clear l1 l2 l3 iB hB hc2 hf2 ic2 BM2 y2
      generalize (W4.setCell ⟨(w.heap.size + 1 + 1), mdN k, none⟩ (.int .i64 ((g2 : Int) + 1))) = W5 at *
      have l1 := l1'
      clear l1'
      have l2 := l2'
      clear l2'
      have l3 := l3'
      clear l3'
      have iB := iB'
      clear iB'
      have hB := hB'
      clear hB'
      have ic := iB.cell
      go_upto_region 18 with fail
      have EC := Hid.mk1' (encode_any (opN k : Nat) (mdN k : Nat) W5 (TT.out.below hB))
      have HO : Hid (ownN k = (((encS (opN k : Nat) (mdN k : Nat)).2 == 0) && ((encS (opN k : Nat) (mdN k : Nat)).1 == k)).toNat) := rfl
      generalize encS (opN k : Nat) (mdN k : Nat) = pq at *
      obtain ⟨p1, p2⟩ := pq
      go_upto_region 19 with (go_at_call 7; go_must (refine EC.out.mono ?_; rintro e w6 ⟨rfl, hb6⟩))
      have m1 := l1.below l1.lt hb6
      have m2 := l2.below l2.lt hb6
      have m3 := l3.below l3.lt hb6
      have hbf := hB.trans (hb6.mono hB.size)
      clear l1 l2 l3 iB hB hb6 EC ic
      by_cases h0 : p2 = 0
      · subst h0
        by_cases h1 : p1 = k
        · subst h1
          have E : Hid (sumN ownN (p1 + 1) = sumN ownN p1 + 1) := by
            show sumN ownN p1 + ownN p1 = _
            rw [HO.out]; simp
          clear HO
          go_wp2
          go_roundw
          case rel => exact ⟨p1 + 1, by omega, by go_num, by congr 1, by congr 1, by rw [E.out]; congr 1, m1, m2, m3, hbf⟩
          case measure => simp [intOf]; omega
        · have h1' : ((p1 : Int) == (k : Int)) = false := by rw [beq_eq_false_iff_ne]; omega
          have E : Hid (sumN ownN (k + 1) = sumN ownN k) := by
            show sumN ownN k + ownN k = _
            rw [HO.out]; simp [h1]
          clear HO h1
          go_wp2
          go_roundw
          case rel => exact ⟨k + 1, by omega, by go_num, by congr 1, by congr 1, by rw [E.out], m1, m2, m3, hbf⟩
          case measure => simp [intOf]; omega
      · have h0' : (p2 == 0) = false := by rw [beq_eq_false_iff_ne]; exact h0
        have E : Hid (sumN ownN (k + 1) = sumN ownN k) := by
          show sumN ownN k + ownN k = _
          rw [HO.out, h0']; simp
        clear HO h0
        go_wp2
        go_roundw
        case rel => exact ⟨k + 1, by omega, by go_num, by congr 1, by congr 1, by rw [E.out], m1, m2, m3, hbf⟩
        case measure => simp [intOf]; omega
end Go.Proofs.YtlolfmpgljpjoaaDoor
