/-
  What the document's memories answers in the two older formats.
-/
import Derived.Test.YtmjolcdocoiaeaaDoorChkR4
set_option linter.unusedSimpArgs false
set_option linter.unusedVariables false
namespace Go.Proofs.YtmjolcdocoiaeaaDoor
open Go.RowKit
/-- What stands in memory behind the lists of bounds. -/
structure M4 (w : World) (cs : Array Value) (c : CF) (lb lo hi : Nat) (l0 l1 h0 h1 : Int) (W : World) : Prop where
  b : Blk W w.heap.size cs 24
  l : Blk W lb #[.int .i64 c.pr, .int .i64 c.pn, .int .i64 c.cr, .int .i64 c.cn] 56
  o : Blk W lo #[.int .i64 l0, .int .i64 l1] 58
  h : Blk W hi #[.int .i64 h0, .int .i64 h1] 58
  bl : Below w.heap.size w W
theorem M4.stoO {w : World} {cs : Array Value} {c : CF} {lb lo hi : Nat} {l0 l1 h0 h1 : Int} {W : World} (K : M4 w cs c lb lo hi l0 l1 h0 h1 W) (a b : Int) (n1 : w.heap.size < lo) (n2 : lb < lo) (n3 : lo < hi) :
    M4 w cs c lb lo hi a b h0 h1 (W.setCells lo 0 (#[.int .i64 a, .int .i64 b] : Array Value).toList) :=
  ⟨K.b.otherCells (by omega) _ _, K.l.otherCells (by omega) _ _, K.o.setAll rfl, K.h.otherCells (by omega) _ _, setCells_below (by omega) _ _ _ _ K.bl⟩
theorem M4.stoH {w : World} {cs : Array Value} {c : CF} {lb lo hi : Nat} {l0 l1 h0 h1 : Int} {W : World} (K : M4 w cs c lb lo hi l0 l1 h0 h1 W) (a b : Int) (n1 : w.heap.size < lo) (n2 : lb < lo) (n3 : lo < hi) :
    M4 w cs c lb lo hi l0 l1 a b (W.setCells hi 0 (#[.int .i64 a, .int .i64 b] : Array Value).toList) :=
  ⟨K.b.otherCells (by omega) _ _, K.l.otherCells (by omega) _ _, K.o.otherCells (by omega) _ _, K.h.setAll rfl, setCells_below (by omega) _ _ _ _ K.bl⟩
theorem M4.dn {w : World} {cs : Array Value} {c : CF} {lb lo hi : Nat} {l0 l1 h0 h1 : Int} {W : World} (K : M4 w cs c lb lo hi l0 l1 h0 h1 W) (n : Nat) : M4 w cs c lb lo hi l0 l1 h0 h1 (W.drewN n) :=
  ⟨K.b, K.l, K.o, K.h, ⟨K.bl.os, K.bl.tape, K.bl.output, K.bl.size, K.bl.block⟩⟩
set_option maxRecDepth 100000 in
set_option maxHeartbeats 2000000 in
theorem memories1_any (cs : Array Value) (c : CF) (C : IsC cs c) (hc : c.fmt = 0 ∨ c.fmt = 1) (hpr : -9223372036854775808 ≤ c.pr ∧ c.pr ≤ 9223372036854775807) (hpn : -9223372036854775808 ≤ c.pn ∧ c.pn ≤ 9223372036854775807) (w : World) :
    Calls Tryd.prog 22 #[.agg cs] w fun e w' => e = .returned (.int .i64 (runNo (Chk.may c) 11 4)) ∧ Below w.heap.size w w' := by
  have hsz := C.size
  go_enter Tryd.func22, Tryd.ntmps22
  go_upto_region 1 with fail
  have hb0 : Below w.heap.size w (w.alloc (.cells cs 24)) := (Below.refl _ _).alloc (Nat.le_refl _) _
  have b0 : Blk (w.alloc (.cells cs 24)) w.heap.size cs 24 := Blk.new w cs _
  generalize w.alloc (.cells cs 24) = W at *
  have d11 := (b0.cell 11).trans C.h11
  have d12 := (b0.cell 12).trans C.h12
  have d13 := (b0.cell 13).trans C.h13
  have d14 := (b0.cell 14).trans C.h14
  clear hsz
  go_cut [3] (fun p wx => ∃ lb : Nat, p = .pointer (some ⟨lb, 0, none⟩) ∧ Blk wx w.heap.size cs 24 ∧ Blk wx lb #[.int .i64 c.pr, .int .i64 c.pn, .int .i64 c.cr, .int .i64 c.cn] 56 ∧ Below w.heap.size w wx)
  case first =>
    go_wp2
    go_meet
    exact ⟨_, rfl, b0.old _, Blk.new _ _ _, hb0.alloc hb0.size _⟩
  case rest =>
  clear d11 d12 d13 d14 b0 hb0
  obtain ⟨lb, rfl, bA, lA, hbA⟩ := hcut
  have d0 := (bA.cell 0).trans C.h0
  have HMO : Hid (moN c = if c.fmt = 1 then 255 else 1) := by
    unfold Hid moN Chk.row
    rcases hc with h | h <;> rw [h] <;> rfl
  have HC : Hid (c.fmt = 0 ∨ c.fmt = 1) := hc
  have t2 : (c.fmt == 2) = false := by rw [beq_eq_false_iff_ne]; omega
  go_upto_region 11 with fail
  clear hc
  go_cut [37] (fun q wx => q = .bool (decide (c.fmt = 1)) ∧ Blk wx w.heap.size cs 24 ∧ Blk wx lb #[.int .i64 c.pr, .int .i64 c.pn, .int .i64 c.cr, .int .i64 c.cn] 56 ∧ Below w.heap.size w wx)
  case first =>
    go_wp2
    go_meet
    exact ⟨by rw [Value.bool.injEq, Bool.eq_iff_iff]; simp, bA, lA, hbA⟩
  case rest =>
  clear bA lA hbA d0 t2
  obtain ⟨rfl, bA, lA, hbA⟩ := hcut
  go_upto_if 37 with fail
  go_cut [6] (fun q wx => q = .int .i64 (moN c) ∧ Blk wx w.heap.size cs 24 ∧ Blk wx lb #[.int .i64 c.pr, .int .i64 c.pn, .int .i64 c.cr, .int .i64 c.cn] 56 ∧ Below w.heap.size w wx)
  case first =>
    cases hq : decide (c.fmt = 1)
    · have e : moN c = 1 := by rw [HMO.out, if_neg (of_decide_eq_false hq)]
      go_wp2
      go_meet
      exact ⟨by rw [e], bA, lA, hbA⟩
    · have e : moN c = 255 := by rw [HMO.out, if_pos (of_decide_eq_true hq)]
      go_wp2
      go_meet
      exact ⟨by rw [e], bA, lA, hbA⟩
  case rest =>
  clear bA lA hbA HMO
  obtain ⟨rfl, bA, lA, hbA⟩ := hcut
  go_upto_region 13 with fail
  go_cut [7] (fun p wx => ∃ lo : Nat, p = .pointer (some ⟨lo, 0, none⟩) ∧ w.heap.size < lo ∧ lb < lo ∧ Blk wx w.heap.size cs 24 ∧ Blk wx lb #[.int .i64 c.pr, .int .i64 c.pn, .int .i64 c.cr, .int .i64 c.cn] 56 ∧ Blk wx lo #[.int .i64 1, .int .i64 0] 58 ∧ Below w.heap.size w wx)
  case first =>
    go_wp2
    go_meet
    exact ⟨_, rfl, bA.lt, lA.lt, bA.old _, lA.old _, Blk.new _ _ _, hbA.alloc hbA.size _⟩
  case rest =>
  clear bA lA hbA
  obtain ⟨lo, rfl, hl1, hl2, bA, lA, oA, hbA⟩ := hcut
  have HMV : Hid (moN c = moN c) := rfl
  generalize hmo : moN c = mo at *
  have HMO : Hid (moN c = mo) := hmo
  clear hmo HMV
  go_upto_region 14 with fail
  go_cut [8] (fun p wx => ∃ hi : Nat, p = .pointer (some ⟨hi, 0, none⟩) ∧ lo < hi ∧ M4 w cs c lb lo hi 1 0 mo 0 wx)
  case first =>
    go_wp2
    go_meet
    exact ⟨_, rfl, oA.lt, bA.old _, lA.old _, oA.old _, Blk.new _ _ _, hbA.alloc hbA.size _⟩
  case rest =>
  clear bA lA oA hbA
  obtain ⟨hi, rfl, hh, K⟩ := hcut
  have d5 := (K.b.cell 5).trans C.h5
  have co := K.o.cell
  have fo := K.o.free
  have ch := K.h.cell
  have fh := K.h.free
  go_upto_if 42 with fail
  go_cut [] (fun wx => M4 w cs c lb lo hi (if c.bat then 0 else 1) (if c.bat then 1 else 0) (if c.bat then 0 else mo) (if c.bat then mo else 0) wx)
  case first =>
    cases hb : c.bat
    · rw [hb] at d5
      go_wp2
      go_meet
      simpa only [hb, Bool.false_eq_true, if_false] using K
    · rw [hb] at d5
      clear co fo ch fh
      go_wp2_with (first
        | (refine wpList_store_mid rfl 58 _ _ rfl lo 0 #[.int .i64 0, .int .i64 1] rfl rfl (K.o.there 2 rfl) (by kernel_rfl) (by kernel_rfl) ?_; have K1 := K.stoO 0 1 hl1 hl2 hh)
        | (refine wpList_store_mid rfl 58 _ _ rfl hi 0 #[.int .i64 0, .int .i64 mo] rfl rfl (K1.h.there 2 rfl) (by kernel_rfl) (by kernel_rfl) ?_; have K2 := K1.stoH 0 mo hl1 hl2 hh))
      go_meet
      simpa only [hb, if_true] using K2
  case rest =>
  clear K d5 co fo ch fh
  have K := hcut
  clear hcut
  have hw0 : (Chk.may c).getD 11 false = unOk c.pr 8192 (if c.bat then 0 else 1) (if c.bat then 0 else mo) := by
    show Chk.workOk c c.pr (!c.bat) = _
    cases hb : c.bat
    · rw [show (!false) = true from rfl, work_yes c HC.out, HMO.out]; rfl
    · rw [show (!true) = false from rfl, work_no c HC.out]; rfl
  have hw1 : (Chk.may c).getD 12 false = unOk c.pn 8192 (if c.bat then 1 else 0) (if c.bat then mo else 0) := by
    show Chk.workOk c c.pn c.bat = _
    cases hb : c.bat
    · rw [work_no c HC.out]; rfl
    · rw [work_yes c HC.out, HMO.out]; rfl
  generalize (if c.bat then 0 else 1 : Int) = l0 at *
  generalize (if c.bat then 1 else 0 : Int) = l1 at *
  generalize (if c.bat then 0 else mo) = h0 at *
  generalize (if c.bat then mo else 0) = h1 at *
  have hw2 : (Chk.may c).getD 13 false = decide (c.cr = Chk.implied c) := by
    show Chk.chrOk c c.cr (Chk.implied c) = _
    unfold Chk.chrOk; rw [if_neg (by have := HC.out; omega)]
  have hw3 : (Chk.may c).getD 14 false = decide (c.cn = 0) := by
    show Chk.chrOk c c.cn 0 = _
    unfold Chk.chrOk; rw [if_neg (by have := HC.out; omega)]
  have W0 : Hid _ := hw0
  have W1 : Hid _ := hw1
  have W2 : Hid _ := hw2
  have W3 : Hid _ := hw3
  clear hw0 hw1 hw2 hw3
  go_upto_region 19 with fail
  go_loopw [9] (fun x wr => ∃ i : Nat, i ≤ 2 ∧ x = .int .i64 i ∧ Hid (∀ j, j < i → (Chk.may c).getD (11 + j) false = true) ∧ M4 w cs c lb lo hi l0 l1 h0 h1 wr) (fun x _ => 2 - (intOf x).toNat)
  case atStart => exact ⟨0, by omega, rfl, fun j hj => absurd hj (Nat.not_lt_zero _), K⟩
  case round =>
    clear K
    obtain ⟨i, hi2, rfl, hA, K⟩ := hrel
    by_cases h2 : i < 2
    · rcases (show i = 0 ∨ i = 1 by omega) with rfl | rfl
      · have c0 : wr.cell? ⟨lb, 0, none⟩ = some (.int .i64 c.pr) := K.l.cell 0
        have c1 : wr.cell? ⟨lo, 0, none⟩ = some (.int .i64 l0) := K.o.cell 0
        have c2 : wr.cell? ⟨hi, 0, none⟩ = some (.int .i64 h0) := K.h.cell 0
        have UC0 := fun nn : Nat => units_any c.pr 8192 l0 h0 (.inr rfl) hpr.1 hpr.2 (wr.drewN nn)
        cases hok : unOk c.pr 8192 l0 h0
        · have HN : Hid (runNo (Chk.may c) 11 4 = 11) := runNo_at _ 11 4 0 (by show 11 + 4 ≤ 19; decide) (by decide) (fun j hj => hA.out j hj) (by show (Chk.may c).getD 11 false = false; rw [W0.out]; exact hok)
          rw [hok] at UC0
          have UC : Hid (∀ nn : Nat, _) := UC0
          clear UC0 hok
          go_upto_region 21 with fail
          go_quiet ((go_at_call 32; exact Calls.quiet_of_same (UC.out _)))
          go_wp2
          go_ret
          exact ⟨by rw [HN.out]; rfl, (K.dn _).bl⟩
        · have HM : Hid ((Chk.may c).getD 11 false = true) := by unfold Hid; rw [W0.out]; exact hok
          rw [hok] at UC0
          have UC : Hid (∀ nn : Nat, _) := UC0
          clear UC0 hok
          go_upto_region 21 with fail
          go_quiet ((go_at_call 32; exact Calls.quiet_of_same (UC.out _)))
          go_wp2
          go_roundw
          case rel => exact ⟨1, by omega, by go_num, fun j hj => by rcases (show j = 0 by omega) with rfl; exact HM.out, K.dn _⟩
          case measure => simp [intOf]
      · have c0 : wr.cell? ⟨lb, 1, none⟩ = some (.int .i64 c.pn) := K.l.cell 1
        have c1 : wr.cell? ⟨lo, 1, none⟩ = some (.int .i64 l1) := K.o.cell 1
        have c2 : wr.cell? ⟨hi, 1, none⟩ = some (.int .i64 h1) := K.h.cell 1
        have UC0 := fun nn : Nat => units_any c.pn 8192 l1 h1 (.inr rfl) hpn.1 hpn.2 (wr.drewN nn)
        cases hok : unOk c.pn 8192 l1 h1
        · have HN : Hid (runNo (Chk.may c) 11 4 = 12) := runNo_at _ 11 4 1 (by show 11 + 4 ≤ 19; decide) (by decide) (fun j hj => hA.out j hj) (by show (Chk.may c).getD 12 false = false; rw [W1.out]; exact hok)
          rw [hok] at UC0
          have UC : Hid (∀ nn : Nat, _) := UC0
          clear UC0 hok
          go_upto_region 21 with fail
          go_quiet ((go_at_call 32; exact Calls.quiet_of_same (UC.out _)))
          go_wp2
          go_ret
          exact ⟨by rw [HN.out]; rfl, (K.dn _).bl⟩
        · have HM : Hid ((Chk.may c).getD 12 false = true) := by unfold Hid; rw [W1.out]; exact hok
          rw [hok] at UC0
          have UC : Hid (∀ nn : Nat, _) := UC0
          clear UC0 hok
          go_upto_region 21 with fail
          go_quiet ((go_at_call 32; exact Calls.quiet_of_same (UC.out _)))
          go_wp2
          go_roundw
          case rel => exact ⟨2, by omega, by go_num, fun j hj => by rcases (show j = 0 ∨ j = 1 by omega) with rfl | rfl; exact hA.out 0 (by decide); exact HM.out, K.dn _⟩
          case measure => simp [intOf]
    · obtain rfl : i = 2 := by omega
      obtain ⟨aq, kq, e17⟩ := C.h17
      have d17 := (K.b.cell 17).trans e17
      have d13 := (K.b.cell 13).trans C.h13
      have d14 := (K.b.cell 14).trans C.h14
      have mq := C.mq
      have HI : Hid (Chk.implied c = if c.nq = 0 then 8192 else 0) := rfl
      have a0 : Hid ((Chk.may c).getD 11 false = true) := hA.out 0 (by decide)
      have a1 : Hid ((Chk.may c).getD 12 false = true) := hA.out 1 (by decide)
      have H13 : Hid ((Chk.may c).getD 13 false = false → runNo (Chk.may c) 11 4 = 13) := fun h => runNo_at _ 11 4 2 (by show 11 + 4 ≤ 19; decide) (by decide) (fun j hj => by rcases (show j = 0 ∨ j = 1 by omega) with rfl | rfl; exact a0.out; exact a1.out) h
      have H14 : Hid ((Chk.may c).getD 13 false = true → (Chk.may c).getD 14 false = false → runNo (Chk.may c) 11 4 = 14) := fun g h => runNo_at _ 11 4 3 (by show 11 + 4 ≤ 19; decide) (by decide) (fun j hj => by rcases (show j = 0 ∨ j = 1 ∨ j = 2 by omega) with rfl | rfl | rfl; exact a0.out; exact a1.out; exact g) h
      have H15 : Hid ((Chk.may c).getD 13 false = true → (Chk.may c).getD 14 false = true → runNo (Chk.may c) 11 4 = -1) := fun g h => runNo_none _ 11 4 (by show 11 + 4 ≤ 19; decide) (fun j hj => by rcases (show j = 0 ∨ j = 1 ∨ j = 2 ∨ j = 3 by omega) with rfl | rfl | rfl | rfl; exact a0.out; exact a1.out; exact g; exact h)
      have bl := K.bl
      clear K hA
      by_cases hq : c.nq = 0
      · have eI : Chk.implied c = 8192 := by rw [HI.out, if_pos hq]
        rw [hq] at d17
        by_cases hr : c.cr = 8192
        · have g13 : Hid ((Chk.may c).getD 13 false = true) := by unfold Hid; rw [W2.out, eI]; exact decide_eq_true hr
          rw [hr] at d13
          by_cases hn : c.cn = 0
          · have g14 : Hid ((Chk.may c).getD 14 false = true) := by unfold Hid; rw [W3.out]; exact decide_eq_true hn
            rw [hn] at d14
            go_wp2
            go_ret
            exact ⟨by rw [H15.out g13.out g14.out]; rfl, bl⟩
          · have g14 : Hid ((Chk.may c).getD 14 false = false) := by unfold Hid; rw [W3.out]; exact decide_eq_false hn
            have q2 : (c.cn != 0) = true := by simpa using hn
            go_wp2
            go_ret
            exact ⟨by rw [H14.out g13.out g14.out]; rfl, bl⟩
        · have g13 : Hid ((Chk.may c).getD 13 false = false) := by unfold Hid; rw [W2.out, eI]; exact decide_eq_false hr
          have q1 : (c.cr != 8192) = true := by simpa using hr
          go_wp2
          go_ret
          exact ⟨by rw [H13.out g13.out]; rfl, bl⟩
      · have eI : Chk.implied c = 0 := by rw [HI.out, if_neg hq]
        have hq' : ((c.nq : Int) == 0) = false := by rw [beq_eq_false_iff_ne]; omega
        have hq2 : (0 : Int) < (c.nq : Int) := by omega
        by_cases hr : c.cr = 0
        · have g13 : Hid ((Chk.may c).getD 13 false = true) := by unfold Hid; rw [W2.out, eI]; exact decide_eq_true hr
          rw [hr] at d13
          by_cases hn : c.cn = 0
          · have g14 : Hid ((Chk.may c).getD 14 false = true) := by unfold Hid; rw [W3.out]; exact decide_eq_true hn
            rw [hn] at d14
            go_wp2
            go_ret
            exact ⟨by rw [H15.out g13.out g14.out]; rfl, bl⟩
          · have g14 : Hid ((Chk.may c).getD 14 false = false) := by unfold Hid; rw [W3.out]; exact decide_eq_false hn
            have q2 : (c.cn != 0) = true := by simpa using hn
            go_wp2
            go_ret
            exact ⟨by rw [H14.out g13.out g14.out]; rfl, bl⟩
        · have g13 : Hid ((Chk.may c).getD 13 false = false) := by unfold Hid; rw [W2.out, eI]; exact decide_eq_false hr
          have q1 : (c.cr != 0) = true := by simpa using hr
          go_wp2
          go_ret
          exact ⟨by rw [H13.out g13.out]; rfl, bl⟩
end Go.Proofs.YtmjolcdocoiaeaaDoor
