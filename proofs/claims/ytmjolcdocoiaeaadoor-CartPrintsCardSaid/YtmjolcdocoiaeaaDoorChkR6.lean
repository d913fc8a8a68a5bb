/-
  What the document's rest and lists answer.
-/
import Derived.Test.YtmjolcdocoiaeaaDoorChkR5
set_option linter.unusedSimpArgs false
set_option linter.unusedVariables false
namespace Go.Proofs.YtmjolcdocoiaeaaDoor
open Go.RowKit
/-- What the document's rest answers. -/
def restE (c : CF) : Int := if c.fmt = 1 ∧ c.con = 2 ∧ (c.nr : Int) < 8192 then 11 else if c.fmt = 2 ∧ c.misc = 0 ∧ 0 < (c.nr : Int) then 15 else if c.fmt = 2 ∧ (c.nr : Int) < c.misc then 11 else 0
theorem restE_ok (c : CF) : Chk.restOk c = decide (restE c = 0) := by
  unfold Chk.restOk restE
  by_cases f2 : c.fmt = 2
  · by_cases m0 : c.misc = 0
    · rw [if_pos ⟨f2, m0⟩, if_neg (by omega), decide_eq_decide]
      by_cases h : 0 < (c.nr : Int)
      · rw [if_pos ⟨f2, m0, h⟩]; omega
      · rw [if_neg (fun g => h g.2.2), if_neg (by omega)]; omega
    · rw [if_neg (fun g => m0 g.2), if_neg (by omega), if_pos f2, if_neg (by omega), if_neg (fun g => m0 g.2.1), decide_eq_decide]
      by_cases h : (c.nr : Int) < c.misc
      · rw [if_pos ⟨f2, h⟩]; omega
      · rw [if_neg (fun g => h g.2)]; omega
  · rw [if_neg (fun g => f2 g.1)]
    by_cases f1 : c.fmt = 1 ∧ c.con = 2
    · rw [if_pos f1, decide_eq_decide]
      by_cases h : (c.nr : Int) < 8192
      · rw [if_pos ⟨f1.1, f1.2, h⟩]; omega
      · rw [if_neg (fun g => h g.2.2), if_neg (fun g => f2 g.1), if_neg (fun g => f2 g.1)]; omega
    · rw [if_neg f1, if_neg f2, decide_eq_decide, if_neg (fun g => f1 ⟨g.1, g.2.1⟩), if_neg (fun g => f2 g.1), if_neg (fun g => f2 g.1)]; omega
theorem may_16 (c : CF) : (Chk.may c).getD 16 false = (unOk (c.np : Nat) 16384 1 64 || ((decide (c.fmt = 2) && decide (c.np ≤ 1048576)) && (decide (0 < c.np) && decide (Chk.oddPart 64 c.np ≤ 7)))) := by
  show (decide (0 < c.np) && Chk.romOk c c.np 16384 1048576) = _
  unfold Chk.romOk unOk
  rw [Bool.eq_iff_iff]
  simp only [Bool.and_eq_true, Bool.or_eq_true, decide_eq_true_eq]
  omega
theorem may_17 (c : CF) : (Chk.may c).getD 17 false = (unOk (c.nq : Nat) 8192 0 64 || ((decide (c.fmt = 2) && decide (c.nq ≤ 524288)) && (decide (0 < c.nq) && decide (Chk.oddPart 64 c.nq ≤ 7)))) := by
  show Chk.romOk c c.nq 8192 524288 = _
  unfold Chk.romOk unOk
  rw [Bool.eq_iff_iff]
  simp only [Bool.and_eq_true, Bool.or_eq_true, decide_eq_true_eq]
  omega
set_option maxRecDepth 100000 in
set_option maxHeartbeats 1000000 in
theorem rrest_any (cs : Array Value) (c : CF) (C : IsC cs c) (w : World) :
    Calls Tryd.prog 34 #[.agg cs, .int .i64 (c.nr : Nat)] w fun e w' => e = .returned (.int .i64 (restE c)) ∧ Below w.heap.size w w' := by
  have hsz := C.size
  go_enter Tryd.func34, Tryd.ntmps34
  go_upto_region 1 with fail
  have hb0 : Below w.heap.size w (w.alloc (.cells cs 24)) := (Below.refl _ _).alloc (Nat.le_refl _) _
  have b0 : Blk (w.alloc (.cells cs 24)) w.heap.size cs 24 := Blk.new w cs _
  generalize w.alloc (.cells cs 24) = W at *
  have d0 := (b0.cell 0).trans C.h0
  have d6 := (b0.cell 6).trans C.h6
  have d10 := (b0.cell 10).trans C.h10
  have mr := C.mr
  clear hsz
  by_cases f1 : c.fmt = 1
  · rw [f1] at d0
    by_cases h2 : c.con = 2
    · rw [h2] at d6
      by_cases h3 : (c.nr : Int) < 8192
      · clear d10
        have H : Hid (restE c = 11) := by unfold Hid restE; rw [if_pos ⟨f1, h2, h3⟩]
        go_wp2
        go_ret
        exact ⟨by rw [H.out]; rfl, hb0⟩
      · clear d10
        have H : Hid (restE c = 0) := by unfold Hid restE; rw [if_neg (fun h => h3 h.2.2), if_neg (by omega), if_neg (by omega)]
        go_wp2
        go_ret
        exact ⟨by rw [H.out]; rfl, hb0⟩
    · have h2' : (c.con == 2) = false := by rw [beq_eq_false_iff_ne]; exact h2
      clear d10
      have H : Hid (restE c = 0) := by unfold Hid restE; rw [if_neg (fun h => h2 h.2.1), if_neg (by omega), if_neg (by omega)]
      go_wp2
      go_ret
      exact ⟨by rw [H.out]; rfl, hb0⟩
  · by_cases f2 : c.fmt = 2
    · rw [f2] at d0
      by_cases h2 : c.misc = 0
      · rw [h2] at d10
        by_cases h3 : 0 < (c.nr : Int)
        · clear d6
          have H : Hid (restE c = 15) := by unfold Hid restE; rw [if_neg (by omega), if_pos ⟨f2, h2, h3⟩]
          go_wp2
          go_ret
          exact ⟨by rw [H.out]; rfl, hb0⟩
        · clear d6
          have h4 : ¬ (c.nr : Int) < 0 := by omega
          have H : Hid (restE c = 0) := by unfold Hid restE; rw [if_neg (by omega), if_neg (by omega), if_neg (by omega)]
          go_wp2
          go_ret
          exact ⟨by rw [H.out]; rfl, hb0⟩
      · have h2' : (c.misc == 0) = false := by rw [beq_eq_false_iff_ne]; exact h2
        by_cases h3 : (c.nr : Int) < c.misc
        · clear d6
          have H : Hid (restE c = 11) := by unfold Hid restE; rw [if_neg (by omega), if_neg (fun h => h2 h.2.1), if_pos ⟨f2, h3⟩]
          go_wp2
          go_ret
          exact ⟨by rw [H.out]; rfl, hb0⟩
        · clear d6
          have H : Hid (restE c = 0) := by unfold Hid restE; rw [if_neg (by omega), if_neg (fun h => h2 h.2.1), if_neg (fun h => h3 h.2)]
          go_wp2
          go_ret
          exact ⟨by rw [H.out]; rfl, hb0⟩
    · have f1' : (c.fmt == 1) = false := by rw [beq_eq_false_iff_ne]; exact f1
      have f2' : (c.fmt == 2) = false := by rw [beq_eq_false_iff_ne]; exact f2
      clear d6 d10
      have H : Hid (restE c = 0) := by unfold Hid restE; rw [if_neg (fun h => f1 h.1), if_neg (fun h => f2 h.1), if_neg (fun h => f2 h.1)]
      go_wp2
      go_ret
      exact ⟨by rw [H.out]; rfl, hb0⟩
set_option maxRecDepth 100000 in
set_option maxHeartbeats 2000000 in
theorem lists_any (cs : Array Value) (c : CF) (C : IsC cs c) (w : World) :
    Calls Tryd.prog 23 #[.agg cs] w fun e w' => e = .returned (.int .i64 (runNo (Chk.may c) 15 4)) ∧ Below w.heap.size w w' := by
  have hsz := C.size
  go_enter Tryd.func23, Tryd.ntmps23
  go_upto_region 1 with fail
  have hb0 : Below w.heap.size w (w.alloc (.cells cs 24)) := (Below.refl _ _).alloc (Nat.le_refl _) _
  have b0 : Blk (w.alloc (.cells cs 24)) w.heap.size cs 24 := Blk.new w cs _
  generalize w.alloc (.cells cs 24) = W at *
  clear hsz
  obtain ⟨a15, k15, e15⟩ := C.h15
  obtain ⟨a16, k16, e16⟩ := C.h16
  obtain ⟨a17, k17, e17⟩ := C.h17
  obtain ⟨a18, k18, e18⟩ := C.h18
  have d15 := (b0.cell 15).trans e15
  have H15 : Hid ((Chk.may c).getD 15 false = (decide (c.nt = 0) || decide (c.nt = 512))) := rfl
  go_cut [16] (fun q wx => q = .bool (!(Chk.may c).getD 15 false) ∧ Blk wx w.heap.size cs 24 ∧ Below w.heap.size w wx)
  case first =>
    have mt := C.mt
    by_cases t0 : c.nt = 0
    · have H : Hid ((Chk.may c).getD 15 false = true) := by unfold Hid; rw [H15.out, decide_eq_true t0]; rfl
      rw [t0] at d15
      go_wp2
      go_meet
      exact ⟨by rw [H.out]; rfl, b0, hb0⟩
    · by_cases t5 : c.nt = 512
      · have H : Hid ((Chk.may c).getD 15 false = true) := by unfold Hid; rw [H15.out, decide_eq_true t5, Bool.or_true]
        rw [t5] at d15
        go_wp2
        go_meet
        exact ⟨by rw [H.out]; rfl, b0, hb0⟩
      · have H : Hid ((Chk.may c).getD 15 false = false) := by unfold Hid; rw [H15.out, decide_eq_false t5, decide_eq_false t0]; rfl
        have q0 : ((c.nt : Int) != 0) = true := by simpa using t0
        have q5 : ((c.nt : Int) != 512) = true := by simp; omega
        go_wp2
        go_meet
        exact ⟨by rw [H.out]; rfl, b0, hb0⟩
  case rest =>
  clear d15 b0 hb0 H15
  obtain ⟨rfl, bA, hbA⟩ := hcut
  generalize hg15 : (Chk.may c).getD 15 false = g15 at *
  cases g15
  · have HN : Hid (runNo (Chk.may c) 15 4 = 15) := runNo_at _ 15 4 0 (by show 15 + 4 ≤ 19; decide) (by decide) (fun j hj => absurd hj (Nat.not_lt_zero _)) hg15
    clear hg15
    go_wp2
    go_ret
    exact ⟨by rw [HN.out]; rfl, hbA⟩
  have G15 : Hid ((Chk.may c).getD 15 false = true) := hg15
  clear hg15
  go_upto_region 3 with fail
  have UC : Hid (∀ nn : World, _) := fun nn : World => units_any (c.np : Nat) 16384 1 64 (.inl rfl) (by omega) (by have := C.mp; omega) nn
  have d16 := (bA.cell 16).trans e16
  go_cut [3] (fun q wx => q = .bool (unOk (c.np : Nat) 16384 1 64) ∧ Blk wx w.heap.size cs 24 ∧ Below w.heap.size w wx)
  case first =>
    generalize unOk (c.np : Nat) 16384 1 64 = un at *
    have m16 := C.mp
    go_wp2_with (go_at_call 32; go_must (refine (UC.out _).mono ?_; rintro e w1 ⟨rfl, hw1⟩; obtain rfl := hw1.symm))
    go_meet
    exact ⟨rfl, bA, hbA⟩
  case rest =>
  clear d16 bA hbA UC
  obtain ⟨rfl, bA, hbA⟩ := hcut
  go_upto_region 4 with fail
  have d0 := (bA.cell 0).trans C.h0
  have d16 := (bA.cell 16).trans e16
  go_cut [29] (fun q wx => q = .bool (decide (c.fmt = 2) && decide (c.np ≤ 1048576)) ∧ Blk wx w.heap.size cs 24 ∧ Below w.heap.size w wx)
  case first =>
    generalize unOk (c.np : Nat) 16384 1 64 = un at *
    have m16 := C.mp
    by_cases f2 : c.fmt = 2
    · rw [f2] at d0
      have HD : Hid (decide (c.np ≤ 1048576) = decide ((c.np : Int) ≤ 1048576)) := by unfold Hid; rw [decide_eq_decide]; omega
      have HF : Hid (decide (c.fmt = 2) = true) := decide_eq_true f2
      go_wp2
      go_meet
      exact ⟨by rw [HF.out, HD.out]; rfl, bA, hbA⟩
    · have f2' : (c.fmt == 2) = false := by rw [beq_eq_false_iff_ne]; exact f2
      have HF : Hid (decide (c.fmt = 2) = false) := decide_eq_false f2
      go_wp2
      go_meet
      exact ⟨by rw [HF.out]; rfl, bA, hbA⟩
  case rest =>
  clear d16 d0 bA hbA
  obtain ⟨rfl, bA, hbA⟩ := hcut
  have HK : Hid ((Chk.may c).getD 16 false = (unOk (c.np : Nat) 16384 1 64 || ((decide (c.fmt = 2) && decide (c.np ≤ 1048576)) && (decide (0 < c.np) && decide (Chk.oddPart 64 c.np ≤ 7))))) := may_16 c
  have OC : Hid (∀ nn : World, _) := fun nn : World => rodd_any c.np (by have := C.mp; omega) nn
  go_upto_if 29 with fail
  have d16 := (bA.cell 16).trans e16
  go_cut [3] (fun q wx => q = .bool ((Chk.may c).getD 16 false) ∧ Blk wx w.heap.size cs 24 ∧ Below w.heap.size w wx)
  case first =>
    generalize unOk (c.np : Nat) 16384 1 64 = un at *
    generalize (decide (0 < c.np) && decide (Chk.oddPart 64 c.np ≤ 7)) = od at *
    have m16 := C.mp
    cases hq : (decide (c.fmt = 2) && decide (c.np ≤ 1048576))
    · rw [hq] at HK
      have HK2 : Hid ((Chk.may c).getD 16 false = un) := by unfold Hid; rw [HK.out]; simp
      clear HK hq OC
      go_wp2
      go_meet
      exact ⟨by rw [HK2.out], bA, hbA⟩
    · rw [hq] at HK
      have HK2 : Hid ((Chk.may c).getD 16 false = (un || od)) := by unfold Hid; rw [HK.out]; simp
      clear HK hq
      cases un
      · go_wp2_with (go_at_call 33; go_must (refine (OC.out _).mono ?_; rintro e w1 ⟨rfl, hw1⟩; obtain rfl := hw1.symm))
        go_meet
        exact ⟨by rw [HK2.out]; rfl, bA, hbA⟩
      · go_wp2_with (go_at_call 33; go_must (refine (OC.out _).mono ?_; rintro e w1 ⟨rfl, hw1⟩; obtain rfl := hw1.symm))
        go_meet
        exact ⟨by rw [HK2.out]; rfl, bA, hbA⟩
  case rest =>
  clear d16 bA hbA HK OC
  obtain ⟨rfl, bA, hbA⟩ := hcut
  have HG : Hid (∀ b : Bool, (Chk.may c).getD 16 false = b → (Chk.may c).getD 16 false = b) := fun _ h => h
  generalize hg16 : (Chk.may c).getD 16 false = g16 at *
  cases g16
  · have HN : Hid (runNo (Chk.may c) 15 4 = 16) := runNo_at _ 15 4 1 (by show 15 + 4 ≤ 19; decide) (by decide) (fun j hj => by rcases (show j = 0 by omega) with rfl; exact G15.out) hg16
    clear hg16 HG
    go_wp2
    go_ret
    exact ⟨by rw [HN.out]; rfl, hbA⟩
  have G16 : Hid ((Chk.may c).getD 16 false = true) := hg16
  clear hg16 HG
  go_upto_region 9 with fail
  have UC : Hid (∀ nn : World, _) := fun nn : World => units_any (c.nq : Nat) 8192 0 64 (.inr rfl) (by omega) (by have := C.mq; omega) nn
  have d17 := (bA.cell 17).trans e17
  go_cut [3] (fun q wx => q = .bool (unOk (c.nq : Nat) 8192 0 64) ∧ Blk wx w.heap.size cs 24 ∧ Below w.heap.size w wx)
  case first =>
    generalize unOk (c.nq : Nat) 8192 0 64 = un at *
    have m17 := C.mq
    go_wp2_with (go_at_call 32; go_must (refine (UC.out _).mono ?_; rintro e w1 ⟨rfl, hw1⟩; obtain rfl := hw1.symm))
    go_meet
    exact ⟨rfl, bA, hbA⟩
  case rest =>
  clear d17 bA hbA UC
  obtain ⟨rfl, bA, hbA⟩ := hcut
  go_upto_region 10 with fail
  have d0 := (bA.cell 0).trans C.h0
  have d17 := (bA.cell 17).trans e17
  go_cut [52] (fun q wx => q = .bool (decide (c.fmt = 2) && decide (c.nq ≤ 524288)) ∧ Blk wx w.heap.size cs 24 ∧ Below w.heap.size w wx)
  case first =>
    generalize unOk (c.nq : Nat) 8192 0 64 = un at *
    have m17 := C.mq
    by_cases f2 : c.fmt = 2
    · rw [f2] at d0
      have HD : Hid (decide (c.nq ≤ 524288) = decide ((c.nq : Int) ≤ 524288)) := by unfold Hid; rw [decide_eq_decide]; omega
      have HF : Hid (decide (c.fmt = 2) = true) := decide_eq_true f2
      go_wp2
      go_meet
      exact ⟨by rw [HF.out, HD.out]; rfl, bA, hbA⟩
    · have f2' : (c.fmt == 2) = false := by rw [beq_eq_false_iff_ne]; exact f2
      have HF : Hid (decide (c.fmt = 2) = false) := decide_eq_false f2
      go_wp2
      go_meet
      exact ⟨by rw [HF.out]; rfl, bA, hbA⟩
  case rest =>
  clear d17 d0 bA hbA
  obtain ⟨rfl, bA, hbA⟩ := hcut
  have HK : Hid ((Chk.may c).getD 17 false = (unOk (c.nq : Nat) 8192 0 64 || ((decide (c.fmt = 2) && decide (c.nq ≤ 524288)) && (decide (0 < c.nq) && decide (Chk.oddPart 64 c.nq ≤ 7))))) := may_17 c
  have OC : Hid (∀ nn : World, _) := fun nn : World => rodd_any c.nq (by have := C.mq; omega) nn
  go_upto_if 52 with fail
  have d17 := (bA.cell 17).trans e17
  go_cut [3] (fun q wx => q = .bool ((Chk.may c).getD 17 false) ∧ Blk wx w.heap.size cs 24 ∧ Below w.heap.size w wx)
  case first =>
    generalize unOk (c.nq : Nat) 8192 0 64 = un at *
    generalize (decide (0 < c.nq) && decide (Chk.oddPart 64 c.nq ≤ 7)) = od at *
    have m17 := C.mq
    cases hq : (decide (c.fmt = 2) && decide (c.nq ≤ 524288))
    · rw [hq] at HK
      have HK2 : Hid ((Chk.may c).getD 17 false = un) := by unfold Hid; rw [HK.out]; simp
      clear HK hq OC
      go_wp2
      go_meet
      exact ⟨by rw [HK2.out], bA, hbA⟩
    · rw [hq] at HK
      have HK2 : Hid ((Chk.may c).getD 17 false = (un || od)) := by unfold Hid; rw [HK.out]; simp
      clear HK hq
      cases un
      · go_wp2_with (go_at_call 33; go_must (refine (OC.out _).mono ?_; rintro e w1 ⟨rfl, hw1⟩; obtain rfl := hw1.symm))
        go_meet
        exact ⟨by rw [HK2.out]; rfl, bA, hbA⟩
      · go_wp2_with (go_at_call 33; go_must (refine (OC.out _).mono ?_; rintro e w1 ⟨rfl, hw1⟩; obtain rfl := hw1.symm))
        go_meet
        exact ⟨by rw [HK2.out]; rfl, bA, hbA⟩
  case rest =>
  clear d17 bA hbA HK OC
  obtain ⟨rfl, bA, hbA⟩ := hcut
  have HG : Hid (∀ b : Bool, (Chk.may c).getD 17 false = b → (Chk.may c).getD 17 false = b) := fun _ h => h
  generalize hg17 : (Chk.may c).getD 17 false = g17 at *
  cases g17
  · have HN : Hid (runNo (Chk.may c) 15 4 = 17) := runNo_at _ 15 4 2 (by show 15 + 4 ≤ 19; decide) (by decide) (fun j hj => by rcases (show j = 0 ∨ j = 1 by omega) with rfl | rfl; exact G15.out; exact G16.out) hg17
    clear hg17 HG
    go_wp2
    go_ret
    exact ⟨by rw [HN.out]; rfl, hbA⟩
  have G17 : Hid ((Chk.may c).getD 17 false = true) := hg17
  clear hg17 HG
  go_upto_region 15 with fail
  have d18 := (bA.cell 18).trans e18
  have RC0 := fun nn : World => rrest_any cs c C nn
  have hE : (Chk.may c).getD 18 false = decide (restE c = 0) := restE_ok c
  have mr := C.mr
  by_cases h0 : restE c = 0
  · have HN : Hid (runNo (Chk.may c) 15 4 = -1) := runNo_none _ 15 4 (by show 15 + 4 ≤ 19; decide) (fun j hj => by
      rcases (show j = 0 ∨ j = 1 ∨ j = 2 ∨ j = 3 by omega) with rfl | rfl | rfl | rfl
      · exact G15.out
      · exact G16.out
      · exact G17.out
      · show (Chk.may c).getD 18 false = true
        rw [hE]; exact decide_eq_true h0)
    rw [h0] at RC0
    have RC : Hid (∀ nn : World, _) := RC0
    clear RC0 h0 hE
    go_wp2_with (first
      | (refine wpList_load_mid rfl 24 _ rfl w.heap.size 0 rfl cs.toList _ bA.range Tryd.underlying24 rfl (by rw [Array.length_toList, C.size]; exact Tryd.infoCart) ?_; rw [Array.toArray_toList])
      | (go_at_call 34; go_must (refine (RC.out _).mono ?_; rintro e w1 ⟨rfl, hb1⟩)))
    go_ret
    exact ⟨by rw [HN.out]; rfl, hbA.trans (hb1.mono hbA.size)⟩
  · have HN : Hid (runNo (Chk.may c) 15 4 = 18) := runNo_at _ 15 4 3 (by show 15 + 4 ≤ 19; decide) (by decide) (fun j hj => by
      rcases (show j = 0 ∨ j = 1 ∨ j = 2 by omega) with rfl | rfl | rfl
      · exact G15.out
      · exact G16.out
      · exact G17.out) (by
      show (Chk.may c).getD 18 false = false
      rw [hE]; exact decide_eq_false h0)
    have q0 : (restE c != 0) = true := by simpa using h0
    have RC : Hid (∀ nn : World, _) := RC0
    clear RC0 hE
    generalize restE c = re at *
    go_wp2_with (first
      | (refine wpList_load_mid rfl 24 _ rfl w.heap.size 0 rfl cs.toList _ bA.range Tryd.underlying24 rfl (by rw [Array.length_toList, C.size]; exact Tryd.infoCart) ?_; rw [Array.toArray_toList])
      | (go_at_call 34; go_must (refine (RC.out _).mono ?_; rintro e w1 ⟨rfl, hb1⟩)))
    go_ret
    exact ⟨by rw [HN.out]; rfl, hbA.trans (hb1.mono hbA.size)⟩
end Go.Proofs.YtmjolcdocoiaeaaDoor
