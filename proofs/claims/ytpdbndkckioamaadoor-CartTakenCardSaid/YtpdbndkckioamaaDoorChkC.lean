/-
  What mayBe answers; conditions: the cells hold a cartridge's numbers and lists, its format is one, the tables lie in their variables.
-/
import Derived.Test.YtpdbndkckioamaaDoorChkB11
import Derived.Test.YtpdbndkckioamaaDoorChkB10
import Derived.Test.YtpdbndkckioamaaDoorChkB01
import Derived.Test.YtpdbndkckioamaaDoorChkB00
set_option linter.unusedSimpArgs false
set_option linter.unusedVariables false
namespace Go.Proofs.YtpdbndkckioamaaDoor
open Go.RowKit
/-- The answers as cells. -/
def mayV (c : CF) : Array Value := ((Chk.may c).map Value.bool).toArray
theorem may_size (c : CF) : (Chk.may c).length = 19 := rfl
theorem mayV_size (c : CF) : (mayV c).size = 19 := by simp [mayV, may_size]
theorem may_ret {c : CF} {w : World} (a' : Act) (wy : World) (L : Array Value) (hL : L = mayV c) (h1 : a'.tmps[2]? = some (.pointer (some ⟨w.heap.size + 1, 0, none⟩))) (h2 : a'.defers = []) (h3 : Blk wy (w.heap.size + 1) L 86) (h4 : Below w.heap.size w wy) :
    bodyPost Tryd.prog Tryd.f51 (fun e w' => e = .returned (.agg (mayV c)) ∧ Below w.heap.size w w') .ret a' wy := by
  subst hL
  refine bodyPost_ret (v := .agg (mayV c)) ?_ h2 ⟨rfl, h4⟩
  rw [results_cell Tryd.results51]
  have hr := run_loadVar_mid (P := Tryd.prog) wy (w.heap.size + 1) 0 86 (mayV c).toList _ h3.range Tryd.underlying86 rfl (by rw [Array.length_toList, mayV_size]; kernel_rfl)
  simp only [Array.toArray_toList] at hr
  have ht : a'.tmps.getD 2 undef = .pointer (some ⟨w.heap.size + 1, 0, none⟩) := by simp [Array.getD_eq_getD_getElem?, h1]
  rw [ht]
  simp only [asAddr, Sem.run_pure, Result.andThen_ok]
  exact hr
set_option maxRecDepth 100000 in
set_option maxHeartbeats 2000000 in
theorem mayBe_any (cs : Array Value) (c : CF) (C : IsC cs c) (hf : c.fmt = 0 ∨ c.fmt = 1 ∨ c.fmt = 2) (hpr : -9223372036854775808 ≤ c.pr ∧ c.pr ≤ 9223372036854775807) (hpn : -9223372036854775808 ≤ c.pn ∧ c.pn ≤ 9223372036854775807) (w : World) (B : Bnd w) (T : Tz w) :
    Calls Tryd.prog 51 #[.agg cs] w fun e w' => e = .returned (.agg (mayV c)) ∧ Below w.heap.size w w' := by
  have gb := B.lt
  have gz : 3 < w.heap.size := cell_lt (T 0 (by decide))
  have hsz := C.size
  go_enter Tryd.func51, Tryd.ntmps51
  go_upto_region 1 with fail
  obtain ⟨W, hW⟩ : ∃ W, W = (w.alloc (.cells cs 25)).alloc (.cells #[.bool false, .bool false, .bool false, .bool false, .bool false, .bool false, .bool false, .bool false, .bool false, .bool false, .bool false, .bool false, .bool false, .bool false, .bool false, .bool false, .bool false, .bool false, .bool false] 86) := ⟨_, rfl⟩
  have b0 : Blk W w.heap.size cs 25 := by rw [hW]; exact (Blk.new w cs _).old _
  have r0 : Blk W (w.heap.size + 1) #[.bool false, .bool false, .bool false, .bool false, .bool false, .bool false, .bool false, .bool false, .bool false, .bool false, .bool false, .bool false, .bool false, .bool false, .bool false, .bool false, .bool false, .bool false, .bool false] 86 := by rw [hW]; have h := Blk.new (w.alloc (.cells cs 25)) #[.bool false, .bool false, .bool false, .bool false, .bool false, .bool false, .bool false, .bool false, .bool false, .bool false, .bool false, .bool false, .bool false, .bool false, .bool false, .bool false, .bool false, .bool false, .bool false] 86; rwa [World.size_alloc] at h
  have hb0 : Below w.heap.size w W := by rw [hW]; exact ((Below.refl _ _).alloc (Nat.le_refl _) _).alloc (by simp) _
  change Code.wp _ _ _ _ ((w.alloc (.cells cs 25)).alloc (.cells _ 86))
  rw [← hW]
  clear hW
  have hB := B.below B.lt hb0
  have hT := T.below hb0
  have d0 := (b0.cell 0).trans C.h0
  clear hsz B T
  go_cut [3, 4, 5, 6, 7] (fun p3 _ _ _ _ wx => ∃ (q : Nat) (m0 m1 m2 m3 m4 m5 m6 : Int), p3 = .pointer (some ⟨q, 0, none⟩) ∧ MK w cs q #[.int .i64 m0, .int .i64 m1, .int .i64 m2, .int .i64 m3, .int .i64 m4, .int .i64 m5, .int .i64 m6] wx ∧ Hid (m0 = (Chk.row c.fmt).getD 0 0 ∧ m1 = (Chk.row c.fmt).getD 1 0 ∧ m2 = (Chk.row c.fmt).getD 2 0 ∧ m3 = (Chk.row c.fmt).getD 3 0 ∧ m4 = (Chk.row c.fmt).getD 4 0 ∧ m5 = (Chk.row c.fmt).getD 5 0))
  case first =>
    have HF : Hid (c.fmt = 0 ∨ c.fmt = 1 ∨ c.fmt = 2) := hf
    clear hf
    rcases HF.out with h | h | h
    · rw [h] at d0
      have g0 : W.cell? ⟨1, 0, none⟩ = some (.int .i64 15) := hB 0 (by decide)
      have g1 : W.cell? ⟨1, 1, none⟩ = some (.int .i64 0) := hB 1 (by decide)
      have g2 : W.cell? ⟨1, 2, none⟩ = some (.int .i64 0) := hB 2 (by decide)
      have g3 : W.cell? ⟨1, 3, none⟩ = some (.int .i64 0) := hB 3 (by decide)
      have g4 : W.cell? ⟨1, 4, none⟩ = some (.int .i64 0) := hB 4 (by decide)
      have g5 : W.cell? ⟨1, 5, none⟩ = some (.int .i64 0) := hB 5 (by decide)
      have g6 : W.cell? ⟨1, 6, none⟩ = some (.int .i64 1) := hB 6 (by decide)
      go_wp2
      go_meet
      have ha : Below W.heap.size W (W.alloc (.cells #[.int .i64 15, .int .i64 0, .int .i64 0, .int .i64 0, .int .i64 0, .int .i64 0, .int .i64 1] 103)) := (Below.refl _ _).alloc (Nat.le_refl _) _
      refine ⟨W.heap.size, 15, 0, 0, 0, 0, 0, 1, rfl, ⟨b0.old _, ⟨_, r0.old _, rfl⟩, Blk.new _ _ _, r0.lt, gb, gz, hB.below hB.lt ha, hT.below ha, hb0.trans (ha.mono hb0.size)⟩, ?_⟩
      unfold Hid Chk.row
      rw [h]
      exact ⟨rfl, rfl, rfl, rfl, rfl, rfl⟩
    · rw [h] at d0
      have g0 : W.cell? ⟨1, 7, none⟩ = some (.int .i64 255) := hB 7 (by decide)
      have g1 : W.cell? ⟨1, 8, none⟩ = some (.int .i64 0) := hB 8 (by decide)
      have g2 : W.cell? ⟨1, 9, none⟩ = some (.int .i64 2) := hB 9 (by decide)
      have g3 : W.cell? ⟨1, 10, none⟩ = some (.int .i64 1) := hB 10 (by decide)
      have g4 : W.cell? ⟨1, 11, none⟩ = some (.int .i64 0) := hB 11 (by decide)
      have g5 : W.cell? ⟨1, 12, none⟩ = some (.int .i64 0) := hB 12 (by decide)
      have g6 : W.cell? ⟨1, 13, none⟩ = some (.int .i64 255) := hB 13 (by decide)
      go_wp2
      go_meet
      have ha : Below W.heap.size W (W.alloc (.cells #[.int .i64 255, .int .i64 0, .int .i64 2, .int .i64 1, .int .i64 0, .int .i64 0, .int .i64 255] 103)) := (Below.refl _ _).alloc (Nat.le_refl _) _
      refine ⟨W.heap.size, 255, 0, 2, 1, 0, 0, 255, rfl, ⟨b0.old _, ⟨_, r0.old _, rfl⟩, Blk.new _ _ _, r0.lt, gb, gz, hB.below hB.lt ha, hT.below ha, hb0.trans (ha.mono hb0.size)⟩, ?_⟩
      unfold Hid Chk.row
      rw [h]
      exact ⟨rfl, rfl, rfl, rfl, rfl, rfl⟩
    · rw [h] at d0
      have g0 : W.cell? ⟨1, 14, none⟩ = some (.int .i64 4095) := hB 14 (by decide)
      have g1 : W.cell? ⟨1, 15, none⟩ = some (.int .i64 15) := hB 15 (by decide)
      have g2 : W.cell? ⟨1, 16, none⟩ = some (.int .i64 3) := hB 16 (by decide)
      have g3 : W.cell? ⟨1, 17, none⟩ = some (.int .i64 3) := hB 17 (by decide)
      have g4 : W.cell? ⟨1, 18, none⟩ = some (.int .i64 63) := hB 18 (by decide)
      have g5 : W.cell? ⟨1, 19, none⟩ = some (.int .i64 3) := hB 19 (by decide)
      have g6 : W.cell? ⟨1, 20, none⟩ = some (.int .i64 0) := hB 20 (by decide)
      go_wp2
      go_meet
      have ha : Below W.heap.size W (W.alloc (.cells #[.int .i64 4095, .int .i64 15, .int .i64 3, .int .i64 3, .int .i64 63, .int .i64 3, .int .i64 0] 103)) := (Below.refl _ _).alloc (Nat.le_refl _) _
      refine ⟨W.heap.size, 4095, 15, 3, 3, 63, 3, 0, rfl, ⟨b0.old _, ⟨_, r0.old _, rfl⟩, Blk.new _ _ _, r0.lt, gb, gz, hB.below hB.lt ha, hT.below ha, hb0.trans (ha.mono hb0.size)⟩, ?_⟩
      unfold Hid Chk.row
      rw [h]
      exact ⟨rfl, rfl, rfl, rfl, rfl, rfl⟩
  case rest =>
  clear hB hT d0 b0 r0 hb0
  obtain ⟨q, m0, m1, m2, m3, m4, m5, m6, rfl, hK, RF⟩ := hcut
  go_upto_region 2 with fail
  cases z1' : ((c.nt : Int) == 0)
  · have z1 : Hid _ := z1'
    cases z2' : decide ((0 : Int) < (c.np : Int))
    · have z2 : Hid _ := z2'
      refine may2_00 cs c C hf hpr hpn w _ q m0 m1 m2 m3 m4 m5 m6 hK z1 z2 _ _ _ _ _ _ _ _ _ _ _ _ _ _ _ _ _ _ _ _ _ _ _ _ _ _ _ _ _ _ _ _ _ _ _ _ _ _ _ _ _ _ _ _ _ _ _ _ _ _ _ _ _ _ _ _ _ _ _ _ _ _ _ _ _ _ _ _ _ _ _ _ _ _ _ _ _ _ _ _ _ _ _ _ _ _ _ _ _ _ (fun a' wy h1 h2 h3 h4 => ?_)
      refine ‹∀ (a : Act) (w : World), Code.wp _ Code.ret _ a w → _› _ _ ?_
      have hv : #[.bool true, .bool (Chk.within c.map m0), .bool (Chk.within c.sub m1), .bool true, .bool true, .bool true, .bool (Chk.within c.con m2), .bool (Chk.kindOk c), .bool (Chk.within c.tim m3), .bool (Chk.within c.dev m4), .bool (Chk.within c.misc m5), .bool (Chk.workOk c c.pr (!c.bat)), .bool (Chk.workOk c c.pn c.bat), .bool (Chk.chrOk c c.cr (Chk.implied c)), .bool (Chk.chrOk c c.cn 0), .bool ((c.nt : Int) == 512), .bool false, .bool (Chk.romOk c c.nq 8192 524288), .bool (Chk.restOk c)] = mayV c := by
        obtain ⟨r0, r1, r2, r3, r4, r5⟩ := RF.out
        have e1 : (decide (c.nt = 0) || decide (c.nt = 512)) = ((c.nt : Int) == 512) := by
          have := z1.out
          rw [Bool.eq_iff_iff]
          simp at this ⊢
          omega
        have e2 : decide (0 < c.np) = false := by
          have := z2.out
          simp at this ⊢
          omega
        unfold mayV Chk.may
        rw [e1, e2, r0, r1, r2, r3, r4, r5]
        rfl
      exact wp_ret (may_ret a' wy _ hv h1 h2 h3 h4)
    · have z2 : Hid _ := z2'
      refine may2_01 cs c C hf hpr hpn w _ q m0 m1 m2 m3 m4 m5 m6 hK z1 z2 _ _ _ _ _ _ _ _ _ _ _ _ _ _ _ _ _ _ _ _ _ _ _ _ _ _ _ _ _ _ _ _ _ _ _ _ _ _ _ _ _ _ _ _ _ _ _ _ _ _ _ _ _ _ _ _ _ _ _ _ _ _ _ _ _ _ _ _ _ _ _ _ _ _ _ _ _ _ _ _ _ _ _ _ _ _ _ _ _ _ (fun a' wy h1 h2 h3 h4 => ?_)
      refine ‹∀ (a : Act) (w : World), Code.wp _ Code.ret _ a w → _› _ _ ?_
      have hv : #[.bool true, .bool (Chk.within c.map m0), .bool (Chk.within c.sub m1), .bool true, .bool true, .bool true, .bool (Chk.within c.con m2), .bool (Chk.kindOk c), .bool (Chk.within c.tim m3), .bool (Chk.within c.dev m4), .bool (Chk.within c.misc m5), .bool (Chk.workOk c c.pr (!c.bat)), .bool (Chk.workOk c c.pn c.bat), .bool (Chk.chrOk c c.cr (Chk.implied c)), .bool (Chk.chrOk c c.cn 0), .bool ((c.nt : Int) == 512), .bool (Chk.romOk c c.np 16384 1048576), .bool (Chk.romOk c c.nq 8192 524288), .bool (Chk.restOk c)] = mayV c := by
        obtain ⟨r0, r1, r2, r3, r4, r5⟩ := RF.out
        have e1 : (decide (c.nt = 0) || decide (c.nt = 512)) = ((c.nt : Int) == 512) := by
          have := z1.out
          rw [Bool.eq_iff_iff]
          simp at this ⊢
          omega
        have e2 : decide (0 < c.np) = true := by
          have := z2.out
          simp at this ⊢
          omega
        unfold mayV Chk.may
        rw [e1, e2, r0, r1, r2, r3, r4, r5]
        rfl
      exact wp_ret (may_ret a' wy _ hv h1 h2 h3 h4)
  · have z1 : Hid _ := z1'
    cases z2' : decide ((0 : Int) < (c.np : Int))
    · have z2 : Hid _ := z2'
      refine may2_10 cs c C hf hpr hpn w _ q m0 m1 m2 m3 m4 m5 m6 hK z1 z2 _ _ _ _ _ _ _ _ _ _ _ _ _ _ _ _ _ _ _ _ _ _ _ _ _ _ _ _ _ _ _ _ _ _ _ _ _ _ _ _ _ _ _ _ _ _ _ _ _ _ _ _ _ _ _ _ _ _ _ _ _ _ _ _ _ _ _ _ _ _ _ _ _ _ _ _ _ _ _ _ _ _ _ _ _ _ _ _ _ _ (fun a' wy h1 h2 h3 h4 => ?_)
      refine ‹∀ (a : Act) (w : World), Code.wp _ Code.ret _ a w → _› _ _ ?_
      have hv : #[.bool true, .bool (Chk.within c.map m0), .bool (Chk.within c.sub m1), .bool true, .bool true, .bool true, .bool (Chk.within c.con m2), .bool (Chk.kindOk c), .bool (Chk.within c.tim m3), .bool (Chk.within c.dev m4), .bool (Chk.within c.misc m5), .bool (Chk.workOk c c.pr (!c.bat)), .bool (Chk.workOk c c.pn c.bat), .bool (Chk.chrOk c c.cr (Chk.implied c)), .bool (Chk.chrOk c c.cn 0), .bool true, .bool false, .bool (Chk.romOk c c.nq 8192 524288), .bool (Chk.restOk c)] = mayV c := by
        obtain ⟨r0, r1, r2, r3, r4, r5⟩ := RF.out
        have e1 : (decide (c.nt = 0) || decide (c.nt = 512)) = true := by
          have := z1.out
          rw [Bool.eq_iff_iff]
          simp at this ⊢
          omega
        have e2 : decide (0 < c.np) = false := by
          have := z2.out
          simp at this ⊢
          omega
        unfold mayV Chk.may
        rw [e1, e2, r0, r1, r2, r3, r4, r5]
        rfl
      exact wp_ret (may_ret a' wy _ hv h1 h2 h3 h4)
    · have z2 : Hid _ := z2'
      refine may2_11 cs c C hf hpr hpn w _ q m0 m1 m2 m3 m4 m5 m6 hK z1 z2 _ _ _ _ _ _ _ _ _ _ _ _ _ _ _ _ _ _ _ _ _ _ _ _ _ _ _ _ _ _ _ _ _ _ _ _ _ _ _ _ _ _ _ _ _ _ _ _ _ _ _ _ _ _ _ _ _ _ _ _ _ _ _ _ _ _ _ _ _ _ _ _ _ _ _ _ _ _ _ _ _ _ _ _ _ _ _ _ _ _ (fun a' wy h1 h2 h3 h4 => ?_)
      refine ‹∀ (a : Act) (w : World), Code.wp _ Code.ret _ a w → _› _ _ ?_
      have hv : #[.bool true, .bool (Chk.within c.map m0), .bool (Chk.within c.sub m1), .bool true, .bool true, .bool true, .bool (Chk.within c.con m2), .bool (Chk.kindOk c), .bool (Chk.within c.tim m3), .bool (Chk.within c.dev m4), .bool (Chk.within c.misc m5), .bool (Chk.workOk c c.pr (!c.bat)), .bool (Chk.workOk c c.pn c.bat), .bool (Chk.chrOk c c.cr (Chk.implied c)), .bool (Chk.chrOk c c.cn 0), .bool true, .bool (Chk.romOk c c.np 16384 1048576), .bool (Chk.romOk c c.nq 8192 524288), .bool (Chk.restOk c)] = mayV c := by
        obtain ⟨r0, r1, r2, r3, r4, r5⟩ := RF.out
        have e1 : (decide (c.nt = 0) || decide (c.nt = 512)) = true := by
          have := z1.out
          rw [Bool.eq_iff_iff]
          simp at this ⊢
          omega
        have e2 : decide (0 < c.np) = true := by
          have := z2.out
          simp at this ⊢
          omega
        unfold mayV Chk.may
        rw [e1, e2, r0, r1, r2, r3, r4, r5]
        rfl
      exact wp_ret (may_ret a' wy _ hv h1 h2 h3 h4)
end Go.Proofs.YtpdbndkckioamaaDoor
