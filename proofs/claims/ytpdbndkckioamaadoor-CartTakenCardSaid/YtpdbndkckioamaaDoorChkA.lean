/-
  What romMayBe and restMayBe answer; conditions: the cells hold a cartridge's numbers and lists, the library's table lies in its variable.
-/
import Derived.Test.YtpdbndkckioamaaDoorChkRest
import Derived.Test.YtpdbndkckioamaaDoorChkOdd
import Derived.Test.YtpdbndkckioamaaDoorChkHand
import Derived.StillTailTactics
import Derived.Deep.CutBlock
set_option linter.unusedSimpArgs false
set_option linter.unusedVariables false
namespace Go.Proofs.YtpdbndkckioamaaDoor
open Go.RowKit
theorem Tz.below {w w' : World} (h : Tz w) (hb : Below w.heap.size w w') : Tz w' := fun j hj => (hb.cell (p := ⟨3, j, none⟩) (cell_lt (h j hj))).trans (h j hj)
theorem retBo {a b : Bool} (h : a = b) : Ending.returned (.bool a) = .returned (.bool b) := by rw [h]
theorem oddPart_le : ∀ f n : Nat, Chk.oddPart f n ≤ n
  | 0, n => Nat.le_refl n
  | f + 1, n => by
    rw [Chk.oddPart]
    split
    · exact Nat.le_trans (oddPart_le f (n / 2)) (Nat.div_le_self _ _)
    · exact Nat.le_refl n
set_option maxRecDepth 100000 in
theorem rom_any (cs : Array Value) (c : CF) (C : IsC cs c) (n unit most : Nat) (hn : n ≤ 140737488351232) (hu : unit = 16384 ∨ unit = 8192) (hm : most ≤ 9223372036854775807) (w : World) (T : Tz w) :
    Calls Tryd.prog 72 #[.agg cs, .int .i64 (n : Nat), .int .i64 (unit : Nat), .int .i64 (most : Nat)] w fun e w' => e = .returned (.bool (Chk.romOk c n unit most)) ∧ Below w.heap.size w w' := by
  have hsz := C.size
  go_enter Tryd.func72, Tryd.ntmps72
  go_upto_region 1 with fail
  have hb0 : Below w.heap.size w (w.alloc (.cells cs 25)) := (Below.refl _ _).alloc (Nat.le_refl _) _
  have b0 : Blk (w.alloc (.cells cs 25)) w.heap.size cs 25 := Blk.new w cs _
  generalize w.alloc (.cells cs 25) = W at *
  have TW : Tz W := T.below hb0
  have d0 := (b0.cell 0).trans C.h0
  clear hsz
  by_cases h1 : n ≤ most
  · have h1' : ¬ (most : Int) < (n : Int) := by omega
    have e1 : decide (n ≤ most) = true := decide_eq_true h1
    by_cases h2 : n % unit = 0
    · have H : Hid (Chk.romOk c n unit most = true) := by unfold Hid Chk.romOk; rw [e1, decide_eq_true h2]; rfl
      have h2' : (n : Int) % (unit : Int) = 0 := by omega
      clear e1 h2
      rcases hu with rfl | rfl
      · go_wp2
        go_ret
        exact ⟨by rw [H.out]; rfl, hb0⟩
      · go_wp2
        go_ret
        exact ⟨by rw [H.out]; rfl, hb0⟩
    · have hn0 : n ≠ 0 := by rintro rfl; exact h2 (Nat.zero_mod _)
      have h2' : ¬ (n : Int) % (unit : Int) = 0 := by omega
      have h2b : ((n : Int) % (unit : Int) == 0) = false := by rw [beq_eq_false_iff_ne]; exact h2'
      have OC : Hid (Calls _ _ _ _ _) := odd_any n hn0 (by omega) W TW
      have ho := oddPart_le 64 n
      have H : Hid (Chk.romOk c n unit most = (decide (c.fmt = 2) && decide (Chk.oddPart 64 n ≤ 7))) := by unfold Hid Chk.romOk; rw [e1, decide_eq_false h2]; rfl
      clear e1 h2
      generalize Chk.oddPart 64 n = q at *
      by_cases hf : c.fmt = 2
      · rw [hf] at d0
        have HQ : Hid (decide ((q : Int) ≤ 7) = decide (q ≤ 7)) := by unfold Hid; rw [decide_eq_decide]; omega
        clear h2b
        rcases hu with rfl | rfl
        · have HX : Hid (((n : Int) % 16384 == 0) = false) := by unfold Hid; rw [beq_eq_false_iff_ne]; omega
          go_wp2_with (go_at_call 84; go_must (refine OC.out.mono ?_; rintro e w1 ⟨rfl, hw1⟩; obtain rfl := hw1.symm))
          go_ret
          exact ⟨retBo (by rw [H.out, HX.out, HQ.out, decide_eq_true hf]; rfl), hb0⟩
        · have HX : Hid (((n : Int) % 8192 == 0) = false) := by unfold Hid; rw [beq_eq_false_iff_ne]; omega
          go_wp2_with (go_at_call 84; go_must (refine OC.out.mono ?_; rintro e w1 ⟨rfl, hw1⟩; obtain rfl := hw1.symm))
          go_ret
          exact ⟨retBo (by rw [H.out, HX.out, HQ.out, decide_eq_true hf]; rfl), hb0⟩
      · have hf' : (c.fmt == 2) = false := by rw [beq_eq_false_iff_ne]; exact hf
        have HF : Hid (decide (c.fmt = 2) = false) := decide_eq_false hf
        clear OC h2b
        rcases hu with rfl | rfl
        · have HX : Hid (((n : Int) % 16384 == 0) = false) := by unfold Hid; rw [beq_eq_false_iff_ne]; omega
          go_wp2
          go_ret
          exact ⟨retBo (by rw [H.out, HX.out, HF.out]; rfl), hb0⟩
        · have HX : Hid (((n : Int) % 8192 == 0) = false) := by unfold Hid; rw [beq_eq_false_iff_ne]; omega
          go_wp2
          go_ret
          exact ⟨retBo (by rw [H.out, HX.out, HF.out]; rfl), hb0⟩
  · have H : Hid (Chk.romOk c n unit most = false) := by unfold Hid Chk.romOk; rw [decide_eq_false h1]; rfl
    have h1' : (most : Int) < (n : Int) := by omega
    clear h1
    go_wp2
    go_ret
    exact ⟨by rw [H.out]; rfl, hb0⟩
set_option maxRecDepth 100000 in
set_option maxHeartbeats 1000000 in
theorem rest_any (cs : Array Value) (c : CF) (C : IsC cs c) (w : World) :
    Calls Tryd.prog 73 #[.agg cs] w fun e w' => e = .returned (.bool (Chk.restOk c)) ∧ Below w.heap.size w w' := by
  have hsz := C.size
  go_enter Tryd.func73, Tryd.ntmps73
  go_upto_region 1 with fail
  have hb0 : Below w.heap.size w (w.alloc (.cells cs 25)) := (Below.refl _ _).alloc (Nat.le_refl _) _
  have b0 : Blk (w.alloc (.cells cs 25)) w.heap.size cs 25 := Blk.new w cs _
  generalize w.alloc (.cells cs 25) = W at *
  have BC0 := barred_any cs c C W
  obtain ⟨ar, kr, e18⟩ := C.h18
  have mr := C.mr
  clear hsz
  by_cases hB : c.fmt = 2 ∧ c.misc = 0
  · have H : Hid (Chk.restOk c = decide (c.nr = 0)) := by unfold Hid Chk.restOk; rw [if_pos hB]
    have HX : Hid (((c.nr : Int) == 0) = decide (c.nr = 0)) := by unfold Hid; rw [Bool.eq_iff_iff]; simp
    rw [decide_eq_true hB] at BC0
    have BC : Hid (Calls _ _ _ _ _) := BC0
    clear BC0 hB
    go_wp2_with (first
      | (refine wpList_load_mid rfl 25 _ rfl w.heap.size 0 rfl cs.toList _ b0.range Tryd.underlying25 rfl (by rw [Array.length_toList, C.size]; exact Tryd.infoCart) ?_; rw [Array.toArray_toList])
      | (go_at_call 64; go_must (refine BC.out.mono ?_; rintro e w1 ⟨rfl, hb1⟩; have d18 := ((b0.below b0.lt hb1).cell 18).trans e18; have hbb := hb0.trans (hb1.mono hb0.size))))
    go_ret
    exact ⟨retBo (by rw [H.out, ← HX.out]), hbb⟩
  · have H : Hid (Chk.restOk c = decide (leastV c ≤ (c.nr : Int))) := by unfold Hid Chk.restOk; rw [if_neg hB]; rfl
    rw [decide_eq_false hB] at BC0
    have BC : Hid (Calls _ _ _ _ _) := BC0
    clear BC0 hB
    have LC : Hid (∀ W, Calls _ _ _ _ _) := fun W => least_any cs c C W
    generalize leastV c = lv at *
    go_upto_region 3 with (first
      | (refine wpList_load_mid rfl 25 _ rfl w.heap.size 0 rfl cs.toList _ b0.range Tryd.underlying25 rfl (by rw [Array.length_toList, C.size]; exact Tryd.infoCart) ?_; rw [Array.toArray_toList])
      | (go_at_call 64; go_must (refine BC.out.mono ?_; rintro e w1 ⟨rfl, hb1⟩)))
    have b1 := b0.below b0.lt hb1
    have hbb := hb0.trans (hb1.mono hb0.size)
    clear BC b0 hb0 hb1
    have s0 : Blk w1.drew w.heap.size cs 25 ∧ Below w.heap.size w w1.drew := ⟨b1.drew, hbb.drew⟩
    refine wp_region_held (S := fun v => Blk v w.heap.size cs 25 ∧ Below w.heap.size w v) (by kernel_rfl) ?_
    refine takeH (i := 0) (v := .pointer (some ⟨w.heap.size, 18, none⟩)) ⟨#[.agg cs, .pointer (some ⟨w.heap.size, 0, none⟩), .bool false, .agg cs, .bool false, undef, undef, undef, undef, .pointer (some ⟨w.heap.size, 18, none⟩), undef, undef, undef, undef, undef], []⟩ rfl (by kernel_rfl) (by kernel_rfl) (by kernel_rfl) (fun _ _ _ h => h) (.inl ⟨by kernel_rfl, fun _ _ => by kernel_rfl⟩) s0 (by kernel_rfl) ?_
    refine takeH (i := 1) (v := .slice ar c.nr kr) ⟨#[.agg cs, .pointer (some ⟨w.heap.size, 0, none⟩), .bool false, .agg cs, .bool false, undef, undef, undef, undef, .pointer (some ⟨w.heap.size, 18, none⟩), .slice ar c.nr kr, undef, undef, undef, undef], []⟩ rfl (by kernel_rfl) (by kernel_rfl) (by kernel_rfl) (fun _ _ _ h => h) (.inl ⟨by kernel_rfl, fun v hv => by have c : v.cell? ⟨w.heap.size, 18, none⟩ = some (.slice ar c.nr kr) := (hv.1.cell 18).trans e18; go_simp⟩) s0 (by kernel_rfl) ?_
    refine takeH (i := 2) (v := .int .i64 (c.nr : Nat)) ⟨#[.agg cs, .pointer (some ⟨w.heap.size, 0, none⟩), .bool false, .agg cs, .bool false, undef, undef, undef, undef, .pointer (some ⟨w.heap.size, 18, none⟩), .slice ar c.nr kr, .int .i64 (c.nr : Nat), undef, undef, undef], []⟩ rfl (by kernel_rfl) (by kernel_rfl) (by kernel_rfl) (fun _ _ _ h => h) (.inl ⟨by kernel_rfl, fun _ _ => by kernel_rfl⟩) s0 (by kernel_rfl) ?_
    refine takeH (i := 3) (v := .agg cs.toList.toArray) ⟨#[.agg cs, .pointer (some ⟨w.heap.size, 0, none⟩), .bool false, .agg cs, .bool false, undef, undef, undef, undef, .pointer (some ⟨w.heap.size, 18, none⟩), .slice ar c.nr kr, .int .i64 (c.nr : Nat), .agg cs, undef, undef], []⟩ rfl (by kernel_rfl) (by kernel_rfl) (by kernel_rfl) (fun _ _ _ h => h) (yieldsIf_load_mid (by kernel_rfl) 25 (.tmp 1) rfl w.heap.size 0 (by kernel_rfl) cs.toList _ (fun v hv => Blk.range' (hv.1)) Tryd.underlying25 rfl (by rw [Array.length_toList]; rw [C.size]; exact Tryd.infoCart)) s0 (by kernel_rfl) ?_
    refine wpAnyH_all (rs := [4]) (by kernel_rfl) (by simp) ?_
    intro i hi
    obtain rfl : i = 4 := by simpa using hi
    refine wpOp_contract (f := 65) rfl (by kernel_rfl) (by kernel_rfl) (LC.out _) ⟨#[.agg cs, .pointer (some ⟨w.heap.size, 0, none⟩), .bool false, .agg cs, .bool false, undef, undef, undef, undef, .pointer (some ⟨w.heap.size, 18, none⟩), .slice ar c.nr kr, .int .i64 (c.nr : Nat), .agg cs, .int .i64 lv, undef], []⟩ (by kernel_rfl) ?_
    intro w2 hb2
    have s1 : Blk w2 w.heap.size cs 25 ∧ Below w.heap.size w w2 := ⟨s0.1.below s0.1.lt hb2, s0.2.trans (hb2.mono s0.2.size)⟩
    clear hi
    refine ⟨s1, ?_⟩
    refine takeH (i := 5) (v := .bool (decide (lv ≤ (c.nr : Int)))) ⟨#[.agg cs, .pointer (some ⟨w.heap.size, 0, none⟩), .bool false, .agg cs, .bool false, undef, undef, undef, undef, .pointer (some ⟨w.heap.size, 18, none⟩), .slice ar c.nr kr, .int .i64 (c.nr : Nat), .agg cs, .int .i64 lv, .bool (decide (lv ≤ (c.nr : Int)))], []⟩ rfl (by kernel_rfl) (by kernel_rfl) (by kernel_rfl) (fun _ _ _ h => h) (.inl ⟨by kernel_rfl, fun _ _ => by kernel_rfl⟩) s1 (by kernel_rfl) ?_
    refine takeH (i := 6) (v := .bool (decide (lv ≤ (c.nr : Int)))) ⟨#[.agg cs, .pointer (some ⟨w.heap.size, 0, none⟩), .bool (decide (lv ≤ (c.nr : Int))), .agg cs, .bool false, undef, undef, undef, undef, .pointer (some ⟨w.heap.size, 18, none⟩), .slice ar c.nr kr, .int .i64 (c.nr : Nat), .agg cs, .int .i64 lv, .bool (decide (lv ≤ (c.nr : Int)))], []⟩ rfl (by kernel_rfl) (by kernel_rfl) (by kernel_rfl) (fun _ _ _ h => h) (.inl ⟨by kernel_rfl, fun _ _ => by kernel_rfl⟩) s1 (by kernel_rfl) ?_
    refine wpAnyH_done (by kernel_rfl) ?_ _
    go_wp2
    go_ret
    exact ⟨retBo (by rw [H.out]), s1.2⟩
end Go.Proofs.YtpdbndkckioamaaDoor
