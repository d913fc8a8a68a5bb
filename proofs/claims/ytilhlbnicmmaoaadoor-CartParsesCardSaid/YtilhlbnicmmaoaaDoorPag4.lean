/-
  What the reader's take and takeRest do with any image; conditions: the reader lies in a block of its own, the image's bytes in its slice.
-/
import Derived.Test.YtilhlbnicmmaoaaDoorPag1
import Derived.Deep.RegionHeld3
import Derived.BigQuiet
set_option linter.unusedSimpArgs false
set_option linter.unusedVariables false
namespace Go.Proofs.YtilhlbnicmmaoaaDoor
open Go.RowKit
/-- A call that gave up. -/
def FaOk (x p : Int) (w : World) (e : Ending) (w' : World) : Prop := fault e x p ∧ Below w.heap.size w w'
set_option maxHeartbeats 1000000 in
theorem take_bad (m : Nat) (a : Option Addr) (n k at' nn : Nat) (hn : n ≤ 2097152) (ha : at' ≤ n) (hlt : n - at' < nn) (w : World) (bl : Blk w m #[.slice a n k, .int .i64 at'] 77) :
    Calls Tryd.prog 44 #[.pointer (some ⟨m, 0, none⟩), .int .i64 nn] w (FaOk 11 (n : Nat) w) := by
  have GU : Hid (∀ (x p : Int) (W : World), Calls _ _ _ _ _) := fun x p W => giveUp_any x p W
  have LC : Hid (Calls _ _ _ _ _) := left_any m a n k at' hn ha w bl
  go_enter Tryd.func44, Tryd.ntmps44
  go_wp2_with fail
  refine LC.out.mono ?_
  rintro e W1 ⟨rfl, j, hj⟩
  have hb1 : Below w.heap.size w W1 := by rw [hj]; exact below_draws (Below.refl _ _) _
  have b1 : Blk W1 m #[.slice a n k, .int .i64 at'] 77 := bl.below bl.lt hb1
  clear hj LC bl
  have d0 := (b1.cell 0).trans (show _ = some (.slice a n k) from rfl)
  have hlt' : ((n - at' : Nat) : Int) < (nn : Int) := by omega
  go_wp2_with fail
  refine (GU.out _ _ _).mono ?_
  rintro e W9 ⟨hf, rfl⟩
  unfold fault at hf
  subst hf
  exact ⟨rfl, rfl, hb1⟩
/-- What takeRest is to answer. -/
def TrOk (m b off n k at' : Nat) (bd : Bool) (mi nn : Nat) (l : List Nat) (w : World) (e : Ending) (w' : World) : Prop :=
  if bd = true ∧ 0 < nn then FaOk 15 (at' : Nat) w e w' else if nn < mi then FaOk 11 (n : Nat) w e w' else TakeOk m b off n k (at' + nn) nn l w e w'
set_option maxRecDepth 100000 in
set_option maxHeartbeats 3200000 in
theorem takeRest_g (ds : Array Value) (c : CF) (C : IsC ds c) (bd : Bool) (hbd : decide (c.fmt = 2 ∧ c.misc = 0) = bd) (m b off n k at' nn mi : Nat) (cm : leastV c = (mi : Int)) (I : List Nat) (hI : I.length = n) (hn : n ≤ 2097152) (hk : n ≤ k) (ha : at' + nn = n) (w : World)
    (bl : Blk w m #[.slice (some ⟨b, off, none⟩) n k, .int .i64 at'] 77) (hr : Row w (some ⟨b, off, none⟩) I) :
    Calls Tryd.prog 46 #[.pointer (some ⟨m, 0, none⟩), .agg ds] w (TrOk m b off n k at' bd mi nn ((I.drop at').take nn) w) := by
  have GU : Hid (∀ (x p : Int) (W : World), Calls _ _ _ _ _) := fun x p W => giveUp_any x p W
  have HS : Hid (ds.size = 19) := C.size
  have hsz := C.size
  have HM : Hid (m < w.heap.size) := bl.lt
  have LC : Hid (∀ W : World, Blk W m #[.slice (some ⟨b, off, none⟩) n k, .int .i64 at'] 77 → Calls Tryd.prog 63 #[.pointer (some ⟨m, 0, none⟩)] W fun e w' => e = .returned (.int .i64 (nn : Nat)) ∧ Below W.heap.size W w') := fun W bW => by
    refine (left_any m (some ⟨b, off, none⟩) n k at' hn (by omega) W bW).mono ?_
    rintro e w' ⟨rfl, j, rfl⟩
    exact ⟨by rw [show n - at' = nn by omega], below_draws (Below.refl _ _) _⟩
  have TC : Hid (∀ W : World, Below w.heap.size w W → Blk W m #[.slice (some ⟨b, off, none⟩) n k, .int .i64 at'] 77 → Calls _ _ _ _ _) := fun W hb bW => take_any m b off n k at' nn I hI hn hk (by omega) W bW (hr.below hb)
  have BC : Hid (∀ W : World, Calls _ _ _ _ _) := fun W => barred_any ds c C W
  have EC : Hid (∀ W : World, Calls Tryd.prog 65 #[.agg ds.toList.toArray] W fun e w' => e = .returned (.int .i64 (mi : Nat)) ∧ Below W.heap.size W w') := fun W => by
    rw [Array.toArray_toList]
    have := least_any ds c C W
    rwa [cm] at this
  have HN : Hid (n - at' = nn) := by unfold Hid; omega
  have HBD : Hid (decide (c.fmt = 2 ∧ c.misc = 0) = bd) := hbd
  clear hbd cm
  generalize (I.drop at').take nn = l at *
  go_enter Tryd.func46, Tryd.ntmps46
  go_upto_region 1 with fail
  have b0 : Blk (w.alloc (.cells ds 25)) w.heap.size ds 25 := Blk.new w ds _
  have hb0 : Below w.heap.size w (w.alloc (.cells ds 25)) := (Below.refl _ _).alloc (Nat.le_refl _) _
  have r0 : Blk (w.alloc (.cells ds 25)) m #[.slice (some ⟨b, off, none⟩) n k, .int .i64 at'] 77 := bl.old _
  generalize w.alloc (.cells ds 25) = W0 at *
  clear hsz bl hr C
  go_cut [11] (fun q wx => q = .bool (bd && decide (0 < nn)) ∧ Blk wx w.heap.size ds 25 ∧ Blk wx m #[.slice (some ⟨b, off, none⟩) n k, .int .i64 at'] 77 ∧ Below w.heap.size w wx)
  case first =>
    go_wp2_with (refine wpList_load_mid rfl 25 _ rfl w.heap.size 0 rfl ds.toList _ b0.range Tryd.underlying25 rfl (by rw [Array.length_toList, HS.out]; exact Tryd.infoCart) ?_; rw [Array.toArray_toList])
    refine (BC.out _).mono ?_
    rintro e W1 ⟨rfl, hb1⟩
    rw [HBD.out]
    have b1 := b0.below b0.lt hb1
    have r1 := r0.below r0.lt hb1
    have hb01 := hb0.trans (hb1.mono hb0.size)
    cases bd
    · go_wp2
      go_meet
      exact ⟨rfl, b1, r1, hb01⟩
    · have LC1 : Hid (Calls _ _ _ _ _) := LC.out W1 r1
      by_cases hz : 0 < nn
      · have hz' : (0 : Int) < (nn : Int) := by omega
        have HZ : Hid (decide (0 < nn) = true) := decide_eq_true hz
        go_wp2_with fail
        refine LC1.out.mono ?_
        rintro e W2 ⟨rfl, hb2⟩
        go_wp2
        go_meet
        exact ⟨by rw [HZ.out]; rfl, b1.below b1.lt hb2, r1.below r1.lt hb2, hb01.trans (hb2.mono hb01.size)⟩
      · have HZ : Hid (decide (0 < nn) = false) := decide_eq_false hz
        have hz0 : nn = 0 := by omega
        have LC2 : Hid (Calls _ _ _ _ _) := LC1.out
        rw [hz0] at LC2
        clear hz hz0 LC1
        go_wp2_with fail
        refine LC2.out.mono ?_
        rintro e W2 ⟨rfl, hb2⟩
        go_wp2
        go_meet
        exact ⟨by rw [HZ.out]; rfl, b1.below b1.lt hb2, r1.below r1.lt hb2, hb01.trans (hb2.mono hb01.size)⟩
  case rest =>
  clear BC HBD b0 r0 hb0
  obtain ⟨hq, b1, r1, hb1⟩ := hcut
  generalize wc = W1 at *
  by_cases hp : bd = true ∧ 0 < nn
  · have e : (bd && decide (0 < nn)) = true := by rw [hp.1, decide_eq_true hp.2]; rfl
    rw [e] at hq
    subst hq
    have HP : Hid (bd = true ∧ 0 < nn) := hp
    have d1 := (r1.cell 1).trans (show _ = some (.int .i64 (at' : Int)) from rfl)
    clear hp e
    go_wp2_with fail
    refine (GU.out _ _ _).mono ?_
    rintro e W9 ⟨hf, rfl⟩
    unfold fault at hf
    subst hf
    refine ⟨rfl, ?_⟩
    unfold TrOk
    rw [if_pos HP.out]
    exact ⟨rfl, hb1⟩
  have e : (bd && decide (0 < nn)) = false := by
    cases bd
    · rfl
    · exact decide_eq_false fun h => hp ⟨rfl, h⟩
  rw [e] at hq
  subst hq
  have HP : Hid (¬ (bd = true ∧ 0 < nn)) := hp
  clear hp e
  go_upto_region 3 with fail
  go_cut [21] (fun q wx => q = .bool (decide (nn < mi)) ∧ Below W1.heap.size W1 wx)
  case first =>
    have s0 : SQ w m ds b off n k at' W1 W1.drew := ⟨b1.drew, r1.drew, (Below.refl _ _).drew⟩
    refine wp_region_held (S := SQ w m ds b off n k at' W1) (by kernel_rfl) ?_
    refine takeH (i := 0) (v := .pointer (some ⟨m, 0, none⟩)) ⟨#[.pointer (some ⟨m, 0, none⟩), .agg ds, undef, .pointer (some ⟨w.heap.size, 0, none⟩), .slice none 0 0, u5, u6, u7, u8, u9, u10, .bool false, u12, u13, u14, u15, u16, .pointer (some ⟨m, 0, none⟩), u18, u19, u20, u21, u22, u23, u24, u25, u26, u27, u28, u29, u30, u31], []⟩ rfl (by kernel_rfl) (by kernel_rfl) (by kernel_rfl) (fun _ _ _ h => h) (.inl ⟨by kernel_rfl, fun _ _ => by kernel_rfl⟩) s0 (by kernel_rfl) ?_
    refine takeH (i := 2) (v := .agg ds.toList.toArray) ⟨#[.pointer (some ⟨m, 0, none⟩), .agg ds, undef, .pointer (some ⟨w.heap.size, 0, none⟩), .slice none 0 0, u5, u6, u7, u8, u9, u10, .bool false, u12, u13, u14, u15, u16, .pointer (some ⟨m, 0, none⟩), u18, .agg ds.toList.toArray, u20, u21, u22, u23, u24, u25, u26, u27, u28, u29, u30, u31], []⟩ rfl (by kernel_rfl) (by kernel_rfl) (by kernel_rfl) (fun _ _ _ h => h) (yieldsIf_load_mid (by kernel_rfl) 25 (.tmp 3) rfl w.heap.size 0 (by kernel_rfl) ds.toList _ (fun v hv => Blk.range hv.bb) Tryd.underlying25 rfl (by rw [Array.length_toList, HS.out]; exact Tryd.infoCart)) s0 (by kernel_rfl) ?_
    refine wpAnyH_all (rs := [1]) (by kernel_rfl) (by simp) ?_
    intro i hi
    obtain rfl : i = 1 := by simpa using hi
    refine wpOp_contract (f := 63) rfl (by kernel_rfl) (by kernel_rfl) (LC.out _ s0.rr) ⟨#[.pointer (some ⟨m, 0, none⟩), .agg ds, undef, .pointer (some ⟨w.heap.size, 0, none⟩), .slice none 0 0, u5, u6, u7, u8, u9, u10, .bool false, u12, u13, u14, u15, u16, .pointer (some ⟨m, 0, none⟩), .int .i64 (nn : Nat), .agg ds.toList.toArray, u20, u21, u22, u23, u24, u25, u26, u27, u28, u29, u30, u31], []⟩ (by kernel_rfl) ?_
    intro Wq hbq
    have s1 := s0.on hbq
    clear hi
    refine ⟨s1, ?_⟩
    refine wpAnyH_all (rs := [3]) (by kernel_rfl) (by simp) ?_
    intro i hi
    obtain rfl : i = 3 := by simpa using hi
    refine wpOp_contract (f := 65) rfl (by kernel_rfl) (by kernel_rfl) (EC.out _) ⟨#[.pointer (some ⟨m, 0, none⟩), .agg ds, undef, .pointer (some ⟨w.heap.size, 0, none⟩), .slice none 0 0, u5, u6, u7, u8, u9, u10, .bool false, u12, u13, u14, u15, u16, .pointer (some ⟨m, 0, none⟩), .int .i64 (nn : Nat), .agg ds.toList.toArray, .int .i64 (mi : Nat), u21, u22, u23, u24, u25, u26, u27, u28, u29, u30, u31], []⟩ (by kernel_rfl) ?_
    intro Wr hbr
    have s2 := s1.on hbr
    clear hi
    refine ⟨s2, ?_⟩
    refine takeH (i := 4) (v := .bool (decide ((nn : Int) < (mi : Int)))) ⟨#[.pointer (some ⟨m, 0, none⟩), .agg ds, undef, .pointer (some ⟨w.heap.size, 0, none⟩), .slice none 0 0, u5, u6, u7, u8, u9, u10, .bool false, u12, u13, u14, u15, u16, .pointer (some ⟨m, 0, none⟩), .int .i64 (nn : Nat), .agg ds.toList.toArray, .int .i64 (mi : Nat), .bool (decide ((nn : Int) < (mi : Int))), u22, u23, u24, u25, u26, u27, u28, u29, u30, u31], []⟩ rfl (by kernel_rfl) (by kernel_rfl) (by kernel_rfl) (fun _ _ _ h => h) (.inl ⟨by kernel_rfl, fun _ _ => by kernel_rfl⟩) s2 (by kernel_rfl) ?_
    refine wpAnyH_done (by kernel_rfl) ?_ _
    go_wp2
    go_meet
    exact ⟨rfl, s2.bl⟩
  case rest =>
  obtain ⟨hq, hbc⟩ := hcut
  have r2 := r1.below r1.lt hbc
  have hb2 := hb1.trans (hbc.mono hb1.size)
  have hs2 := hb2.size
  generalize wc = W2 at *
  clear b1 r1 hb1 hbc EC
  by_cases hlt : nn < mi
  · have e : decide (nn < mi) = true := decide_eq_true hlt
    rw [e] at hq
    subst hq
    have HLT : Hid (nn < mi) := hlt
    have d0 := (r2.cell 0).trans (show _ = some (.slice (some ⟨b, off, none⟩) n k) from rfl)
    clear hlt e
    go_wp2_with fail
    refine (GU.out _ _ _).mono ?_
    rintro e W9 ⟨hf, rfl⟩
    unfold fault at hf
    subst hf
    refine ⟨rfl, ?_⟩
    unfold TrOk
    rw [if_neg HP.out, if_pos HLT.out]
    exact ⟨rfl, hb2⟩
  have e : decide (nn < mi) = false := decide_eq_false hlt
  rw [e] at hq
  subst hq
  have HLT : Hid (¬ nn < mi) := hlt
  clear hlt e
  go_upto_region 5 with fail
  have LC2 : Hid (Calls _ _ _ _ _) := LC.out W2 r2
  go_wp2_with fail
  refine LC2.out.mono ?_
  rintro e W3 ⟨rfl, hb3⟩
  have r3 := r2.below r2.lt hb3
  have hb03 := hb2.trans (hb3.mono hb2.size)
  have TC3 : Hid (Calls _ _ _ _ _) := TC.out W3 hb03 r3
  go_wp2_with fail
  refine TC3.out.mono ?_
  rintro e W4 ⟨a', k', rfl, rf, b4, t4⟩
  go_wp2
  go_ret
  unfold TrOk
  rw [if_neg HP.out, if_neg HLT.out]
  exact ⟨a', k', rfl, rf.mono hb03.size, b4, (Tk.of hb03 HM.out).trans t4⟩
end Go.Proofs.YtilhlbnicmmaoaaDoor
