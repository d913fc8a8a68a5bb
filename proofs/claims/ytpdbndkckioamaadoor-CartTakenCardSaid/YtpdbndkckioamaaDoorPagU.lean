/-
  What the reader's take and takeRest do with any image; conditions: the reader lies in a block of its own, the image's bytes in its slice.
  What read answers of every image; conditions: the image lies in its slice.
  What Parse answers of every image; conditions: the image lies in its slice.
-/
import Derived.Test.YtpdbndkckioamaaDoorPagW
import Derived.Deep.RegionHeld3
import Derived.BigQuiet
import Derived.Test.YtpdbndkckioamaaDoorPagV
import Derived.Defers
import Derived.Recover
set_option linter.unusedSimpArgs false
set_option linter.unusedVariables false
namespace Go.Proofs.YtpdbndkckioamaaDoor
open Go.RowKit
/-- A call that gave up. -/
def FaOk (x p : Int) (w : World) (e : Ending) (w' : World) : Prop := fault e x p ∧ Below w.heap.size w w'
set_option maxHeartbeats 1000000 in
theorem take_bad (m : Nat) (a : Option Addr) (n k at' nn : Nat) (hn : n ≤ 2097152) (ha : at' ≤ n) (hlt : n - at' < nn) (w : World) (bl : Blk w m #[.slice a n k, .int .i64 at'] 77) :
    Calls Tryd.prog 44 #[.pointer (some ⟨m, 0, none⟩), .int .i64 nn] w (FaOk 11 (n : Nat) w) := by
  have GU : Hid (∀ (x p : Int) (W : World), Calls _ _ _ _ _) := fun x p W => giveUp_any x p W
  have LC : Hid (Calls _ _ _ _ _) := left_any m a n k at' hn ha w bl
  go_enter Tryd.func44, Tryd.ntmps44
  go_wp2_with fail
  refine LC.out.mono ?_
  rintro e W1 ⟨rfl, j, hj⟩
  have hb1 : Below w.heap.size w W1 := by rw [hj]; exact below_draws (Below.refl _ _) _
  have b1 : Blk W1 m #[.slice a n k, .int .i64 at'] 77 := bl.below bl.lt hb1
  clear hj LC bl
  have d0 := (b1.cell 0).trans (show _ = some (.slice a n k) from rfl)
  have hlt' : ((n - at' : Nat) : Int) < (nn : Int) := by omega
  go_wp2_with fail
  refine (GU.out _ _ _).mono ?_
  rintro e W9 ⟨hf, rfl⟩
  unfold fault at hf
  subst hf
  exact ⟨rfl, rfl, hb1⟩
/-- What takeRest is to answer. -/
def TrOk (m b off n k at' : Nat) (bd : Bool) (mi nn : Nat) (l : List Nat) (w : World) (e : Ending) (w' : World) : Prop :=
  if bd = true ∧ 0 < nn then FaOk 15 (at' : Nat) w e w' else if nn < mi then FaOk 11 (n : Nat) w e w' else TakeOk m b off n k (at' + nn) nn l w e w'
set_option maxRecDepth 100000 in
set_option maxHeartbeats 3200000 in
theorem takeRest_g (ds : Array Value) (c : CF) (C : IsC ds c) (bd : Bool) (hbd : decide (c.fmt = 2 ∧ c.misc = 0) = bd) (m b off n k at' nn mi : Nat) (cm : leastV c = (mi : Int)) (I : List Nat) (hI : I.length = n) (hn : n ≤ 2097152) (hk : n ≤ k) (ha : at' + nn = n) (w : World)
    (bl : Blk w m #[.slice (some ⟨b, off, none⟩) n k, .int .i64 at'] 77) (hr : Row w (some ⟨b, off, none⟩) I) :
    Calls Tryd.prog 46 #[.pointer (some ⟨m, 0, none⟩), .agg ds] w (TrOk m b off n k at' bd mi nn ((I.drop at').take nn) w) := by
  have GU : Hid (∀ (x p : Int) (W : World), Calls _ _ _ _ _) := fun x p W => giveUp_any x p W
  have HS : Hid (ds.size = 19) := C.size
  have hsz := C.size
  have HM : Hid (m < w.heap.size) := bl.lt
  have LC : Hid (∀ W : World, Blk W m #[.slice (some ⟨b, off, none⟩) n k, .int .i64 at'] 77 → Calls Tryd.prog 63 #[.pointer (some ⟨m, 0, none⟩)] W fun e w' => e = .returned (.int .i64 (nn : Nat)) ∧ Below W.heap.size W w') := fun W bW => by
    refine (left_any m (some ⟨b, off, none⟩) n k at' hn (by omega) W bW).mono ?_
    rintro e w' ⟨rfl, j, rfl⟩
    exact ⟨by rw [show n - at' = nn by omega], below_draws (Below.refl _ _) _⟩
  have TC : Hid (∀ W : World, Below w.heap.size w W → Blk W m #[.slice (some ⟨b, off, none⟩) n k, .int .i64 at'] 77 → Calls _ _ _ _ _) := fun W hb bW => take_any m b off n k at' nn I hI hn hk (by omega) W bW (hr.below hb)
  have BC : Hid (∀ W : World, Calls _ _ _ _ _) := fun W => barred_any ds c C W
  have EC : Hid (∀ W : World, Calls Tryd.prog 65 #[.agg ds.toList.toArray] W fun e w' => e = .returned (.int .i64 (mi : Nat)) ∧ Below W.heap.size W w') := fun W => by
    rw [Array.toArray_toList]
    have := least_any ds c C W
    rwa [cm] at this
  have HN : Hid (n - at' = nn) := by unfold Hid; omega
  have HBD : Hid (decide (c.fmt = 2 ∧ c.misc = 0) = bd) := hbd
  clear hbd cm
  generalize (I.drop at').take nn = l at *
  go_enter Tryd.func46, Tryd.ntmps46
  go_upto_region 1 with fail
  have b0 : Blk (w.alloc (.cells ds 25)) w.heap.size ds 25 := Blk.new w ds _
  have hb0 : Below w.heap.size w (w.alloc (.cells ds 25)) := (Below.refl _ _).alloc (Nat.le_refl _) _
  have r0 : Blk (w.alloc (.cells ds 25)) m #[.slice (some ⟨b, off, none⟩) n k, .int .i64 at'] 77 := bl.old _
  generalize w.alloc (.cells ds 25) = W0 at *
  clear hsz bl hr C
  go_cut [11] (fun q wx => q = .bool (bd && decide (0 < nn)) ∧ Blk wx w.heap.size ds 25 ∧ Blk wx m #[.slice (some ⟨b, off, none⟩) n k, .int .i64 at'] 77 ∧ Below w.heap.size w wx)
  case first =>
    go_wp2_with (refine wpList_load_mid rfl 25 _ rfl w.heap.size 0 rfl ds.toList _ b0.range Tryd.underlying25 rfl (by rw [Array.length_toList, HS.out]; exact Tryd.infoCart) ?_; rw [Array.toArray_toList])
    refine (BC.out _).mono ?_
    rintro e W1 ⟨rfl, hb1⟩
    rw [HBD.out]
    have b1 := b0.below b0.lt hb1
    have r1 := r0.below r0.lt hb1
    have hb01 := hb0.trans (hb1.mono hb0.size)
    cases bd
    · go_wp2
      go_meet
      exact ⟨rfl, b1, r1, hb01⟩
    · have LC1 : Hid (Calls _ _ _ _ _) := LC.out W1 r1
      by_cases hz : 0 < nn
      · have hz' : (0 : Int) < (nn : Int) := by omega
        have HZ : Hid (decide (0 < nn) = true) := decide_eq_true hz
        go_wp2_with fail
        refine LC1.out.mono ?_
        rintro e W2 ⟨rfl, hb2⟩
        go_wp2
        go_meet
        exact ⟨by rw [HZ.out]; rfl, b1.below b1.lt hb2, r1.below r1.lt hb2, hb01.trans (hb2.mono hb01.size)⟩
      · have HZ : Hid (decide (0 < nn) = false) := decide_eq_false hz
        have hz0 : nn = 0 := by omega
        have LC2 : Hid (Calls _ _ _ _ _) := LC1.out
        rw [hz0] at LC2
        clear hz hz0 LC1
        go_wp2_with fail
        refine LC2.out.mono ?_
        rintro e W2 ⟨rfl, hb2⟩
        go_wp2
        go_meet
        exact ⟨by rw [HZ.out]; rfl, b1.below b1.lt hb2, r1.below r1.lt hb2, hb01.trans (hb2.mono hb01.size)⟩
  case rest =>
  clear BC HBD b0 r0 hb0
  obtain ⟨hq, b1, r1, hb1⟩ := hcut
  generalize wc = W1 at *
  by_cases hp : bd = true ∧ 0 < nn
  · have e : (bd && decide (0 < nn)) = true := by rw [hp.1, decide_eq_true hp.2]; rfl
    rw [e] at hq
    subst hq
    have HP : Hid (bd = true ∧ 0 < nn) := hp
    have d1 := (r1.cell 1).trans (show _ = some (.int .i64 (at' : Int)) from rfl)
    clear hp e
    go_wp2_with fail
    refine (GU.out _ _ _).mono ?_
    rintro e W9 ⟨hf, rfl⟩
    unfold fault at hf
    subst hf
    refine ⟨rfl, ?_⟩
    unfold TrOk
    rw [if_pos HP.out]
    exact ⟨rfl, hb1⟩
  have e : (bd && decide (0 < nn)) = false := by
    cases bd
    · rfl
    · exact decide_eq_false fun h => hp ⟨rfl, h⟩
  rw [e] at hq
  subst hq
  have HP : Hid (¬ (bd = true ∧ 0 < nn)) := hp
  clear hp e
  go_upto_region 3 with fail
  go_cut [21] (fun q wx => q = .bool (decide (nn < mi)) ∧ Below W1.heap.size W1 wx)
  case first =>
    have s0 : SQ w m ds b off n k at' W1 W1.drew := ⟨b1.drew, r1.drew, (Below.refl _ _).drew⟩
    refine wp_region_held (S := SQ w m ds b off n k at' W1) (by kernel_rfl) ?_
    refine takeH (i := 0) (v := .pointer (some ⟨m, 0, none⟩)) ⟨#[.pointer (some ⟨m, 0, none⟩), .agg ds, undef, .pointer (some ⟨w.heap.size, 0, none⟩), .slice none 0 0, u5, u6, u7, u8, u9, u10, .bool false, u12, u13, u14, u15, u16, .pointer (some ⟨m, 0, none⟩), u18, u19, u20, u21, u22, u23, u24, u25, u26, u27, u28, u29, u30, u31], []⟩ rfl (by kernel_rfl) (by kernel_rfl) (by kernel_rfl) (fun _ _ _ h => h) (.inl ⟨by kernel_rfl, fun _ _ => by kernel_rfl⟩) s0 (by kernel_rfl) ?_
    refine takeH (i := 2) (v := .agg ds.toList.toArray) ⟨#[.pointer (some ⟨m, 0, none⟩), .agg ds, undef, .pointer (some ⟨w.heap.size, 0, none⟩), .slice none 0 0, u5, u6, u7, u8, u9, u10, .bool false, u12, u13, u14, u15, u16, .pointer (some ⟨m, 0, none⟩), u18, .agg ds.toList.toArray, u20, u21, u22, u23, u24, u25, u26, u27, u28, u29, u30, u31], []⟩ rfl (by kernel_rfl) (by kernel_rfl) (by kernel_rfl) (fun _ _ _ h => h) (yieldsIf_load_mid (by kernel_rfl) 25 (.tmp 3) rfl w.heap.size 0 (by kernel_rfl) ds.toList _ (fun v hv => Blk.range hv.bb) Tryd.underlying25 rfl (by rw [Array.length_toList, HS.out]; exact Tryd.infoCart)) s0 (by kernel_rfl) ?_
    refine wpAnyH_all (rs := [1]) (by kernel_rfl) (by simp) ?_
    intro i hi
    obtain rfl : i = 1 := by simpa using hi
    refine wpOp_contract (f := 63) rfl (by kernel_rfl) (by kernel_rfl) (LC.out _ s0.rr) ⟨#[.pointer (some ⟨m, 0, none⟩), .agg ds, undef, .pointer (some ⟨w.heap.size, 0, none⟩), .slice none 0 0, u5, u6, u7, u8, u9, u10, .bool false, u12, u13, u14, u15, u16, .pointer (some ⟨m, 0, none⟩), .int .i64 (nn : Nat), .agg ds.toList.toArray, u20, u21, u22, u23, u24, u25, u26, u27, u28, u29, u30, u31], []⟩ (by kernel_rfl) ?_
    intro Wq hbq
    have s1 := s0.on hbq
    clear hi
    refine ⟨s1, ?_⟩
    refine wpAnyH_all (rs := [3]) (by kernel_rfl) (by simp) ?_
    intro i hi
    obtain rfl : i = 3 := by simpa using hi
    refine wpOp_contract (f := 65) rfl (by kernel_rfl) (by kernel_rfl) (EC.out _) ⟨#[.pointer (some ⟨m, 0, none⟩), .agg ds, undef, .pointer (some ⟨w.heap.size, 0, none⟩), .slice none 0 0, u5, u6, u7, u8, u9, u10, .bool false, u12, u13, u14, u15, u16, .pointer (some ⟨m, 0, none⟩), .int .i64 (nn : Nat), .agg ds.toList.toArray, .int .i64 (mi : Nat), u21, u22, u23, u24, u25, u26, u27, u28, u29, u30, u31], []⟩ (by kernel_rfl) ?_
    intro Wr hbr
    have s2 := s1.on hbr
    clear hi
    refine ⟨s2, ?_⟩
    refine takeH (i := 4) (v := .bool (decide ((nn : Int) < (mi : Int)))) ⟨#[.pointer (some ⟨m, 0, none⟩), .agg ds, undef, .pointer (some ⟨w.heap.size, 0, none⟩), .slice none 0 0, u5, u6, u7, u8, u9, u10, .bool false, u12, u13, u14, u15, u16, .pointer (some ⟨m, 0, none⟩), .int .i64 (nn : Nat), .agg ds.toList.toArray, .int .i64 (mi : Nat), .bool (decide ((nn : Int) < (mi : Int))), u22, u23, u24, u25, u26, u27, u28, u29, u30, u31], []⟩ rfl (by kernel_rfl) (by kernel_rfl) (by kernel_rfl) (fun _ _ _ h => h) (.inl ⟨by kernel_rfl, fun _ _ => by kernel_rfl⟩) s2 (by kernel_rfl) ?_
    refine wpAnyH_done (by kernel_rfl) ?_ _
    go_wp2
    go_meet
    exact ⟨rfl, s2.bl⟩
  case rest =>
  obtain ⟨hq, hbc⟩ := hcut
  have r2 := r1.below r1.lt hbc
  have hb2 := hb1.trans (hbc.mono hb1.size)
  have hs2 := hb2.size
  generalize wc = W2 at *
  clear b1 r1 hb1 hbc EC
  by_cases hlt : nn < mi
  · have e : decide (nn < mi) = true := decide_eq_true hlt
    rw [e] at hq
    subst hq
    have HLT : Hid (nn < mi) := hlt
    have d0 := (r2.cell 0).trans (show _ = some (.slice (some ⟨b, off, none⟩) n k) from rfl)
    clear hlt e
    go_wp2_with fail
    refine (GU.out _ _ _).mono ?_
    rintro e W9 ⟨hf, rfl⟩
    unfold fault at hf
    subst hf
    refine ⟨rfl, ?_⟩
    unfold TrOk
    rw [if_neg HP.out, if_pos HLT.out]
    exact ⟨rfl, hb2⟩
  have e : decide (nn < mi) = false := decide_eq_false hlt
  rw [e] at hq
  subst hq
  have HLT : Hid (¬ nn < mi) := hlt
  clear hlt e
  go_upto_region 5 with fail
  have LC2 : Hid (Calls _ _ _ _ _) := LC.out W2 r2
  go_wp2_with fail
  refine LC2.out.mono ?_
  rintro e W3 ⟨rfl, hb3⟩
  have r3 := r2.below r2.lt hb3
  have hb03 := hb2.trans (hb3.mono hb2.size)
  have TC3 : Hid (Calls _ _ _ _ _) := TC.out W3 hb03 r3
  go_wp2_with fail
  refine TC3.out.mono ?_
  rintro e W4 ⟨a', k', rfl, rf, b4, t4⟩
  go_wp2
  go_ret
  unfold TrOk
  rw [if_neg HP.out, if_neg HLT.out]
  exact ⟨a', k', rfl, rf.mono hb03.size, b4, (Tk.of hb03 HM.out).trans t4⟩
end Go.Proofs.YtpdbndkckioamaaDoor
namespace Go.Proofs.YtpdbndkckioamaaDoor
open Go.RowKit
/-- What read is to answer of every image. -/
def ReG (L : List Nat) (w : World) (e : Ending) (w' : World) : Prop := if (pz L).1 ≠ 0 then FaOk ((pz L).1 : Nat) ((pz L).2 : Nat) w e w' else ReOk (pC L) (pT L) (pP L) (pQ L) (pR L) w e w'
theorem ReG.bad {L : List Nat} {w w' : World} {e : Ending} {x p : Nat} (h : pz L = (x, p)) (hx : x ≠ 0) (hb : Below w.heap.size w w') (hf : fault e (x : Nat) (p : Nat)) : ReG L w e w' := by
  unfold ReG
  rw [if_pos (by rw [h]; exact hx), h]
  exact ⟨hf, hb⟩
theorem ReG.good {L : List Nat} {w w' : World} {e : Ending} (h : (pz L).1 = 0) (hr : ReOk (pC L) (pT L) (pP L) (pQ L) (pR L) w e w') : ReG L w e w' := by
  unfold ReG
  rw [if_neg (by rw [h]; exact fun x => x rfl)]
  exact hr
theorem front_ge (L : List Nat) (n : Nat) (h : (frontE L n).1 = 0) : 16 ≤ n := by
  apply Classical.byContradiction
  intro hn
  unfold frontE at h
  repeat' (split at h)
  all_goals first | omega | (simp at h)
/-- What the error is, case by case. -/
theorem e_cases (h : Hq) (n : Nat) (hb : h.bad = 0) : ((h.prg = 0 ∨ 1048576 < h.prg) → h.e n = (13, 4)) ∧ (¬ (h.prg = 0 ∨ 1048576 < h.prg) → 524288 < h.chr → h.e n = (14, 5)) ∧
    (¬ (h.prg = 0 ∨ 1048576 < h.prg) → ¬ 524288 < h.chr → n < h.fin → h.e n = (11, n)) ∧ (¬ (h.prg = 0 ∨ 1048576 < h.prg) → ¬ 524288 < h.chr → ¬ n < h.fin →
      h.e n = if h.f = 2 ∧ h.b14 % 4 = 0 ∧ h.fin < n then (15, h.fin) else if n - h.fin < h.least then (11, n) else (0, 0)) := by
  unfold Hq.e
  rw [if_neg (c := h.bad ≠ 0) (fun x => x hb)]
  refine ⟨fun h1 => if_pos h1, fun h1 h2 => ?_, fun h1 h2 h3 => ?_, fun h1 h2 h3 => ?_⟩
  · rw [if_neg h1, if_pos h2]
  · rw [if_neg h1, if_neg h2, if_pos h3]
  · rw [if_neg h1, if_neg h2, if_neg h3]
set_option maxRecDepth 100000 in
set_option maxHeartbeats 6400000 in
theorem read_ahead (L : List Nat) (hB : Bytes L) (a : Option Addr) (n k : Nat) (w : World) (hI : L.length = n) (hr : Row w a L) (hbad : 2097152 < n ∨ n ≤ 2097152 ∧ ((frontE L L.length).1 ≠ 0 ∨ (frontE L L.length).1 = 0 ∧ (hdOf L).bad ≠ 0)) :
    Calls Tryd.prog 26 #[.slice a n k] w (ReG L w) := by
  have GU : Hid (∀ (x p : Int) (W : World), Calls _ _ _ _ _) := fun x p W => giveUp_any x p W
  have HI : Hid (L.length = n) := hI
  rcases hbad with hbig | ⟨hmax, hbad⟩
  · have HPZ : Hid (pz L = (1, 0)) := by unfold Hid pz; rw [hI, if_pos hbig]
    have hbig' : (2097152 : Int) < (n : Int) := by omega
    clear hI hr hB
    go_enter Tryd.func26, Tryd.ntmps26
    go_upto_region 1 with fail
    have hb0 : Below w.heap.size w (w.alloc (.cells Z19 25)) := (Below.refl _ _).alloc (Nat.le_refl _) _
    generalize w.alloc (.cells Z19 25) = W0 at *
    go_wp2_with fail
    refine (GU.out _ _ _).mono ?_
    rintro e W9 ⟨hf, rfl⟩
    unfold fault at hf
    subst hf
    exact ⟨rfl, ReG.bad HPZ.out (by decide) hb0 rfl⟩
  · obtain ⟨x, p, HPZ, hx0, RH⟩ : ∃ x p : Nat, Hid (pz L = (x, p)) ∧ x ≠ 0 ∧ Hid (∀ W : World, Below w.heap.size w W → Calls Tryd.prog 41 #[.slice a n k] W (FaOk (x : Nat) (p : Nat) W)) := by
      have nb : ¬ 2097152 < L.length := by omega
      rcases hbad with hf | ⟨hf, hb⟩
      · refine ⟨(frontE L L.length).1, (frontE L L.length).2, ?_, hf, fun W hW => ?_⟩
        · unfold Hid pz; rw [if_neg nb, if_pos hf]
        · refine (readHead_g L hB a n k W hI hmax (hr.below hW)).mono ?_
          rintro e w' ⟨hb, h⟩
          rw [if_pos hf] at h
          exact ⟨h, hb⟩
      · refine ⟨12, (hdOf L).bad, ?_, by decide, fun W hW => ?_⟩
        · unfold Hid pz; rw [if_neg nb, if_neg (fun x => x hf)]; unfold Hq.e; rw [if_pos hb]
        · refine (readHead_g L hB a n k W hI hmax (hr.below hW)).mono ?_
          rintro e w' ⟨hb', h⟩
          rw [if_neg (fun x => x hf), if_pos hb] at h
          exact ⟨h, hb'⟩
    have HX0 : Hid (x ≠ 0) := hx0
    have hbig' : ¬ (2097152 : Int) < (n : Int) := by omega
    clear hI hr hB hbad hx0
    go_enter Tryd.func26, Tryd.ntmps26
    go_upto_region 1 with fail
    have hb0 : Below w.heap.size w (w.alloc (.cells Z19 25)) := (Below.refl _ _).alloc (Nat.le_refl _) _
    generalize w.alloc (.cells Z19 25) = W0 at *
    go_wp2_with fail
    refine (RH.out _ hb0).mono ?_
    rintro e W9 ⟨hf, hb9⟩
    unfold fault at hf
    subst hf
    exact ⟨rfl, ReG.bad HPZ.out HX0.out (hb0.trans (hb9.mono hb0.size)) rfl⟩
set_option maxRecDepth 100000 in
set_option maxHeartbeats 6400000 in
theorem read_on (L : List Nat) (hB : Bytes L) (b off n k : Nat) (w : World) (hI : L.length = n) (hmax : n ≤ 2097152) (hk : n ≤ k) (hr : Row w (some ⟨b, off, none⟩) L) (h0 : (frontE L L.length).1 = 0) (hbd0 : (hdOf L).bad = 0) :
    Calls Tryd.prog 26 #[.slice (some ⟨b, off, none⟩) n k] w (ReG L w) := by
  have GU : Hid (∀ (x p : Int) (W : World), Calls _ _ _ _ _) := fun x p W => giveUp_any x p W
  have HI : Hid (L.length = n) := hI
  have hn16 : 16 ≤ n := front_ge L n (by rw [← hI]; exact h0)
  have RW : Hid (∀ W : World, Below w.heap.size w W → Row W (some ⟨b, off, none⟩) L) := fun W hb => hr.below hb
  have HKO : Hid ((hdOf L).Ok) := hd_ok L hB
  have HPE : Hid (pz L = (hdOf L).e n) := by unfold Hid pz; rw [hI, if_neg (by omega), if_neg (by rw [← hI]; exact fun x => x h0)]
  have RH : Hid (∀ W : World, Below w.heap.size w W → Calls Tryd.prog 41 #[.slice (some ⟨b, off, none⟩) n k] W fun e w' => e = .returned (.agg (hv (hdOf L))) ∧ Below W.heap.size W w') := fun W hW => by
    refine (readHead_g L hB (some ⟨b, off, none⟩) n k W hI hmax (hr.below hW)).mono ?_
    rintro e w' ⟨hb, h⟩
    rw [if_neg (fun x => x h0), if_neg (fun x => x hbd0)] at h
    exact ⟨h, hb⟩
  have HC0 : Hid (pC L = if (pz L).1 = 0 then (hdOf L).cf (hdOf L).cr (hdOf L).tr (hdOf L).prg (hdOf L).chr (n - (hdOf L).fin) else noC) := by unfold Hid pC; rw [hI]
  have HT0 : Hid (((pT L = if (pz L).1 = 0 then (L.drop 16).take (hdOf L).tr else []) ∧ (pP L = if (pz L).1 = 0 then (L.drop (16 + (hdOf L).tr)).take (hdOf L).prg else [])) ∧ (pQ L = if (pz L).1 = 0 then (L.drop (16 + (hdOf L).tr + (hdOf L).prg)).take (hdOf L).chr else []) ∧ (pR L = if (pz L).1 = 0 then (L.drop (hdOf L).fin).take (n - (hdOf L).fin) else [])) := by
    refine ⟨⟨rfl, rfl⟩, rfl, ?_⟩
    unfold pR; rw [hI]
  obtain ⟨H, hH⟩ : ∃ H, hdOf L = H := ⟨_, rfl⟩
  rw [hH] at HKO HPE RH HC0 HT0 hbd0
  have HE : Hid (((H.prg = 0 ∨ 1048576 < H.prg) → pz L = (13, 4)) ∧ (¬ (H.prg = 0 ∨ 1048576 < H.prg) → 524288 < H.chr → pz L = (14, 5)) ∧ True ∧ (n < H.fin → ¬ (H.prg = 0 ∨ 1048576 < H.prg) → ¬ 524288 < H.chr → pz L = (11, n)) ∧ (¬ (H.prg = 0 ∨ 1048576 < H.prg) → ¬ 524288 < H.chr → ¬ n < H.fin → pz L = if H.f = 2 ∧ H.b14 % 4 = 0 ∧ H.fin < n then (15, H.fin) else if n - H.fin < H.least then (11, n) else (0, 0))) := by
    have E := e_cases H n hbd0
    rw [← HPE.out] at E
    exact ⟨E.1, E.2.1, trivial, fun a b c => E.2.2.1 b c a, E.2.2.2⟩
  clear hI hr hB h0 hbd0 hH HPE
  obtain ⟨hs, hhs⟩ : ∃ hs, hs = hv H := ⟨_, rfl⟩
  have HHS : Hid (hs = hv H) := hhs
  rw [← hhs] at RH
  have HZ : Hid (hs.size = 16 ∧ hs.all (·.oneCell') = true) := by rw [hhs]; exact ⟨rfl, vals_one' _⟩
  clear hhs
  have FCA : Hid (∀ W : World, Calls _ _ _ _ _) := fun W => fields_g H HKO.out hs HHS.out W
  have SCA : Hid (∀ W : World, Calls _ _ _ _ _) := fun W => sizes_g H HKO.out hs HHS.out W
  obtain ⟨c, hc⟩ : ∃ c, c = H.cf H.cr0 0 0 0 0 := ⟨_, rfl⟩
  have HCD : Hid (c = H.cf H.cr0 0 0 0 0) := hc
  rw [← hc] at FCA
  obtain ⟨nt, hnt⟩ : ∃ nt, H.tr = nt := ⟨_, rfl⟩
  obtain ⟨np, hnp⟩ : ∃ np, H.prg = np := ⟨_, rfl⟩
  obtain ⟨nq, hnq⟩ : ∃ nq, H.chr = nq := ⟨_, rfl⟩
  have HLS : Hid (H.fin = 16 + nt + np + nq) := by unfold Hid Hq.fin; rw [hnt, hnp, hnq]
  have HNT : Hid (((H.tr = nt ∧ H.prg = np) ∧ H.chr = nq) ∧ nt = if H.b6 / 4 % 2 = 1 then 512 else 0) := ⟨⟨⟨hnt, hnp⟩, hnq⟩, by rw [← hnt]; rfl⟩
  rw [hnp, hnq] at SCA HE
  rw [hnt, hnp, hnq] at HC0 HT0
  have H6 : Hid (hs[6]? = some (.int .u8 ((H.b6 : Nat) : Int))) := by unfold Hid; rw [HHS.out]; rfl
  have v4 := (by_bit H.b6 HKO.out.k6).2.2.1
  clear hc hnt hnp hnq
  have hbig : ¬ 2097152 < n := by omega
  go_enter Tryd.func26, Tryd.ntmps26
  go_upto_region 1 with fail
  have z0 : Blk (w.alloc (.cells Z19 25)) w.heap.size Z19 25 := Blk.new w Z19 _
  have hb0 : Below w.heap.size w (w.alloc (.cells Z19 25)) := (Below.refl _ _).alloc (Nat.le_refl _) _
  generalize w.alloc (.cells Z19 25) = W0 at *
  go_upto_region 3 with fail
  go_cut [3] (fun p wx => ∃ g, p = .pointer (some ⟨g, 0, none⟩) ∧ Blk wx g hs 67 ∧ Blk wx w.heap.size Z19 25 ∧ w.heap.size < g ∧ Below w.heap.size w wx)
  case first =>
    go_wp2_with (first
      | (go_at_call 41; go_must (refine (RH.out _ hb0).mono ?_; rintro e W1 ⟨rfl, hb1⟩; have z1 := z0.below z0.lt hb1; have hbw1 := hb0.trans (hb1.mono hb0.size); have hl1 := z1.lt))
      | (refine wpList_store_mid rfl 67 _ _ rfl _ 0 hs rfl rfl ((Blk.new _ _ _).there _ (by first | exact HZ.out.1.symm | (rw [HZ.out.1]; rfl))) (by rw [HZ.out.1]; exact infoHdr) HZ.out.2 ?_))
    go_meet
    have hl : Below W1.heap.size W1 ((W1.alloc (.cells Z16 67)).setCells W1.heap.size 0 hs.toList) := setCells_below (Nat.le_refl _) _ _ _ _ ((Below.refl _ _).alloc (Nat.le_refl _) _)
    exact ⟨_, rfl, (Blk.new W1 Z16 67).setAll (L := hs) HZ.out.1, z1.below z1.lt hl, hl1, hbw1.trans (hl.mono hbw1.size)⟩
  case rest =>
  clear RH z0 hb0
  obtain ⟨gh, rfl, bh, z1, o1, hb1⟩ := hcut
  generalize wc = W1 at *
  go_upto_region 4 with fail
  have FC : Hid (Calls _ _ _ _ _) := FCA.out W1
  have HC : Hid ((cN c).size = 19 ∧ (cN c).all (·.oneCell') = true) := ⟨rfl, by simp [cN, Value.oneCell']⟩
  obtain ⟨CC, hCC⟩ : ∃ CC, CC = cN c := ⟨_, rfl⟩
  have HCC : Hid (CC = cN c) := hCC
  rw [← hCC] at FC HC
  clear hCC FCA
  go_cut [4] (fun p wx => ∃ g, p = .pointer (some ⟨g, 0, none⟩) ∧ Blk wx g CC 25 ∧ Blk wx gh hs 67 ∧ Blk wx w.heap.size Z19 25 ∧ gh < g ∧ Below w.heap.size w wx)
  case first =>
    go_wp2_with (first
      | (refine wpList_load_mid rfl 67 _ rfl gh 0 rfl hs.toList _ bh.range Tryd.underlying67 rfl (by rw [Array.length_toList, HZ.out.1]; exact infoHdr) ?_; rw [Array.toArray_toList])
      | (go_at_call 42; go_must (refine FC.out.mono ?_; rintro e W2 ⟨rfl, hb2⟩; have z2 := z1.below z1.lt hb2; have bh2 := bh.below bh.lt hb2; have hbw2 := hb1.trans (hb2.mono hb1.size); have hl2 := bh2.lt))
      | (refine wpList_store_mid rfl 25 _ _ rfl _ 0 CC rfl rfl ((Blk.new _ _ _).there _ (by first | exact HC.out.1.symm | (rw [HC.out.1]; rfl))) (by rw [HC.out.1]; exact Tryd.infoCart) HC.out.2 ?_))
    go_meet
    have hl : Below W2.heap.size W2 ((W2.alloc (.cells Z19 25)).setCells W2.heap.size 0 CC.toList) := setCells_below (Nat.le_refl _) _ _ _ _ ((Below.refl _ _).alloc (Nat.le_refl _) _)
    exact ⟨_, rfl, (Blk.new W2 Z19 25).setAll (L := CC) HC.out.1, bh2.below bh2.lt hl, z2.below z2.lt hl, hl2, hbw2.trans (hl.mono hbw2.size)⟩
  case rest =>
  clear FC bh z1 hb1
  obtain ⟨gc, rfl, bc, bh, z1, o2, hb1⟩ := hcut
  generalize wc = W2 at *
  go_upto_region 5 with fail
  have SC : Hid (Calls _ _ _ _ _) := SCA.out W2
  go_wp2_with (refine wpList_load_mid rfl 67 _ rfl gh 0 rfl hs.toList _ bh.range Tryd.underlying67 rfl (by rw [Array.length_toList, HZ.out.1]; exact infoHdr) ?_; rw [Array.toArray_toList])
  refine SC.out.mono ?_
  rintro e W3 ⟨rfl, hb3⟩
  have bc3 := bc.below bc.lt hb3
  have bh3 := bh.below bh.lt hb3
  have z3 := z1.below z1.lt hb3
  have hbw3 := hb1.trans (hb3.mono hb1.size)
  clear SC SCA bc bh z1 hb1 hb3
  by_cases hpz : np = 0
  · have HPZ : Hid (pz L = (13, 4)) := HE.out.1 (.inl hpz)
    have hz : ((np : Int) == 0) = true := by rw [hpz]; rfl
    clear hpz
    go_wp2_with fail
    refine (GU.out _ _ _).mono ?_
    rintro e W9 ⟨hf, rfl⟩
    unfold fault at hf
    subst hf
    exact ⟨rfl, ReG.bad HPZ.out (by decide) hbw3 rfl⟩
  by_cases hpb : 1048576 < np
  · have HPZ : Hid (pz L = (13, 4)) := HE.out.1 (.inr hpb)
    have hz : ((np : Int) == 0) = false := by rw [beq_eq_false_iff_ne]; omega
    have hz2 : decide ((1048576 : Int) < (np : Int)) = true := decide_eq_true (by omega)
    clear hpz
    go_wp2_with fail
    refine (GU.out _ _ _).mono ?_
    rintro e W9 ⟨hf, rfl⟩
    unfold fault at hf
    subst hf
    exact ⟨rfl, ReG.bad HPZ.out (by decide) hbw3 rfl⟩
  have HNP : Hid (¬ (np = 0 ∨ 1048576 < np)) := fun h => h.elim hpz hpb
  have hz : ((np : Int) == 0) = false := by rw [beq_eq_false_iff_ne]; omega
  have hz2 : decide ((1048576 : Int) < (np : Int)) = false := by rw [decide_eq_false_iff_not]; omega
  by_cases hqb : 524288 < nq
  · have HPZ : Hid (pz L = (14, 5)) := HE.out.2.1 HNP.out hqb
    clear hpz
    go_wp2_with fail
    refine (GU.out _ _ _).mono ?_
    rintro e W9 ⟨hf, rfl⟩
    unfold fault at hf
    subst hf
    exact ⟨rfl, ReG.bad HPZ.out (by decide) hbw3 rfl⟩
  have HNQ : Hid (¬ 524288 < nq) := hqb
  have HE2 : Hid ((n < H.fin → pz L = (11, n)) ∧ (¬ n < H.fin → pz L = if H.f = 2 ∧ H.b14 % 4 = 0 ∧ H.fin < n then (15, H.fin) else if n - H.fin < H.least then (11, n) else (0, 0))) :=
    ⟨fun h => HE.out.2.2.2.1 h HNP.out HNQ.out, HE.out.2.2.2.2 HNP.out HNQ.out⟩
  have hnpb : np ≤ 1048576 := by omega
  have hnqb : nq ≤ 524288 := by omega
  clear HE
  go_upto_region 11 with fail
  have K0 : Rs w hs CC gh gc W3.heap.size b off n k 16 (W3.alloc (.cells #[.slice (some ⟨b, off, none⟩) n k, .int .i64 16] 77)) :=
    ⟨z3.old _, bh3.old _, bc3.old _, Blk.new W3 _ _, o1, o2, bc3.lt, hbw3.alloc hbw3.size _⟩
  clear z3 bh3 bc3 o1 o2 hbw3 hz hz2 hpz hpb hqb
  generalize W3.alloc (.cells #[.slice (some ⟨b, off, none⟩) n k, .int .i64 16] 77) = W4 at *
  generalize W3.heap.size = m at *
  rw [HCC.out] at K0
  replace K0 : Rs w hs #[.int .i64 c.fmt, .int .i64 c.map, .int .i64 c.sub, .bool c.vert, .bool c.four, .bool c.bat, .int .i64 c.con, .int .i64 c.kind, .int .i64 c.tim, .int .i64 c.dev, .int .i64 c.misc, .int .i64 c.pr, .int .i64 c.pn, .int .i64 c.cr, .int .i64 c.cn, .slice none 0 0, .slice none 0 0, .slice none 0 0, .slice none 0 0] gh gc m b off n k 16 W4 := K0
  have d6 := (K0.h.cell 6).trans H6.out
  have o123 : gc < m := K0.o3
  obtain ⟨y6, hy6⟩ : ∃ y, H.b6 = y := ⟨_, rfl⟩
  have v4b := bool_bit (H.b6 / 4) (bits BinOp.and IntKind.u8 (H.b6 : Int) 4) 4 (by decide) v4
  obtain ⟨bt, hbt⟩ : ∃ bt, decide (H.b6 / 4 % 2 = 1) = bt := ⟨_, rfl⟩
  have HN6 : Hid (nt = if bt = true then 512 else 0) := by
    unfold Hid; rw [HNT.out.2, ← hbt]
    by_cases e : H.b6 / 4 % 2 = 1
    · rw [if_pos e, if_pos (decide_eq_true e)]
    · rw [if_neg e, if_neg (by rw [decide_eq_false e]; decide)]
  rw [hbt] at v4b
  rw [hy6] at d6 v4b
  clear hy6 H6 hbt v4
  have htb : nt ≤ 512 := by rw [HN6.out]; split <;> omega
  go_upto_if 36 with fail
  go_cut [] (fun wx => ∃ aT kT, Rs w hs #[.int .i64 c.fmt, .int .i64 c.map, .int .i64 c.sub, .bool c.vert, .bool c.four, .bool c.bat, .int .i64 c.con, .int .i64 c.kind, .int .i64 c.tim, .int .i64 c.dev, .int .i64 c.misc, .int .i64 c.pr, .int .i64 c.pn, .int .i64 c.cr, .int .i64 c.cn, .slice aT nt kT, .slice none 0 0, .slice none 0 0, .slice none 0 0] gh gc m b off n k (16 + nt) wx ∧ RowF (m + 1) wx aT ((L.drop 16).take nt) ∧ 16 + nt ≤ n)
  case first =>
    cases bt
    · have HT : Hid (nt = 0) := HN6.out
      go_wp2
      go_meet
      refine ⟨none, 0, ?_, ?_, ?_⟩
      · rw [HT.out]; exact K0
      · rw [HT.out]; exact .inl (by simp)
      · rw [HT.out]; exact hn16
    · have HT : Hid (nt = 512) := HN6.out
      by_cases hs512 : n < 528
      · have HPZ : Hid (pz L = (11, n)) := HE2.out.1 (by have := HLS.out; have := HT.out; omega)
        have TB : Hid (Calls _ _ _ _ _) := take_bad m (some ⟨b, off, none⟩) n k 16 512 hmax (by omega) (by omega) W4 K0.r
        have hbK := K0.bl
        clear hs512
        go_wp2_with fail
        refine TB.out.mono ?_
        rintro e W9 ⟨hf, hb9⟩
        unfold fault at hf
        subst hf
        exact ⟨rfl, ReG.bad HPZ.out (by decide) (hbK.trans (hb9.mono hbK.size)) rfl⟩
      · have TC : Hid (Calls _ _ _ _ _) := take_any m b off n k 16 512 L HI.out hmax hk (by omega) W4 K0.r (RW.out _ K0.bl)
        have HGE : Hid (16 + nt ≤ n) := by unfold Hid; rw [HT.out]; omega
        clear hs512
        go_wp2_with fail
        refine TC.out.mono ?_
        rintro e V ⟨aT, kT, rfl, rf, rr, tk⟩
        have KV := K0.took tk rr
        have hsz := K0.r.lt
        have G : RowF (m + 1) V aT ((L.drop 16).take 512) := rf.mono (by omega)
        have dh := (KV.c.cell 15).trans (show _ = some (.slice none 0 0) from rfl)
        have fh := KV.c.free 15
        clear TC rf rr tk
        go_wp2
        go_meet
        refine ⟨aT, kT, ?_, ?_, HGE.out⟩
        · rw [HT.out]
          exact KV.put 15 _ rfl
        · rw [HT.out]
          exact G.put (m := gc) (by omega) 15 _
  case rest =>
  clear K0 d6 v4b
  obtain ⟨aT, kT, K0, FT0, hge⟩ := hcut
  obtain ⟨T, hT⟩ : ∃ T, T = (L.drop 16).take nt := ⟨_, rfl⟩
  have HT : Hid (T = (L.drop 16).take nt) := hT
  rw [← hT] at FT0
  have FT := FT0
  clear hT FT0
  generalize wc = W5 at *
  go_upto_region 13 with fail
  by_cases hsP : n < 16 + nt + np
  · have HPZ : Hid (pz L = (11, n)) := HE2.out.1 (by have := HLS.out; omega)
    have TB : Hid (Calls _ _ _ _ _) := take_bad m (some ⟨b, off, none⟩) n k (16 + nt) np hmax (by omega) (by omega) W5 K0.r
    have hbK := K0.bl
    clear hsP
    go_wp2_with fail
    refine TB.out.mono ?_
    rintro e W9 ⟨hf, hb9⟩
    unfold fault at hf
    subst hf
    exact ⟨rfl, ReG.bad HPZ.out (by decide) (hbK.trans (hb9.mono hbK.size)) rfl⟩
  have TC : Hid (Calls _ _ _ _ _) := take_any m b off n k (16 + nt) np L HI.out hmax hk (by omega) W5 K0.r (RW.out _ K0.bl)
  obtain ⟨P, hP⟩ : ∃ P, P = (L.drop (16 + nt)).take np := ⟨_, rfl⟩
  have HP : Hid (P = (L.drop (16 + nt)).take np) := hP
  rw [← hP] at TC
  clear hP
  go_wp2_with fail
  refine TC.out.mono ?_
  rintro e V5 ⟨aP, kP, rfl, rf, rr, tk⟩
  have KV := K0.took tk rr
  have hsz := K0.r.lt
  have GT := tk.row FT (Nat.lt_succ_self _)
  have GP : RowF (m + 1) V5 aP P := rf.mono (by omega)
  have dh := (KV.c.cell 16).trans (show _ = some (.slice none 0 0) from rfl)
  have fh := KV.c.free 16
  clear TC rf rr tk K0 FT
  go_upto_region 14 with fail
  have K0 := KV.put 16 (.slice aP np kP) (ca' := #[.int .i64 c.fmt, .int .i64 c.map, .int .i64 c.sub, .bool c.vert, .bool c.four, .bool c.bat, .int .i64 c.con, .int .i64 c.kind, .int .i64 c.tim, .int .i64 c.dev, .int .i64 c.misc, .int .i64 c.pr, .int .i64 c.pn, .int .i64 c.cr, .int .i64 c.cn, .slice aT nt kT, .slice aP np kP, .slice none 0 0, .slice none 0 0]) rfl
  have FT := GT.put (m := gc) (by omega) 16 (.slice aP np kP)
  have FP := GP.put (m := gc) (by omega) 16 (.slice aP np kP)
  clear KV dh fh hsz GT GP
  generalize V5.setCell ⟨gc, 16, none⟩ (.slice aP np kP) = W6 at *
  by_cases hsQ : n < 16 + nt + np + nq
  · have HPZ : Hid (pz L = (11, n)) := HE2.out.1 (by have := HLS.out; omega)
    have TB : Hid (Calls _ _ _ _ _) := take_bad m (some ⟨b, off, none⟩) n k (16 + nt + np) nq hmax (by omega) (by omega) W6 K0.r
    have hbK := K0.bl
    clear hsQ
    go_wp2_with fail
    refine TB.out.mono ?_
    rintro e W9 ⟨hf, hb9⟩
    unfold fault at hf
    subst hf
    exact ⟨rfl, ReG.bad HPZ.out (by decide) (hbK.trans (hb9.mono hbK.size)) rfl⟩
  have TC : Hid (Calls _ _ _ _ _) := take_any m b off n k (16 + nt + np) nq L HI.out hmax hk (by omega) W6 K0.r (RW.out _ K0.bl)
  obtain ⟨Q, hQ⟩ : ∃ Q, Q = (L.drop (16 + nt + np)).take nq := ⟨_, rfl⟩
  have HQ : Hid (Q = (L.drop (16 + nt + np)).take nq) := hQ
  rw [← hQ] at TC
  clear hQ
  go_wp2_with fail
  refine TC.out.mono ?_
  rintro e V6 ⟨aQ, kQ, rfl, rf, rr, tk⟩
  have KV := K0.took tk rr
  have hsz := K0.r.lt
  have GT := tk.row FT (Nat.lt_succ_self _)
  have GP := tk.row FP (Nat.lt_succ_self _)
  have GQ : RowF (m + 1) V6 aQ Q := rf.mono (by omega)
  have dh := (KV.c.cell 17).trans (show _ = some (.slice none 0 0) from rfl)
  have fh := KV.c.free 17
  clear TC rf rr tk K0 FT FP
  go_upto_region 15 with fail
  have K0 := KV.put 17 (.slice aQ nq kQ) (ca' := #[.int .i64 c.fmt, .int .i64 c.map, .int .i64 c.sub, .bool c.vert, .bool c.four, .bool c.bat, .int .i64 c.con, .int .i64 c.kind, .int .i64 c.tim, .int .i64 c.dev, .int .i64 c.misc, .int .i64 c.pr, .int .i64 c.pn, .int .i64 c.cr, .int .i64 c.cn, .slice aT nt kT, .slice aP np kP, .slice aQ nq kQ, .slice none 0 0]) rfl
  have FT := GT.put (m := gc) (by omega) 17 (.slice aQ nq kQ)
  have FP := GP.put (m := gc) (by omega) 17 (.slice aQ nq kQ)
  have FQ := GQ.put (m := gc) (by omega) 17 (.slice aQ nq kQ)
  clear KV dh fh hsz GT GP GQ
  generalize V6.setCell ⟨gc, 17, none⟩ (.slice aQ nq kQ) = W7 at *
  have HF14 : Hid (H.f = 0 ∨ H.f = 1 ∨ H.f = 2) := H.f_lt
  obtain ⟨nr, hnr⟩ : ∃ nr, n - H.fin = nr := ⟨_, rfl⟩
  have HNR : Hid (n - H.fin = nr ∧ 16 + nt + np + nq + nr = n) := ⟨hnr, by have := HLS.out; omega⟩
  obtain ⟨cr, hcr⟩ : ∃ cr, H.cr = cr := ⟨_, rfl⟩
  have HCR : Hid (H.cr = cr) := hcr
  have HCF : Hid (c.fmt = (H.f : Int)) := by unfold Hid; rw [HCD.out]; rfl
  have HFIN : Hid (pz L = if H.f = 2 ∧ H.b14 % 4 = 0 ∧ 0 < nr then (15, 16 + nt + np + nq) else if nr < H.least then (11, n) else (0, 0)) := by
    have e := HE2.out.2 (by have := HLS.out; omega)
    unfold Hid
    rw [e, hnr]
    have e2 : (H.f = 2 ∧ H.b14 % 4 = 0 ∧ H.fin < n) ↔ (H.f = 2 ∧ H.b14 % 4 = 0 ∧ 0 < nr) := by
      have : H.fin < n ↔ 0 < nr := by omega
      rw [this]
    by_cases h1 : H.f = 2 ∧ H.b14 % 4 = 0 ∧ 0 < nr
    · rw [if_pos h1, if_pos (e2.2 h1), HLS.out]
    · rw [if_neg h1, if_neg (fun x => h1 (e2.1 x))]
  clear hnr hcr hge hsP hsQ
  have d0 := (K0.c.cell 0).trans (show _ = some (.int .i64 c.fmt) from rfl)
  obtain ⟨b2, hb2⟩ : ∃ b2, (c.fmt != 2) = b2 := ⟨_, rfl⟩
  have HB2 : Hid ((c.fmt != 2) = b2) := hb2
  go_upto_if 47 with fail
  clear d0 hb2
  go_cut [] (fun wx => Rs w hs #[.int .i64 c.fmt, .int .i64 c.map, .int .i64 c.sub, .bool c.vert, .bool c.four, .bool c.bat, .int .i64 c.con, .int .i64 c.kind, .int .i64 c.tim, .int .i64 c.dev, .int .i64 c.misc, .int .i64 c.pr, .int .i64 c.pn, .int .i64 cr, .int .i64 c.cn, .slice aT nt kT, .slice aP np kP, .slice aQ nq kQ, .slice none 0 0] gh gc m b off n k (16 + nt + np + nq) wx ∧ RowF (m + 1) wx aT T ∧ RowF (m + 1) wx aP P ∧ RowF (m + 1) wx aQ Q)
  case first =>
    cases b2
    · have HEQ : Hid (c.cr = cr) := by
        have h2 : c.fmt = 2 := by have := HB2.out; rwa [bne_eq_false_iff_eq] at this
        have hf2 : H.f = 2 := by have := HCF.out; omega
        unfold Hid
        rw [HCD.out, ← HCR.out]
        show H.cr0 = H.cr
        unfold Hq.cr0 Hq.cr
        rw [if_pos hf2, if_pos hf2]
      go_wp2
      go_meet
      exact ⟨by rw [← HEQ.out]; exact K0, FT, FP, FQ⟩
    · have CX : IsC (#[.int .i64 c.fmt, .int .i64 c.map, .int .i64 c.sub, .bool c.vert, .bool c.four, .bool c.bat, .int .i64 c.con, .int .i64 c.kind, .int .i64 c.tim, .int .i64 c.dev, .int .i64 c.misc, .int .i64 c.pr, .int .i64 c.pn, .int .i64 c.cr, .int .i64 c.cn, .slice aT nt kT, .slice aP np kP, .slice aQ nq kQ, .slice none 0 0]) { c with nt := nt, np := np, nq := nq, nr := 0 } := ⟨rfl, by simp [Value.oneCell'], rfl, rfl, rfl, rfl, rfl, rfl, rfl, rfl, rfl, rfl, rfl, rfl, rfl, rfl, rfl, ⟨_, _, rfl⟩, ⟨_, _, rfl⟩, ⟨_, _, rfl⟩, ⟨_, _, rfl⟩, by show nt ≤ _; omega, by show np ≤ _; omega, by show nq ≤ _; omega, by show 0 ≤ _; omega⟩
      have IC : Hid (Calls _ _ _ _ _) := implied_any (#[.int .i64 c.fmt, .int .i64 c.map, .int .i64 c.sub, .bool c.vert, .bool c.four, .bool c.bat, .int .i64 c.con, .int .i64 c.kind, .int .i64 c.tim, .int .i64 c.dev, .int .i64 c.misc, .int .i64 c.pr, .int .i64 c.pn, .int .i64 c.cr, .int .i64 c.cn, .slice aT nt kT, .slice aP np kP, .slice aQ nq kQ, .slice none 0 0]) _ CX W7
      have HIM : Chk.implied { c with nt := nt, np := np, nq := nq, nr := 0 } = cr := by
        have h2 : c.fmt ≠ 2 := by have := HB2.out; rwa [bne_iff_ne] at this
        have hf2 : ¬ H.f = 2 := by have := HCF.out; omega
        rw [← HCR.out]
        show (if nq = 0 then (8192 : Int) else 0) = H.cr
        unfold Hq.cr
        rw [if_neg hf2, HNT.out.1.2]
      rw [HIM] at IC
      have HA : Hid ((#[.int .i64 c.fmt, .int .i64 c.map, .int .i64 c.sub, .bool c.vert, .bool c.four, .bool c.bat, .int .i64 c.con, .int .i64 c.kind, .int .i64 c.tim, .int .i64 c.dev, .int .i64 c.misc, .int .i64 c.pr, .int .i64 c.pn, .int .i64 c.cr, .int .i64 c.cn, .slice aT nt kT, .slice aP np kP, .slice aQ nq kQ, .slice none 0 0] : Array Value).size = 19) := rfl
      have bcx : Blk W7 gc (#[.int .i64 c.fmt, .int .i64 c.map, .int .i64 c.sub, .bool c.vert, .bool c.four, .bool c.bat, .int .i64 c.con, .int .i64 c.kind, .int .i64 c.tim, .int .i64 c.dev, .int .i64 c.misc, .int .i64 c.pr, .int .i64 c.pn, .int .i64 c.cr, .int .i64 c.cn, .slice aT nt kT, .slice aP np kP, .slice aQ nq kQ, .slice none 0 0]) 25 := K0.c
      clear CX HIM
      obtain ⟨C3v, hC3⟩ : ∃ C3v : Array Value, C3v = #[.int .i64 c.fmt, .int .i64 c.map, .int .i64 c.sub, .bool c.vert, .bool c.four, .bool c.bat, .int .i64 c.con, .int .i64 c.kind, .int .i64 c.tim, .int .i64 c.dev, .int .i64 c.misc, .int .i64 c.pr, .int .i64 c.pn, .int .i64 c.cr, .int .i64 c.cn, .slice aT nt kT, .slice aP np kP, .slice aQ nq kQ, .slice none 0 0] := ⟨_, rfl⟩
      have HC3 : Hid (C3v = #[.int .i64 c.fmt, .int .i64 c.map, .int .i64 c.sub, .bool c.vert, .bool c.four, .bool c.bat, .int .i64 c.con, .int .i64 c.kind, .int .i64 c.tim, .int .i64 c.dev, .int .i64 c.misc, .int .i64 c.pr, .int .i64 c.pn, .int .i64 c.cr, .int .i64 c.cn, .slice aT nt kT, .slice aP np kP, .slice aQ nq kQ, .slice none 0 0]) := hC3
      rw [← hC3] at IC HA bcx
      clear hC3
      go_wp2_with (refine wpList_load_mid rfl 25 _ rfl gc 0 rfl C3v.toList _ bcx.range Tryd.underlying25 rfl (by rw [Array.length_toList, HA.out]; exact Tryd.infoCart) ?_; rw [Array.toArray_toList])
      refine IC.out.mono ?_
      rintro e V7 ⟨rfl, hb7⟩
      have KV := K0.took (Tk.of hb7 K0.r.lt) (K0.r.below K0.r.lt hb7)
      have GT := FT.below hb7
      have GP := FP.below hb7
      have GQ := FQ.below hb7
      have dh := (KV.c.cell 13).trans (show _ = some (.int .i64 c.cr) from rfl)
      have fh := KV.c.free 13
      clear IC bcx K0 FT FP FQ
      go_wp2
      go_meet
      exact ⟨KV.put 13 _ rfl, GT.put (m := gc) (by omega) 13 _, GP.put (m := gc) (by omega) 13 _, GQ.put (m := gc) (by omega) 13 _⟩
  case rest =>
  clear K0 FT FP FQ
  obtain ⟨K0, FT, FP, FQ⟩ := hcut
  generalize wc = W8 at *
  go_upto_region 17 with fail
  have CX : IsC (#[.int .i64 c.fmt, .int .i64 c.map, .int .i64 c.sub, .bool c.vert, .bool c.four, .bool c.bat, .int .i64 c.con, .int .i64 c.kind, .int .i64 c.tim, .int .i64 c.dev, .int .i64 c.misc, .int .i64 c.pr, .int .i64 c.pn, .int .i64 cr, .int .i64 c.cn, .slice aT nt kT, .slice aP np kP, .slice aQ nq kQ, .slice none 0 0]) { c with cr := cr, nt := nt, np := np, nq := nq, nr := 0 } := ⟨rfl, by simp [Value.oneCell'], rfl, rfl, rfl, rfl, rfl, rfl, rfl, rfl, rfl, rfl, rfl, rfl, rfl, rfl, rfl, ⟨_, _, rfl⟩, ⟨_, _, rfl⟩, ⟨_, _, rfl⟩, ⟨_, _, rfl⟩, by show nt ≤ _; omega, by show np ≤ _; omega, by show nq ≤ _; omega, by show 0 ≤ _; omega⟩
  have HLV : leastV { c with cr := cr, nt := nt, np := np, nq := nq, nr := 0 } = ((H.least : Nat) : Int) := by
    show (if c.fmt = 1 ∧ c.con = 2 then (8192 : Int) else if c.fmt = 2 then c.misc else 0) = _
    have e1 : c.con = ((if H.f = 0 then 0 else H.b7 % 4 : Nat) : Int) := by rw [HCD.out]; rfl
    have e2 : c.misc = ((if H.f = 2 then H.b14 % 4 else 0 : Nat) : Int) := by rw [HCD.out]; rfl
    unfold Hq.least
    rw [HCF.out, e1, e2]
    rcases HF14.out with hf | hf | hf <;> rw [hf]
    · simp
    · by_cases h7 : H.b7 % 4 = 2
      · simp [h7]
      · rw [if_neg (fun x => h7 (by have := x.2; simp at this; omega)), if_neg (by decide), if_neg (fun x => h7 x.2), if_neg (by decide)]; rfl
    · simp
  have HBD : decide ((c.fmt : Int) = 2 ∧ c.misc = 0) = decide (H.f = 2 ∧ H.b14 % 4 = 0) := by
    have e2 : c.misc = ((if H.f = 2 then H.b14 % 4 else 0 : Nat) : Int) := by rw [HCD.out]; rfl
    rw [HCF.out, e2]
    by_cases hf : H.f = 2
    · rw [if_pos hf, hf]
      by_cases h14 : H.b14 % 4 = 0
      · rw [h14]; rfl
      · rw [decide_eq_false (fun x => h14 (by have := x.2; omega)), decide_eq_false (fun x => h14 x.2)]
    · rw [decide_eq_false (fun x => hf (by have := x.1; omega)), decide_eq_false (fun x => hf x.1)]
  have TRG : Hid (Calls _ _ _ _ _) := takeRest_g (#[.int .i64 c.fmt, .int .i64 c.map, .int .i64 c.sub, .bool c.vert, .bool c.four, .bool c.bat, .int .i64 c.con, .int .i64 c.kind, .int .i64 c.tim, .int .i64 c.dev, .int .i64 c.misc, .int .i64 c.pr, .int .i64 c.pn, .int .i64 cr, .int .i64 c.cn, .slice aT nt kT, .slice aP np kP, .slice aQ nq kQ, .slice none 0 0]) { c with cr := cr, nt := nt, np := np, nq := nq, nr := 0 } CX (decide (H.f = 2 ∧ H.b14 % 4 = 0)) HBD m b off n k (16 + nt + np + nq) nr H.least HLV L HI.out hmax hk HNR.out.2 W8 K0.r (RW.out _ K0.bl)
  have HA : Hid ((#[.int .i64 c.fmt, .int .i64 c.map, .int .i64 c.sub, .bool c.vert, .bool c.four, .bool c.bat, .int .i64 c.con, .int .i64 c.kind, .int .i64 c.tim, .int .i64 c.dev, .int .i64 c.misc, .int .i64 c.pr, .int .i64 c.pn, .int .i64 cr, .int .i64 c.cn, .slice aT nt kT, .slice aP np kP, .slice aQ nq kQ, .slice none 0 0] : Array Value).size = 19) := rfl
  have bcx : Blk W8 gc (#[.int .i64 c.fmt, .int .i64 c.map, .int .i64 c.sub, .bool c.vert, .bool c.four, .bool c.bat, .int .i64 c.con, .int .i64 c.kind, .int .i64 c.tim, .int .i64 c.dev, .int .i64 c.misc, .int .i64 c.pr, .int .i64 c.pn, .int .i64 cr, .int .i64 c.cn, .slice aT nt kT, .slice aP np kP, .slice aQ nq kQ, .slice none 0 0]) 25 := K0.c
  clear CX HLV HBD
  obtain ⟨C3v, hC3⟩ : ∃ C3v : Array Value, C3v = #[.int .i64 c.fmt, .int .i64 c.map, .int .i64 c.sub, .bool c.vert, .bool c.four, .bool c.bat, .int .i64 c.con, .int .i64 c.kind, .int .i64 c.tim, .int .i64 c.dev, .int .i64 c.misc, .int .i64 c.pr, .int .i64 c.pn, .int .i64 cr, .int .i64 c.cn, .slice aT nt kT, .slice aP np kP, .slice aQ nq kQ, .slice none 0 0] := ⟨_, rfl⟩
  have HC3 : Hid (C3v = #[.int .i64 c.fmt, .int .i64 c.map, .int .i64 c.sub, .bool c.vert, .bool c.four, .bool c.bat, .int .i64 c.con, .int .i64 c.kind, .int .i64 c.tim, .int .i64 c.dev, .int .i64 c.misc, .int .i64 c.pr, .int .i64 c.pn, .int .i64 cr, .int .i64 c.cn, .slice aT nt kT, .slice aP np kP, .slice aQ nq kQ, .slice none 0 0]) := hC3
  rw [← hC3] at TRG HA bcx
  clear hC3
  have hbK := K0.bl
  by_cases h15 : decide (H.f = 2 ∧ H.b14 % 4 = 0) = true ∧ 0 < nr
  · have HPZ : Hid (pz L = (15, 16 + nt + np + nq)) := by
      unfold Hid; rw [HFIN.out, if_pos ⟨(of_decide_eq_true h15.1).1, (of_decide_eq_true h15.1).2, h15.2⟩]
    have TR : Hid (Calls Tryd.prog 46 #[.pointer (some ⟨m, 0, none⟩), .agg C3v] W8 (FaOk 15 ((16 + nt + np + nq : Nat) : Int) W8)) := TRG.out.mono fun e w' h => by unfold TrOk at h; rwa [if_pos h15] at h
    clear h15 TRG
    go_wp2_with (refine wpList_load_mid rfl 25 _ rfl gc 0 rfl C3v.toList _ bcx.range Tryd.underlying25 rfl (by rw [Array.length_toList, HA.out]; exact Tryd.infoCart) ?_; rw [Array.toArray_toList])
    refine TR.out.mono ?_
    rintro e W9 ⟨hf, hb9⟩
    unfold fault at hf
    subst hf
    exact ⟨rfl, ReG.bad HPZ.out (by decide) (hbK.trans (hb9.mono hbK.size)) rfl⟩
  by_cases h11 : nr < H.least
  · have HPZ : Hid (pz L = (11, n)) := by
      unfold Hid; rw [HFIN.out, if_neg (fun x => h15 ⟨decide_eq_true ⟨x.1, x.2.1⟩, x.2.2⟩), if_pos h11]
    have TR : Hid (Calls Tryd.prog 46 #[.pointer (some ⟨m, 0, none⟩), .agg C3v] W8 (FaOk 11 (n : Int) W8)) := TRG.out.mono fun e w' h => by unfold TrOk at h; rwa [if_neg h15, if_pos h11] at h
    clear h15 h11 TRG
    go_wp2_with (refine wpList_load_mid rfl 25 _ rfl gc 0 rfl C3v.toList _ bcx.range Tryd.underlying25 rfl (by rw [Array.length_toList, HA.out]; exact Tryd.infoCart) ?_; rw [Array.toArray_toList])
    refine TR.out.mono ?_
    rintro e W9 ⟨hf, hb9⟩
    unfold fault at hf
    subst hf
    exact ⟨rfl, ReG.bad HPZ.out (by decide) (hbK.trans (hb9.mono hbK.size)) rfl⟩
  have HPZ : Hid ((pz L).1 = 0) := by
    unfold Hid; rw [HFIN.out, if_neg (fun x => h15 ⟨decide_eq_true ⟨x.1, x.2.1⟩, x.2.2⟩), if_neg h11]
  have TR : Hid (Calls Tryd.prog 46 #[.pointer (some ⟨m, 0, none⟩), .agg C3v] W8 (TakeOk m b off n k (16 + nt + np + nq + nr) nr ((L.drop (16 + nt + np + nq)).take nr) W8)) := TRG.out.mono fun e w' h => by unfold TrOk at h; rwa [if_neg h15, if_neg h11] at h
  obtain ⟨R, hR⟩ : ∃ R, R = (L.drop (16 + nt + np + nq)).take nr := ⟨_, rfl⟩
  have HR : Hid (R = (L.drop (16 + nt + np + nq)).take nr) := hR
  rw [← hR] at TR
  clear h15 h11 TRG hR hbK HFIN
  go_wp2_with (refine wpList_load_mid rfl 25 _ rfl gc 0 rfl C3v.toList _ bcx.range Tryd.underlying25 rfl (by rw [Array.length_toList, HA.out]; exact Tryd.infoCart) ?_; rw [Array.toArray_toList])
  refine TR.out.mono ?_
  rintro e V8 ⟨aR, kR, rfl, rf, rr, tk⟩
  have KV := K0.took tk rr
  have hsz := K0.r.lt
  have GT := tk.row FT (Nat.lt_succ_self _)
  have GP := tk.row FP (Nat.lt_succ_self _)
  have GQ := tk.row FQ (Nat.lt_succ_self _)
  have GR : RowF (m + 1) V8 aR R := rf.mono (by omega)
  have dh := (KV.c.cell 18).trans (show _ = some (.slice none 0 0) from rfl)
  have fh := KV.c.free 18
  clear TR rf rr tk K0 FT FP FQ bcx
  go_upto_region 18 with fail
  have K0 := KV.put 18 (.slice aR nr kR) (ca' := #[.int .i64 c.fmt, .int .i64 c.map, .int .i64 c.sub, .bool c.vert, .bool c.four, .bool c.bat, .int .i64 c.con, .int .i64 c.kind, .int .i64 c.tim, .int .i64 c.dev, .int .i64 c.misc, .int .i64 c.pr, .int .i64 c.pn, .int .i64 cr, .int .i64 c.cn, .slice aT nt kT, .slice aP np kP, .slice aQ nq kQ, .slice aR nr kR]) rfl
  have FT := GT.put (m := gc) (by omega) 18 (.slice aR nr kR)
  have FP := GP.put (m := gc) (by omega) 18 (.slice aR nr kR)
  have FQ := GQ.put (m := gc) (by omega) 18 (.slice aR nr kR)
  have FR := GR.put (m := gc) (by omega) 18 (.slice aR nr kR)
  clear KV dh fh GT GP GQ GR
  generalize V8.setCell ⟨gc, 18, none⟩ (.slice aR nr kR) = W9 at *
  have hnrb : nr ≤ 140737488351232 := by have := HNR.out.2; omega
  have CX : IsC (#[.int .i64 c.fmt, .int .i64 c.map, .int .i64 c.sub, .bool c.vert, .bool c.four, .bool c.bat, .int .i64 c.con, .int .i64 c.kind, .int .i64 c.tim, .int .i64 c.dev, .int .i64 c.misc, .int .i64 c.pr, .int .i64 c.pn, .int .i64 cr, .int .i64 c.cn, .slice aT nt kT, .slice aP np kP, .slice aQ nq kQ, .slice aR nr kR]) { c with cr := cr, nt := nt, np := np, nq := nq, nr := nr } := ⟨rfl, by simp [Value.oneCell'], rfl, rfl, rfl, rfl, rfl, rfl, rfl, rfl, rfl, rfl, rfl, rfl, rfl, rfl, rfl, ⟨_, _, rfl⟩, ⟨_, _, rfl⟩, ⟨_, _, rfl⟩, ⟨_, _, rfl⟩, by show nt ≤ _; omega, by show np ≤ _; omega, by show nq ≤ _; omega, hnrb⟩
  have HPC : Hid ((pC L = { c with cr := cr, nt := nt, np := np, nq := nq, nr := nr } ∧ pT L = T) ∧ (pP L = P ∧ pQ L = Q) ∧ pR L = R) := by
    refine ⟨⟨?_, ?_⟩, ⟨?_, ?_⟩, ?_⟩
    · rw [HC0.out, if_pos HPZ.out, HNR.out.1, HCR.out, HCD.out]; rfl
    · rw [HT0.out.1.1, if_pos HPZ.out, HT.out]
    · rw [HT0.out.1.2, if_pos HPZ.out, HP.out]
    · rw [HT0.out.2.1, if_pos HPZ.out, HQ.out]
    · rw [HT0.out.2.2, if_pos HPZ.out, HR.out, HNR.out.1, HLS.out]
  have bc8 : Blk W9 gc (#[.int .i64 c.fmt, .int .i64 c.map, .int .i64 c.sub, .bool c.vert, .bool c.four, .bool c.bat, .int .i64 c.con, .int .i64 c.kind, .int .i64 c.tim, .int .i64 c.dev, .int .i64 c.misc, .int .i64 c.pr, .int .i64 c.pn, .int .i64 cr, .int .i64 c.cn, .slice aT nt kT, .slice aP np kP, .slice aQ nq kQ, .slice aR nr kR]) 25 := K0.c
  have z8 := K0.z
  have bl8 := K0.bl
  have hwm : w.heap.size < m + 1 := by have := K0.o1; have := K0.o2; have := K0.o3; omega
  clear K0
  have HA4 : Hid ((#[.int .i64 c.fmt, .int .i64 c.map, .int .i64 c.sub, .bool c.vert, .bool c.four, .bool c.bat, .int .i64 c.con, .int .i64 c.kind, .int .i64 c.tim, .int .i64 c.dev, .int .i64 c.misc, .int .i64 c.pr, .int .i64 c.pn, .int .i64 cr, .int .i64 c.cn, .slice aT nt kT, .slice aP np kP, .slice aQ nq kQ, .slice aR nr kR] : Array Value).size = 19 ∧ (#[.int .i64 c.fmt, .int .i64 c.map, .int .i64 c.sub, .bool c.vert, .bool c.four, .bool c.bat, .int .i64 c.con, .int .i64 c.kind, .int .i64 c.tim, .int .i64 c.dev, .int .i64 c.misc, .int .i64 c.pr, .int .i64 c.pn, .int .i64 cr, .int .i64 c.cn, .slice aT nt kT, .slice aP np kP, .slice aQ nq kQ, .slice aR nr kR] : Array Value).all (·.oneCell') = true) := ⟨rfl, by simp [Value.oneCell']⟩
  have HX : Hid (IsC (#[.int .i64 c.fmt, .int .i64 c.map, .int .i64 c.sub, .bool c.vert, .bool c.four, .bool c.bat, .int .i64 c.con, .int .i64 c.kind, .int .i64 c.tim, .int .i64 c.dev, .int .i64 c.misc, .int .i64 c.pr, .int .i64 c.pn, .int .i64 cr, .int .i64 c.cn, .slice aT nt kT, .slice aP np kP, .slice aQ nq kQ, .slice aR nr kR]) { c with cr := cr, nt := nt, np := np, nq := nq, nr := nr } ∧ ((#[.int .i64 c.fmt, .int .i64 c.map, .int .i64 c.sub, .bool c.vert, .bool c.four, .bool c.bat, .int .i64 c.con, .int .i64 c.kind, .int .i64 c.tim, .int .i64 c.dev, .int .i64 c.misc, .int .i64 c.pr, .int .i64 c.pn, .int .i64 cr, .int .i64 c.cn, .slice aT nt kT, .slice aP np kP, .slice aQ nq kQ, .slice aR nr kR] : Array Value)[15]? = some (.slice aT nt kT) ∧ (#[.int .i64 c.fmt, .int .i64 c.map, .int .i64 c.sub, .bool c.vert, .bool c.four, .bool c.bat, .int .i64 c.con, .int .i64 c.kind, .int .i64 c.tim, .int .i64 c.dev, .int .i64 c.misc, .int .i64 c.pr, .int .i64 c.pn, .int .i64 cr, .int .i64 c.cn, .slice aT nt kT, .slice aP np kP, .slice aQ nq kQ, .slice aR nr kR] : Array Value)[16]? = some (.slice aP np kP) ∧ (#[.int .i64 c.fmt, .int .i64 c.map, .int .i64 c.sub, .bool c.vert, .bool c.four, .bool c.bat, .int .i64 c.con, .int .i64 c.kind, .int .i64 c.tim, .int .i64 c.dev, .int .i64 c.misc, .int .i64 c.pr, .int .i64 c.pn, .int .i64 cr, .int .i64 c.cn, .slice aT nt kT, .slice aP np kP, .slice aQ nq kQ, .slice aR nr kR] : Array Value)[17]? = some (.slice aQ nq kQ) ∧ (#[.int .i64 c.fmt, .int .i64 c.map, .int .i64 c.sub, .bool c.vert, .bool c.four, .bool c.bat, .int .i64 c.con, .int .i64 c.kind, .int .i64 c.tim, .int .i64 c.dev, .int .i64 c.misc, .int .i64 c.pr, .int .i64 c.pn, .int .i64 cr, .int .i64 c.cn, .slice aT nt kT, .slice aP np kP, .slice aQ nq kQ, .slice aR nr kR] : Array Value)[18]? = some (.slice aR nr kR))) := ⟨CX, rfl, rfl, rfl, rfl⟩
  clear CX
  generalize (#[.int .i64 c.fmt, .int .i64 c.map, .int .i64 c.sub, .bool c.vert, .bool c.four, .bool c.bat, .int .i64 c.con, .int .i64 c.kind, .int .i64 c.tim, .int .i64 c.dev, .int .i64 c.misc, .int .i64 c.pr, .int .i64 c.pn, .int .i64 cr, .int .i64 c.cn, .slice aT nt kT, .slice aP np kP, .slice aQ nq kQ, .slice aR nr kR] : Array Value) = xs at *
  go_wp2_with (first
    | refine wpList_load_mid rfl 25 _ rfl gc 0 rfl xs.toList _ bc8.range Tryd.underlying25 rfl (by rw [Array.length_toList, HA4.out.1]; exact Tryd.infoCart) ?_
    | refine wpList_store_mid rfl 25 _ _ rfl w.heap.size 0 xs rfl rfl (by exact z8.there _ HA4.out.1.symm) (by rw [HA4.out.1]; exact Tryd.infoCart) HA4.out.2 ?_)
  refine ret_agg1 (m := w.heap.size) (L := xs) Tryd.results26 (by rfl) (z8.setAll (L := xs) (by rw [HA4.out.1]; rfl)) Tryd.underlying25 rfl (by rw [HA4.out.1]; exact Tryd.infoCart) ?_
  refine ReG.good HPZ.out ?_
  rw [HPC.out.1.1, HPC.out.1.2, HPC.out.2.1.1, HPC.out.2.1.2, HPC.out.2.2]
  exact ⟨xs, aT, kT, aP, kP, aQ, kQ, aR, kR, rfl, HX.out.1, HX.out.2, ⟨(RowF.puts hwm _ _ FT).mono (by omega), (RowF.puts hwm _ _ FP).mono (by omega), (RowF.puts hwm _ _ FQ).mono (by omega), (RowF.puts hwm _ _ FR).mono (by omega)⟩, setCells_below (Nat.le_refl _) _ _ _ _ bl8⟩
theorem read_g (L : List Nat) (hB : Bytes L) (a : Option Addr) (n k : Nat) (w : World) (hI : L.length = n) (hk : n ≤ k) (hr : Row w a L) :
    Calls Tryd.prog 26 #[.slice a n k] w (ReG L w) := by
  by_cases hbig : 2097152 < n
  · exact read_ahead L hB a n k w hI hr (.inl hbig)
  by_cases hf : (frontE L L.length).1 = 0
  · by_cases hb : (hdOf L).bad = 0
    · rcases hr with e | ⟨b, off, e, hc⟩
      · subst e
        exact absurd hf (by decide)
      · subst e
        exact read_on L hB b off n k w hI (by omega) hk (.inr ⟨b, off, rfl, hc⟩) hf hb
    · exact read_ahead L hB a n k w hI hr (.inr ⟨by omega, .inr ⟨hf, hb⟩⟩)
  · exact read_ahead L hB a n k w hI hr (.inr ⟨by omega, .inl hf⟩)
end Go.Proofs.YtpdbndkckioamaaDoor
namespace Go.Proofs.YtpdbndkckioamaaDoor
open Go.RowKit
theorem wp_at {P : Program} {c : Code} {Q : Exit → Act → World → Prop} {a : Act} {w : World} (a' : Act) (e : a = a') (h : c.wp P Q a' w) : c.wp P Q a w := e ▸ h
/-- What the deferred function leaves where a reader gave up. -/
def CtOk (bp bq br : Nat) (x pl : Int) (w : World) (e : Ending) (u' : FrameMode) (w' : World) : Prop :=
  e = .returned (.tuple #[]) ∧ u' = .panicking [{ v := .iface 55 (.agg #[.int .i64 x, .int .i64 pl]), recovered := true }] ∧ Blk w' bp Z19 25 ∧ Blk w' bq #[.int .i64 x] 26 ∧ Blk w' br #[.int .i64 pl] 3 ∧ Below bp w w'
set_option maxRecDepth 100000 in
set_option maxHeartbeats 1000000 in
theorem catch_fault (bp bq br : Nat) (x pl : Int) (w : World) (zp : Blk w bp Z19 25) (zq : Blk w bq #[.int .i64 0] 26) (zr : Blk w br #[.int .i64 0] 3) (d1 : bp < bq) (d2 : bq < br) :
    CallsD Tryd.prog 25 #[.pointer (some ⟨bp, 0, none⟩), .pointer (some ⟨bq, 0, none⟩), .pointer (some ⟨br, 0, none⟩)] (.panicking [{ v := .iface 55 (.agg #[.int .i64 x, .int .i64 pl]), recovered := false }]) w (CtOk bp bq br x pl w) := by
  have hta : ∀ w : World, Sem.run Tryd.prog (Instr.typeAssert (.iface 55 (.agg #[.int .i64 x, .int .i64 pl])) 20 55 true) w = .ok (.tuple #[.agg #[.int .i64 x, .int .i64 pl], .bool true]) w := fun _ => by kernel_rfl
  refine callsD_of_wpS Tryd.func25 rfl fun c₀ cs hu => ?_
  apply wpS_seq
  apply wpS_region
  simp [wpOpsS, go_sem, recoverD, hu, hta, Tryd.ntmps25, Exit.thenS]
  apply wpS_seq
  apply wpS_region
  simp [wpOpsS, go_sem, Exit.thenS]
  refine wpS_cond (t := true) (by simp [Act.eval, Array.replicate]) ?_
  simp only [if_true]
  refine wpS_of_wp ?_
  refine wp_at ⟨#[.pointer (some ⟨bp, 0, none⟩), .pointer (some ⟨bq, 0, none⟩), .pointer (some ⟨br, 0, none⟩), .pointer (some ⟨w.heap.size, 0, none⟩), .bool true, .tuple #[.agg #[.int .i64 x, .int .i64 pl], .bool true], .iface 55 (.agg #[.int .i64 x, .int .i64 pl]), .tuple #[.agg #[.int .i64 x, .int .i64 pl], .bool true], .agg #[.int .i64 x, .int .i64 pl], .bool true, .bool true, undef, undef, undef, undef, undef], []⟩ (by kernel_rfl) ?_
  have bf : Blk (w.alloc (.cells #[.int .i64 x, .int .i64 pl] 55)) w.heap.size #[.int .i64 x, .int .i64 pl] 55 := Blk.new w _ _
  have hb0 : Below w.heap.size w (w.alloc (.cells #[.int .i64 x, .int .i64 pl] 55)) := (Below.refl _ _).alloc (Nat.le_refl _) _
  have p0 := zp.below zp.lt hb0
  have q0 := zq.below zq.lt hb0
  have r0 := zr.below zr.lt hb0
  have lp := zp.lt
  have lr := zr.lt
  clear zp zq zr hta
  generalize w.alloc (.cells #[.int .i64 x, .int .i64 pl] 55) = W0 at *
  have s0 : Blk W0.drew w.heap.size #[.int .i64 x, .int .i64 pl] 55 := bf.drew
  refine wp_region_held (S := fun v => Blk v w.heap.size #[.int .i64 x, .int .i64 pl] 55) (by kernel_rfl) ?_
  refine takeH (i := 0) (v := .agg Z19) ⟨#[.pointer (some ⟨bp, 0, none⟩), .pointer (some ⟨bq, 0, none⟩), .pointer (some ⟨br, 0, none⟩), .pointer (some ⟨w.heap.size, 0, none⟩), .bool true, .tuple #[.agg #[.int .i64 x, .int .i64 pl], .bool true], .iface 55 (.agg #[.int .i64 x, .int .i64 pl]), .tuple #[.agg #[.int .i64 x, .int .i64 pl], .bool true], .agg #[.int .i64 x, .int .i64 pl], .bool true, .bool true, .agg Z19, undef, undef, undef, undef], []⟩ rfl (by kernel_rfl) (by kernel_rfl) (by kernel_rfl) (fun _ _ _ h => h) (.inl ⟨by kernel_rfl, fun _ _ => by kernel_rfl⟩) s0 (by kernel_rfl) ?_
  refine takeH (i := 1) (v := .pointer (some ⟨w.heap.size, 0, none⟩)) ⟨#[.pointer (some ⟨bp, 0, none⟩), .pointer (some ⟨bq, 0, none⟩), .pointer (some ⟨br, 0, none⟩), .pointer (some ⟨w.heap.size, 0, none⟩), .bool true, .tuple #[.agg #[.int .i64 x, .int .i64 pl], .bool true], .iface 55 (.agg #[.int .i64 x, .int .i64 pl]), .tuple #[.agg #[.int .i64 x, .int .i64 pl], .bool true], .agg #[.int .i64 x, .int .i64 pl], .bool true, .bool true, .agg Z19, .pointer (some ⟨w.heap.size, 0, none⟩), undef, undef, undef], []⟩ rfl (by kernel_rfl) (by kernel_rfl) (by kernel_rfl) (fun _ _ _ h => h) (.inl ⟨by kernel_rfl, fun _ _ => by kernel_rfl⟩) s0 (by kernel_rfl) ?_
  refine takeH (i := 2) (v := .int .i64 x) ⟨#[.pointer (some ⟨bp, 0, none⟩), .pointer (some ⟨bq, 0, none⟩), .pointer (some ⟨br, 0, none⟩), .pointer (some ⟨w.heap.size, 0, none⟩), .bool true, .tuple #[.agg #[.int .i64 x, .int .i64 pl], .bool true], .iface 55 (.agg #[.int .i64 x, .int .i64 pl]), .tuple #[.agg #[.int .i64 x, .int .i64 pl], .bool true], .agg #[.int .i64 x, .int .i64 pl], .bool true, .bool true, .agg Z19, .pointer (some ⟨w.heap.size, 0, none⟩), .int .i64 x, undef, undef], []⟩ rfl (by kernel_rfl) (by kernel_rfl) (by kernel_rfl) (fun _ _ _ h => h) (.inl ⟨by kernel_rfl, fun v hv => by have c : v.cell? ⟨w.heap.size, 0, none⟩ = some (.int .i64 x) := (Blk.cell hv 0).trans rfl; go_simp⟩) s0 (by kernel_rfl) ?_
  refine takeH (i := 3) (v := .pointer (some ⟨w.heap.size, 1, none⟩)) ⟨#[.pointer (some ⟨bp, 0, none⟩), .pointer (some ⟨bq, 0, none⟩), .pointer (some ⟨br, 0, none⟩), .pointer (some ⟨w.heap.size, 0, none⟩), .bool true, .tuple #[.agg #[.int .i64 x, .int .i64 pl], .bool true], .iface 55 (.agg #[.int .i64 x, .int .i64 pl]), .tuple #[.agg #[.int .i64 x, .int .i64 pl], .bool true], .agg #[.int .i64 x, .int .i64 pl], .bool true, .bool true, .agg Z19, .pointer (some ⟨w.heap.size, 0, none⟩), .int .i64 x, .pointer (some ⟨w.heap.size, 1, none⟩), undef], []⟩ rfl (by kernel_rfl) (by kernel_rfl) (by kernel_rfl) (fun _ _ _ h => h) (.inl ⟨by kernel_rfl, fun _ _ => by kernel_rfl⟩) s0 (by kernel_rfl) ?_
  refine takeH (i := 4) (v := .int .i64 pl) ⟨#[.pointer (some ⟨bp, 0, none⟩), .pointer (some ⟨bq, 0, none⟩), .pointer (some ⟨br, 0, none⟩), .pointer (some ⟨w.heap.size, 0, none⟩), .bool true, .tuple #[.agg #[.int .i64 x, .int .i64 pl], .bool true], .iface 55 (.agg #[.int .i64 x, .int .i64 pl]), .tuple #[.agg #[.int .i64 x, .int .i64 pl], .bool true], .agg #[.int .i64 x, .int .i64 pl], .bool true, .bool true, .agg Z19, .pointer (some ⟨w.heap.size, 0, none⟩), .int .i64 x, .pointer (some ⟨w.heap.size, 1, none⟩), .int .i64 pl], []⟩ rfl (by kernel_rfl) (by kernel_rfl) (by kernel_rfl) (fun _ _ _ h => h) (.inl ⟨by kernel_rfl, fun v hv => by have c : v.cell? ⟨w.heap.size, 1, none⟩ = some (.int .i64 pl) := (Blk.cell hv 1).trans rfl; go_simp⟩) s0 (by kernel_rfl) ?_
  refine wpAnyH_all (rs := [5]) (by kernel_rfl) (by simp) ?_
  intro i hi
  obtain rfl : i = 5 := by simpa using hi
  refine wpOp_store rfl (by kernel_rfl) 25 (.tmp 0) (.tmp 11) rfl bp 0 (.agg Z19) Z19 (by kernel_rfl) (by kernel_rfl) rfl (p0.drew.there 19 rfl) (by exact Tryd.infoCart) (by kernel_rfl) ⟨#[.pointer (some ⟨bp, 0, none⟩), .pointer (some ⟨bq, 0, none⟩), .pointer (some ⟨br, 0, none⟩), .pointer (some ⟨w.heap.size, 0, none⟩), .bool true, .tuple #[.agg #[.int .i64 x, .int .i64 pl], .bool true], .iface 55 (.agg #[.int .i64 x, .int .i64 pl]), .tuple #[.agg #[.int .i64 x, .int .i64 pl], .bool true], .agg #[.int .i64 x, .int .i64 pl], .bool true, .bool true, .agg Z19, .pointer (some ⟨w.heap.size, 0, none⟩), .int .i64 x, .pointer (some ⟨w.heap.size, 1, none⟩), .int .i64 pl], []⟩ (by kernel_rfl) ?_
  intro W1 eW1
  have s1 : Blk W1 w.heap.size #[.int .i64 x, .int .i64 pl] 55 := by rw [eW1]; exact s0.otherCells (by omega) _ _
  have p1 : Blk W1 bp Z19 25 := by rw [eW1]; exact p0.drew.setAll (L := Z19) rfl
  have q1 : Blk W1 bq #[.int .i64 0] 26 := by rw [eW1]; exact q0.drew.otherCells (by omega) _ _
  have r1 : Blk W1 br #[.int .i64 0] 3 := by rw [eW1]; exact r0.drew.otherCells (by omega) _ _
  have b1 : Below bp W0.drew W1 := by rw [eW1]; exact setCells_below (Nat.le_refl _) _ _ _ _ (Below.refl _ _)
  refine ⟨s1, ?_⟩
  clear hi eW1
  refine wpAnyH_all (rs := [6]) (by kernel_rfl) (by simp) ?_
  intro i hi
  obtain rfl : i = 6 := by simpa using hi
  refine wpOp_store rfl (by kernel_rfl) 26 (.tmp 1) (.tmp 13) rfl bq 0 (.int .i64 x) #[.int .i64 x] (by kernel_rfl) (by kernel_rfl) rfl (q1.there 1 rfl) (by kernel_rfl) (by kernel_rfl) ⟨#[.pointer (some ⟨bp, 0, none⟩), .pointer (some ⟨bq, 0, none⟩), .pointer (some ⟨br, 0, none⟩), .pointer (some ⟨w.heap.size, 0, none⟩), .bool true, .tuple #[.agg #[.int .i64 x, .int .i64 pl], .bool true], .iface 55 (.agg #[.int .i64 x, .int .i64 pl]), .tuple #[.agg #[.int .i64 x, .int .i64 pl], .bool true], .agg #[.int .i64 x, .int .i64 pl], .bool true, .bool true, .agg Z19, .pointer (some ⟨w.heap.size, 0, none⟩), .int .i64 x, .pointer (some ⟨w.heap.size, 1, none⟩), .int .i64 pl], []⟩ (by kernel_rfl) ?_
  intro W2 eW2
  have s2 : Blk W2 w.heap.size #[.int .i64 x, .int .i64 pl] 55 := by rw [eW2]; exact s1.otherCells (by omega) _ _
  have p2 : Blk W2 bp Z19 25 := by rw [eW2]; exact p1.otherCells (by omega) _ _
  have q2 : Blk W2 bq #[.int .i64 x] 26 := by rw [eW2]; exact q1.setAll (L := #[.int .i64 x]) rfl
  have r2 : Blk W2 br #[.int .i64 0] 3 := by rw [eW2]; exact r1.otherCells (by omega) _ _
  have b2 : Below bp W0.drew W2 := by rw [eW2]; exact setCells_below (by omega) _ _ _ _ b1
  refine ⟨s2, ?_⟩
  clear hi eW2
  refine wpAnyH_all (rs := [7]) (by kernel_rfl) (by simp) ?_
  intro i hi
  obtain rfl : i = 7 := by simpa using hi
  refine wpOp_store rfl (by kernel_rfl) 3 (.tmp 2) (.tmp 15) rfl br 0 (.int .i64 pl) #[.int .i64 pl] (by kernel_rfl) (by kernel_rfl) rfl (r2.there 1 rfl) (by kernel_rfl) (by kernel_rfl) ⟨#[.pointer (some ⟨bp, 0, none⟩), .pointer (some ⟨bq, 0, none⟩), .pointer (some ⟨br, 0, none⟩), .pointer (some ⟨w.heap.size, 0, none⟩), .bool true, .tuple #[.agg #[.int .i64 x, .int .i64 pl], .bool true], .iface 55 (.agg #[.int .i64 x, .int .i64 pl]), .tuple #[.agg #[.int .i64 x, .int .i64 pl], .bool true], .agg #[.int .i64 x, .int .i64 pl], .bool true, .bool true, .agg Z19, .pointer (some ⟨w.heap.size, 0, none⟩), .int .i64 x, .pointer (some ⟨w.heap.size, 1, none⟩), .int .i64 pl], []⟩ (by kernel_rfl) ?_
  intro W3 eW3
  have s3 : Blk W3 w.heap.size #[.int .i64 x, .int .i64 pl] 55 := by rw [eW3]; exact s2.otherCells (by omega) _ _
  have p3 : Blk W3 bp Z19 25 := by rw [eW3]; exact p2.otherCells (by omega) _ _
  have q3 : Blk W3 bq #[.int .i64 x] 26 := by rw [eW3]; exact q2.otherCells (by omega) _ _
  have r3 : Blk W3 br #[.int .i64 pl] 3 := by rw [eW3]; exact r2.setAll (L := #[.int .i64 pl]) rfl
  have b3 : Below bp W0.drew W3 := by rw [eW3]; exact setCells_below (by omega) _ _ _ _ b2
  refine ⟨s3, ?_⟩
  clear hi eW3
  refine wpAnyH_done (by kernel_rfl) ?_ _
  have bb : Below bp w W3 := ((hb0.mono (by omega)).trans ((Below.refl _ _).drew)).trans b3
  simp only [bodyPostS, results, Tryd.results25]
  simp [CtOk, p3, q3, r3, bb]
/-- What Parse is to answer of every image. -/
def PaG (L : List Nat) (w : World) (e : Ending) (w' : World) : Prop := ∃ xs, e = .returned (.tuple #[.agg xs, .int .i64 ((pz L).1 : Nat), .int .i64 ((pz L).2 : Nat)]) ∧ Cl w' xs (pC L) (pT L) (pP L) (pQ L) (pR L) ∧ Below w.heap.size w w'
theorem e_two (h : Hq) (n : Nat) : (h.e n).1 = 0 → (h.e n).2 = 0 ∧ h.fin ≤ n := by
  unfold Hq.e
  repeat' split
  all_goals first | (intro hh; simp at hh; done) | (intro _; exact ⟨rfl, by omega⟩)
theorem pz_good {L : List Nat} (h : (pz L).1 = 0) : (pz L).2 = 0 ∧ (hdOf L).fin ≤ L.length := by
  unfold pz at h ⊢
  by_cases h1 : 2097152 < L.length
  · rw [if_pos h1] at h; exact absurd h (by decide)
  · rw [if_neg h1] at h ⊢
    by_cases h2 : (frontE L L.length).1 ≠ 0
    · rw [if_pos h2] at h; exact absurd h h2
    · rw [if_neg h2] at h ⊢
      exact e_two _ _ h
theorem p_lens (L : List Nat) : (pT L).length = (pC L).nt ∧ (pP L).length = (pC L).np ∧ (pQ L).length = (pC L).nq ∧ (pR L).length = (pC L).nr := by
  unfold pT pP pQ pR pC
  by_cases h : (pz L).1 = 0
  · have hf := (pz_good h).2
    have e : (hdOf L).fin = 16 + (hdOf L).tr + (hdOf L).prg + (hdOf L).chr := rfl
    rw [if_pos h, if_pos h, if_pos h, if_pos h, if_pos h]
    refine ⟨?_, ?_, ?_, ?_⟩ <;> simp only [List.length_take, List.length_drop]
    · show min (hdOf L).tr _ = (hdOf L).tr; omega
    · show min (hdOf L).prg _ = (hdOf L).prg; omega
    · show min (hdOf L).chr _ = (hdOf L).chr; omega
    · show min (L.length - (hdOf L).fin) _ = L.length - (hdOf L).fin; omega
  · rw [if_neg h, if_neg h, if_neg h, if_neg h, if_neg h]
    exact ⟨rfl, rfl, rfl, rfl⟩
theorem cl_no (w : World) : Cl w Z19 noC [] [] [] [] :=
  ⟨⟨rfl, by kernel_rfl, rfl, rfl, rfl, rfl, rfl, rfl, rfl, rfl, rfl, rfl, rfl, rfl, rfl, rfl, rfl, ⟨_, _, rfl⟩, ⟨_, _, rfl⟩, ⟨_, _, rfl⟩, ⟨_, _, rfl⟩, by decide, by decide, by decide, by decide⟩, rfl, rfl, rfl, rfl, ⟨_, _, rfl, .inl rfl⟩, ⟨_, _, rfl, .inl rfl⟩, ⟨_, _, rfl, .inl rfl⟩, ⟨_, _, rfl, .inl rfl⟩⟩
set_option maxRecDepth 100000 in
set_option maxHeartbeats 3200000 in
theorem parse_bad (L : List Nat) (hB : Bytes L) (a : Option Addr) (n k : Nat) (w : World) (hI : L.length = n) (hk : n ≤ k) (hr : Row w a L) (hz : (pz L).1 ≠ 0) :
    Calls Tryd.prog 8 #[.slice a n k] w (PaG L w) := by
  have RC : Hid (∀ W : World, Below w.heap.size w W → Calls Tryd.prog 26 #[.slice a n k] W (FaOk ((pz L).1 : Nat) ((pz L).2 : Nat) W)) := fun W hb => (read_g L hB a n k W hI hk (hr.below hb)).mono fun e w' h => by unfold ReG at h; rwa [if_pos hz] at h
  have HPN : Hid (((pC L = noC ∧ pT L = []) ∧ (pP L = [] ∧ pQ L = [])) ∧ pR L = []) := by
    unfold pC pT pP pQ pR
    exact ⟨⟨⟨if_neg hz, if_neg hz⟩, if_neg hz, if_neg hz⟩, if_neg hz⟩
  clear hI hk hr hz hB
  obtain ⟨x, hx⟩ : ∃ x : Int, ((pz L).1 : Nat) = x := ⟨_, rfl⟩
  obtain ⟨pl, hpl⟩ : ∃ x : Int, ((pz L).2 : Nat) = x := ⟨_, rfl⟩
  rw [hx, hpl] at RC
  have HXP : Hid ((((pz L).1 : Nat) : Int) = x ∧ (((pz L).2 : Nat) : Int) = pl) := ⟨hx, hpl⟩
  clear hx hpl
  have hmf : ∀ (fn : Fn) (first cap : Array Value) (w : World), (Instr.makeFunc fn first cap).run Tryd.prog w = .ok (.func fn first cap) w := fun _ _ _ _ => rfl
  go_enter_defers Tryd.func8, Tryd.ntmps8
  go_upto_region 1 with fail
  have hb0 : Below w.heap.size w (((w.alloc (.cells Z19 25)).alloc (.cells #[.int .i64 0] 26)).alloc (.cells #[.int .i64 0] 3)) := (((Below.refl _ _).alloc (Nat.le_refl _) _).alloc (by simp) _).alloc (by simp; omega) _
  have z0 : Blk (((w.alloc (.cells Z19 25)).alloc (.cells #[.int .i64 0] 26)).alloc (.cells #[.int .i64 0] 3)) w.heap.size Z19 25 := ((Blk.new w Z19 _).old _).old _
  have y0 : Blk (((w.alloc (.cells Z19 25)).alloc (.cells #[.int .i64 0] 26)).alloc (.cells #[.int .i64 0] 3)) (w.heap.size + 1) #[.int .i64 0] 26 := by have := (Blk.new (w.alloc (.cells Z19 25)) #[.int .i64 0] 26).old (.cells #[.int .i64 0] 3); rwa [World.size_alloc] at this
  have x0 : Blk (((w.alloc (.cells Z19 25)).alloc (.cells #[.int .i64 0] 26)).alloc (.cells #[.int .i64 0] 3)) (w.heap.size + 1 + 1) #[.int .i64 0] 3 := by have := Blk.new ((w.alloc (.cells Z19 25)).alloc (.cells #[.int .i64 0] 26)) #[.int .i64 0] 3; rw [World.size_alloc, World.size_alloc] at this; exact this
  generalize ((w.alloc (.cells Z19 25)).alloc (.cells #[.int .i64 0] 26)).alloc (.cells #[.int .i64 0] 3) = W0 at *
  go_upto_region 2 with fail
  go_wp2_with fail
  refine (RC.out _ hb0).mono ?_
  rintro e W1 ⟨hf, hb1⟩
  unfold fault at hf
  subst hf
  have z1 := z0.below z0.lt hb1
  have y1 := y0.below y0.lt hb1
  have x1 := x0.below x0.lt hb1
  have hbw1 := hb0.trans (hb1.mono hb0.size)
  clear RC z0 y0 x0
  refine leaves_cons (f := 25) (args := #[.pointer (some ⟨w.heap.size, 0, none⟩), .pointer (some ⟨w.heap.size + 1, 0, none⟩), .pointer (some ⟨w.heap.size + 1 + 1, 0, none⟩)]) (by simp) (by simp [go_sem]) ?_
  refine (catch_fault w.heap.size (w.heap.size + 1) (w.heap.size + 1 + 1) x pl W1 z1 y1 x1 (by omega) (by omega)).mono ?_
  rintro e u' W4 ⟨rfl, rfl, z4, y4b, x4b, hb4⟩
  have y4 := y4b.cell 0
  have x4 := x4b.cell 0
  have hbw4 := hbw1.trans hb4
  have hl := run_loadVar_mid (P := Tryd.prog) W4 w.heap.size 0 25 Z19.toList _ z4.range Tryd.underlying25 rfl (by exact Tryd.infoCart)
  rw [Array.toArray_toList] at hl
  replace y4 : W4.cell? ⟨w.heap.size + 1, 0, none⟩ = some (.int .i64 x) := y4
  replace x4 : W4.cell? ⟨w.heap.size + 1 + 1, 0, none⟩ = some (.int .i64 pl) := x4
  have ly : (loadVar 26 ⟨w.heap.size + 1, 0, none⟩).run Tryd.prog W4 = .ok (.int .i64 x) W4 := by simp [go_sem, y4]
  have lx : (loadVar 3 ⟨w.heap.size + 1 + 1, 0, none⟩).run Tryd.prog W4 = .ok (.int .i64 pl) W4 := by simp [go_sem, x4]
  simp only [Leaves, settle]
  refine ⟨.tuple #[.agg Z19, .int .i64 x, .int .i64 pl], ?_, Z19, by rw [HXP.out.1, HXP.out.2], ?_, hbw4⟩
  · exact results_three Tryd.results8 rfl rfl rfl hl ly lx
  · rw [HPN.out.1.1.1, HPN.out.1.1.2, HPN.out.1.2.1, HPN.out.1.2.2, HPN.out.2]
    exact cl_no W4
set_option maxRecDepth 100000 in
set_option maxHeartbeats 3200000 in
theorem parse_fine (L : List Nat) (hB : Bytes L) (a : Option Addr) (n k : Nat) (w : World) (hI : L.length = n) (hk : n ≤ k) (hr : Row w a L) (hz : (pz L).1 = 0) :
    Calls Tryd.prog 8 #[.slice a n k] w (PaG L w) := by
  have RC : Hid (∀ W : World, Below w.heap.size w W → Calls Tryd.prog 26 #[.slice a n k] W (ReOk (pC L) (pT L) (pP L) (pQ L) (pR L) W)) := fun W hb => (read_g L hB a n k W hI hk (hr.below hb)).mono fun e w' h => by unfold ReG at h; rwa [if_neg (fun x => x hz)] at h
  have HLN : Hid ((pT L).length = (pC L).nt ∧ (pP L).length = (pC L).np ∧ (pQ L).length = (pC L).nq ∧ (pR L).length = (pC L).nr) := p_lens L
  have HE : Hid ((pz L).1 = 0 ∧ (pz L).2 = 0) := ⟨hz, (pz_good hz).1⟩
  clear hI hk hr hz hB
  have HQ : Hid (∀ e w', PaOk (pC L) (pT L) (pP L) (pQ L) (pR L) w e w' → PaG L w e w') := by
    rintro e w' ⟨xs, rfl, h1, h2⟩
    exact ⟨xs, by rw [HE.out.1, HE.out.2]; rfl, h1, h2⟩
  refine Calls.mono (R := PaOk (pC L) (pT L) (pP L) (pQ L) (pR L) w) ?_ HQ.out
  clear HQ HE
  generalize pC L = c at *
  generalize pT L = T at *
  generalize pP L = P at *
  generalize pQ L = Q at *
  generalize pR L = R at *
  have hmf : ∀ (fn : Fn) (first cap : Array Value) (w : World), (Instr.makeFunc fn first cap).run Tryd.prog w = .ok (.func fn first cap) w := fun _ _ _ _ => rfl
  go_enter_defers Tryd.func8, Tryd.ntmps8
  go_upto_region 1 with fail
  have hb0 : Below w.heap.size w (((w.alloc (.cells Z19 25)).alloc (.cells #[.int .i64 0] 26)).alloc (.cells #[.int .i64 0] 3)) := (((Below.refl _ _).alloc (Nat.le_refl _) _).alloc (by simp) _).alloc (by simp; omega) _
  have z0 : Blk (((w.alloc (.cells Z19 25)).alloc (.cells #[.int .i64 0] 26)).alloc (.cells #[.int .i64 0] 3)) w.heap.size Z19 25 := ((Blk.new w Z19 _).old _).old _
  have y0 : Blk (((w.alloc (.cells Z19 25)).alloc (.cells #[.int .i64 0] 26)).alloc (.cells #[.int .i64 0] 3)) (w.heap.size + 1) #[.int .i64 0] 26 := by have := (Blk.new (w.alloc (.cells Z19 25)) #[.int .i64 0] 26).old (.cells #[.int .i64 0] 3); rwa [World.size_alloc] at this
  have x0 : Blk (((w.alloc (.cells Z19 25)).alloc (.cells #[.int .i64 0] 26)).alloc (.cells #[.int .i64 0] 3)) (w.heap.size + 1 + 1) #[.int .i64 0] 3 := by have := Blk.new ((w.alloc (.cells Z19 25)).alloc (.cells #[.int .i64 0] 26)) #[.int .i64 0] 3; rw [World.size_alloc, World.size_alloc] at this; exact this
  generalize ((w.alloc (.cells Z19 25)).alloc (.cells #[.int .i64 0] 26)).alloc (.cells #[.int .i64 0] 3) = W0 at *
  go_upto_region 2 with fail
  go_wp2_with fail
  refine (RC.out _ hb0).mono ?_
  rintro e W1 ⟨xs, aT, kT, aP, kP, aQ, kQ, aR, kR, rfl, CX, es, ⟨FT, FP, FQ, FR⟩, hb1⟩
  have HX : Hid (xs.size = 19 ∧ xs.all (·.oneCell') = true) := ⟨CX.size, CX.one⟩
  have z1 := z0.below z0.lt hb1
  have y1 := y0.below y0.lt hb1
  have x1 := x0.below x0.lt hb1
  have hbw1 := hb0.trans (hb1.mono hb0.size)
  have hst := x0.lt
  clear RC z0 y0 x0
  go_wp2_with (refine wpList_store_mid rfl 25 _ _ rfl w.heap.size 0 xs rfl rfl (by exact z1.there _ HX.out.1.symm) (by rw [HX.out.1]; exact Tryd.infoCart) HX.out.2 ?_; have z2 := z1.setAll (L := xs) (by rw [HX.out.1]; rfl); have y2 := y1.otherCells (m := w.heap.size) (by omega) xs.toList 0; have x2 := x1.otherCells (m := w.heap.size) (by omega) xs.toList 0; have GT := RowF.puts (m := w.heap.size) (by omega) xs.toList 0 FT; have GP := RowF.puts (m := w.heap.size) (by omega) xs.toList 0 FP; have GQ := RowF.puts (m := w.heap.size) (by omega) xs.toList 0 FQ; have GR := RowF.puts (m := w.heap.size) (by omega) xs.toList 0 FR; have hbw2 := setCells_below (Nat.le_refl w.heap.size) xs.toList 0 _ _ hbw1; clear z1 y1 x1 FT FP FQ FR hbw1; generalize W1.setCells w.heap.size 0 xs.toList = W2 at *; have dy := (y2.cell 0).trans (show _ = some (.int .i64 0) from rfl); have fy := y2.free 0; have dx := (x2.cell 0).trans (show _ = some (.int .i64 0) from rfl); have fx := x2.free 0)
  have z3 := (z2.other (m := w.heap.size + 1) (by omega) 0 (.int .i64 0)).other (m := w.heap.size + 1 + 1) (by omega) 0 (.int .i64 0)
  have y3 := (y2.set 0 (.int .i64 0)).other (m := w.heap.size + 1 + 1) (by omega) 0 (.int .i64 0)
  have x3 := (x2.other (m := w.heap.size + 1) (by omega) 0 (.int .i64 0)).set 0 (.int .i64 0)
  have HT := (GT.put (m := w.heap.size + 1) (by omega) 0 (.int .i64 0)).put (m := w.heap.size + 1 + 1) (by omega) 0 (.int .i64 0)
  have HP := (GP.put (m := w.heap.size + 1) (by omega) 0 (.int .i64 0)).put (m := w.heap.size + 1 + 1) (by omega) 0 (.int .i64 0)
  have HQ := (GQ.put (m := w.heap.size + 1) (by omega) 0 (.int .i64 0)).put (m := w.heap.size + 1 + 1) (by omega) 0 (.int .i64 0)
  have HR := (GR.put (m := w.heap.size + 1) (by omega) 0 (.int .i64 0)).put (m := w.heap.size + 1 + 1) (by omega) 0 (.int .i64 0)
  have hbw3 := (hbw2.setCell (p := ⟨w.heap.size + 1, 0, none⟩) (by show w.heap.size ≤ w.heap.size + 1; omega) (.int .i64 0)).setCell (p := ⟨w.heap.size + 1 + 1, 0, none⟩) (by show w.heap.size ≤ w.heap.size + 1 + 1; omega) (.int .i64 0)
  clear z2 y2 x2 GT GP GQ GR hbw2 dy fy dx fx
  generalize (W2.setCell ⟨w.heap.size + 1, 0, none⟩ (.int .i64 0)).setCell ⟨w.heap.size + 1 + 1, 0, none⟩ (.int .i64 0) = W3 at *
  refine leaves_cons (f := 25) (args := #[.pointer (some ⟨w.heap.size, 0, none⟩), .pointer (some ⟨w.heap.size + 1, 0, none⟩), .pointer (some ⟨w.heap.size + 1 + 1, 0, none⟩)]) (by simp) (by simp [go_sem]) ?_
  refine (catch_idle _ _ _ W3).mono ?_
  rintro e u' W4 ⟨rfl, rfl, hb4⟩
  have z4 := z3.below z3.lt hb4
  have y4 := (y3.below y3.lt hb4).cell 0
  have x4 := (x3.below x3.lt hb4).cell 0
  have hbw4 := hbw3.trans (hb4.mono hbw3.size)
  have KT := HT.below hb4
  have KP := HP.below hb4
  have KQ := HQ.below hb4
  have KR := HR.below hb4
  have hl := run_loadVar_mid (P := Tryd.prog) W4 w.heap.size 0 25 xs.toList _ z4.range Tryd.underlying25 rfl (by rw [Array.length_toList, HX.out.1]; exact Tryd.infoCart)
  rw [Array.toArray_toList] at hl
  replace y4 : W4.cell? ⟨w.heap.size + 1, 0, none⟩ = some (.int .i64 0) := y4
  replace x4 : W4.cell? ⟨w.heap.size + 1 + 1, 0, none⟩ = some (.int .i64 0) := x4
  have ly : (loadVar 26 ⟨w.heap.size + 1, 0, none⟩).run Tryd.prog W4 = .ok (.int .i64 0) W4 := by simp [go_sem, y4]
  have lx : (loadVar 3 ⟨w.heap.size + 1 + 1, 0, none⟩).run Tryd.prog W4 = .ok (.int .i64 0) W4 := by simp [go_sem, x4]
  simp only [Leaves, settle]
  refine ⟨.tuple #[.agg xs, .int .i64 0, .int .i64 0], ?_, xs, rfl, ⟨CX, HLN.out.1, HLN.out.2.1, HLN.out.2.2.1, HLN.out.2.2.2, ⟨aT, kT, es.1, KT.row⟩, ⟨aP, kP, es.2.1, KP.row⟩, ⟨aQ, kQ, es.2.2.1, KQ.row⟩, ⟨aR, kR, es.2.2.2, KR.row⟩⟩, hbw4⟩
  exact results_three Tryd.results8 rfl rfl rfl hl ly lx
theorem parse_g (L : List Nat) (hB : Bytes L) (a : Option Addr) (n k : Nat) (w : World) (hI : L.length = n) (hk : n ≤ k) (hr : Row w a L) :
    Calls Tryd.prog 8 #[.slice a n k] w (PaG L w) := by
  by_cases hz : (pz L).1 = 0
  · exact parse_fine L hB a n k w hI hk hr hz
  · exact parse_bad L hB a n k w hI hk hr hz
end Go.Proofs.YtpdbndkckioamaaDoor
