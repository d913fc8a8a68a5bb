/-
  What the reader's takeRest does; conditions: the reader lies in a block of its own, the image's bytes in its slice.
-/
import Derived.Test.YtpdbndkckioamaaDoorPar6
import Derived.Deep.RegionHeld3
set_option linter.unusedSimpArgs false
set_option linter.unusedVariables false
namespace Go.Proofs.YtpdbndkckioamaaDoor
open Go.RowKit
structure SQ (w : World) (m : Nat) (ds : Array Value) (b off n k at' : Nat) (W v : World) : Prop where
  bb : Blk v w.heap.size ds 25
  rr : Blk v m #[.slice (some ⟨b, off, none⟩) n k, .int .i64 at'] 77
  bl : Below W.heap.size W v
theorem SQ.on {w : World} {m : Nat} {ds : Array Value} {b off n k at' : Nat} {W v v' : World} (h : SQ w m ds b off n k at' W v) (hb : Below v.heap.size v v') : SQ w m ds b off n k at' W v' :=
  ⟨h.bb.below h.bb.lt hb, h.rr.below h.rr.lt hb, h.bl.trans (hb.mono h.bl.size)⟩
set_option maxRecDepth 100000 in
set_option maxHeartbeats 3200000 in
theorem takeRest_any (ds : Array Value) (c : CF) (C : IsC ds c) (cf : c.fmt = 2) (m b off n k at' nn mi : Nat) (cm : c.misc = (mi : Int)) (I : List Nat) (hI : I.length = n) (hn : n ≤ 2097152) (hk : n ≤ k) (ha : at' + nn = n) (h0 : mi = 0 → nn = 0) (h1 : mi ≤ nn) (w : World)
    (bl : Blk w m #[.slice (some ⟨b, off, none⟩) n k, .int .i64 at'] 77) (hr : Row w (some ⟨b, off, none⟩) I) :
    Calls Tryd.prog 46 #[.pointer (some ⟨m, 0, none⟩), .agg ds] w (TakeOk m b off n k (at' + nn) nn ((I.drop at').take nn) w) := by
  have HS : Hid (ds.size = 19) := C.size
  have hsz := C.size
  have HM : Hid (m < w.heap.size) := bl.lt
  have LC : Hid (∀ W : World, Blk W m #[.slice (some ⟨b, off, none⟩) n k, .int .i64 at'] 77 → Calls Tryd.prog 63 #[.pointer (some ⟨m, 0, none⟩)] W fun e w' => e = .returned (.int .i64 (nn : Nat)) ∧ Below W.heap.size W w') := fun W bW => by
    refine (left_any m (some ⟨b, off, none⟩) n k at' hn (by omega) W bW).mono ?_
    rintro e w' ⟨rfl, j, rfl⟩
    exact ⟨by rw [show n - at' = nn by omega], below_draws (Below.refl _ _) _⟩
  have TC : Hid (∀ W : World, Below w.heap.size w W → Blk W m #[.slice (some ⟨b, off, none⟩) n k, .int .i64 at'] 77 → Calls _ _ _ _ _) := fun W hb bW => take_any m b off n k at' nn I hI hn hk (by omega) W bW (hr.below hb)
  have BC : Hid (∀ W : World, Calls _ _ _ _ _) := fun W => barred_any ds c C W
  have EC : Hid (∀ W : World, Calls Tryd.prog 65 #[.agg ds.toList.toArray] W fun e w' => e = .returned (.int .i64 (mi : Nat)) ∧ Below W.heap.size W w') := fun W => by
    rw [Array.toArray_toList]
    have hl : leastV c = (mi : Int) := by unfold leastV; rw [if_neg (fun e => by have := e.1; omega), if_pos cf, cm]
    have := least_any ds c C W
    rwa [hl] at this
  have HN : Hid (n - at' = nn) := by unfold Hid; omega
  have HBD : Hid (decide (c.fmt = 2 ∧ c.misc = 0) = decide (mi = 0)) := by
    unfold Hid
    by_cases e : mi = 0
    · rw [decide_eq_true e, decide_eq_true ⟨cf, by rw [cm, e]; rfl⟩]
    · rw [decide_eq_false e, decide_eq_false fun h => e (by have := h.2; omega)]
  generalize (I.drop at').take nn = l at *
  go_enter Tryd.func46, Tryd.ntmps46
  go_upto_region 1 with fail
  have b0 : Blk (w.alloc (.cells ds 25)) w.heap.size ds 25 := Blk.new w ds _
  have hb0 : Below w.heap.size w (w.alloc (.cells ds 25)) := (Below.refl _ _).alloc (Nat.le_refl _) _
  have r0 : Blk (w.alloc (.cells ds 25)) m #[.slice (some ⟨b, off, none⟩) n k, .int .i64 at'] 77 := bl.old _
  generalize w.alloc (.cells ds 25) = W0 at *
  clear hsz bl hr C
  go_cut [11] (fun q wx => q = .bool false ∧ Blk wx w.heap.size ds 25 ∧ Blk wx m #[.slice (some ⟨b, off, none⟩) n k, .int .i64 at'] 77 ∧ Below w.heap.size w wx)
  case first =>
    go_wp2_with (refine wpList_load_mid rfl 25 _ rfl w.heap.size 0 rfl ds.toList _ b0.range Tryd.underlying25 rfl (by rw [Array.length_toList, HS.out]; exact Tryd.infoCart) ?_; rw [Array.toArray_toList])
    refine (BC.out _).mono ?_
    rintro e W1 ⟨rfl, hb1⟩
    rw [HBD.out]
    have b1 := b0.below b0.lt hb1
    have r1 := r0.below r0.lt hb1
    have hb01 := hb0.trans (hb1.mono hb0.size)
    by_cases hm0 : mi = 0
    · rw [decide_eq_true hm0]
      have LC1 : Hid (Calls _ _ _ _ _) := LC.out W1 r1
      rw [h0 hm0] at LC1
      go_wp2_with fail
      refine LC1.out.mono ?_
      rintro e W2 ⟨rfl, hb2⟩
      go_wp2
      go_meet
      exact ⟨rfl, b1.below b1.lt hb2, r1.below r1.lt hb2, hb01.trans (hb2.mono hb01.size)⟩
    · rw [decide_eq_false hm0]
      go_wp2
      go_meet
      exact ⟨rfl, b1, r1, hb01⟩
  case rest =>
  clear BC HBD b0 r0 hb0
  obtain ⟨rfl, b1, r1, hb1⟩ := hcut
  generalize wc = W1 at *
  go_upto_region 3 with fail
  have hlt : ¬ nn < mi := by omega
  go_cut [21] (fun q wx => q = .bool false ∧ Below W1.heap.size W1 wx)
  case first =>
    have s0 : SQ w m ds b off n k at' W1 W1.drew := ⟨b1.drew, r1.drew, (Below.refl _ _).drew⟩
    refine wp_region_held (S := SQ w m ds b off n k at' W1) (by kernel_rfl) ?_
    refine takeH (i := 0) (v := .pointer (some ⟨m, 0, none⟩)) ⟨#[.pointer (some ⟨m, 0, none⟩), .agg ds, undef, .pointer (some ⟨w.heap.size, 0, none⟩), .slice none 0 0, u5, u6, u7, u8, u9, u10, .bool false, u12, u13, u14, u15, u16, .pointer (some ⟨m, 0, none⟩), u18, u19, u20, u21, u22, u23, u24, u25, u26, u27, u28, u29, u30, u31], []⟩ rfl (by kernel_rfl) (by kernel_rfl) (by kernel_rfl) (fun _ _ _ h => h) (.inl ⟨by kernel_rfl, fun _ _ => by kernel_rfl⟩) s0 (by kernel_rfl) ?_
    refine takeH (i := 2) (v := .agg ds.toList.toArray) ⟨#[.pointer (some ⟨m, 0, none⟩), .agg ds, undef, .pointer (some ⟨w.heap.size, 0, none⟩), .slice none 0 0, u5, u6, u7, u8, u9, u10, .bool false, u12, u13, u14, u15, u16, .pointer (some ⟨m, 0, none⟩), u18, .agg ds.toList.toArray, u20, u21, u22, u23, u24, u25, u26, u27, u28, u29, u30, u31], []⟩ rfl (by kernel_rfl) (by kernel_rfl) (by kernel_rfl) (fun _ _ _ h => h) (yieldsIf_load_mid (by kernel_rfl) 25 (.tmp 3) rfl w.heap.size 0 (by kernel_rfl) ds.toList _ (fun v hv => Blk.range hv.bb) Tryd.underlying25 rfl (by rw [Array.length_toList, HS.out]; exact Tryd.infoCart)) s0 (by kernel_rfl) ?_
    refine wpAnyH_all (rs := [1]) (by kernel_rfl) (by simp) ?_
    intro i hi
    obtain rfl : i = 1 := by simpa using hi
    refine wpOp_contract (f := 63) rfl (by kernel_rfl) (by kernel_rfl) (LC.out _ s0.rr) ⟨#[.pointer (some ⟨m, 0, none⟩), .agg ds, undef, .pointer (some ⟨w.heap.size, 0, none⟩), .slice none 0 0, u5, u6, u7, u8, u9, u10, .bool false, u12, u13, u14, u15, u16, .pointer (some ⟨m, 0, none⟩), .int .i64 (nn : Nat), .agg ds.toList.toArray, u20, u21, u22, u23, u24, u25, u26, u27, u28, u29, u30, u31], []⟩ (by kernel_rfl) ?_
    intro Wq hbq
    have s1 := s0.on hbq
    clear hi
    refine ⟨s1, ?_⟩
    refine wpAnyH_all (rs := [3]) (by kernel_rfl) (by simp) ?_
    intro i hi
    obtain rfl : i = 3 := by simpa using hi
    refine wpOp_contract (f := 65) rfl (by kernel_rfl) (by kernel_rfl) (EC.out _) ⟨#[.pointer (some ⟨m, 0, none⟩), .agg ds, undef, .pointer (some ⟨w.heap.size, 0, none⟩), .slice none 0 0, u5, u6, u7, u8, u9, u10, .bool false, u12, u13, u14, u15, u16, .pointer (some ⟨m, 0, none⟩), .int .i64 (nn : Nat), .agg ds.toList.toArray, .int .i64 (mi : Nat), u21, u22, u23, u24, u25, u26, u27, u28, u29, u30, u31], []⟩ (by kernel_rfl) ?_
    intro Wr hbr
    have s2 := s1.on hbr
    clear hi
    refine ⟨s2, ?_⟩
    refine takeH (i := 4) (v := .bool (decide ((nn : Int) < (mi : Int)))) ⟨#[.pointer (some ⟨m, 0, none⟩), .agg ds, undef, .pointer (some ⟨w.heap.size, 0, none⟩), .slice none 0 0, u5, u6, u7, u8, u9, u10, .bool false, u12, u13, u14, u15, u16, .pointer (some ⟨m, 0, none⟩), .int .i64 (nn : Nat), .agg ds.toList.toArray, .int .i64 (mi : Nat), .bool (decide ((nn : Int) < (mi : Int))), u22, u23, u24, u25, u26, u27, u28, u29, u30, u31], []⟩ rfl (by kernel_rfl) (by kernel_rfl) (by kernel_rfl) (fun _ _ _ h => h) (.inl ⟨by kernel_rfl, fun _ _ => by kernel_rfl⟩) s2 (by kernel_rfl) ?_
    refine wpAnyH_done (by kernel_rfl) ?_ _
    go_wp2
    go_meet
    exact ⟨rfl, s2.bl⟩
  case rest =>
  obtain ⟨rfl, hbc⟩ := hcut
  have r2 := r1.below r1.lt hbc
  have hb2 := hb1.trans (hbc.mono hb1.size)
  have hs2 := hb2.size
  generalize wc = W2 at *
  clear b1 r1 hb1 hbc EC hlt
  go_upto_region 5 with fail
  have LC2 : Hid (Calls _ _ _ _ _) := LC.out W2 r2
  go_wp2_with fail
  refine LC2.out.mono ?_
  rintro e W3 ⟨rfl, hb3⟩
  have r3 := r2.below r2.lt hb3
  have hb03 := hb2.trans (hb3.mono hb2.size)
  have TC3 : Hid (Calls _ _ _ _ _) := TC.out W3 hb03 r3
  go_wp2_with fail
  refine TC3.out.mono ?_
  rintro e W4 ⟨a', k', rfl, rf, b4, t4⟩
  go_wp2
  go_ret
  exact ⟨a', k', rfl, rf.mono hb03.size, b4, (Tk.of hb03 HM.out).trans t4⟩
end Go.Proofs.YtpdbndkckioamaaDoor
