/-
  The law CartConverts returns true of every cartridge and every format; conditions: its lists' bytes lie in their slices, the tables in their variables.
-/
import Derived.Test.YtbopmbalfpnbjaaDoorCnvRef2
import Derived.Test.YtbopmbalfpnbjaaDoorCnvCode
set_option linter.unusedSimpArgs false
set_option linter.unusedVariables false
namespace Go.Proofs.YtbopmbalfpnbjaaDoor
open Go.RowKit
/-- What lies in memory while the law runs. -/
structure Fm (w : World) (cs : Array Value) (c : CF) (T P Q R : List Nat) (M gt gp gq gr : Nat) (W : World) : Prop where
  b : Blk W w.heap.size cs 24
  m : Blk W M #[.slice (some ⟨gt, 0, none⟩) (c.nt + 4) (c.nt + 4), .slice (some ⟨gp, 0, none⟩) (c.np + 4) (c.np + 4), .slice (some ⟨gq, 0, none⟩) (c.nq + 4) (c.nq + 4), .slice (some ⟨gr, 0, none⟩) (c.nr + 4) (c.nr + 4)] 26
  ot : Own W gt (marked T)
  op : Own W gp (marked P)
  oq : Own W gq (marked Q)
  or : Own W gr (marked R)
  bl : Below w.heap.size w W
theorem Fm.below {w : World} {cs : Array Value} {c : CF} {T P Q R : List Nat} {M gt gp gq gr : Nat} {W W' : World} (F : Fm w cs c T P Q R M gt gp gq gr W) (hb : Below W.heap.size W W') : Fm w cs c T P Q R M gt gp gq gr W' :=
  ⟨F.b.below F.b.lt hb, F.m.below F.m.lt hb, F.ot.below F.ot.lt hb, F.op.below F.op.lt hb, F.oq.below F.oq.lt hb, F.or.below F.or.lt hb, F.bl.trans (hb.mono F.bl.size)⟩
theorem laid_below (W : World) (xs : Array Value) (t : TypeId) : Below W.heap.size W ((W.alloc (.cells Z19 t)).setCells W.heap.size 0 xs.toList) := setCells_below (Nat.le_refl _) _ _ _ _ ((Below.refl _ _).alloc (Nat.le_refl _) _)
set_option maxRecDepth 100000 in
set_option maxHeartbeats 3200000 in
theorem converts_law (cs : Array Value) (c : CF) (f : Int) (CC : IsC cs c) (hpr : -9223372036854775808 ≤ c.pr ∧ c.pr ≤ 9223372036854775807) (hpn : -9223372036854775808 ≤ c.pn ∧ c.pn ≤ 9223372036854775807)
    (T P Q R : List Nat) (at' ap aq ar : Option Addr) (kt kp kq kr : Nat) (w : World)
    (C : CartAt w cs T P Q R at' ap aq ar c.nt c.np c.nq c.nr kt kp kq kr) (B : Bnd w) (Tt : Tz w) :
    Calls Tryd.prog 3 #[.agg cs, .int .i64 f] w fun e w' => e = .returned (.bool true) ∧ Below w.heap.size w w' := by
  have HS : Hid (cs.size = 19) := C.size
  have hsz := C.size
  go_enter Tryd.func3, Tryd.ntmps3
  go_upto_region 1 with fail
  have hb0 : Below w.heap.size w (w.alloc (.cells cs 24)) := (Below.refl _ _).alloc (Nat.le_refl _) _
  have b0 : Blk (w.alloc (.cells cs 24)) w.heap.size cs 24 := Blk.new w cs _
  generalize w.alloc (.cells cs 24) = W0 at *
  clear hsz
  go_wp2_with (refine wpList_load_mid rfl 24 _ rfl w.heap.size 0 rfl cs.toList _ b0.range Tryd.underlying24 rfl (by rw [Array.length_toList, HS.out]; exact Tryd.infoCart) ?_)
  refine (room_any cs C.size T P Q R at' ap aq ar c.nt c.np c.nq c.nr kt kp kq kr W0 C.lt C.lp C.lq C.lr C.bt C.bp C.bq C.br C.mt C.mp C.mq C.mr C.h15 C.h16 C.h17 C.h18 (C.rt.below hb0) (C.rp.below hb0) (C.rq.below hb0) (C.rr.below hb0)).mono ?_
  rintro e W1 ⟨gt, gp, gq, gr, rfl, z1, z2, z3, z4, ot, op, oq, or, hb1⟩
  have s0 := hb0.size
  have s1 := hb1.size
  have hbA : Below W1.heap.size W1 (W1.alloc (.cells #[.slice (some ⟨gt, 0, none⟩) (c.nt + 4) (c.nt + 4), .slice (some ⟨gp, 0, none⟩) (c.np + 4) (c.np + 4), .slice (some ⟨gq, 0, none⟩) (c.nq + 4) (c.nq + 4), .slice (some ⟨gr, 0, none⟩) (c.nr + 4) (c.nr + 4)] 26)) := (Below.refl _ _).alloc (Nat.le_refl _) _
  have F : Fm w cs c T P Q R W1.heap.size gt gp gq gr (W1.alloc (.cells #[.slice (some ⟨gt, 0, none⟩) (c.nt + 4) (c.nt + 4), .slice (some ⟨gp, 0, none⟩) (c.np + 4) (c.np + 4), .slice (some ⟨gq, 0, none⟩) (c.nq + 4) (c.nq + 4), .slice (some ⟨gr, 0, none⟩) (c.nr + 4) (c.nr + 4)] 26)) :=
    ⟨(b0.below b0.lt hb1).below (Nat.lt_of_lt_of_le b0.lt s1) hbA, Blk.new W1 #[.slice (some ⟨gt, 0, none⟩) (c.nt + 4) (c.nt + 4), .slice (some ⟨gp, 0, none⟩) (c.np + 4) (c.np + 4), .slice (some ⟨gq, 0, none⟩) (c.nq + 4) (c.nq + 4), .slice (some ⟨gr, 0, none⟩) (c.nr + 4) (c.nr + 4)] 26, ot.below ot.lt hbA, op.below op.lt hbA, oq.below oq.lt hbA, or.below or.lt hbA, (hb0.trans (hb1.mono s0)).trans (hbA.mono (by omega))⟩
  go_upto_region 2 with fail
  clear b0 ot op oq or hbA
  generalize W1.alloc (.cells #[.slice (some ⟨gt, 0, none⟩) (c.nt + 4) (c.nt + 4), .slice (some ⟨gp, 0, none⟩) (c.np + 4) (c.np + 4), .slice (some ⟨gq, 0, none⟩) (c.nq + 4) (c.nq + 4), .slice (some ⟨gr, 0, none⟩) (c.nr + 4) (c.nr + 4)] 26) = W2 at *
  generalize hM : W1.heap.size = M at *
  clear hM hb1 z1 z2 z3 z4 s0 s1 hb0
  have XW : Hid (Cl w cs c T P Q R) := ⟨CC, C.lt, C.lp, C.lq, C.lr, ⟨_, _, C.h15, C.rt⟩, ⟨_, _, C.h16, C.rp⟩, ⟨_, _, C.h17, C.rq⟩, ⟨_, _, C.h18, C.rr⟩⟩
  have IC : Hid (∀ W : World, Fm w cs c T P Q R M gt gp gq gr W → Calls _ _ _ _ _) := fun W F => in_any cs C.size C.one at' ap aq ar c.nt c.np c.nq c.nr kt kp kq kr gt gp gq gr M W F.m.lt C.h15 C.h16 C.h17 C.h18 (F.m.cell 0) (F.m.cell 1) (F.m.cell 2) (F.m.cell 3)
  have VC : Hid (∀ W : World, Fm w cs c T P Q R M gt gp gq gr W → Calls _ _ _ _ _) := fun W F => convert_any (lists4 cs (.slice (some ⟨gt, 0, none⟩) c.nt (c.nt + 4)) (.slice (some ⟨gp, 0, none⟩) c.np (c.np + 4)) (.slice (some ⟨gq, 0, none⟩) c.nq (c.nq + 4)) (.slice (some ⟨gr, 0, none⟩) c.nr (c.nr + 4))) c f T P Q R W (cl_lists CC C.lt C.lp C.lq C.lr _ _ _ _ _ _ _ _ F.ot.front F.op.front F.oq.front F.or.front) hpr hpn (B.below B.lt F.bl) (Tt.below F.bl)
  have RC : Hid (∀ W : World, Fm w cs c T P Q R M gt gp gq gr W → Calls _ _ _ _ _) := fun W F => rconvert_any cs c f T P Q R W (XW.out.below F.bl) hpr hpn
  have KC : Hid (∀ W : World, Fm w cs c T P Q R M gt gp gq gr W → Calls _ _ _ _ _) := fun W F => kept_any cs C.size T P Q R at' ap aq ar c.nt c.np c.nq c.nr kt kp kq kr gt gp gq gr M W F.m.lt C.lt C.lp C.lq C.lr C.mt C.mp C.mq C.mr C.h15 C.h16 C.h17 C.h18 (C.rt.below F.bl) (C.rp.below F.bl) (C.rq.below F.bl) (C.rr.below F.bl) F.ot F.op F.oq F.or (F.m.cell 0) (F.m.cell 1) (F.m.cell 2) (F.m.cell 3)
  clear B Tt
  go_cut [6, 7, 8] (fun p q r wx => ∃ g xs, p = .pointer (some ⟨g, 0, none⟩) ∧ q = .int .i64 (cvE c f) ∧ r = .int .i64 (cvN c f) ∧ Blk wx g xs 24 ∧ Cl wx xs (cvC c f) (cvT c f T) (cvT c f P) (cvT c f Q) (cvT c f R) ∧ Fm w cs c T P Q R M gt gp gq gr wx)
  case first =>
    go_wp2_with (first
      | (refine wpList_load_mid rfl 24 _ rfl w.heap.size 0 rfl cs.toList _ F.b.range Tryd.underlying24 rfl (by rw [Array.length_toList, HS.out]; exact Tryd.infoCart) ?_; rw [Array.toArray_toList])
      | (go_at_call 6; go_must (refine (IC.out _ F).mono ?_; rintro e W4 ⟨rfl, hb4⟩; have F4 := F.below hb4))
      | (go_at_call 5; go_must (refine (VC.out _ F4).mono ?_; rintro e W5 ⟨xs, rfl, XL, hb5⟩; have HX : Hid (xs.size = 19 ∧ xs.all (·.oneCell') = true) := ⟨XL.c.size, XL.c.one⟩))
      | (refine wpList_store_mid rfl 24 _ _ rfl _ 0 xs rfl rfl ((Blk.new _ _ _).there _ (by first | exact HX.out.1.symm | (rw [HX.out.1]; rfl))) (by rw [HX.out.1]; exact Tryd.infoCart) HX.out.2 ?_))
    go_meet
    exact ⟨_, xs, rfl, rfl, rfl, (Blk.new W5 Z19 24).setAll (L := xs) HX.out.1, XL.below (laid_below W5 xs _), (F4.below hb5).below (laid_below W5 xs _)⟩
  case rest =>
  clear F IC VC
  obtain ⟨g6, xs6, rfl, rfl, rfl, B6, X6, F⟩ := hcut
  go_upto_region 3 with fail
  go_cut [9, 10, 11] (fun p q r wx => ∃ g xs, p = .pointer (some ⟨g, 0, none⟩) ∧ q = .int .i64 (cvE c f) ∧ r = .int .i64 (cvN c f) ∧ Blk wx g xs 24 ∧ Cl wx xs (cvC c f) (cvT c f T) (cvT c f P) (cvT c f Q) (cvT c f R) ∧ Blk wx g6 xs6 24 ∧ Cl wx xs6 (cvC c f) (cvT c f T) (cvT c f P) (cvT c f Q) (cvT c f R) ∧ Fm w cs c T P Q R M gt gp gq gr wx)
  case first =>
    go_wp2_with (first
      | (refine wpList_load_mid rfl 24 _ rfl w.heap.size 0 rfl cs.toList _ F.b.range Tryd.underlying24 rfl (by rw [Array.length_toList, HS.out]; exact Tryd.infoCart) ?_; rw [Array.toArray_toList])
      | (go_at_call 7; go_must (refine (RC.out _ F).mono ?_; rintro e W5 ⟨xs, rfl, XL, hb5⟩; have HX : Hid (xs.size = 19 ∧ xs.all (·.oneCell') = true) := ⟨XL.c.size, XL.c.one⟩; have B65 := B6.below B6.lt hb5))
      | (refine wpList_store_mid rfl 24 _ _ rfl _ 0 xs rfl rfl ((Blk.new _ _ _).there _ (by first | exact HX.out.1.symm | (rw [HX.out.1]; rfl))) (by rw [HX.out.1]; exact Tryd.infoCart) HX.out.2 ?_))
    go_meet
    exact ⟨_, xs, rfl, rfl, rfl, (Blk.new W5 Z19 24).setAll (L := xs) HX.out.1, XL.below (laid_below W5 xs _), B65.below B65.lt (laid_below W5 xs _), (X6.below hb5).below (laid_below W5 xs _), (F.below hb5).below (laid_below W5 xs _)⟩
  case rest =>
  clear F RC B6 X6
  obtain ⟨g9, xs9, rfl, rfl, rfl, B9, X9, B6, X6, F⟩ := hcut
  have H6 : Hid (xs6.size = 19) := X6.c.size
  have H9 : Hid (xs9.size = 19) := X9.c.size
  have EC : Hid (Calls _ _ _ _ _) := equal_yes xs6 xs9 (cvC c f) (cvT c f T) (cvT c f P) (cvT c f Q) (cvT c f R) wc X6 X9
  have q1 : (cvE c f == cvE c f) = true := by simp
  have q2 : (cvN c f == cvN c f) = true := by simp
  generalize cvE c f = x1 at *
  generalize cvN c f = x2 at *
  go_wp2_with (first
    | (refine wpList_load_want (by rfl) 24 _ rfl g6 0 rfl xs6.toList _ B6.range Tryd.underlying24 rfl (by rw [Array.length_toList, H6.out]; exact Tryd.infoCart) ?_; rw [Array.toArray_toList])
    | (refine wpList_load_want (by rfl) 24 _ rfl g9 0 rfl xs9.toList _ B9.range Tryd.underlying24 rfl (by rw [Array.length_toList, H9.out]; exact Tryd.infoCart) ?_; rw [Array.toArray_toList]))
  refine EC.out.mono ?_
  rintro e W7 ⟨rfl, hb7⟩
  have F7 := F.below hb7
  go_wp2_with (refine wpList_load_want (by rfl) 24 _ rfl w.heap.size 0 rfl cs.toList _ F7.b.range Tryd.underlying24 rfl (by rw [Array.length_toList, HS.out]; exact Tryd.infoCart) ?_; rw [Array.toArray_toList])
  refine (KC.out _ F7).mono ?_
  rintro e W8 ⟨rfl, hb8⟩
  go_wp2
  go_ret
  exact ⟨rfl, (F7.below hb8).bl⟩
end Go.Proofs.YtbopmbalfpnbjaaDoor
