/-
  The law CartPrints returns true of every cartridge; conditions: its lists' bytes lie in their slices, the tables in their variables.
-/
import Derived.Test.YtmjolcdocoiaeaaDoorPrtRef
namespace Go.Proofs.YtmjolcdocoiaeaaDoor
open Go.RowKit
/-- What lies in memory while the law runs. -/
structure Fm (w : World) (cs : Array Value) (c : CF) (T P Q R : List Nat) (M gt gp gq gr : Nat) (W : World) : Prop where
  b : Blk W w.heap.size cs 24
  m : Blk W M #[.slice (some ⟨gt, 0, none⟩) (c.nt + 4) (c.nt + 4), .slice (some ⟨gp, 0, none⟩) (c.np + 4) (c.np + 4), .slice (some ⟨gq, 0, none⟩) (c.nq + 4) (c.nq + 4), .slice (some ⟨gr, 0, none⟩) (c.nr + 4) (c.nr + 4)] 26
  ot : Own W gt (marked T)
  op : Own W gp (marked P)
  oq : Own W gq (marked Q)
  or : Own W gr (marked R)
  bl : Below w.heap.size w W
theorem Fm.below {w : World} {cs : Array Value} {c : CF} {T P Q R : List Nat} {M gt gp gq gr : Nat} {W W' : World} (F : Fm w cs c T P Q R M gt gp gq gr W) (hb : Below W.heap.size W W') : Fm w cs c T P Q R M gt gp gq gr W' :=
  ⟨F.b.below F.b.lt hb, F.m.below F.m.lt hb, F.ot.below F.ot.lt hb, F.op.below F.op.lt hb, F.oq.below F.oq.lt hb, F.or.below F.or.lt hb, F.bl.trans (hb.mono F.bl.size)⟩
theorem im_len {c : CF} {x : HN} {T P Q R : List Nat} (hx : ckE c = 0 → Hb c x) (lt : T.length = c.nt) (lp : P.length = c.np) (lq : Q.length = c.nq) (lr : R.length = c.nr) : (imL c x T P Q R).length ≤ 2097152 := by
  unfold imL
  split
  · next h =>
    have hl := (hx h).len
    unfold Chk.imageLen at hl
    simp only [List.length_append, hdL_len]
    omega
  · simp
theorem num_of (c : CF) : ∃ x, ckE c = 0 → Hb c x := by
  by_cases h : ckE c = 0
  · obtain ⟨x, hx⟩ := hb_of h
    exact ⟨x, fun _ => hx⟩
  · exact ⟨⟨0, 0, 0, 0, 0, 0, 0, 0, 0, 0, 0, 0, 0⟩, fun e => absurd e h⟩
set_option maxRecDepth 100000 in
set_option maxHeartbeats 3200000 in
theorem prints_law (cs : Array Value) (c : CF) (CC : IsC cs c) (hpr : -9223372036854775808 ≤ c.pr ∧ c.pr ≤ 9223372036854775807) (hpn : -9223372036854775808 ≤ c.pn ∧ c.pn ≤ 9223372036854775807)
    (T P Q R : List Nat) (at' ap aq ar : Option Addr) (kt kp kq kr : Nat) (w : World)
    (C : CartAt w cs T P Q R at' ap aq ar c.nt c.np c.nq c.nr kt kp kq kr) (B : Bnd w) (Tt : Tz w) (Mw : Mg w) :
    Calls Tryd.prog 3 #[.agg cs] w fun e w' => e = .returned (.bool true) ∧ Below w.heap.size w w' := by
  obtain ⟨x, hx⟩ := num_of c
  have HS : Hid (cs.size = 19) := C.size
  have hsz := C.size
  go_enter Tryd.func3, Tryd.ntmps3
  go_upto_region 1 with fail
  have hb0 : Below w.heap.size w (w.alloc (.cells cs 24)) := (Below.refl _ _).alloc (Nat.le_refl _) _
  have b0 : Blk (w.alloc (.cells cs 24)) w.heap.size cs 24 := Blk.new w cs _
  generalize w.alloc (.cells cs 24) = W0 at *
  clear hsz
  go_wp2_with (refine wpList_load_mid rfl 24 _ rfl w.heap.size 0 rfl cs.toList _ b0.range Tryd.underlying24 rfl (by rw [Array.length_toList, HS.out]; exact Tryd.infoCart) ?_)
  refine (room_any cs C.size T P Q R at' ap aq ar c.nt c.np c.nq c.nr kt kp kq kr W0 C.lt C.lp C.lq C.lr C.bt C.bp C.bq C.br C.mt C.mp C.mq C.mr C.h15 C.h16 C.h17 C.h18 (C.rt.below hb0) (C.rp.below hb0) (C.rq.below hb0) (C.rr.below hb0)).mono ?_
  rintro e W1 ⟨gt, gp, gq, gr, rfl, z1, z2, z3, z4, ot, op, oq, or, hb1⟩
  have s0 := hb0.size
  have s1 := hb1.size
  have hbA : Below W1.heap.size W1 (W1.alloc (.cells #[.slice (some ⟨gt, 0, none⟩) (c.nt + 4) (c.nt + 4), .slice (some ⟨gp, 0, none⟩) (c.np + 4) (c.np + 4), .slice (some ⟨gq, 0, none⟩) (c.nq + 4) (c.nq + 4), .slice (some ⟨gr, 0, none⟩) (c.nr + 4) (c.nr + 4)] 26)) := (Below.refl _ _).alloc (Nat.le_refl _) _
  have F : Fm w cs c T P Q R W1.heap.size gt gp gq gr (W1.alloc (.cells #[.slice (some ⟨gt, 0, none⟩) (c.nt + 4) (c.nt + 4), .slice (some ⟨gp, 0, none⟩) (c.np + 4) (c.np + 4), .slice (some ⟨gq, 0, none⟩) (c.nq + 4) (c.nq + 4), .slice (some ⟨gr, 0, none⟩) (c.nr + 4) (c.nr + 4)] 26)) :=
    ⟨(b0.below b0.lt hb1).below (Nat.lt_of_lt_of_le b0.lt s1) hbA, Blk.new W1 #[.slice (some ⟨gt, 0, none⟩) (c.nt + 4) (c.nt + 4), .slice (some ⟨gp, 0, none⟩) (c.np + 4) (c.np + 4), .slice (some ⟨gq, 0, none⟩) (c.nq + 4) (c.nq + 4), .slice (some ⟨gr, 0, none⟩) (c.nr + 4) (c.nr + 4)] 26, ot.below ot.lt hbA, op.below op.lt hbA, oq.below oq.lt hbA, or.below or.lt hbA, (hb0.trans (hb1.mono s0)).trans (hbA.mono (by omega))⟩
  go_upto_region 2 with fail
  clear b0 ot op oq or hbA
  generalize W1.alloc (.cells #[.slice (some ⟨gt, 0, none⟩) (c.nt + 4) (c.nt + 4), .slice (some ⟨gp, 0, none⟩) (c.np + 4) (c.np + 4), .slice (some ⟨gq, 0, none⟩) (c.nq + 4) (c.nq + 4), .slice (some ⟨gr, 0, none⟩) (c.nr + 4) (c.nr + 4)] 26) = W2 at *
  generalize hM : W1.heap.size = M at *
  clear hM hb1 z1 z2 z3 z4 s0 s1 hb0
  have XW : Hid (Cl w cs c T P Q R) := ⟨CC, C.lt, C.lp, C.lq, C.lr, ⟨_, _, C.h15, C.rt⟩, ⟨_, _, C.h16, C.rp⟩, ⟨_, _, C.h17, C.rq⟩, ⟨_, _, C.h18, C.rr⟩⟩
  have HLN : Hid ((imL c x T P Q R).length ≤ 2097152) := im_len hx C.lt C.lp C.lq C.lr
  have IC : Hid (∀ W : World, Fm w cs c T P Q R M gt gp gq gr W → Calls _ _ _ _ _) := fun W F => in_any cs C.size C.one at' ap aq ar c.nt c.np c.nq c.nr kt kp kq kr gt gp gq gr M W F.m.lt C.h15 C.h16 C.h17 C.h18 (F.m.cell 0) (F.m.cell 1) (F.m.cell 2) (F.m.cell 3)
  have VC : Hid (∀ W : World, Fm w cs c T P Q R M gt gp gq gr W → Calls _ _ _ _ _) := fun W F => print_any (lists4 cs (.slice (some ⟨gt, 0, none⟩) c.nt (c.nt + 4)) (.slice (some ⟨gp, 0, none⟩) c.np (c.np + 4)) (.slice (some ⟨gq, 0, none⟩) c.nq (c.nq + 4)) (.slice (some ⟨gr, 0, none⟩) c.nr (c.nr + 4))) c x T P Q R W (cl_lists CC C.lt C.lp C.lq C.lr _ _ _ _ _ _ _ _ F.ot.front F.op.front F.oq.front F.or.front) hx hpr hpn (B.below B.lt F.bl) (Tt.below F.bl)
  have RC : Hid (∀ W : World, Fm w cs c T P Q R M gt gp gq gr W → Calls _ _ _ _ _) := fun W F => rprint_any cs c x T P Q R W (XW.out.below F.bl) hx hpr hpn (Mw.below F.bl)
  have KC : Hid (∀ W : World, Fm w cs c T P Q R M gt gp gq gr W → Calls _ _ _ _ _) := fun W F => kept_any cs C.size T P Q R at' ap aq ar c.nt c.np c.nq c.nr kt kp kq kr gt gp gq gr M W F.m.lt C.lt C.lp C.lq C.lr C.mt C.mp C.mq C.mr C.h15 C.h16 C.h17 C.h18 (C.rt.below F.bl) (C.rp.below F.bl) (C.rq.below F.bl) (C.rr.below F.bl) F.ot F.op F.oq F.or (F.m.cell 0) (F.m.cell 1) (F.m.cell 2) (F.m.cell 3)
  clear B Tt Mw hx
  generalize imL c x T P Q R = L at *
  go_cut [4, 5, 6] (fun p q r wx => ∃ a n k, p = .slice a n k ∧ q = .int .i64 (ckE c) ∧ r = .int .i64 (ckN c) ∧ L.length = n ∧ Row wx a L ∧ Fm w cs c T P Q R M gt gp gq gr wx)
  case first =>
    go_wp2_with (first
      | (refine wpList_load_mid rfl 24 _ rfl w.heap.size 0 rfl cs.toList _ F.b.range Tryd.underlying24 rfl (by rw [Array.length_toList, HS.out]; exact Tryd.infoCart) ?_; rw [Array.toArray_toList])
      | (go_at_call 6; go_must (refine (IC.out _ F).mono ?_; rintro e W4 ⟨rfl, hb4⟩; have F4 := F.below hb4))
      | (go_at_call 5; go_must (refine (VC.out _ F4).mono ?_; rintro e W5 ⟨a1, n1, k1, rfl, hn1, hr1, hb5⟩)))
    go_meet
    exact ⟨a1, n1, k1, rfl, rfl, rfl, hn1, hr1, F4.below hb5⟩
  case rest =>
  clear F IC VC
  obtain ⟨a1, n1, k1, rfl, rfl, rfl, hn1, hr1, F⟩ := hcut
  have H1 : Hid (L.length = n1) := hn1
  clear hn1
  go_upto_region 3 with fail
  go_cut [7, 8, 9] (fun p q r wx => ∃ a n k, p = .slice a n k ∧ q = .int .i64 (ckE c) ∧ r = .int .i64 (ckN c) ∧ L.length = n ∧ Row wx a L ∧ Row wx a1 L ∧ Fm w cs c T P Q R M gt gp gq gr wx)
  case first =>
    go_wp2_with (first
      | (refine wpList_load_mid rfl 24 _ rfl w.heap.size 0 rfl cs.toList _ F.b.range Tryd.underlying24 rfl (by rw [Array.length_toList, HS.out]; exact Tryd.infoCart) ?_; rw [Array.toArray_toList])
      | (go_at_call 7; go_must (refine (RC.out _ F).mono ?_; rintro e W5 ⟨a2, n2, k2, rfl, hn2, hr2, hb5⟩)))
    go_meet
    exact ⟨a2, n2, k2, rfl, rfl, rfl, hn2, hr2, hr1.below hb5, F.below hb5⟩
  case rest =>
  clear F RC hr1
  obtain ⟨a2, n2, k2, rfl, rfl, rfl, hn2, hr2, hr1, F⟩ := hcut
  have SC : Hid (Calls _ _ _ _ _) := same_n n1 n2 L H1.out hn2 (by have := HLN.out; have := H1.out; omega) a1 a2 k1 k2 wc hr1 hr2
  clear hn2 hr1 hr2 H1
  have q1 : (ckE c == ckE c) = true := by simp
  have q2 : (ckN c == ckN c) = true := by simp
  generalize ckE c = x1 at *
  generalize ckN c = x2 at *
  go_wp2_with fail
  refine SC.out.mono ?_
  rintro e W7 ⟨rfl, m7, hw7⟩
  have hb7 : Below wc.heap.size wc W7 := by rw [hw7]; exact below_draws (Below.refl _ _) _
  have F7 := F.below hb7
  clear hw7 SC
  go_wp2_with (refine wpList_load_want (by rfl) 24 _ rfl w.heap.size 0 rfl cs.toList _ F7.b.range Tryd.underlying24 rfl (by rw [Array.length_toList, HS.out]; exact Tryd.infoCart) ?_; rw [Array.toArray_toList])
  refine (KC.out _ F7).mono ?_
  rintro e W8 ⟨rfl, hb8⟩
  go_wp2
  go_ret
  exact ⟨rfl, (F7.below hb8).bl⟩
end Go.Proofs.YtmjolcdocoiaeaaDoor
