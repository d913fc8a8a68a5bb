/-
  The law CartChecks returns true of every cartridge; conditions: its lists' bytes lie in their slices, the tables in their variables.
-/
import Derived.Test.YtekhophlifjfnaaDoorChkR7
set_option linter.unusedSimpArgs false
set_option linter.unusedVariables false
namespace Go.Proofs.YtekhophlifjfnaaDoor
open Go.RowKit
/-- A load whose guard says yes. -/
theorem wpList_load_want {P : Program} {ops : Array Oper} {rest : List Oper} {op : Oper} {a : Act} {w : World} {Q : Exit → Act → World → Prop} (hw : Region.wanted op (yielded ops a.tmps) = true) (ty : TypeId) (x : Operand) (ho : op.op = .load ty x)
    (b o : Nat) (hx : a.eval x = .pointer (some ⟨b, o, none⟩)) (cs : List Value) (d : TypeDesc) (hc : w.rangeAt b o cs)
    (hu : P.underlying ty = some d) (hd : d.isRow = true) (hi : (P.info? ty).map (·.size) = some cs.length)
    (h : wpList P ops Q rest (a.put op.dst (.agg cs.toArray)) w) : wpList P ops Q (op :: rest) a w :=
  BigFrame.wpList_want hw fun _ hK => wp_load_mid ty x ho b o hx cs d hc hu hd hi (hK _ _ h)
/-- The four lists of a cartridge, and what lies where. -/
structure CartAt (w : World) (cs : Array Value) (T P Q R : List Nat) (at' ap aq ar : Option Addr) (nt np nq nr kt kp kq kr : Nat) : Prop where
  size : cs.size = 19
  one : cs.all (·.oneCell') = true
  lt : T.length = nt
  lp : P.length = np
  lq : Q.length = nq
  lr : R.length = nr
  bt : Bytes T
  bp : Bytes P
  bq : Bytes Q
  br : Bytes R
  mt : nt ≤ 140737488351232
  mp : np ≤ 140737488351232
  mq : nq ≤ 140737488351232
  mr : nr ≤ 140737488351232
  h15 : cs[15]? = some (.slice at' nt kt)
  h16 : cs[16]? = some (.slice ap np kp)
  h17 : cs[17]? = some (.slice aq nq kq)
  h18 : cs[18]? = some (.slice ar nr kr)
  rt : Row w at' T
  rp : Row w ap P
  rq : Row w aq Q
  rr : Row w ar R
theorem marked_take (l : List Nat) : (marked l).take l.length = l := by simp [marked]
theorem Own.front {w : World} {g : Nat} {l : List Nat} (h : Own w g (marked l)) : Row w (some ⟨g, 0, none⟩) l := by
  have := h.row.take l.length
  rwa [marked_take] at this

theorem lists4_low (cs : Array Value) (t p q r : Value) (i : Nat) (hi : i < 15) : (lists4 cs t p q r)[i]? = cs[i]? := by
  unfold lists4
  rw [Array.getElem?_setIfInBounds_ne (by omega), Array.getElem?_setIfInBounds_ne (by omega), Array.getElem?_setIfInBounds_ne (by omega), Array.getElem?_setIfInBounds_ne (by omega)]
theorem IsC.lists {cs : Array Value} {c : CF} (C : IsC cs c) (gt gp gq gr : Option Addr) (kt kp kq kr : Nat) : IsC (lists4 cs (.slice gt c.nt kt) (.slice gp c.np kp) (.slice gq c.nq kq) (.slice gr c.nr kr)) c := by
  have hs := C.size
  exact ⟨by rw [lists4_size]; exact C.size, lists4_one C.one rfl rfl rfl rfl,
    (lists4_low _ _ _ _ _ 0 (by decide)).trans C.h0, (lists4_low _ _ _ _ _ 1 (by decide)).trans C.h1, (lists4_low _ _ _ _ _ 2 (by decide)).trans C.h2, (lists4_low _ _ _ _ _ 3 (by decide)).trans C.h3, (lists4_low _ _ _ _ _ 4 (by decide)).trans C.h4,
    (lists4_low _ _ _ _ _ 5 (by decide)).trans C.h5, (lists4_low _ _ _ _ _ 6 (by decide)).trans C.h6, (lists4_low _ _ _ _ _ 7 (by decide)).trans C.h7, (lists4_low _ _ _ _ _ 8 (by decide)).trans C.h8, (lists4_low _ _ _ _ _ 9 (by decide)).trans C.h9,
    (lists4_low _ _ _ _ _ 10 (by decide)).trans C.h10, (lists4_low _ _ _ _ _ 11 (by decide)).trans C.h11, (lists4_low _ _ _ _ _ 12 (by decide)).trans C.h12, (lists4_low _ _ _ _ _ 13 (by decide)).trans C.h13, (lists4_low _ _ _ _ _ 14 (by decide)).trans C.h14,
    ⟨gt, kt, by simp [lists4, hs]⟩, ⟨gp, kp, by simp [lists4, hs]⟩, ⟨gq, kq, by simp [lists4, hs]⟩, ⟨gr, kr, by simp [lists4, hs]⟩, C.mt, C.mp, C.mq, C.mr⟩
set_option maxRecDepth 100000 in
set_option maxHeartbeats 3200000 in
theorem checks_law (cs : Array Value) (c : CF) (CC : IsC cs c) (hpr : -9223372036854775808 ≤ c.pr ∧ c.pr ≤ 9223372036854775807) (hpn : -9223372036854775808 ≤ c.pn ∧ c.pn ≤ 9223372036854775807)
    (T P Q R : List Nat) (at' ap aq ar : Option Addr) (kt kp kq kr : Nat) (w : World)
    (C : CartAt w cs T P Q R at' ap aq ar c.nt c.np c.nq c.nr kt kp kq kr) (B : Bnd w) (Tt : Tz w) :
    Calls Tryd.prog 3 #[.agg cs] w fun e w' => e = .returned (.bool true) ∧ Below w.heap.size w w' := by
  have HS : Hid (cs.size = 19) := C.size
  have hsz := C.size
  go_enter Tryd.func3, Tryd.ntmps3
  go_upto_region 1 with fail
  have hb0 : Below w.heap.size w (w.alloc (.cells cs 24)) := (Below.refl _ _).alloc (Nat.le_refl _) _
  have b0 : Blk (w.alloc (.cells cs 24)) w.heap.size cs 24 := Blk.new w cs _
  generalize w.alloc (.cells cs 24) = W0 at *
  clear hsz
  go_wp2_with (refine wpList_load_mid rfl 24 _ rfl w.heap.size 0 rfl cs.toList _ b0.range Tryd.underlying24 rfl (by rw [Array.length_toList, HS.out]; exact Tryd.infoCart) ?_)
  refine (room_any cs C.size T P Q R at' ap aq ar c.nt c.np c.nq c.nr kt kp kq kr W0 C.lt C.lp C.lq C.lr C.bt C.bp C.bq C.br C.mt C.mp C.mq C.mr C.h15 C.h16 C.h17 C.h18 (C.rt.below hb0) (C.rp.below hb0) (C.rq.below hb0) (C.rr.below hb0)).mono ?_
  rintro e W1 ⟨gt, gp, gq, gr, rfl, z1, z2, z3, z4, ot, op, oq, or, hb1⟩
  have s0 := hb0.size
  have s1 := hb1.size
  have hbA : Below W1.heap.size W1 (W1.alloc (.cells #[.slice (some ⟨gt, 0, none⟩) (c.nt + 4) (c.nt + 4), .slice (some ⟨gp, 0, none⟩) (c.np + 4) (c.np + 4), .slice (some ⟨gq, 0, none⟩) (c.nq + 4) (c.nq + 4), .slice (some ⟨gr, 0, none⟩) (c.nr + 4) (c.nr + 4)] 26)) := (Below.refl _ _).alloc (Nat.le_refl _) _
  have bm := Blk.new W1 #[.slice (some ⟨gt, 0, none⟩) (c.nt + 4) (c.nt + 4), .slice (some ⟨gp, 0, none⟩) (c.np + 4) (c.np + 4), .slice (some ⟨gq, 0, none⟩) (c.nq + 4) (c.nq + 4), .slice (some ⟨gr, 0, none⟩) (c.nr + 4) (c.nr + 4)] 26
  have hb2 : Below w.heap.size w (W1.alloc (.cells #[.slice (some ⟨gt, 0, none⟩) (c.nt + 4) (c.nt + 4), .slice (some ⟨gp, 0, none⟩) (c.np + 4) (c.np + 4), .slice (some ⟨gq, 0, none⟩) (c.nq + 4) (c.nq + 4), .slice (some ⟨gr, 0, none⟩) (c.nr + 4) (c.nr + 4)] 26)) := (hb0.trans (hb1.mono s0)).trans (hbA.mono (by omega))
  have b2 := (b0.below b0.lt hb1).below (Nat.lt_of_lt_of_le b0.lt s1) hbA
  have ot2 := ot.below ot.lt hbA
  have op2 := op.below op.lt hbA
  have oq2 := oq.below oq.lt hbA
  have or2 := or.below or.lt hbA
  go_upto_region 2 with fail
  clear b0 ot op oq or hbA
  generalize W1.alloc (.cells #[.slice (some ⟨gt, 0, none⟩) (c.nt + 4) (c.nt + 4), .slice (some ⟨gp, 0, none⟩) (c.np + 4) (c.np + 4), .slice (some ⟨gq, 0, none⟩) (c.nq + 4) (c.nq + 4), .slice (some ⟨gr, 0, none⟩) (c.nr + 4) (c.nr + 4)] 26) = W2 at *
  generalize hM : W1.heap.size = M at *
  clear hM hb1 z1 z2 z3 z4
  go_wp2_with (refine wpList_load_mid rfl 24 _ rfl w.heap.size 0 rfl cs.toList _ b2.range Tryd.underlying24 rfl (by rw [Array.length_toList, HS.out]; exact Tryd.infoCart) ?_)
  refine (in_any cs C.size C.one at' ap aq ar c.nt c.np c.nq c.nr kt kp kq kr gt gp gq gr M W2 bm.lt C.h15 C.h16 C.h17 C.h18 (bm.cell 0) (bm.cell 1) (bm.cell 2) (bm.cell 3)).mono ?_
  rintro e W4 ⟨rfl, hb4⟩
  have s3 := hb2.size
  have hbw4 : Below w.heap.size w W4 := hb2.trans (hb4.mono s3)
  have b4 := b2.below b2.lt hb4
  have bm4 := bm.below bm.lt hb4
  have ot4 := ot2.below ot2.lt hb4
  have op4 := op2.below op2.lt hb4
  have oq4 := oq2.below oq2.lt hb4
  have or4 := or2.below or2.lt hb4
  clear b2 bm ot2 op2 oq2 or2 hb4 hb2
  go_wp2_with fail
  refine (check_any _ c (CC.lists _ _ _ _ _ _ _ _) hpr hpn W4 (B.below B.lt hbw4) (Tt.below hbw4)).mono ?_
  rintro e W5 ⟨rfl, hb5⟩
  have s4 := hbw4.size
  have hbw5 : Below w.heap.size w W5 := hbw4.trans (hb5.mono s4)
  have b5 := b4.below b4.lt hb5
  have bm5 := bm4.below bm4.lt hb5
  have ot5 := ot4.below ot4.lt hb5
  have op5 := op4.below op4.lt hb5
  have oq5 := oq4.below oq4.lt hb5
  have or5 := or4.below or4.lt hb5
  clear b4 bm4 ot4 op4 oq4 or4 hb5 hbw4
  go_wp2_with (refine wpList_load_mid rfl 24 _ rfl w.heap.size 0 rfl cs.toList _ b5.range Tryd.underlying24 rfl (by rw [Array.length_toList, HS.out]; exact Tryd.infoCart) ?_; rw [Array.toArray_toList])
  refine (rcheck_any cs c CC hpr hpn W5).mono ?_
  rintro e W6 ⟨rfl, hb6⟩
  have s5 := hbw5.size
  have hbw6 : Below w.heap.size w W6 := hbw5.trans (hb6.mono s5)
  have b6 := b5.below b5.lt hb6
  have bm6 := bm5.below bm5.lt hb6
  have ot6 := ot5.below ot5.lt hb6
  have op6 := op5.below op5.lt hb6
  have oq6 := oq5.below oq5.lt hb6
  have or6 := or5.below or5.lt hb6
  clear b5 bm5 ot5 op5 oq5 or5 hb6 hbw5
  have q1 : (ckE c == ckE c) = true := by simp
  have q2 : (ckN c == ckN c) = true := by simp
  generalize ckE c = x1 at *
  generalize ckN c = x2 at *
  go_wp2_with (refine wpList_load_want (by rfl) 24 _ rfl w.heap.size 0 rfl cs.toList _ b6.range Tryd.underlying24 rfl (by rw [Array.length_toList, HS.out]; exact Tryd.infoCart) ?_)
  refine (kept_any cs C.size T P Q R at' ap aq ar c.nt c.np c.nq c.nr kt kp kq kr gt gp gq gr M W6 bm6.lt C.lt C.lp C.lq C.lr C.mt C.mp C.mq C.mr C.h15 C.h16 C.h17 C.h18 (C.rt.below hbw6) (C.rp.below hbw6) (C.rq.below hbw6) (C.rr.below hbw6) ot6 op6 oq6 or6 (bm6.cell 0) (bm6.cell 1) (bm6.cell 2) (bm6.cell 3)).mono ?_
  rintro e W7 ⟨rfl, hb7⟩
  have s6 := hbw6.size
  have hbw7 : Below w.heap.size w W7 := hbw6.trans (hb7.mono s6)
  go_wp2
  go_ret
  exact ⟨rfl, hbw7⟩
end Go.Proofs.YtekhophlifjfnaaDoor
