/-
  The law CartSums returns true of every cartridge and every list of bytes; conditions: their lists' bytes lie in their slices, the table of sixteen words in its variable.
-/
import Derived.Test.YtfmionfbknadiaaDoorSums
namespace Go.Proofs.YtfmionfbknadiaaDoor
open Go.RowKit
theorem spare_n (n : Nat) (l : List Nat) (hn : l.length = n) (hl : Bytes l) (hlen : n ≤ 140737488351232) (a : Option Addr) (cap : Nat) (w : World) (hrow : Row w a l) :
    Calls Tryd.prog 13 #[.slice a n cap] w fun e w' => ∃ g, e = .returned (.slice (some ⟨g, 0, none⟩) (n + 4) (n + 4)) ∧ w.heap.size ≤ g ∧ Own w' g (marked l) ∧ Below w.heap.size w w' := by
  subst hn; exact spare_any l hl hlen a cap w hrow
theorem refCrc_n (n : Nat) (l : List Nat) (hn : l.length = n) (hl : Bytes l) (hlen : n ≤ 140737488351232) (a : Option Addr) (cap : Nat) (w : World) (hrow : Row w a l) :
    Calls Tryd.prog 16 #[.slice a n cap] w fun e w' => e = .returned (.int .u32 (crc l : Nat)) ∧ w' = w := by
  subst hn; exact refCrc_any l hl hlen a cap w hrow
/-- A load whose guard says yes. -/
theorem wpList_load_want {P : Program} {ops : Array Oper} {rest : List Oper} {op : Oper} {a : Act} {w : World} {Q : Exit → Act → World → Prop} (hw : Region.wanted op (yielded ops a.tmps) = true) (ty : TypeId) (x : Operand) (ho : op.op = .load ty x)
    (b o : Nat) (hx : a.eval x = .pointer (some ⟨b, o, none⟩)) (cs : List Value) (d : TypeDesc) (hc : w.rangeAt b o cs)
    (hu : P.underlying ty = some d) (hd : d.isRow = true) (hi : (P.info? ty).map (·.size) = some cs.length)
    (h : wpList P ops Q rest (a.put op.dst (.agg cs.toArray)) w) : wpList P ops Q (op :: rest) a w :=
  BigFrame.wpList_want hw fun _ hK => wp_load_mid ty x ho b o hx cs d hc hu hd hi (hK _ _ h)
/-- The four lists of a cartridge, and what lies where. -/
structure CartAt (w : World) (cs : Array Value) (T P Q R : List Nat) (at' ap aq ar : Option Addr) (nt np nq nr kt kp kq kr : Nat) : Prop where
  size : cs.size = 19
  one : cs.all (·.oneCell') = true
  lt : T.length = nt
  lp : P.length = np
  lq : Q.length = nq
  lr : R.length = nr
  bt : Bytes T
  bp : Bytes P
  bq : Bytes Q
  br : Bytes R
  mt : nt ≤ 140737488351232
  mp : np ≤ 140737488351232
  mq : nq ≤ 140737488351232
  mr : nr ≤ 140737488351232
  h15 : cs[15]? = some (.slice at' nt kt)
  h16 : cs[16]? = some (.slice ap np kp)
  h17 : cs[17]? = some (.slice aq nq kq)
  h18 : cs[18]? = some (.slice ar nr kr)
  rt : Row w at' T
  rp : Row w ap P
  rq : Row w aq Q
  rr : Row w ar R
theorem lists4_16 (cs : Array Value) (hsz : cs.size = 19) (t p q r : Value) : (lists4 cs t p q r)[16]? = some p := by simp [lists4, hsz]
theorem lists4_17 (cs : Array Value) (hsz : cs.size = 19) (t p q r : Value) : (lists4 cs t p q r)[17]? = some q := by simp [lists4, hsz]
theorem marked_take (l : List Nat) : (marked l).take l.length = l := by simp [marked]
theorem Own.front {w : World} {g : Nat} {l : List Nat} (h : Own w g (marked l)) : Row w (some ⟨g, 0, none⟩) l := by
  have := h.row.take l.length
  rwa [marked_take] at this

set_option maxRecDepth 100000 in
set_option maxHeartbeats 3200000 in
theorem sums_law (cs : Array Value) (T P Q R D : List Nat) (at' ap aq ar ad : Option Addr) (nt np nq nr nd kt kp kq kr kd : Nat) (w : World)
    (C : CartAt w cs T P Q R at' ap aq ar nt np nq nr kt kp kq kr) (ld : D.length = nd) (bd : Bytes D) (md : nd ≤ 140737488351232) (rd : Row w ad D) (tab : Tab w) :
    Calls Tryd.prog 5 #[.agg cs, .slice ad nd kd] w fun e w' => e = .returned (.bool true) ∧ Below w.heap.size w w' := by
  have HS : Hid (cs.size = 19) := C.size
  have HD : Hid (D.length = nd) := ld
  have hsz := C.size
  clear ld
  go_enter Tryd.func5, Tryd.ntmps5
  go_upto_region 1 with fail
  have hb0 : Below w.heap.size w (w.alloc (.cells cs 29)) := (Below.refl _ _).alloc (Nat.le_refl _) _
  have b0 : Blk (w.alloc (.cells cs 29)) w.heap.size cs 29 := Blk.new w cs _
  generalize w.alloc (.cells cs 29) = W0 at *
  clear hsz
  go_wp2_with (refine wpList_load_mid rfl 29 _ rfl w.heap.size 0 rfl cs.toList _ b0.range Tryd.underlying29 rfl (by rw [Array.length_toList, HS.out]; exact Tryd.infoCart) ?_)
  refine (room_any cs C.size T P Q R at' ap aq ar nt np nq nr kt kp kq kr W0 C.lt C.lp C.lq C.lr C.bt C.bp C.bq C.br C.mt C.mp C.mq C.mr C.h15 C.h16 C.h17 C.h18 (C.rt.below hb0) (C.rp.below hb0) (C.rq.below hb0) (C.rr.below hb0)).mono ?_
  rintro e W1 ⟨gt, gp, gq, gr, rfl, z1, z2, z3, z4, ot, op, oq, or, hb1⟩
  go_wp2_with fail
  have s0 := hb0.size
  have s1 := hb1.size
  have hbA : Below W1.heap.size W1 (W1.alloc (.cells #[.slice (some ⟨gt, 0, none⟩) (nt + 4) (nt + 4), .slice (some ⟨gp, 0, none⟩) (np + 4) (np + 4), .slice (some ⟨gq, 0, none⟩) (nq + 4) (nq + 4), .slice (some ⟨gr, 0, none⟩) (nr + 4) (nr + 4)] 35)) := (Below.refl _ _).alloc (Nat.le_refl _) _
  have bm := Blk.new W1 #[.slice (some ⟨gt, 0, none⟩) (nt + 4) (nt + 4), .slice (some ⟨gp, 0, none⟩) (np + 4) (np + 4), .slice (some ⟨gq, 0, none⟩) (nq + 4) (nq + 4), .slice (some ⟨gr, 0, none⟩) (nr + 4) (nr + 4)] 35
  have hb2 : Below w.heap.size w (W1.alloc (.cells #[.slice (some ⟨gt, 0, none⟩) (nt + 4) (nt + 4), .slice (some ⟨gp, 0, none⟩) (np + 4) (np + 4), .slice (some ⟨gq, 0, none⟩) (nq + 4) (nq + 4), .slice (some ⟨gr, 0, none⟩) (nr + 4) (nr + 4)] 35)) := (hb0.trans (hb1.mono s0)).trans (hbA.mono (by omega))
  have b2 := (b0.below b0.lt hb1).below (Nat.lt_of_lt_of_le b0.lt s1) hbA
  have ot2 := ot.below ot.lt hbA
  have op2 := op.below op.lt hbA
  have oq2 := oq.below oq.lt hbA
  have or2 := or.below or.lt hbA
  clear b0 ot op oq or hbA
  generalize W1.alloc (.cells #[.slice (some ⟨gt, 0, none⟩) (nt + 4) (nt + 4), .slice (some ⟨gp, 0, none⟩) (np + 4) (np + 4), .slice (some ⟨gq, 0, none⟩) (nq + 4) (nq + 4), .slice (some ⟨gr, 0, none⟩) (nr + 4) (nr + 4)] 35) = W2 at *
  generalize hM : W1.heap.size = M at *
  clear hM hb1 z1 z2 z3 z4
  refine (spare_n nd D HD.out bd md ad kd W2 (rd.below hb2)).mono ?_
  rintro e W3 ⟨gd, rfl, zd, od, hb3⟩
  have s2 := hb2.size
  have hbw3 : Below w.heap.size w W3 := hb2.trans (hb3.mono s2)
  have b3 := b2.below b2.lt hb3
  have bm3 := bm.below bm.lt hb3
  have ot3 := ot2.below ot2.lt hb3
  have op3 := op2.below op2.lt hb3
  have oq3 := oq2.below oq2.lt hb3
  have or3 := or2.below or2.lt hb3
  clear b2 bm ot2 op2 oq2 or2 hb2 hb3
  go_wp2_with (refine wpList_load_mid rfl 29 _ rfl w.heap.size 0 rfl cs.toList _ b3.range Tryd.underlying29 rfl (by rw [Array.length_toList, HS.out]; exact Tryd.infoCart) ?_)
  refine (in_any cs C.size C.one at' ap aq ar nt np nq nr kt kp kq kr gt gp gq gr M W3 bm3.lt C.h15 C.h16 C.h17 C.h18 (bm3.cell 0) (bm3.cell 1) (bm3.cell 2) (bm3.cell 3)).mono ?_
  rintro e W4 ⟨rfl, hb4⟩
  have s3 := hbw3.size
  have hbw4 : Below w.heap.size w W4 := hbw3.trans (hb4.mono s3)
  have b4 := b3.below b3.lt hb4
  have bm4 := bm3.below bm3.lt hb4
  have ot4 := ot3.below ot3.lt hb4
  have op4 := op3.below op3.lt hb4
  have oq4 := oq3.below oq3.lt hb4
  have or4 := or3.below or3.lt hb4
  have od4 := od.below od.lt hb4
  clear b3 bm3 ot3 op3 oq3 or3 od hb4 hbw3
  go_wp2_with fail
  refine (sum_any _ (by rw [lists4_size]; exact C.size) P Q (some ⟨gp, 0, none⟩) (some ⟨gq, 0, none⟩) np nq (np + 4) (nq + 4) W4 C.lp C.lq C.bp C.bq C.mp C.mq (lists4_16 _ C.size _ _ _ _) (lists4_17 _ C.size _ _ _ _) op4.front oq4.front (tab.below tab.lt hbw4)).mono ?_
  rintro e W5 ⟨rfl, hb5⟩
  have s4 := hbw4.size
  have hbw5 : Below w.heap.size w W5 := hbw4.trans (hb5.mono s4)
  have b5 := b4.below b4.lt hb5
  have bm5 := bm4.below bm4.lt hb5
  have ot5 := ot4.below ot4.lt hb5
  have op5 := op4.below op4.lt hb5
  have oq5 := oq4.below oq4.lt hb5
  have or5 := or4.below or4.lt hb5
  have od5 := od4.below od4.lt hb5
  clear b4 bm4 ot4 op4 oq4 or4 od4 hb5 hbw4
  go_wp2_with (refine wpList_load_mid rfl 29 _ rfl w.heap.size 0 rfl cs.toList _ b5.range Tryd.underlying29 rfl (by rw [Array.length_toList, HS.out]; exact Tryd.infoCart) ?_)
  refine (refSum_any cs C.size P Q ap aq np nq kp kq W5 C.lp C.lq C.bp C.bq C.mp C.mq C.h16 C.h17 (C.rp.below hbw5) (C.rq.below hbw5)).mono ?_
  rintro e W6 ⟨rfl, hb6⟩
  have s5 := hbw5.size
  have hbw6 : Below w.heap.size w W6 := hbw5.trans (hb6.mono s5)
  have b6 := b5.below b5.lt hb6
  have bm6 := bm5.below bm5.lt hb6
  have ot6 := ot5.below ot5.lt hb6
  have op6 := op5.below op5.lt hb6
  have oq6 := oq5.below oq5.lt hb6
  have or6 := or5.below or5.lt hb6
  have od6 := od5.below od5.lt hb6
  clear b5 bm5 ot5 op5 oq5 or5 od5 hb6 hbw5
  go_wp2_with fail
  refine (crc_n nd D HD.out bd md (some ⟨gd, 0, none⟩) (nd + 4) W6 od6.front (tab.below tab.lt hbw6)).mono ?_
  rintro e W6 ⟨rfl, rfl⟩
  go_wp2_with fail
  refine (refCrc_n nd D HD.out bd md ad kd W6 (rd.below hbw6)).mono ?_
  rintro e W6 ⟨rfl, rfl⟩
  have q1 : (((crc (P ++ Q) : Nat) : Int) == ((crc (P ++ Q) : Nat) : Int)) = true := by simp
  have q2 : (((crc D : Nat) : Int) == ((crc D : Nat) : Int)) = true := by simp
  go_wp2_with (refine wpList_load_want (by rfl) 29 _ rfl w.heap.size 0 rfl cs.toList _ b6.range Tryd.underlying29 rfl (by rw [Array.length_toList, HS.out]; exact Tryd.infoCart) ?_)
  refine (kept_any cs C.size T P Q R at' ap aq ar nt np nq nr kt kp kq kr gt gp gq gr M W6 bm6.lt C.lt C.lp C.lq C.lr C.mt C.mp C.mq C.mr C.h15 C.h16 C.h17 C.h18 (C.rt.below hbw6) (C.rp.below hbw6) (C.rq.below hbw6) (C.rr.below hbw6) ot6 op6 oq6 or6 (bm6.cell 0) (bm6.cell 1) (bm6.cell 2) (bm6.cell 3)).mono ?_
  rintro e W7 ⟨rfl, hb7⟩
  have s6 := hbw6.size
  have hbw7 : Below w.heap.size w W7 := hbw6.trans (hb7.mono s6)
  go_wp2_with fail
  refine (untouched_n nd D HD.out md gd ad kd W6 W7 hb7 od6 (rd.below hbw6)).mono ?_
  rintro e W8 ⟨rfl, m, rfl⟩
  go_wp2
  go_ret
  exact ⟨rfl, below_draws hbw7 m⟩
end Go.Proofs.YtfmionfbknadiaaDoor
