/-
  What the method kept of Room answers; conditions: the room's four lists lie in memory with their marks, and the cartridge's lists with the same bytes.
-/
import Derived.Test.YtmjolcdocoiaeaaDoorCarts2
namespace Go.Proofs.YtmjolcdocoiaeaaDoor
open Go.RowKit
theorem below_draws {B : Nat} {a w : World} (h : Below B a w) (n : Nat) : Below B a (w.drewN n) := ⟨h.os, h.tape, h.output, h.size, h.block⟩

set_option maxRecDepth 100000 in
set_option maxHeartbeats 1600000 in
theorem kept_any (cs : Array Value) (_hsz : cs.size = 19) (T P Q R : List Nat) (at' ap aq ar : Option Addr) (nt np nq nr kt kp kq kr gt gp gq gr m : Nat) (w : World) (hm : m < w.heap.size)
    (ht : T.length = nt) (hp : P.length = np) (hq : Q.length = nq) (hr : R.length = nr)
    (lt : nt ≤ 140737488351232) (lp : np ≤ 140737488351232) (lq : nq ≤ 140737488351232) (lr : nr ≤ 140737488351232)
    (h15 : cs[15]? = some (.slice at' nt kt)) (h16 : cs[16]? = some (.slice ap np kp)) (h17 : cs[17]? = some (.slice aq nq kq)) (h18 : cs[18]? = some (.slice ar nr kr))
    (rt : Row w at' T) (rp : Row w ap P) (rq : Row w aq Q) (rr : Row w ar R)
    (ot : Own w gt (marked T)) (op : Own w gp (marked P)) (oq : Own w gq (marked Q)) (or : Own w gr (marked R))
    (h0 : w.cell? ⟨m, 0, none⟩ = some (.slice (some ⟨gt, 0, none⟩) (nt + 4) (nt + 4))) (h1 : w.cell? ⟨m, 1, none⟩ = some (.slice (some ⟨gp, 0, none⟩) (np + 4) (np + 4)))
    (h2 : w.cell? ⟨m, 2, none⟩ = some (.slice (some ⟨gq, 0, none⟩) (nq + 4) (nq + 4))) (h3 : w.cell? ⟨m, 3, none⟩ = some (.slice (some ⟨gr, 0, none⟩) (nr + 4) (nr + 4))) :
    Calls Tryd.prog 9 #[.pointer (some ⟨m, 0, none⟩), .agg cs] w fun e w' =>
      e = .returned (.bool true) ∧ Below w.heap.size w w' := by
  have HR := Hid.mk4 rt rp rq rr
  have HO := Hid.mk4 ot op oq or
  have HL := Hid.mk4 ht hp hq hr
  have HC := Hid.mk4 h15 h16 h17 h18
  have HM := Hid.mk4 h0 h1 h2 h3
  go_enter Tryd.func9, Tryd.ntmps9
  go_wp2
  clear rt rp rq rr ot op oq or ht hp hq hr h15 h16 h17 h18 h0 h1 h2 h3 _hsz
  have hb0 : Below w.heap.size w (w.alloc (.cells cs 24)) := (Below.refl _ _).alloc (Nat.le_refl _) _
  have b0 : Blk (w.alloc (.cells cs 24)) w.heap.size cs 24 := Blk.new w cs _
  generalize w.alloc (.cells cs 24) = W at *
  have c0 := (hb0.cell (p := ⟨m, 0, none⟩) hm).trans HM.out.1
  have c1 := (hb0.cell (p := ⟨m, 1, none⟩) hm).trans HM.out.2.1
  have c2 := (hb0.cell (p := ⟨m, 2, none⟩) hm).trans HM.out.2.2.1
  have c3 := (hb0.cell (p := ⟨m, 3, none⟩) hm).trans HM.out.2.2.2
  have d0 := (b0.cell 15).trans HC.out.1
  have d1 := (b0.cell 16).trans HC.out.2.1
  have d2 := (b0.cell 17).trans HC.out.2.2.1
  have d3 := (b0.cell 18).trans HC.out.2.2.2
  go_quiet (first
    | (go_at_call_of 16 (Value.slice at' nt kt); exact Calls.quiet_of (untouched_n nt T HL.out.1 lt gt at' kt w _ (below_draws hb0 _) HO.out.1 HR.out.1))
    | (go_at_call_of 16 (Value.slice ap np kp); exact Calls.quiet_of (untouched_n np P HL.out.2.1 lp gp ap kp w _ (below_draws hb0 _) HO.out.2.1 HR.out.2.1))
    | (go_at_call_of 16 (Value.slice aq nq kq); exact Calls.quiet_of (untouched_n nq Q HL.out.2.2.1 lq gq aq kq w _ (below_draws hb0 _) HO.out.2.2.1 HR.out.2.2.1))
    | (go_at_call_of 16 (Value.slice ar nr kr); exact Calls.quiet_of (untouched_n nr R HL.out.2.2.2 lr gr ar kr w _ (below_draws hb0 _) HO.out.2.2.2 HR.out.2.2.2)))
  go_wp2
  go_ret
  exact ⟨rfl, below_draws hb0 _⟩
end Go.Proofs.YtmjolcdocoiaeaaDoor
