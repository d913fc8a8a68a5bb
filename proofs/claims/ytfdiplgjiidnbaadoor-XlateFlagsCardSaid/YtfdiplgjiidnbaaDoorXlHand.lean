/-
  Laws for a region that draws its order, taken by hand.
-/
import Derived.Test.YtfdiplgjiidnbaaDoorIHand
import Derived.Test.YtfdiplgjiidnbaaDoorXlLeaf
import Derived.Test.YtfdiplgjiidnbaaDoorIStore
import Derived.OrdersHeld
import Derived.Deep.RegionHeld3
import Derived.Deep.MidRow
set_option linter.unusedSimpArgs false
set_option linter.unusedVariables false
namespace Go.Proofs.YtfdiplgjiidnbaaDoor
open Go.RowKit Classical
theorem callH {P : Program} {ops : Array Oper} {Q : Exit → Act → World → Prop} {md : Region.Mode} {S : World → Prop} {i : Nat} {fuel : Nat} {listed : Array Bool} {a : Act} {w : World} {o : Oper} {f : FuncId} {args : Array Value} {v : Value} {R : World → Prop} (a' : Act)
    (hr : Region.ready md ops listed = [i]) (hi : ops[i]? = some o) (hw : Region.wanted o (yielded ops a.tmps) = true) (he : (execOp a.eval o).run P w = .ok (.enter f args) w)
    (hc : Calls P f args w fun e w' => e = .returned v ∧ R w') (ha : a.put o.dst v = a') (h : ∀ w', R w' → S w' ∧ wpAnyH P md ops Q S fuel (listed.setIfInBounds i true) a' w') : wpAnyH P md ops Q S (fuel + 1) listed a w :=
  wpAnyH_all hr (List.cons_ne_nil _ _) fun j hj => by
    obtain rfl := List.mem_singleton.1 hj
    exact wpOp_contract hi hw he hc a' ha h
/-- A piece of one's own in memory. -/
structure Pq (w : World) (cs : Array Value) (v : World) : Prop where
  b : Blk v w.heap.size cs 56
  hb : Below w.heap.size w v
theorem Pq.on {w v v' : World} {cs : Array Value} (h : Pq w cs v) (hb : Below v.heap.size v v') : Pq w cs v' := ⟨h.b.below h.b.lt hb, h.hb.trans (hb.mono h.hb.size)⟩
end Go.Proofs.YtfdiplgjiidnbaaDoor
