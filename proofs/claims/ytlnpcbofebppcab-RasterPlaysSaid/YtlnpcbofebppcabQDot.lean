/-
  The contract of one dot: the rules done one behind the other; conditions: the place is one of the screen's.
-/
import Derived.Test.YtlnpcbofebppcabQTurn
import Derived.Test.YtlnpcbofebppcabQBegin
import Derived.Test.YtlnpcbofebppcabQEnd
import Derived.Test.YtlnpcbofebppcabQTell
import Derived.Test.YtlnpcbofebppcabQLaw0
set_option linter.unusedSimpArgs false
set_option linter.unusedVariables false
namespace Go.Proofs.Ytlnpcbofebppcab
open Go.RowKit Classical
/-- The raster behind each rule of a dot. -/
def Rs.turned (r : Rs) : Rs := { r with odd := if r.line = 0 ∧ r.dot = 0 then !r.odd else r.odd }
def Rs.begun (r : Rs) : Rs := { r with vbl := if r.line = 241 ∧ r.dot = 1 then r.vbl || !r.hold else r.vbl, hold := if r.line = 241 ∧ r.dot = 1 then false else r.hold }
def Rs.ended (r : Rs) : Rs := { r with vbl := if r.line = 261 ∧ r.dot = 1 then false else r.vbl }
def Rs.st (r : Rs) : Nat → Rs
  | 0 => r
  | 1 => r.moved
  | 2 => r.moved.turned
  | 3 => r.moved.turned.begun
  | _ => r.moved.turned.begun.ended
theorem Rs.st_d1 (r : Rs) : r.moved.turned.begun.ended = r.d1 := by
  unfold Rs.d1 Rs.ended
  rw [Rs.mk.injEq]
  refine ⟨rfl, rfl, rfl, ?_, rfl, rfl, rfl⟩
  show (if r.nl = 261 ∧ r.nd = 1 then false else if r.nl = 241 ∧ r.nd = 1 then r.vbl || !r.hold else r.vbl) = _
  by_cases b : r.nl = 241 ∧ r.nd = 1
  · rw [if_neg (by omega)]
    simp [b]
  · simp [b]
theorem Rs.st_bd (r : Rs) (h1 : 0 ≤ r.line) (h2 : r.line ≤ 261) (h3 : 0 ≤ r.dot) (h4 : r.dot ≤ 340) : True := trivial
def zcell : Array Value := #[.int .i64 0, .int .i64 0, .bool false, .bool false, .bool false, .bool false, .bool false]
def fl5 : Array Value := #[.func (Fn.func 42) #[] #[], .func (Fn.func 43) #[] #[], .func (Fn.func 44) #[] #[], .func (Fn.func 45) #[] #[], .func (Fn.func 46) #[] #[]]
def stc (r : Rs) (k : Nat) : Bool := if k = 5 then (r.st 4).clk else false
set_option maxHeartbeats 2000000 in
theorem dot_any (r : Rs) (w : World) (h1 : 0 ≤ r.line) (h2 : r.line ≤ 261) (h3 : 0 ≤ r.dot) (h4 : r.dot ≤ 340) :
    Calls Try.prog 38 #[.agg r.cells] w fun e w' => e = .returned (.tuple #[.agg r.d1.cells, .bool r.d1.clk]) ∧ Below w.heap.size w w' := by
  have C0 : Hid _ := fun (W : World) => move_any r false W h1 h2 h3 h4
  clear h1 h2 h3 h4
  have C1 : Hid (∀ W : World, Calls Try.prog 43 #[.agg (bm r.moved false)] W fun e w' => e = .returned (.agg (bm r.moved.turned false)) ∧ Below W.heap.size W w') := fun W => turn_any r.moved false W
  have C2 : Hid (∀ W : World, Calls Try.prog 44 #[.agg (bm r.moved.turned false)] W fun e w' => e = .returned (.agg (bm r.moved.turned.begun false)) ∧ Below W.heap.size W w') := fun W => begin_any r.moved.turned false W
  have C3 : Hid (∀ W : World, Calls Try.prog 45 #[.agg (bm r.moved.turned.begun false)] W fun e w' => e = .returned (.agg (bm r.moved.turned.begun.ended false)) ∧ Below W.heap.size W w') := fun W => end_any r.moved.turned.begun false W
  have C4 : Hid (∀ W : World, Calls Try.prog 46 #[.agg (bm r.moved.turned.begun.ended false)] W fun e w' => e = .returned (.agg (bm r.moved.turned.begun.ended r.moved.turned.begun.ended.clk)) ∧ Below W.heap.size W w') := fun W => tell_any r.moved.turned.begun.ended false W
  rw [← Rs.st_d1]
  conv => arg 3; unfold Rs.cells
  go_enter Try.func38, Try.ntmps38
  go_upto_region 1 with fail
  have a0 : Blk ((w.alloc (.cells r.cells 23)).alloc (.cells zcell 23)) w.heap.size r.cells 23 := (Blk.new w _ _).old _
  have a1 : Blk ((w.alloc (.cells r.cells 23)).alloc (.cells zcell 23)) (w.heap.size + 1) zcell 23 := by
    have := Blk.new (w.alloc (.cells r.cells 23)) zcell 23
    rwa [World.size_alloc] at this
  have hb : Below w.heap.size w ((w.alloc (.cells r.cells 23)).alloc (.cells zcell 23)) := below_new2 _ _
  have hs : ((w.alloc (.cells r.cells 23)).alloc (.cells zcell 23)).heap.size = w.heap.size + 2 := by simp
  change Code.wp _ _ _ _ ((w.alloc (.cells r.cells 23)).alloc (.cells zcell 23))
  generalize (w.alloc (.cells r.cells 23)).alloc (.cells zcell 23) = W1 at *
  go_upto_region 2 with (refine wpList_store_sz rfl 50 _ _ rfl (w.heap.size + 2) _ fl5 50 rfl rfl (blk_at hs _ _) rfl (by kernel_rfl) (by kernel_rfl) w.heap.size w (by omega) (hb.alloc (by rw [hs]; omega) _) ?_; intro W2 c1 c2 c3 c4)
  replace a0 := c3 _ _ _ (by omega) (a0.old _)
  replace a1 := c3 _ _ _ (by omega) (a1.old _)
  have hs2 : W2.heap.size = w.heap.size + 3 := by rw [c4]; simp [hs]
  clear hb hs c3 c4
  simp only [Act.put]
  unfold Rs.cells at a0
  go_upto_region 3 with (first
    | (refine wpList_load_blk rfl 23 _ rfl w.heap.size rfl _ _ a0 Try.underlying23 rfl (by kernel_rfl) ?_)
    | (refine wpList_store_sz rfl 49 _ _ rfl (w.heap.size + 3) _ (bm r false) 49 rfl rfl (blk_at hs2 _ _) rfl (by kernel_rfl) (by kernel_rfl) w.heap.size w (by omega) (c2.alloc (by rw [hs2]; omega) _) ?_; intro W3 d1 d2 d3 d4))
  replace a1 := d3 _ _ _ (by omega) (a1.old _)
  replace c1 := d3 _ _ _ (by omega) (c1.old _)
  clear a0 c2 d3 d4 hs2
  simp only [Act.put]
  unfold fl5 at c1
  go_wp2_with (refine wpList_load_blk rfl 50 _ rfl (w.heap.size + 2) rfl _ _ c1 Try.underlying50 rfl (by kernel_rfl) ?_)
  have hIx0 : ∀ W, Sem.run Try.prog (Instr.index 50 (.agg #[.func (Fn.func 42) #[] #[], .func (Fn.func 43) #[] #[], .func (Fn.func 44) #[] #[], .func (Fn.func 45) #[] #[], .func (Fn.func 46) #[] #[]]) (.int .i64 0)) W = .ok (.func (Fn.func 42) #[] #[]) W := fun W => by kernel_rfl
  have hIx1 : ∀ W, Sem.run Try.prog (Instr.index 50 (.agg #[.func (Fn.func 42) #[] #[], .func (Fn.func 43) #[] #[], .func (Fn.func 44) #[] #[], .func (Fn.func 45) #[] #[], .func (Fn.func 46) #[] #[]]) (.int .i64 1)) W = .ok (.func (Fn.func 43) #[] #[]) W := fun W => by kernel_rfl
  have hIx2 : ∀ W, Sem.run Try.prog (Instr.index 50 (.agg #[.func (Fn.func 42) #[] #[], .func (Fn.func 43) #[] #[], .func (Fn.func 44) #[] #[], .func (Fn.func 45) #[] #[], .func (Fn.func 46) #[] #[]]) (.int .i64 2)) W = .ok (.func (Fn.func 44) #[] #[]) W := fun W => by kernel_rfl
  have hIx3 : ∀ W, Sem.run Try.prog (Instr.index 50 (.agg #[.func (Fn.func 42) #[] #[], .func (Fn.func 43) #[] #[], .func (Fn.func 44) #[] #[], .func (Fn.func 45) #[] #[], .func (Fn.func 46) #[] #[]]) (.int .i64 3)) W = .ok (.func (Fn.func 45) #[] #[]) W := fun W => by kernel_rfl
  have hIx4 : ∀ W, Sem.run Try.prog (Instr.index 50 (.agg #[.func (Fn.func 42) #[] #[], .func (Fn.func 43) #[] #[], .func (Fn.func 44) #[] #[], .func (Fn.func 45) #[] #[], .func (Fn.func 46) #[] #[]]) (.int .i64 4)) W = .ok (.func (Fn.func 46) #[] #[]) W := fun W => by kernel_rfl
  go_loopw [12] (fun i wr => ∃ k : Int, 0 ≤ k ∧ k ≤ 5 ∧ i = .int .i64 k ∧ Blk wr (w.heap.size + 3) (bm (r.st k.toNat) (stc r k.toNat)) 49 ∧ Blk wr (w.heap.size + 1) zcell 23 ∧ Below w.heap.size w wr) (fun i _ => 5 - (intOf i).toNat)
  case atStart => exact ⟨0, by omega, by omega, rfl, d1, a1, d2⟩
  case round =>
    clear d1 a1 d2 c1
    obtain ⟨k, hk0, hk, rfl, e1, e2, e3⟩ := hrel
    rcases (show k = 0 ∨ k = 1 ∨ k = 2 ∨ k = 3 ∨ k = 4 ∨ k = 5 by omega) with rfl | rfl | rfl | rfl | rfl | rfl
    · replace e1 : Blk wr (w.heap.size + 3) (bm r false) 49 := e1
      go_wp2_with (first
        | (refine wpList_load_blk rfl 49 _ rfl (w.heap.size + 3) rfl _ _ e1 Try.underlying49 rfl (by kernel_rfl) ?_)
        | (go_at_call 42; refine (C0.out _).mono ?_; rintro e Wx ⟨rfl, hbx⟩; replace e1 := e1.below e1.lt hbx; replace e2 := e2.below e2.lt hbx; replace e3 := e3.trans (hbx.mono e3.size); clear hbx)
        | (refine wpList_store_blk rfl 49 _ _ rfl (w.heap.size + 3) _ (bm r.moved false) 49 rfl rfl e1 rfl (by kernel_rfl) (by kernel_rfl) w.heap.size w (by omega) e3 ?_; intro Wy y1 y2 y3; replace e2 := y3 _ _ _ (by omega) e2; clear y3 e1 e3))
      go_roundw
      case rel => exact ⟨1, by omega, by omega, by go_num, y1, e2, y2⟩
      case measure => simp [intOf]
    · replace e1 : Blk wr (w.heap.size + 3) (bm r.moved false) 49 := e1
      go_wp2_with (first
        | (refine wpList_load_blk rfl 49 _ rfl (w.heap.size + 3) rfl _ _ e1 Try.underlying49 rfl (by kernel_rfl) ?_)
        | (go_at_call 43; refine (C1.out _).mono ?_; rintro e Wx ⟨rfl, hbx⟩; replace e1 := e1.below e1.lt hbx; replace e2 := e2.below e2.lt hbx; replace e3 := e3.trans (hbx.mono e3.size); clear hbx)
        | (refine wpList_store_blk rfl 49 _ _ rfl (w.heap.size + 3) _ (bm r.moved.turned false) 49 rfl rfl e1 rfl (by kernel_rfl) (by kernel_rfl) w.heap.size w (by omega) e3 ?_; intro Wy y1 y2 y3; replace e2 := y3 _ _ _ (by omega) e2; clear y3 e1 e3))
      go_roundw
      case rel => exact ⟨2, by omega, by omega, by go_num, y1, e2, y2⟩
      case measure => simp [intOf]
    · replace e1 : Blk wr (w.heap.size + 3) (bm r.moved.turned false) 49 := e1
      go_wp2_with (first
        | (refine wpList_load_blk rfl 49 _ rfl (w.heap.size + 3) rfl _ _ e1 Try.underlying49 rfl (by kernel_rfl) ?_)
        | (go_at_call 44; refine (C2.out _).mono ?_; rintro e Wx ⟨rfl, hbx⟩; replace e1 := e1.below e1.lt hbx; replace e2 := e2.below e2.lt hbx; replace e3 := e3.trans (hbx.mono e3.size); clear hbx)
        | (refine wpList_store_blk rfl 49 _ _ rfl (w.heap.size + 3) _ (bm r.moved.turned.begun false) 49 rfl rfl e1 rfl (by kernel_rfl) (by kernel_rfl) w.heap.size w (by omega) e3 ?_; intro Wy y1 y2 y3; replace e2 := y3 _ _ _ (by omega) e2; clear y3 e1 e3))
      go_roundw
      case rel => exact ⟨3, by omega, by omega, by go_num, y1, e2, y2⟩
      case measure => simp [intOf]
    · replace e1 : Blk wr (w.heap.size + 3) (bm r.moved.turned.begun false) 49 := e1
      go_wp2_with (first
        | (refine wpList_load_blk rfl 49 _ rfl (w.heap.size + 3) rfl _ _ e1 Try.underlying49 rfl (by kernel_rfl) ?_)
        | (go_at_call 45; refine (C3.out _).mono ?_; rintro e Wx ⟨rfl, hbx⟩; replace e1 := e1.below e1.lt hbx; replace e2 := e2.below e2.lt hbx; replace e3 := e3.trans (hbx.mono e3.size); clear hbx)
        | (refine wpList_store_blk rfl 49 _ _ rfl (w.heap.size + 3) _ (bm r.moved.turned.begun.ended false) 49 rfl rfl e1 rfl (by kernel_rfl) (by kernel_rfl) w.heap.size w (by omega) e3 ?_; intro Wy y1 y2 y3; replace e2 := y3 _ _ _ (by omega) e2; clear y3 e1 e3))
      go_roundw
      case rel => exact ⟨4, by omega, by omega, by go_num, y1, e2, y2⟩
      case measure => simp [intOf]
    · replace e1 : Blk wr (w.heap.size + 3) (bm r.moved.turned.begun.ended false) 49 := e1
      go_wp2_with (first
        | (refine wpList_load_blk rfl 49 _ rfl (w.heap.size + 3) rfl _ _ e1 Try.underlying49 rfl (by kernel_rfl) ?_)
        | (go_at_call 46; refine (C4.out _).mono ?_; rintro e Wx ⟨rfl, hbx⟩; replace e1 := e1.below e1.lt hbx; replace e2 := e2.below e2.lt hbx; replace e3 := e3.trans (hbx.mono e3.size); clear hbx)
        | (refine wpList_store_blk rfl 49 _ _ rfl (w.heap.size + 3) _ (bm r.moved.turned.begun.ended r.moved.turned.begun.ended.clk) 49 rfl rfl e1 rfl (by kernel_rfl) (by kernel_rfl) w.heap.size w (by omega) e3 ?_; intro Wy y1 y2 y3; replace e2 := y3 _ _ _ (by omega) e2; clear y3 e1 e3))
      go_roundw
      case rel => exact ⟨5, by omega, by omega, by go_num, y1, e2, y2⟩
      case measure => simp [intOf]
    · replace e1 : Blk wr (w.heap.size + 3) (bm r.moved.turned.begun.ended r.moved.turned.begun.ended.clk) 49 := e1
      generalize hse : r.moved.turned.begun.ended = s at *
      have q0 : wr.cell? ⟨w.heap.size + 3, 0, none⟩ = some (.int .i64 s.line) := e1.cell 0
      have q1 : wr.cell? ⟨w.heap.size + 3, 1, none⟩ = some (.int .i64 s.dot) := e1.cell 1
      have q2 : wr.cell? ⟨w.heap.size + 3, 2, none⟩ = some (.bool s.odd) := e1.cell 2
      have q3 : wr.cell? ⟨w.heap.size + 3, 3, none⟩ = some (.bool s.vbl) := e1.cell 3
      have q4 : wr.cell? ⟨w.heap.size + 3, 4, none⟩ = some (.bool s.nmi) := e1.cell 4
      have q5 : wr.cell? ⟨w.heap.size + 3, 5, none⟩ = some (.bool s.draw) := e1.cell 5
      have q6 : wr.cell? ⟨w.heap.size + 3, 6, none⟩ = some (.bool s.hold) := e1.cell 6
      have q7 : wr.cell? ⟨w.heap.size + 3, 7, none⟩ = some (.bool s.clk) := e1.cell 7
      have z0 : wr.cell? ⟨w.heap.size + 1, 0, none⟩ = some (.int .i64 0) := e2.cell 0
      have y0 : wr.frozen? ⟨w.heap.size + 1, 0, none⟩ = false := e2.free 0
      have z1 : wr.cell? ⟨w.heap.size + 1, 1, none⟩ = some (.int .i64 0) := e2.cell 1
      have y1 : wr.frozen? ⟨w.heap.size + 1, 1, none⟩ = false := e2.free 1
      have z2 : wr.cell? ⟨w.heap.size + 1, 2, none⟩ = some (.bool false) := e2.cell 2
      have y2 : wr.frozen? ⟨w.heap.size + 1, 2, none⟩ = false := e2.free 2
      have z3 : wr.cell? ⟨w.heap.size + 1, 3, none⟩ = some (.bool false) := e2.cell 3
      have y3 : wr.frozen? ⟨w.heap.size + 1, 3, none⟩ = false := e2.free 3
      have z4 : wr.cell? ⟨w.heap.size + 1, 4, none⟩ = some (.bool false) := e2.cell 4
      have y4 : wr.frozen? ⟨w.heap.size + 1, 4, none⟩ = false := e2.free 4
      have z5 : wr.cell? ⟨w.heap.size + 1, 5, none⟩ = some (.bool false) := e2.cell 5
      have y5 : wr.frozen? ⟨w.heap.size + 1, 5, none⟩ = false := e2.free 5
      have z6 : wr.cell? ⟨w.heap.size + 1, 6, none⟩ = some (.bool false) := e2.cell 6
      have y6 : wr.frozen? ⟨w.heap.size + 1, 6, none⟩ = false := e2.free 6
      go_upto_region 8 with fail
      go_region
      go_wp2
      refine bodyPost_ret (v := .tuple #[.agg s.cells, .bool s.clk]) (res_pair (b := w.heap.size + 1) (r := s) Try.results38 rfl rfl (show Blk (World.drew _) (w.heap.size + 1) s.cells 23 from (((((((e2.set 0 _).set 1 _).set 2 _).set 3 _).set 4 _).set 5 _).set 6 _).drew)) rfl ⟨by rw [hse], (((((((e3.setCell (p := ⟨w.heap.size + 1, 0, none⟩) (by show w.heap.size ≤ w.heap.size + 1; omega) _).setCell (p := ⟨w.heap.size + 1, 1, none⟩) (by show w.heap.size ≤ w.heap.size + 1; omega) _).setCell (p := ⟨w.heap.size + 1, 2, none⟩) (by show w.heap.size ≤ w.heap.size + 1; omega) _).setCell (p := ⟨w.heap.size + 1, 3, none⟩) (by show w.heap.size ≤ w.heap.size + 1; omega) _).setCell (p := ⟨w.heap.size + 1, 4, none⟩) (by show w.heap.size ≤ w.heap.size + 1; omega) _).setCell (p := ⟨w.heap.size + 1, 5, none⟩) (by show w.heap.size ≤ w.heap.size + 1; omega) _).setCell (p := ⟨w.heap.size + 1, 6, none⟩) (by show w.heap.size ≤ w.heap.size + 1; omega) _).drew⟩
end Go.Proofs.Ytlnpcbofebppcab
