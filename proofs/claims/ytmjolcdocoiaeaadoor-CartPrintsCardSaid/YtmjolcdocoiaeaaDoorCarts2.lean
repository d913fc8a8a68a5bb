/-
  What the methods in and kept of Room answer; conditions: the room's four lists lie in memory.
-/
import Derived.Test.YtmjolcdocoiaeaaDoorCarts
import Derived.Deep.MidRow
namespace Go.Proofs.YtmjolcdocoiaeaaDoor
open Go.RowKit
/-- The block b holds just these cells. -/
def Blk (w : World) (b : Nat) (cs : Array Value) (t : TypeId) : Prop := w.heap[b]? = some (.cells cs t (0, 0))
theorem Blk.lt {w : World} {b : Nat} {cs : Array Value} {t : TypeId} (h : Blk w b cs t) : b < w.heap.size := (Array.getElem?_eq_some_iff.1 h).1
theorem Blk.cell {w : World} {b : Nat} {cs : Array Value} {t : TypeId} (h : Blk w b cs t) (i : Nat) : w.cell? ⟨b, i, none⟩ = cs[i]? := cell_of_row w b i cs t (0, 0) h
theorem Blk.free {w : World} {b : Nat} {cs : Array Value} {t : TypeId} (h : Blk w b cs t) (i : Nat) : w.frozen? ⟨b, i, none⟩ = false := frozen_of_row w b i cs t h
theorem Blk.set {w : World} {b : Nat} {cs : Array Value} {t : TypeId} (h : Blk w b cs t) (i : Nat) (v : Value) : Blk (w.setCell ⟨b, i, none⟩ v) b (cs.setIfInBounds i v) t := heap_setCell_same w b i cs t v h
theorem Blk.other {w : World} {b m : Nat} {cs : Array Value} {t : TypeId} (h : Blk w b cs t) (hn : b ≠ m) (i : Nat) (v : Value) : Blk (w.setCell ⟨m, i, none⟩ v) b cs t := (Below.heap_setCell w ⟨m, i, none⟩ v b hn).trans h
theorem Blk.below {w w' : World} {b B : Nat} {cs : Array Value} {t : TypeId} (h : Blk w b cs t) (hB : b < B) (hb : Below B w w') : Blk w' b cs t := (hb.block b hB).trans h
theorem Blk.drew {w : World} {b : Nat} {cs : Array Value} {t : TypeId} (h : Blk w b cs t) : Blk w.drew b cs t := h
theorem Blk.range {w : World} {b : Nat} {cs : Array Value} {t : TypeId} (h : Blk w b cs t) : w.rangeAt b 0 cs.toList := fun j v hv => by
  rw [Nat.zero_add, h.cell j]; simpa using hv
theorem Blk.there {w : World} {b : Nat} {cs : Array Value} {t : TypeId} (h : Blk w b cs t) (n : Nat) (hn : cs.size = n) : w.there b 0 n := fun j hj => by
  rw [Nat.zero_add, h.cell j]; exact ⟨by simp; omega, h.free j⟩
theorem Blk.new (w : World) (cs : Array Value) (t : TypeId) : Blk (w.alloc (.cells cs t)) w.heap.size cs t := heap_alloc_new w _
theorem Blk.old {w : World} {b : Nat} {cs : Array Value} {t : TypeId} (h : Blk w b cs t) (o : Obj) : Blk (w.alloc o) b cs t := (Below.heap_alloc w o b h.lt).trans h
theorem setCells_below {B b : Nat} (hB : B ≤ b) : ∀ (vs : List Value) (o : Nat) (a w : World), Below B a w → Below B a (w.setCells b o vs)
  | [], _, _, _, h => h
  | _ :: vs, o, a, _, h => setCells_below hB vs (o + 1) a _ (h.setCell (p := ⟨b, o, none⟩) hB _)

/-- A cartridge's cells with other lists. -/
def lists4 (cs : Array Value) (t p q r : Value) : Array Value := (((cs.setIfInBounds 15 t).setIfInBounds 16 p).setIfInBounds 17 q).setIfInBounds 18 r
theorem lists4_size (cs : Array Value) (t p q r : Value) : (lists4 cs t p q r).size = cs.size := by simp [lists4]
theorem lists4_one {cs : Array Value} {t p q r : Value} (h : cs.all (·.oneCell') = true) (ht : t.oneCell' = true) (hp : p.oneCell' = true) (hq : q.oneCell' = true) (hr : r.oneCell' = true) : (lists4 cs t p q r).all (·.oneCell') = true := by
  rw [Array.all_eq_true_iff_forall_mem] at h ⊢
  intro v hv
  unfold lists4 at hv
  have g : ∀ (a : Array Value) (i : Nat) (x : Value), (∀ v ∈ a, v.oneCell' = true) → x.oneCell' = true → ∀ v ∈ a.setIfInBounds i x, v.oneCell' = true := by
    intro a i x ha hx v hv
    obtain ⟨j, hj, rfl⟩ := Array.mem_iff_getElem.1 hv
    have hj' : j < a.size := by simpa using hj
    rw [Array.getElem_setIfInBounds hj']
    split
    · exact hx
    · exact ha _ (Array.getElem_mem hj')
  exact g _ _ _ (g _ _ _ (g _ _ _ (g _ _ _ h ht) hp) hq) hr v hv
theorem results_cell {fn : Func} {p : Tmp} {ty : TypeId} (h : fn.results = #[.cell p ty]) (tmps : Array Value) (P : Program) (w : World) :
    (results fn tmps).run P w = ((asAddr (tmps.getD p undef)).run P w).andThen fun a w₁ => (loadVar ty a).run P w₁ := by
  simp only [results, h]
  simp [Sem.run_bind, Result.andThen]
theorem Tryd.infoCart : (Tryd.prog.info? 24).map (·.size) = some 19 := by kernel_rfl

theorem untouched_n (n : Nat) (l : List Nat) (hn : l.length = n) (hlen : n ≤ 140737488351232) (g : Nat) (b : Option Addr) (capb : Nat) (w0 w : World) (hb : Below w0.heap.size w0 w) (rm : Own w0 g (marked l)) (rb : Row w0 b l) :
    Calls Tryd.prog 16 #[.slice (some ⟨g, 0, none⟩) (n + 4) (n + 4), .slice b n capb] w fun e w' => e = .returned (.bool true) ∧ ∃ m, w' = w.drewN m := by
  subst hn; exact untouched_true l hlen g b capb w (rm.below rm.lt hb) (rb.below hb)

abbrev Z19 : Array Value := #[.int .i64 0, .int .i64 0, .int .i64 0, .bool false, .bool false, .bool false, .int .i64 0, .int .i64 0, .int .i64 0, .int .i64 0, .int .i64 0, .int .i64 0, .int .i64 0, .int .i64 0, .int .i64 0, .slice none 0 0, .slice none 0 0, .slice none 0 0, .slice none 0 0]

set_option maxRecDepth 100000 in
set_option maxHeartbeats 1600000 in
theorem in_any (cs : Array Value) (hsz : cs.size = 19) (h1c : cs.all (·.oneCell') = true) (at' ap aq ar : Option Addr) (nt np nq nr kt kp kq kr gt gp gq gr m : Nat) (w : World) (hm : m < w.heap.size)
    (h15 : cs[15]? = some (.slice at' nt kt)) (h16 : cs[16]? = some (.slice ap np kp)) (h17 : cs[17]? = some (.slice aq nq kq)) (h18 : cs[18]? = some (.slice ar nr kr))
    (h0 : w.cell? ⟨m, 0, none⟩ = some (.slice (some ⟨gt, 0, none⟩) (nt + 4) (nt + 4))) (h1 : w.cell? ⟨m, 1, none⟩ = some (.slice (some ⟨gp, 0, none⟩) (np + 4) (np + 4)))
    (h2 : w.cell? ⟨m, 2, none⟩ = some (.slice (some ⟨gq, 0, none⟩) (nq + 4) (nq + 4))) (h3 : w.cell? ⟨m, 3, none⟩ = some (.slice (some ⟨gr, 0, none⟩) (nr + 4) (nr + 4))) :
    Calls Tryd.prog 6 #[.pointer (some ⟨m, 0, none⟩), .agg cs] w fun e w' =>
      e = .returned (.agg (lists4 cs (.slice (some ⟨gt, 0, none⟩) nt (nt + 4)) (.slice (some ⟨gp, 0, none⟩) np (np + 4)) (.slice (some ⟨gq, 0, none⟩) nq (nq + 4)) (.slice (some ⟨gr, 0, none⟩) nr (nr + 4)))) ∧ Below w.heap.size w w' := by
  have hone : (lists4 cs (.slice (some ⟨gt, 0, none⟩) nt (nt + 4)) (.slice (some ⟨gp, 0, none⟩) np (np + 4)) (.slice (some ⟨gq, 0, none⟩) nq (nq + 4)) (.slice (some ⟨gr, 0, none⟩) nr (nr + 4))).all (·.oneCell') = true := lists4_one h1c rfl rfl rfl rfl
  have H1 : Hid _ := hone
  have HS : Hid (cs.size = 19) := hsz
  have HC := Hid.mk4 h15 h16 h17 h18
  have HM := Hid.mk4 h0 h1 h2 h3
  go_enter Tryd.func6, Tryd.ntmps6
  go_wp2
  clear hone hsz h1c h15 h16 h17 h18 h0 h1 h2 h3
  have hb0 : Below w.heap.size w ((w.alloc (.cells cs 24)).alloc (.cells Z19 24)) := ((Below.refl _ _).alloc (Nat.le_refl _) _).alloc (by simp) _
  have b0 : Blk ((w.alloc (.cells cs 24)).alloc (.cells Z19 24)) w.heap.size cs 24 := (Blk.new w cs _).old _
  have z0 : Blk ((w.alloc (.cells cs 24)).alloc (.cells Z19 24)) (w.heap.size + 1) Z19 24 := by
    have := Blk.new (w.alloc (.cells cs 24)) Z19 24
    rwa [World.size_alloc] at this
  generalize ((w.alloc (.cells cs 24)).alloc (.cells Z19 24)) = W0 at *
  have c := (hb0.cell (p := ⟨m, 0, none⟩) hm).trans HM.out.1
  have d := (b0.cell 15).trans HC.out.1
  have f := b0.free 15
  go_region
  go_wp2
  have b1 := (b0.set 15 (.slice (some ⟨gt, 0, none⟩) nt (nt + 4))).drew
  have z1 := (z0.other (m := w.heap.size) (by omega) 15 (.slice (some ⟨gt, 0, none⟩) nt (nt + 4))).drew
  have hb1 := (hb0.setCell (p := ⟨w.heap.size, 15, none⟩) (Nat.le_refl _) (.slice (some ⟨gt, 0, none⟩) nt (nt + 4))).drew
  clear b0 z0 hb0 c d f
  generalize (W0.setCell ⟨w.heap.size, 15, none⟩ (.slice (some ⟨gt, 0, none⟩) nt (nt + 4))).drew = W1 at *
  have c := (hb1.cell (p := ⟨m, 1, none⟩) hm).trans HM.out.2.1
  have d : W1.cell? ⟨w.heap.size, 16, none⟩ = some (.slice ap np kp) := by rw [b1.cell 16]; simpa using HC.out.2.1
  have f := b1.free 16
  go_region
  go_wp2
  have b2 := (b1.set 16 (.slice (some ⟨gp, 0, none⟩) np (np + 4))).drew
  have z2 := (z1.other (m := w.heap.size) (by omega) 16 (.slice (some ⟨gp, 0, none⟩) np (np + 4))).drew
  have hb2 := (hb1.setCell (p := ⟨w.heap.size, 16, none⟩) (Nat.le_refl _) (.slice (some ⟨gp, 0, none⟩) np (np + 4))).drew
  clear b1 z1 hb1 c d f
  generalize (W1.setCell ⟨w.heap.size, 16, none⟩ (.slice (some ⟨gp, 0, none⟩) np (np + 4))).drew = W2 at *
  have c := (hb2.cell (p := ⟨m, 2, none⟩) hm).trans HM.out.2.2.1
  have d : W2.cell? ⟨w.heap.size, 17, none⟩ = some (.slice aq nq kq) := by rw [b2.cell 17]; simpa using HC.out.2.2.1
  have f := b2.free 17
  go_region
  go_wp2
  have b3 := (b2.set 17 (.slice (some ⟨gq, 0, none⟩) nq (nq + 4))).drew
  have z3 := (z2.other (m := w.heap.size) (by omega) 17 (.slice (some ⟨gq, 0, none⟩) nq (nq + 4))).drew
  have hb3 := (hb2.setCell (p := ⟨w.heap.size, 17, none⟩) (Nat.le_refl _) (.slice (some ⟨gq, 0, none⟩) nq (nq + 4))).drew
  clear b2 z2 hb2 c d f
  generalize (W2.setCell ⟨w.heap.size, 17, none⟩ (.slice (some ⟨gq, 0, none⟩) nq (nq + 4))).drew = W3 at *
  have c := (hb3.cell (p := ⟨m, 3, none⟩) hm).trans HM.out.2.2.2
  have d : W3.cell? ⟨w.heap.size, 18, none⟩ = some (.slice ar nr kr) := by rw [b3.cell 18]; simpa using HC.out.2.2.2
  have f := b3.free 18
  go_region
  have b4 : Blk _ w.heap.size (lists4 cs _ _ _ _) 24 := (b3.set 18 (.slice (some ⟨gr, 0, none⟩) nr (nr + 4))).drew
  have z4 := (z3.other (m := w.heap.size) (by omega) 18 (.slice (some ⟨gr, 0, none⟩) nr (nr + 4))).drew
  have hb4 := (hb3.setCell (p := ⟨w.heap.size, 18, none⟩) (Nat.le_refl _) (.slice (some ⟨gr, 0, none⟩) nr (nr + 4))).drew
  clear b3 z3 hb3 c d f
  generalize (W3.setCell ⟨w.heap.size, 18, none⟩ (.slice (some ⟨gr, 0, none⟩) nr (nr + 4))).drew = W4 at *
  have hls : (lists4 cs (.slice (some ⟨gt, 0, none⟩) nt (nt + 4)) (.slice (some ⟨gp, 0, none⟩) np (np + 4)) (.slice (some ⟨gq, 0, none⟩) nq (nq + 4)) (.slice (some ⟨gr, 0, none⟩) nr (nr + 4))).size = 19 := by rw [lists4_size]; exact HS.out
  have HLS : Hid _ := hls
  clear hls
  generalize hL : lists4 cs (.slice (some ⟨gt, 0, none⟩) nt (nt + 4)) (.slice (some ⟨gp, 0, none⟩) np (np + 4)) (.slice (some ⟨gq, 0, none⟩) nq (nq + 4)) (.slice (some ⟨gr, 0, none⟩) nr (nr + 4)) = L at *
  have HL : Hid _ := hL
  clear hL
  go_wp2_with (first
    | refine wpList_load_mid rfl 24 _ rfl w.heap.size 0 rfl L.toList _ b4.range Tryd.underlying24 rfl (by rw [Array.length_toList, HLS.out]; exact Tryd.infoCart) ?_
    | refine wpList_store_mid rfl 24 _ _ rfl (w.heap.size + 1) 0 L rfl rfl (by exact z4.there _ HLS.out.symm) (by rw [HLS.out]; exact Tryd.infoCart) H1.out ?_)
  refine bodyPost_ret (v := .agg L) ?_ rfl ⟨by rw [HL.out], setCells_below (by omega) _ _ _ _ hb4⟩
  rw [results_cell Tryd.results6]
  have hr := run_loadVar_mid (P := Tryd.prog) (W4.setCells (w.heap.size + 1) 0 L.toList) (w.heap.size + 1) 0 24 L.toList _ (World.rangeAt_setCells_same W4 (w.heap.size + 1) 0 L.toList (z4.there _ (by rw [Array.length_toList]; exact HLS.out.symm))) Tryd.underlying24 rfl (by rw [Array.length_toList, HLS.out]; exact Tryd.infoCart)
  simp only [Array.toArray_toList] at hr
  refine Eq.trans (b := ((asAddr (.pointer (some ⟨w.heap.size + 1, 0, none⟩))).run Tryd.prog (W4.setCells (w.heap.size + 1) 0 L.toList)).andThen fun a w₁ => (loadVar 24 a).run Tryd.prog w₁) rfl ?_
  simp only [asAddr, Sem.run_pure, Result.andThen_ok]
  exact hr
end Go.Proofs.YtmjolcdocoiaeaaDoor
