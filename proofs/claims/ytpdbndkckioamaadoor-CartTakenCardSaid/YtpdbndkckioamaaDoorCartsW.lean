/-
  What the functions room, in and kept answer of a cartridge whose four lists lie in memory; conditions: those lists' bytes lie in their slices.
  What the methods in and kept of Room answer; conditions: the room's four lists lie in memory.
  What the method kept of Room answers; conditions: the room's four lists lie in memory with their marks, and the cartridge's lists with the same bytes.
-/
import Derived.Test.YtpdbndkckioamaaDoorSpare
import Derived.Deep.RegionHeld3
import Derived.BigRegion
import Derived.Deep.MidRow
namespace Go.Proofs.YtpdbndkckioamaaDoor
open Go.RowKit
theorem Own.other {w : World} {g m : Nat} {l : List Nat} (h : Own w g l) (hn : g ≠ m) (i : Nat) (v : Value) : Own (w.setCell ⟨m, i, none⟩ v) g l := (Below.heap_setCell w ⟨m, i, none⟩ v g hn).trans h
theorem Hid.mk4 {a b c d : Prop} (h1 : a) (h2 : b) (h3 : c) (h4 : d) : Hid (a ∧ b ∧ c ∧ d) := ⟨h1, h2, h3, h4⟩
/-- What a cell holds, under a name. -/
def oldAt (w : World) (p : Addr) : Value := (w.cell? p).getD undef
theorem oldAt_of {w : World} {p : Addr} {v : Value} (h : w.cell? p = some v) : w.cell? p = some (oldAt w p) := by unfold oldAt; rw [h]; rfl
theorem oldAt_keep {w w' : World} {p : Addr} {v : Value} (hk : ∀ p v, w.cell? p = some v → w'.cell? p = some v) (h : w.cell? p = some v) : w'.cell? p = some (oldAt w' p) := oldAt_of (hk p v h)
theorem spare_keep (n : Nat) (l : List Nat) (hn : l.length = n) (hl : Bytes l) (hlen : n ≤ 140737488351232) (a : Option Addr) (cap : Nat) (w0 w : World) (hb : Below w0.heap.size w0 w) (hrow : Row w0 a l) :
    Calls Tryd.prog 7 #[.slice a n cap] w fun e w' => ∃ g, e = .returned (.slice (some ⟨g, 0, none⟩) (n + 4) (n + 4)) ∧ w.heap.size ≤ g ∧ Own w' g (marked l) ∧ Below w.heap.size w w' ∧ Below w0.heap.size w0 w' ∧ (∀ p v, w.cell? p = some v → w'.cell? p = some v) ∧ (∀ p v, w.cell? p = some v → w.frozen? p = false → w'.frozen? p = false) := by
  subst hn
  refine (spare_any l hl hlen a cap w (hrow.below hb)).mono ?_
  rintro e w' ⟨g, he, hg, ho, hbb⟩
  exact ⟨g, he, hg, ho, hbb, hb.trans (hbb.mono hb.size), fun p v h => (hbb.cell (cell_lt h)).trans h, fun p v h h' => (hbb.frozen (cell_lt h)).trans h'⟩

/-- What a region that copies four lists may lean on. -/
abbrev RoomS (at' ap aq ar : Option Addr) (nt np nq nr kt kp kq kr : Nat) (w w' : World) : Prop := w'.cell? ⟨w.heap.size, 15, none⟩ = some (.slice at' nt kt) ∧ w'.cell? ⟨w.heap.size, 16, none⟩ = some (.slice ap np kp) ∧ w'.cell? ⟨w.heap.size, 17, none⟩ = some (.slice aq nq kq) ∧ w'.cell? ⟨w.heap.size, 18, none⟩ = some (.slice ar nr kr) ∧ w'.cell? ⟨w.heap.size + 1, 0, none⟩ = some (oldAt w' ⟨w.heap.size + 1, 0, none⟩) ∧ w'.cell? ⟨w.heap.size + 1, 1, none⟩ = some (oldAt w' ⟨w.heap.size + 1, 1, none⟩) ∧ w'.cell? ⟨w.heap.size + 1, 2, none⟩ = some (oldAt w' ⟨w.heap.size + 1, 2, none⟩) ∧ w'.cell? ⟨w.heap.size + 1, 3, none⟩ = some (oldAt w' ⟨w.heap.size + 1, 3, none⟩) ∧ w'.frozen? ⟨w.heap.size + 1, 0, none⟩ = false ∧ w'.frozen? ⟨w.heap.size + 1, 1, none⟩ = false ∧ w'.frozen? ⟨w.heap.size + 1, 2, none⟩ = false ∧ w'.frozen? ⟨w.heap.size + 1, 3, none⟩ = false ∧ Below w.heap.size w w'
theorem RoomS.keep {at' ap aq ar : Option Addr} {nt np nq nr kt kp kq kr : Nat} {w w1 w2 : World} (hk : ∀ p v, w1.cell? p = some v → w2.cell? p = some v) (hf : ∀ p v, w1.cell? p = some v → w1.frozen? p = false → w2.frozen? p = false) (hb : Below w.heap.size w w2)
    (h : RoomS at' ap aq ar nt np nq nr kt kp kq kr w w1) : RoomS at' ap aq ar nt np nq nr kt kp kq kr w w2 := by
  obtain ⟨h1, h2, h3, h4, h5, h6, h7, h8, h9, h10, h11, h12, _⟩ := h
  exact ⟨hk _ _ h1, hk _ _ h2, hk _ _ h3, hk _ _ h4, oldAt_keep hk h5, oldAt_keep hk h6, oldAt_keep hk h7, oldAt_keep hk h8, hf _ _ h5 h9, hf _ _ h6 h10, hf _ _ h7 h11, hf _ _ h8 h12, hb⟩
theorem RoomS.put {at' ap aq ar : Option Addr} {nt np nq nr kt kp kq kr : Nat} {w w1 : World} (h : RoomS at' ap aq ar nt np nq nr kt kp kq kr w w1) (x0 x1 x2 x3 : Value) :
    RoomS at' ap aq ar nt np nq nr kt kp kq kr w ((((w1.setCell ⟨w.heap.size + 1, 0, none⟩ x0).setCell ⟨w.heap.size + 1, 1, none⟩ x1).setCell ⟨w.heap.size + 1, 2, none⟩ x2).setCell ⟨w.heap.size + 1, 3, none⟩ x3) := by
  obtain ⟨h1, h2, h3, h4, h5, h6, h7, h8, h9, h10, h11, h12, hb⟩ := h
  refine ⟨?_, ?_, ?_, ?_, oldAt_of (v := x0) ?_, oldAt_of (v := x1) ?_, oldAt_of (v := x2) ?_, oldAt_of (v := x3) ?_, ?_, ?_, ?_, ?_, (((hb.setCell (by simp) _).setCell (by simp) _).setCell (by simp) _).setCell (by simp) _⟩ <;> simp [*, World.cell?_setCell_other, World.cell?_setCell_same']
set_option maxRecDepth 100000 in
set_option maxHeartbeats 1600000 in
theorem room_any (cs : Array Value) (_hsz : cs.size = 19) (T P Q R : List Nat) (at' ap aq ar : Option Addr) (nt np nq nr kt kp kq kr : Nat) (w : World)
    (ht : T.length = nt) (hp : P.length = np) (hq : Q.length = nq) (hr : R.length = nr) (bt : Bytes T) (bp : Bytes P) (bq : Bytes Q) (br : Bytes R)
    (lt : nt ≤ 140737488351232) (lp : np ≤ 140737488351232) (lq : nq ≤ 140737488351232) (lr : nr ≤ 140737488351232)
    (h15 : cs[15]? = some (.slice at' nt kt)) (h16 : cs[16]? = some (.slice ap np kp)) (h17 : cs[17]? = some (.slice aq nq kq)) (h18 : cs[18]? = some (.slice ar nr kr))
    (rt : Row w at' T) (rp : Row w ap P) (rq : Row w aq Q) (rr : Row w ar R) :
    Calls Tryd.prog 17 #[.agg cs] w fun e w' =>
      ∃ gt gp gq gr, e = .returned (.agg #[.slice (some ⟨gt, 0, none⟩) (nt + 4) (nt + 4), .slice (some ⟨gp, 0, none⟩) (np + 4) (np + 4), .slice (some ⟨gq, 0, none⟩) (nq + 4) (nq + 4), .slice (some ⟨gr, 0, none⟩) (nr + 4) (nr + 4)]) ∧
        w.heap.size ≤ gt ∧ w.heap.size ≤ gp ∧ w.heap.size ≤ gq ∧ w.heap.size ≤ gr ∧ Own w' gt (marked T) ∧ Own w' gp (marked P) ∧ Own w' gq (marked Q) ∧ Own w' gr (marked R) ∧ Below w.heap.size w w' := by
  have Ht : Hid (T.length = nt) := ht
  have Hp : Hid (P.length = np) := hp
  have Hq : Hid (Q.length = nq) := hq
  have Hr : Hid (R.length = nr) := hr
  clear ht hp hq hr
  go_enter Tryd.func17, Tryd.ntmps17
  go_wp2
  have hb0 : Below w.heap.size w ((w.alloc (.cells cs 25)).alloc (.cells #[.slice none 0 0, .slice none 0 0, .slice none 0 0, .slice none 0 0] 43)) :=
    ((Below.refl _ _).alloc (Nat.le_refl _) _).alloc (by simp) _
  have d15 : ((w.alloc (.cells cs 25)).alloc (.cells #[.slice none 0 0, .slice none 0 0, .slice none 0 0, .slice none 0 0] 43)).cell? ⟨w.heap.size, 15, none⟩ = some (.slice at' nt kt) := by simp [h15]
  have d16 : ((w.alloc (.cells cs 25)).alloc (.cells #[.slice none 0 0, .slice none 0 0, .slice none 0 0, .slice none 0 0] 43)).cell? ⟨w.heap.size, 16, none⟩ = some (.slice ap np kp) := by simp [h16]
  have d17 : ((w.alloc (.cells cs 25)).alloc (.cells #[.slice none 0 0, .slice none 0 0, .slice none 0 0, .slice none 0 0] 43)).cell? ⟨w.heap.size, 17, none⟩ = some (.slice aq nq kq) := by simp [h17]
  have d18 : ((w.alloc (.cells cs 25)).alloc (.cells #[.slice none 0 0, .slice none 0 0, .slice none 0 0, .slice none 0 0] 43)).cell? ⟨w.heap.size, 18, none⟩ = some (.slice ar nr kr) := by simp [h18]
  have hWs : ((w.alloc (.cells cs 25)).alloc (.cells #[.slice none 0 0, .slice none 0 0, .slice none 0 0, .slice none 0 0] 43)).heap.size = w.heap.size + 2 := by simp
  have e0 : ((w.alloc (.cells cs 25)).alloc (.cells #[.slice none 0 0, .slice none 0 0, .slice none 0 0, .slice none 0 0] 43)).cell? ⟨w.heap.size + 1, 0, none⟩ = some (.slice none 0 0) := by simp
  have e1 : ((w.alloc (.cells cs 25)).alloc (.cells #[.slice none 0 0, .slice none 0 0, .slice none 0 0, .slice none 0 0] 43)).cell? ⟨w.heap.size + 1, 1, none⟩ = some (.slice none 0 0) := by simp
  have e2 : ((w.alloc (.cells cs 25)).alloc (.cells #[.slice none 0 0, .slice none 0 0, .slice none 0 0, .slice none 0 0] 43)).cell? ⟨w.heap.size + 1, 2, none⟩ = some (.slice none 0 0) := by simp
  have e3 : ((w.alloc (.cells cs 25)).alloc (.cells #[.slice none 0 0, .slice none 0 0, .slice none 0 0, .slice none 0 0] 43)).cell? ⟨w.heap.size + 1, 3, none⟩ = some (.slice none 0 0) := by simp
  have fz0 : ((w.alloc (.cells cs 25)).alloc (.cells #[.slice none 0 0, .slice none 0 0, .slice none 0 0, .slice none 0 0] 43)).frozen? ⟨w.heap.size + 1, 0, none⟩ = false := by simp
  have fz1 : ((w.alloc (.cells cs 25)).alloc (.cells #[.slice none 0 0, .slice none 0 0, .slice none 0 0, .slice none 0 0] 43)).frozen? ⟨w.heap.size + 1, 1, none⟩ = false := by simp
  have fz2 : ((w.alloc (.cells cs 25)).alloc (.cells #[.slice none 0 0, .slice none 0 0, .slice none 0 0, .slice none 0 0] 43)).frozen? ⟨w.heap.size + 1, 2, none⟩ = false := by simp
  have fz3 : ((w.alloc (.cells cs 25)).alloc (.cells #[.slice none 0 0, .slice none 0 0, .slice none 0 0, .slice none 0 0] 43)).frozen? ⟨w.heap.size + 1, 3, none⟩ = false := by simp
  generalize ((w.alloc (.cells cs 25)).alloc (.cells #[.slice none 0 0, .slice none 0 0, .slice none 0 0, .slice none 0 0] 43)) = W at *
  have start : RoomS at' ap aq ar nt np nq nr kt kp kq kr w W.drew := ⟨d15, d16, d17, d18, oldAt_of e0, oldAt_of e1, oldAt_of e2, oldAt_of e3, fz0, fz1, fz2, fz3, hb0.drew⟩
  have HE := Hid.mk4 e0 e1 e2 e3
  have HW : Hid (W.heap.size = w.heap.size + 2) := hWs
  clear d15 d16 d17 d18 e0 e1 e2 e3 fz0 fz1 fz2 fz3 hWs
  go_region_held3 (fun w' => w'.cell? ⟨w.heap.size, 15, none⟩ = some (.slice at' nt kt) ∧ w'.cell? ⟨w.heap.size, 16, none⟩ = some (.slice ap np kp) ∧ w'.cell? ⟨w.heap.size, 17, none⟩ = some (.slice aq nq kq) ∧ w'.cell? ⟨w.heap.size, 18, none⟩ = some (.slice ar nr kr) ∧ w'.cell? ⟨w.heap.size + 1, 0, none⟩ = some (oldAt w' ⟨w.heap.size + 1, 0, none⟩) ∧ w'.cell? ⟨w.heap.size + 1, 1, none⟩ = some (oldAt w' ⟨w.heap.size + 1, 1, none⟩) ∧ w'.cell? ⟨w.heap.size + 1, 2, none⟩ = some (oldAt w' ⟨w.heap.size + 1, 2, none⟩) ∧ w'.cell? ⟨w.heap.size + 1, 3, none⟩ = some (oldAt w' ⟨w.heap.size + 1, 3, none⟩) ∧ w'.frozen? ⟨w.heap.size + 1, 0, none⟩ = false ∧ w'.frozen? ⟨w.heap.size + 1, 1, none⟩ = false ∧ w'.frozen? ⟨w.heap.size + 1, 2, none⟩ = false ∧ w'.frozen? ⟨w.heap.size + 1, 3, none⟩ = false ∧ Below w.heap.size w w')
    (first | with_reducible exact start | with_reducible exact RoomS.put (by assumption) _ _ _ _ | with_reducible exact RoomS.keep hk hf hbw (by assumption))
    (first
      | (go_at_call_of 7 (Value.slice at' nt kt); refine (spare_keep nt T Ht.out bt lt at' kt w _ ?_ rt).mono ?_; (first | exact hbw | exact hb0.drew); rintro e wt ⟨gt, rfl, hgt, ot, blt, hbw, hk, hf⟩)
      | (go_at_call_of 7 (Value.slice ap np kp); refine (spare_keep np P Hp.out bp lp ap kp w _ ?_ rp).mono ?_; (first | exact hbw | exact hb0.drew); rintro e wp ⟨gp, rfl, hgp, op, blp, hbw, hk, hf⟩)
      | (go_at_call_of 7 (Value.slice aq nq kq); refine (spare_keep nq Q Hq.out bq lq aq kq w _ ?_ rq).mono ?_; (first | exact hbw | exact hb0.drew); rintro e wq ⟨gq, rfl, hgq, oq, blq, hbw, hk, hf⟩)
      | (go_at_call_of 7 (Value.slice ar nr kr); refine (spare_keep nr R Hr.out br lr ar kr w _ ?_ rr).mono ?_; (first | exact hbw | exact hb0.drew); rintro e wr ⟨gr, rfl, hgr, or, blr, hbw, hk, hf⟩))
  have hW2 := HW.out
  have bt2 : Below W.heap.size W wt := (Below.refl W.heap.size W).drew.trans blt
  have z1 : W.heap.size ≤ wt.heap.size := bt2.size
  have z2 : wt.heap.size ≤ wp.heap.size := blp.size
  have z3 : wp.heap.size ≤ wq.heap.size := blq.size
  have zt : W.heap.size ≤ gt := hgt
  have bW : Below W.heap.size W wr := ((bt2.trans (blp.mono z1)).trans (blq.mono (by omega))).trans (blr.mono (by omega))
  have k0 := (bW.cell (p := ⟨w.heap.size + 1, 0, none⟩) (by show w.heap.size + 1 < _; omega)).trans HE.out.1
  have k1 := (bW.cell (p := ⟨w.heap.size + 1, 1, none⟩) (by show w.heap.size + 1 < _; omega)).trans HE.out.2.1
  have k2 := (bW.cell (p := ⟨w.heap.size + 1, 2, none⟩) (by show w.heap.size + 1 < _; omega)).trans HE.out.2.2.1
  have k3 := (bW.cell (p := ⟨w.heap.size + 1, 3, none⟩) (by show w.heap.size + 1 < _; omega)).trans HE.out.2.2.2
  have o1 := ((((ot.below ot.lt blp).below (Nat.lt_of_lt_of_le ot.lt z2) blq).below (Nat.lt_of_lt_of_le ot.lt (by omega)) blr))
  have o2 := ((op.below op.lt blq).below (Nat.lt_of_lt_of_le op.lt z3) blr)
  have o3 := oq.below oq.lt blr
  have n1 : gt ≠ w.heap.size + 1 := by omega
  have n2 : gp ≠ w.heap.size + 1 := by omega
  have n3 : gq ≠ w.heap.size + 1 := by omega
  have n4 : gr ≠ w.heap.size + 1 := by omega
  have hfin := (((hbw.setCell (p := ⟨w.heap.size + 1, 0, none⟩) (by simp) (.slice (some ⟨gt, 0, none⟩) (nt + 4) (nt + 4))).setCell (p := ⟨w.heap.size + 1, 1, none⟩) (by simp) (.slice (some ⟨gp, 0, none⟩) (np + 4) (np + 4))).setCell (p := ⟨w.heap.size + 1, 2, none⟩) (by simp) (.slice (some ⟨gq, 0, none⟩) (nq + 4) (nq + 4))).setCell (p := ⟨w.heap.size + 1, 3, none⟩) (by simp) (.slice (some ⟨gr, 0, none⟩) (nr + 4) (nr + 4))
  have O := Hid.mk4 o1 o2 o3 or
  clear o1 o2 o3 ot op oq or bW bt2 blt blp blq blr start HE
  go_wp2
  refine bodyPost_ret (v := .agg #[.slice (some ⟨gt, 0, none⟩) (nt + 4) (nt + 4), .slice (some ⟨gp, 0, none⟩) (np + 4) (np + 4), .slice (some ⟨gq, 0, none⟩) (nq + 4) (nq + 4), .slice (some ⟨gr, 0, none⟩) (nr + 4) (nr + 4)]) (by simp [results, Tryd.results17, go_sem, k0, k1, k2, k3]) rfl ⟨gt, gp, gq, gr, rfl, by omega, by omega, by omega, by omega, ((((O.out.1.other n1 _ _).other n1 _ _).other n1 _ _).other n1 _ _), ((((O.out.2.1.other n2 _ _).other n2 _ _).other n2 _ _).other n2 _ _), ((((O.out.2.2.1.other n3 _ _).other n3 _ _).other n3 _ _).other n3 _ _), ((((O.out.2.2.2.other n4 _ _).other n4 _ _).other n4 _ _).other n4 _ _), hfin⟩
end Go.Proofs.YtpdbndkckioamaaDoor
namespace Go.Proofs.YtpdbndkckioamaaDoor
open Go.RowKit
/-- The block b holds just these cells. -/
def Blk (w : World) (b : Nat) (cs : Array Value) (t : TypeId) : Prop := w.heap[b]? = some (.cells cs t (0, 0))
theorem Blk.lt {w : World} {b : Nat} {cs : Array Value} {t : TypeId} (h : Blk w b cs t) : b < w.heap.size := (Array.getElem?_eq_some_iff.1 h).1
theorem Blk.cell {w : World} {b : Nat} {cs : Array Value} {t : TypeId} (h : Blk w b cs t) (i : Nat) : w.cell? ⟨b, i, none⟩ = cs[i]? := cell_of_row w b i cs t (0, 0) h
theorem Blk.free {w : World} {b : Nat} {cs : Array Value} {t : TypeId} (h : Blk w b cs t) (i : Nat) : w.frozen? ⟨b, i, none⟩ = false := frozen_of_row w b i cs t h
theorem Blk.set {w : World} {b : Nat} {cs : Array Value} {t : TypeId} (h : Blk w b cs t) (i : Nat) (v : Value) : Blk (w.setCell ⟨b, i, none⟩ v) b (cs.setIfInBounds i v) t := heap_setCell_same w b i cs t v h
theorem Blk.other {w : World} {b m : Nat} {cs : Array Value} {t : TypeId} (h : Blk w b cs t) (hn : b ≠ m) (i : Nat) (v : Value) : Blk (w.setCell ⟨m, i, none⟩ v) b cs t := (Below.heap_setCell w ⟨m, i, none⟩ v b hn).trans h
theorem Blk.below {w w' : World} {b B : Nat} {cs : Array Value} {t : TypeId} (h : Blk w b cs t) (hB : b < B) (hb : Below B w w') : Blk w' b cs t := (hb.block b hB).trans h
theorem Blk.drew {w : World} {b : Nat} {cs : Array Value} {t : TypeId} (h : Blk w b cs t) : Blk w.drew b cs t := h
theorem Blk.range {w : World} {b : Nat} {cs : Array Value} {t : TypeId} (h : Blk w b cs t) : w.rangeAt b 0 cs.toList := fun j v hv => by
  rw [Nat.zero_add, h.cell j]; simpa using hv
theorem Blk.there {w : World} {b : Nat} {cs : Array Value} {t : TypeId} (h : Blk w b cs t) (n : Nat) (hn : cs.size = n) : w.there b 0 n := fun j hj => by
  rw [Nat.zero_add, h.cell j]; exact ⟨by simp; omega, h.free j⟩
theorem Blk.new (w : World) (cs : Array Value) (t : TypeId) : Blk (w.alloc (.cells cs t)) w.heap.size cs t := heap_alloc_new w _
theorem Blk.old {w : World} {b : Nat} {cs : Array Value} {t : TypeId} (h : Blk w b cs t) (o : Obj) : Blk (w.alloc o) b cs t := (Below.heap_alloc w o b h.lt).trans h
theorem setCells_below {B b : Nat} (hB : B ≤ b) : ∀ (vs : List Value) (o : Nat) (a w : World), Below B a w → Below B a (w.setCells b o vs)
  | [], _, _, _, h => h
  | _ :: vs, o, a, _, h => setCells_below hB vs (o + 1) a _ (h.setCell (p := ⟨b, o, none⟩) hB _)

/-- A cartridge's cells with other lists. -/
def lists4 (cs : Array Value) (t p q r : Value) : Array Value := (((cs.setIfInBounds 15 t).setIfInBounds 16 p).setIfInBounds 17 q).setIfInBounds 18 r
theorem lists4_size (cs : Array Value) (t p q r : Value) : (lists4 cs t p q r).size = cs.size := by simp [lists4]
theorem lists4_one {cs : Array Value} {t p q r : Value} (h : cs.all (·.oneCell') = true) (ht : t.oneCell' = true) (hp : p.oneCell' = true) (hq : q.oneCell' = true) (hr : r.oneCell' = true) : (lists4 cs t p q r).all (·.oneCell') = true := by
  rw [Array.all_eq_true_iff_forall_mem] at h ⊢
  intro v hv
  unfold lists4 at hv
  have g : ∀ (a : Array Value) (i : Nat) (x : Value), (∀ v ∈ a, v.oneCell' = true) → x.oneCell' = true → ∀ v ∈ a.setIfInBounds i x, v.oneCell' = true := by
    intro a i x ha hx v hv
    obtain ⟨j, hj, rfl⟩ := Array.mem_iff_getElem.1 hv
    have hj' : j < a.size := by simpa using hj
    rw [Array.getElem_setIfInBounds hj']
    split
    · exact hx
    · exact ha _ (Array.getElem_mem hj')
  exact g _ _ _ (g _ _ _ (g _ _ _ (g _ _ _ h ht) hp) hq) hr v hv
theorem results_cell {fn : Func} {p : Tmp} {ty : TypeId} (h : fn.results = #[.cell p ty]) (tmps : Array Value) (P : Program) (w : World) :
    (results fn tmps).run P w = ((asAddr (tmps.getD p undef)).run P w).andThen fun a w₁ => (loadVar ty a).run P w₁ := by
  simp only [results, h]
  simp [Sem.run_bind, Result.andThen]
theorem Tryd.infoCart : (Tryd.prog.info? 25).map (·.size) = some 19 := by kernel_rfl

theorem untouched_n (n : Nat) (l : List Nat) (hn : l.length = n) (hlen : n ≤ 140737488351232) (g : Nat) (b : Option Addr) (capb : Nat) (w0 w : World) (hb : Below w0.heap.size w0 w) (rm : Own w0 g (marked l)) (rb : Row w0 b l) :
    Calls Tryd.prog 11 #[.slice (some ⟨g, 0, none⟩) (n + 4) (n + 4), .slice b n capb] w fun e w' => e = .returned (.bool true) ∧ ∃ m, w' = w.drewN m := by
  subst hn; exact untouched_true l hlen g b capb w (rm.below rm.lt hb) (rb.below hb)

abbrev Z19 : Array Value := #[.int .i64 0, .int .i64 0, .int .i64 0, .bool false, .bool false, .bool false, .int .i64 0, .int .i64 0, .int .i64 0, .int .i64 0, .int .i64 0, .int .i64 0, .int .i64 0, .int .i64 0, .int .i64 0, .slice none 0 0, .slice none 0 0, .slice none 0 0, .slice none 0 0]

set_option maxRecDepth 100000 in
set_option maxHeartbeats 1600000 in
theorem in_any (cs : Array Value) (hsz : cs.size = 19) (h1c : cs.all (·.oneCell') = true) (at' ap aq ar : Option Addr) (nt np nq nr kt kp kq kr gt gp gq gr m : Nat) (w : World) (hm : m < w.heap.size)
    (h15 : cs[15]? = some (.slice at' nt kt)) (h16 : cs[16]? = some (.slice ap np kp)) (h17 : cs[17]? = some (.slice aq nq kq)) (h18 : cs[18]? = some (.slice ar nr kr))
    (h0 : w.cell? ⟨m, 0, none⟩ = some (.slice (some ⟨gt, 0, none⟩) (nt + 4) (nt + 4))) (h1 : w.cell? ⟨m, 1, none⟩ = some (.slice (some ⟨gp, 0, none⟩) (np + 4) (np + 4)))
    (h2 : w.cell? ⟨m, 2, none⟩ = some (.slice (some ⟨gq, 0, none⟩) (nq + 4) (nq + 4))) (h3 : w.cell? ⟨m, 3, none⟩ = some (.slice (some ⟨gr, 0, none⟩) (nr + 4) (nr + 4))) :
    Calls Tryd.prog 19 #[.pointer (some ⟨m, 0, none⟩), .agg cs] w fun e w' =>
      e = .returned (.agg (lists4 cs (.slice (some ⟨gt, 0, none⟩) nt (nt + 4)) (.slice (some ⟨gp, 0, none⟩) np (np + 4)) (.slice (some ⟨gq, 0, none⟩) nq (nq + 4)) (.slice (some ⟨gr, 0, none⟩) nr (nr + 4)))) ∧ Below w.heap.size w w' := by
  have hone : (lists4 cs (.slice (some ⟨gt, 0, none⟩) nt (nt + 4)) (.slice (some ⟨gp, 0, none⟩) np (np + 4)) (.slice (some ⟨gq, 0, none⟩) nq (nq + 4)) (.slice (some ⟨gr, 0, none⟩) nr (nr + 4))).all (·.oneCell') = true := lists4_one h1c rfl rfl rfl rfl
  have H1 : Hid _ := hone
  have HS : Hid (cs.size = 19) := hsz
  have HC := Hid.mk4 h15 h16 h17 h18
  have HM := Hid.mk4 h0 h1 h2 h3
  go_enter Tryd.func19, Tryd.ntmps19
  go_wp2
  clear hone hsz h1c h15 h16 h17 h18 h0 h1 h2 h3
  have hb0 : Below w.heap.size w ((w.alloc (.cells cs 25)).alloc (.cells Z19 25)) := ((Below.refl _ _).alloc (Nat.le_refl _) _).alloc (by simp) _
  have b0 : Blk ((w.alloc (.cells cs 25)).alloc (.cells Z19 25)) w.heap.size cs 25 := (Blk.new w cs _).old _
  have z0 : Blk ((w.alloc (.cells cs 25)).alloc (.cells Z19 25)) (w.heap.size + 1) Z19 25 := by
    have := Blk.new (w.alloc (.cells cs 25)) Z19 25
    rwa [World.size_alloc] at this
  generalize ((w.alloc (.cells cs 25)).alloc (.cells Z19 25)) = W0 at *
  have c := (hb0.cell (p := ⟨m, 0, none⟩) hm).trans HM.out.1
  have d := (b0.cell 15).trans HC.out.1
  have f := b0.free 15
  go_region
  go_wp2
  have b1 := (b0.set 15 (.slice (some ⟨gt, 0, none⟩) nt (nt + 4))).drew
  have z1 := (z0.other (m := w.heap.size) (by omega) 15 (.slice (some ⟨gt, 0, none⟩) nt (nt + 4))).drew
  have hb1 := (hb0.setCell (p := ⟨w.heap.size, 15, none⟩) (Nat.le_refl _) (.slice (some ⟨gt, 0, none⟩) nt (nt + 4))).drew
  clear b0 z0 hb0 c d f
  generalize (W0.setCell ⟨w.heap.size, 15, none⟩ (.slice (some ⟨gt, 0, none⟩) nt (nt + 4))).drew = W1 at *
  have c := (hb1.cell (p := ⟨m, 1, none⟩) hm).trans HM.out.2.1
  have d : W1.cell? ⟨w.heap.size, 16, none⟩ = some (.slice ap np kp) := by rw [b1.cell 16]; simpa using HC.out.2.1
  have f := b1.free 16
  go_region
  go_wp2
  have b2 := (b1.set 16 (.slice (some ⟨gp, 0, none⟩) np (np + 4))).drew
  have z2 := (z1.other (m := w.heap.size) (by omega) 16 (.slice (some ⟨gp, 0, none⟩) np (np + 4))).drew
  have hb2 := (hb1.setCell (p := ⟨w.heap.size, 16, none⟩) (Nat.le_refl _) (.slice (some ⟨gp, 0, none⟩) np (np + 4))).drew
  clear b1 z1 hb1 c d f
  generalize (W1.setCell ⟨w.heap.size, 16, none⟩ (.slice (some ⟨gp, 0, none⟩) np (np + 4))).drew = W2 at *
  have c := (hb2.cell (p := ⟨m, 2, none⟩) hm).trans HM.out.2.2.1
  have d : W2.cell? ⟨w.heap.size, 17, none⟩ = some (.slice aq nq kq) := by rw [b2.cell 17]; simpa using HC.out.2.2.1
  have f := b2.free 17
  go_region
  go_wp2
  have b3 := (b2.set 17 (.slice (some ⟨gq, 0, none⟩) nq (nq + 4))).drew
  have z3 := (z2.other (m := w.heap.size) (by omega) 17 (.slice (some ⟨gq, 0, none⟩) nq (nq + 4))).drew
  have hb3 := (hb2.setCell (p := ⟨w.heap.size, 17, none⟩) (Nat.le_refl _) (.slice (some ⟨gq, 0, none⟩) nq (nq + 4))).drew
  clear b2 z2 hb2 c d f
  generalize (W2.setCell ⟨w.heap.size, 17, none⟩ (.slice (some ⟨gq, 0, none⟩) nq (nq + 4))).drew = W3 at *
  have c := (hb3.cell (p := ⟨m, 3, none⟩) hm).trans HM.out.2.2.2
  have d : W3.cell? ⟨w.heap.size, 18, none⟩ = some (.slice ar nr kr) := by rw [b3.cell 18]; simpa using HC.out.2.2.2
  have f := b3.free 18
  go_region
  have b4 : Blk _ w.heap.size (lists4 cs _ _ _ _) 25 := (b3.set 18 (.slice (some ⟨gr, 0, none⟩) nr (nr + 4))).drew
  have z4 := (z3.other (m := w.heap.size) (by omega) 18 (.slice (some ⟨gr, 0, none⟩) nr (nr + 4))).drew
  have hb4 := (hb3.setCell (p := ⟨w.heap.size, 18, none⟩) (Nat.le_refl _) (.slice (some ⟨gr, 0, none⟩) nr (nr + 4))).drew
  clear b3 z3 hb3 c d f
  generalize (W3.setCell ⟨w.heap.size, 18, none⟩ (.slice (some ⟨gr, 0, none⟩) nr (nr + 4))).drew = W4 at *
  have hls : (lists4 cs (.slice (some ⟨gt, 0, none⟩) nt (nt + 4)) (.slice (some ⟨gp, 0, none⟩) np (np + 4)) (.slice (some ⟨gq, 0, none⟩) nq (nq + 4)) (.slice (some ⟨gr, 0, none⟩) nr (nr + 4))).size = 19 := by rw [lists4_size]; exact HS.out
  have HLS : Hid _ := hls
  clear hls
  generalize hL : lists4 cs (.slice (some ⟨gt, 0, none⟩) nt (nt + 4)) (.slice (some ⟨gp, 0, none⟩) np (np + 4)) (.slice (some ⟨gq, 0, none⟩) nq (nq + 4)) (.slice (some ⟨gr, 0, none⟩) nr (nr + 4)) = L at *
  have HL : Hid _ := hL
  clear hL
  go_wp2_with (first
    | refine wpList_load_mid rfl 25 _ rfl w.heap.size 0 rfl L.toList _ b4.range Tryd.underlying25 rfl (by rw [Array.length_toList, HLS.out]; exact Tryd.infoCart) ?_
    | refine wpList_store_mid rfl 25 _ _ rfl (w.heap.size + 1) 0 L rfl rfl (by exact z4.there _ HLS.out.symm) (by rw [HLS.out]; exact Tryd.infoCart) H1.out ?_)
  refine bodyPost_ret (v := .agg L) ?_ rfl ⟨by rw [HL.out], setCells_below (by omega) _ _ _ _ hb4⟩
  rw [results_cell Tryd.results19]
  have hr := run_loadVar_mid (P := Tryd.prog) (W4.setCells (w.heap.size + 1) 0 L.toList) (w.heap.size + 1) 0 25 L.toList _ (World.rangeAt_setCells_same W4 (w.heap.size + 1) 0 L.toList (z4.there _ (by rw [Array.length_toList]; exact HLS.out.symm))) Tryd.underlying25 rfl (by rw [Array.length_toList, HLS.out]; exact Tryd.infoCart)
  simp only [Array.toArray_toList] at hr
  refine Eq.trans (b := ((asAddr (.pointer (some ⟨w.heap.size + 1, 0, none⟩))).run Tryd.prog (W4.setCells (w.heap.size + 1) 0 L.toList)).andThen fun a w₁ => (loadVar 25 a).run Tryd.prog w₁) rfl ?_
  simp only [asAddr, Sem.run_pure, Result.andThen_ok]
  exact hr
end Go.Proofs.YtpdbndkckioamaaDoor
namespace Go.Proofs.YtpdbndkckioamaaDoor
open Go.RowKit
theorem below_draws {B : Nat} {a w : World} (h : Below B a w) (n : Nat) : Below B a (w.drewN n) := ⟨h.os, h.tape, h.output, h.size, h.block⟩

set_option maxRecDepth 100000 in
set_option maxHeartbeats 1600000 in
theorem kept_any (cs : Array Value) (_hsz : cs.size = 19) (T P Q R : List Nat) (at' ap aq ar : Option Addr) (nt np nq nr kt kp kq kr gt gp gq gr m : Nat) (w : World) (hm : m < w.heap.size)
    (ht : T.length = nt) (hp : P.length = np) (hq : Q.length = nq) (hr : R.length = nr)
    (lt : nt ≤ 140737488351232) (lp : np ≤ 140737488351232) (lq : nq ≤ 140737488351232) (lr : nr ≤ 140737488351232)
    (h15 : cs[15]? = some (.slice at' nt kt)) (h16 : cs[16]? = some (.slice ap np kp)) (h17 : cs[17]? = some (.slice aq nq kq)) (h18 : cs[18]? = some (.slice ar nr kr))
    (rt : Row w at' T) (rp : Row w ap P) (rq : Row w aq Q) (rr : Row w ar R)
    (ot : Own w gt (marked T)) (op : Own w gp (marked P)) (oq : Own w gq (marked Q)) (or : Own w gr (marked R))
    (h0 : w.cell? ⟨m, 0, none⟩ = some (.slice (some ⟨gt, 0, none⟩) (nt + 4) (nt + 4))) (h1 : w.cell? ⟨m, 1, none⟩ = some (.slice (some ⟨gp, 0, none⟩) (np + 4) (np + 4)))
    (h2 : w.cell? ⟨m, 2, none⟩ = some (.slice (some ⟨gq, 0, none⟩) (nq + 4) (nq + 4))) (h3 : w.cell? ⟨m, 3, none⟩ = some (.slice (some ⟨gr, 0, none⟩) (nr + 4) (nr + 4))) :
    Calls Tryd.prog 21 #[.pointer (some ⟨m, 0, none⟩), .agg cs] w fun e w' =>
      e = .returned (.bool true) ∧ Below w.heap.size w w' := by
  have HR := Hid.mk4 rt rp rq rr
  have HO := Hid.mk4 ot op oq or
  have HL := Hid.mk4 ht hp hq hr
  have HC := Hid.mk4 h15 h16 h17 h18
  have HM := Hid.mk4 h0 h1 h2 h3
  go_enter Tryd.func21, Tryd.ntmps21
  go_wp2
  clear rt rp rq rr ot op oq or ht hp hq hr h15 h16 h17 h18 h0 h1 h2 h3 _hsz
  have hb0 : Below w.heap.size w (w.alloc (.cells cs 25)) := (Below.refl _ _).alloc (Nat.le_refl _) _
  have b0 : Blk (w.alloc (.cells cs 25)) w.heap.size cs 25 := Blk.new w cs _
  generalize w.alloc (.cells cs 25) = W at *
  have c0 := (hb0.cell (p := ⟨m, 0, none⟩) hm).trans HM.out.1
  have c1 := (hb0.cell (p := ⟨m, 1, none⟩) hm).trans HM.out.2.1
  have c2 := (hb0.cell (p := ⟨m, 2, none⟩) hm).trans HM.out.2.2.1
  have c3 := (hb0.cell (p := ⟨m, 3, none⟩) hm).trans HM.out.2.2.2
  have d0 := (b0.cell 15).trans HC.out.1
  have d1 := (b0.cell 16).trans HC.out.2.1
  have d2 := (b0.cell 17).trans HC.out.2.2.1
  have d3 := (b0.cell 18).trans HC.out.2.2.2
  go_quiet (first
    | (go_at_call_of 11 (Value.slice at' nt kt); exact Calls.quiet_of (untouched_n nt T HL.out.1 lt gt at' kt w _ (below_draws hb0 _) HO.out.1 HR.out.1))
    | (go_at_call_of 11 (Value.slice ap np kp); exact Calls.quiet_of (untouched_n np P HL.out.2.1 lp gp ap kp w _ (below_draws hb0 _) HO.out.2.1 HR.out.2.1))
    | (go_at_call_of 11 (Value.slice aq nq kq); exact Calls.quiet_of (untouched_n nq Q HL.out.2.2.1 lq gq aq kq w _ (below_draws hb0 _) HO.out.2.2.1 HR.out.2.2.1))
    | (go_at_call_of 11 (Value.slice ar nr kr); exact Calls.quiet_of (untouched_n nr R HL.out.2.2.2 lr gr ar kr w _ (below_draws hb0 _) HO.out.2.2.2 HR.out.2.2.2)))
  go_wp2
  go_ret
  exact ⟨rfl, below_draws hb0 _⟩
end Go.Proofs.YtpdbndkckioamaaDoor
