/-
  What the functions room, in and kept answer of a cartridge whose four lists lie in memory; conditions: those lists' bytes lie in their slices.
-/
import Derived.Test.YtmjolcdocoiaeaaDoorSpare
import Derived.Deep.RegionHeld3
import Derived.BigRegion
namespace Go.Proofs.YtmjolcdocoiaeaaDoor
open Go.RowKit
theorem Own.other {w : World} {g m : Nat} {l : List Nat} (h : Own w g l) (hn : g ≠ m) (i : Nat) (v : Value) : Own (w.setCell ⟨m, i, none⟩ v) g l := (Below.heap_setCell w ⟨m, i, none⟩ v g hn).trans h
theorem Hid.mk4 {a b c d : Prop} (h1 : a) (h2 : b) (h3 : c) (h4 : d) : Hid (a ∧ b ∧ c ∧ d) := ⟨h1, h2, h3, h4⟩
/-- What a cell holds, under a name. -/
def oldAt (w : World) (p : Addr) : Value := (w.cell? p).getD undef
theorem oldAt_of {w : World} {p : Addr} {v : Value} (h : w.cell? p = some v) : w.cell? p = some (oldAt w p) := by unfold oldAt; rw [h]; rfl
theorem oldAt_keep {w w' : World} {p : Addr} {v : Value} (hk : ∀ p v, w.cell? p = some v → w'.cell? p = some v) (h : w.cell? p = some v) : w'.cell? p = some (oldAt w' p) := oldAt_of (hk p v h)
theorem spare_keep (n : Nat) (l : List Nat) (hn : l.length = n) (hl : Bytes l) (hlen : n ≤ 140737488351232) (a : Option Addr) (cap : Nat) (w0 w : World) (hb : Below w0.heap.size w0 w) (hrow : Row w0 a l) :
    Calls Tryd.prog 10 #[.slice a n cap] w fun e w' => ∃ g, e = .returned (.slice (some ⟨g, 0, none⟩) (n + 4) (n + 4)) ∧ w.heap.size ≤ g ∧ Own w' g (marked l) ∧ Below w.heap.size w w' ∧ Below w0.heap.size w0 w' ∧ (∀ p v, w.cell? p = some v → w'.cell? p = some v) ∧ (∀ p v, w.cell? p = some v → w.frozen? p = false → w'.frozen? p = false) := by
  subst hn
  refine (spare_any l hl hlen a cap w (hrow.below hb)).mono ?_
  rintro e w' ⟨g, he, hg, ho, hbb⟩
  exact ⟨g, he, hg, ho, hbb, hb.trans (hbb.mono hb.size), fun p v h => (hbb.cell (cell_lt h)).trans h, fun p v h h' => (hbb.frozen (cell_lt h)).trans h'⟩

/-- What a region that copies four lists may lean on. -/
abbrev RoomS (at' ap aq ar : Option Addr) (nt np nq nr kt kp kq kr : Nat) (w w' : World) : Prop := w'.cell? ⟨w.heap.size, 15, none⟩ = some (.slice at' nt kt) ∧ w'.cell? ⟨w.heap.size, 16, none⟩ = some (.slice ap np kp) ∧ w'.cell? ⟨w.heap.size, 17, none⟩ = some (.slice aq nq kq) ∧ w'.cell? ⟨w.heap.size, 18, none⟩ = some (.slice ar nr kr) ∧ w'.cell? ⟨w.heap.size + 1, 0, none⟩ = some (oldAt w' ⟨w.heap.size + 1, 0, none⟩) ∧ w'.cell? ⟨w.heap.size + 1, 1, none⟩ = some (oldAt w' ⟨w.heap.size + 1, 1, none⟩) ∧ w'.cell? ⟨w.heap.size + 1, 2, none⟩ = some (oldAt w' ⟨w.heap.size + 1, 2, none⟩) ∧ w'.cell? ⟨w.heap.size + 1, 3, none⟩ = some (oldAt w' ⟨w.heap.size + 1, 3, none⟩) ∧ w'.frozen? ⟨w.heap.size + 1, 0, none⟩ = false ∧ w'.frozen? ⟨w.heap.size + 1, 1, none⟩ = false ∧ w'.frozen? ⟨w.heap.size + 1, 2, none⟩ = false ∧ w'.frozen? ⟨w.heap.size + 1, 3, none⟩ = false ∧ Below w.heap.size w w'
theorem RoomS.keep {at' ap aq ar : Option Addr} {nt np nq nr kt kp kq kr : Nat} {w w1 w2 : World} (hk : ∀ p v, w1.cell? p = some v → w2.cell? p = some v) (hf : ∀ p v, w1.cell? p = some v → w1.frozen? p = false → w2.frozen? p = false) (hb : Below w.heap.size w w2)
    (h : RoomS at' ap aq ar nt np nq nr kt kp kq kr w w1) : RoomS at' ap aq ar nt np nq nr kt kp kq kr w w2 := by
  obtain ⟨h1, h2, h3, h4, h5, h6, h7, h8, h9, h10, h11, h12, _⟩ := h
  exact ⟨hk _ _ h1, hk _ _ h2, hk _ _ h3, hk _ _ h4, oldAt_keep hk h5, oldAt_keep hk h6, oldAt_keep hk h7, oldAt_keep hk h8, hf _ _ h5 h9, hf _ _ h6 h10, hf _ _ h7 h11, hf _ _ h8 h12, hb⟩
theorem RoomS.put {at' ap aq ar : Option Addr} {nt np nq nr kt kp kq kr : Nat} {w w1 : World} (h : RoomS at' ap aq ar nt np nq nr kt kp kq kr w w1) (x0 x1 x2 x3 : Value) :
    RoomS at' ap aq ar nt np nq nr kt kp kq kr w ((((w1.setCell ⟨w.heap.size + 1, 0, none⟩ x0).setCell ⟨w.heap.size + 1, 1, none⟩ x1).setCell ⟨w.heap.size + 1, 2, none⟩ x2).setCell ⟨w.heap.size + 1, 3, none⟩ x3) := by
  obtain ⟨h1, h2, h3, h4, h5, h6, h7, h8, h9, h10, h11, h12, hb⟩ := h
  refine ⟨?_, ?_, ?_, ?_, oldAt_of (v := x0) ?_, oldAt_of (v := x1) ?_, oldAt_of (v := x2) ?_, oldAt_of (v := x3) ?_, ?_, ?_, ?_, ?_, (((hb.setCell (by simp) _).setCell (by simp) _).setCell (by simp) _).setCell (by simp) _⟩ <;> simp [*, World.cell?_setCell_other, World.cell?_setCell_same']
set_option maxRecDepth 100000 in
set_option maxHeartbeats 1600000 in
theorem room_any (cs : Array Value) (_hsz : cs.size = 19) (T P Q R : List Nat) (at' ap aq ar : Option Addr) (nt np nq nr kt kp kq kr : Nat) (w : World)
    (ht : T.length = nt) (hp : P.length = np) (hq : Q.length = nq) (hr : R.length = nr) (bt : Bytes T) (bp : Bytes P) (bq : Bytes Q) (br : Bytes R)
    (lt : nt ≤ 140737488351232) (lp : np ≤ 140737488351232) (lq : nq ≤ 140737488351232) (lr : nr ≤ 140737488351232)
    (h15 : cs[15]? = some (.slice at' nt kt)) (h16 : cs[16]? = some (.slice ap np kp)) (h17 : cs[17]? = some (.slice aq nq kq)) (h18 : cs[18]? = some (.slice ar nr kr))
    (rt : Row w at' T) (rp : Row w ap P) (rq : Row w aq Q) (rr : Row w ar R) :
    Calls Tryd.prog 4 #[.agg cs] w fun e w' =>
      ∃ gt gp gq gr, e = .returned (.agg #[.slice (some ⟨gt, 0, none⟩) (nt + 4) (nt + 4), .slice (some ⟨gp, 0, none⟩) (np + 4) (np + 4), .slice (some ⟨gq, 0, none⟩) (nq + 4) (nq + 4), .slice (some ⟨gr, 0, none⟩) (nr + 4) (nr + 4)]) ∧
        w.heap.size ≤ gt ∧ w.heap.size ≤ gp ∧ w.heap.size ≤ gq ∧ w.heap.size ≤ gr ∧ Own w' gt (marked T) ∧ Own w' gp (marked P) ∧ Own w' gq (marked Q) ∧ Own w' gr (marked R) ∧ Below w.heap.size w w' := by
  have Ht : Hid (T.length = nt) := ht
  have Hp : Hid (P.length = np) := hp
  have Hq : Hid (Q.length = nq) := hq
  have Hr : Hid (R.length = nr) := hr
  clear ht hp hq hr
  go_enter Tryd.func4, Tryd.ntmps4
  go_wp2
  have hb0 : Below w.heap.size w ((w.alloc (.cells cs 24)).alloc (.cells #[.slice none 0 0, .slice none 0 0, .slice none 0 0, .slice none 0 0] 26)) :=
    ((Below.refl _ _).alloc (Nat.le_refl _) _).alloc (by simp) _
  have d15 : ((w.alloc (.cells cs 24)).alloc (.cells #[.slice none 0 0, .slice none 0 0, .slice none 0 0, .slice none 0 0] 26)).cell? ⟨w.heap.size, 15, none⟩ = some (.slice at' nt kt) := by simp [h15]
  have d16 : ((w.alloc (.cells cs 24)).alloc (.cells #[.slice none 0 0, .slice none 0 0, .slice none 0 0, .slice none 0 0] 26)).cell? ⟨w.heap.size, 16, none⟩ = some (.slice ap np kp) := by simp [h16]
  have d17 : ((w.alloc (.cells cs 24)).alloc (.cells #[.slice none 0 0, .slice none 0 0, .slice none 0 0, .slice none 0 0] 26)).cell? ⟨w.heap.size, 17, none⟩ = some (.slice aq nq kq) := by simp [h17]
  have d18 : ((w.alloc (.cells cs 24)).alloc (.cells #[.slice none 0 0, .slice none 0 0, .slice none 0 0, .slice none 0 0] 26)).cell? ⟨w.heap.size, 18, none⟩ = some (.slice ar nr kr) := by simp [h18]
  have hWs : ((w.alloc (.cells cs 24)).alloc (.cells #[.slice none 0 0, .slice none 0 0, .slice none 0 0, .slice none 0 0] 26)).heap.size = w.heap.size + 2 := by simp
  have e0 : ((w.alloc (.cells cs 24)).alloc (.cells #[.slice none 0 0, .slice none 0 0, .slice none 0 0, .slice none 0 0] 26)).cell? ⟨w.heap.size + 1, 0, none⟩ = some (.slice none 0 0) := by simp
  have e1 : ((w.alloc (.cells cs 24)).alloc (.cells #[.slice none 0 0, .slice none 0 0, .slice none 0 0, .slice none 0 0] 26)).cell? ⟨w.heap.size + 1, 1, none⟩ = some (.slice none 0 0) := by simp
  have e2 : ((w.alloc (.cells cs 24)).alloc (.cells #[.slice none 0 0, .slice none 0 0, .slice none 0 0, .slice none 0 0] 26)).cell? ⟨w.heap.size + 1, 2, none⟩ = some (.slice none 0 0) := by simp
  have e3 : ((w.alloc (.cells cs 24)).alloc (.cells #[.slice none 0 0, .slice none 0 0, .slice none 0 0, .slice none 0 0] 26)).cell? ⟨w.heap.size + 1, 3, none⟩ = some (.slice none 0 0) := by simp
  have fz0 : ((w.alloc (.cells cs 24)).alloc (.cells #[.slice none 0 0, .slice none 0 0, .slice none 0 0, .slice none 0 0] 26)).frozen? ⟨w.heap.size + 1, 0, none⟩ = false := by simp
  have fz1 : ((w.alloc (.cells cs 24)).alloc (.cells #[.slice none 0 0, .slice none 0 0, .slice none 0 0, .slice none 0 0] 26)).frozen? ⟨w.heap.size + 1, 1, none⟩ = false := by simp
  have fz2 : ((w.alloc (.cells cs 24)).alloc (.cells #[.slice none 0 0, .slice none 0 0, .slice none 0 0, .slice none 0 0] 26)).frozen? ⟨w.heap.size + 1, 2, none⟩ = false := by simp
  have fz3 : ((w.alloc (.cells cs 24)).alloc (.cells #[.slice none 0 0, .slice none 0 0, .slice none 0 0, .slice none 0 0] 26)).frozen? ⟨w.heap.size + 1, 3, none⟩ = false := by simp
  generalize ((w.alloc (.cells cs 24)).alloc (.cells #[.slice none 0 0, .slice none 0 0, .slice none 0 0, .slice none 0 0] 26)) = W at *
  have start : RoomS at' ap aq ar nt np nq nr kt kp kq kr w W.drew := ⟨d15, d16, d17, d18, oldAt_of e0, oldAt_of e1, oldAt_of e2, oldAt_of e3, fz0, fz1, fz2, fz3, hb0.drew⟩
  have HE := Hid.mk4 e0 e1 e2 e3
  have HW : Hid (W.heap.size = w.heap.size + 2) := hWs
  clear d15 d16 d17 d18 e0 e1 e2 e3 fz0 fz1 fz2 fz3 hWs
  go_region_held3 (fun w' => w'.cell? ⟨w.heap.size, 15, none⟩ = some (.slice at' nt kt) ∧ w'.cell? ⟨w.heap.size, 16, none⟩ = some (.slice ap np kp) ∧ w'.cell? ⟨w.heap.size, 17, none⟩ = some (.slice aq nq kq) ∧ w'.cell? ⟨w.heap.size, 18, none⟩ = some (.slice ar nr kr) ∧ w'.cell? ⟨w.heap.size + 1, 0, none⟩ = some (oldAt w' ⟨w.heap.size + 1, 0, none⟩) ∧ w'.cell? ⟨w.heap.size + 1, 1, none⟩ = some (oldAt w' ⟨w.heap.size + 1, 1, none⟩) ∧ w'.cell? ⟨w.heap.size + 1, 2, none⟩ = some (oldAt w' ⟨w.heap.size + 1, 2, none⟩) ∧ w'.cell? ⟨w.heap.size + 1, 3, none⟩ = some (oldAt w' ⟨w.heap.size + 1, 3, none⟩) ∧ w'.frozen? ⟨w.heap.size + 1, 0, none⟩ = false ∧ w'.frozen? ⟨w.heap.size + 1, 1, none⟩ = false ∧ w'.frozen? ⟨w.heap.size + 1, 2, none⟩ = false ∧ w'.frozen? ⟨w.heap.size + 1, 3, none⟩ = false ∧ Below w.heap.size w w')
    (first | with_reducible exact start | with_reducible exact RoomS.put (by assumption) _ _ _ _ | with_reducible exact RoomS.keep hk hf hbw (by assumption))
    (first
      | (go_at_call_of 10 (Value.slice at' nt kt); refine (spare_keep nt T Ht.out bt lt at' kt w _ ?_ rt).mono ?_; (first | exact hbw | exact hb0.drew); rintro e wt ⟨gt, rfl, hgt, ot, blt, hbw, hk, hf⟩)
      | (go_at_call_of 10 (Value.slice ap np kp); refine (spare_keep np P Hp.out bp lp ap kp w _ ?_ rp).mono ?_; (first | exact hbw | exact hb0.drew); rintro e wp ⟨gp, rfl, hgp, op, blp, hbw, hk, hf⟩)
      | (go_at_call_of 10 (Value.slice aq nq kq); refine (spare_keep nq Q Hq.out bq lq aq kq w _ ?_ rq).mono ?_; (first | exact hbw | exact hb0.drew); rintro e wq ⟨gq, rfl, hgq, oq, blq, hbw, hk, hf⟩)
      | (go_at_call_of 10 (Value.slice ar nr kr); refine (spare_keep nr R Hr.out br lr ar kr w _ ?_ rr).mono ?_; (first | exact hbw | exact hb0.drew); rintro e wr ⟨gr, rfl, hgr, or, blr, hbw, hk, hf⟩))
  have hW2 := HW.out
  have bt2 : Below W.heap.size W wt := (Below.refl W.heap.size W).drew.trans blt
  have z1 : W.heap.size ≤ wt.heap.size := bt2.size
  have z2 : wt.heap.size ≤ wp.heap.size := blp.size
  have z3 : wp.heap.size ≤ wq.heap.size := blq.size
  have zt : W.heap.size ≤ gt := hgt
  have bW : Below W.heap.size W wr := ((bt2.trans (blp.mono z1)).trans (blq.mono (by omega))).trans (blr.mono (by omega))
  have k0 := (bW.cell (p := ⟨w.heap.size + 1, 0, none⟩) (by show w.heap.size + 1 < _; omega)).trans HE.out.1
  have k1 := (bW.cell (p := ⟨w.heap.size + 1, 1, none⟩) (by show w.heap.size + 1 < _; omega)).trans HE.out.2.1
  have k2 := (bW.cell (p := ⟨w.heap.size + 1, 2, none⟩) (by show w.heap.size + 1 < _; omega)).trans HE.out.2.2.1
  have k3 := (bW.cell (p := ⟨w.heap.size + 1, 3, none⟩) (by show w.heap.size + 1 < _; omega)).trans HE.out.2.2.2
  have o1 := ((((ot.below ot.lt blp).below (Nat.lt_of_lt_of_le ot.lt z2) blq).below (Nat.lt_of_lt_of_le ot.lt (by omega)) blr))
  have o2 := ((op.below op.lt blq).below (Nat.lt_of_lt_of_le op.lt z3) blr)
  have o3 := oq.below oq.lt blr
  have n1 : gt ≠ w.heap.size + 1 := by omega
  have n2 : gp ≠ w.heap.size + 1 := by omega
  have n3 : gq ≠ w.heap.size + 1 := by omega
  have n4 : gr ≠ w.heap.size + 1 := by omega
  have hfin := (((hbw.setCell (p := ⟨w.heap.size + 1, 0, none⟩) (by simp) (.slice (some ⟨gt, 0, none⟩) (nt + 4) (nt + 4))).setCell (p := ⟨w.heap.size + 1, 1, none⟩) (by simp) (.slice (some ⟨gp, 0, none⟩) (np + 4) (np + 4))).setCell (p := ⟨w.heap.size + 1, 2, none⟩) (by simp) (.slice (some ⟨gq, 0, none⟩) (nq + 4) (nq + 4))).setCell (p := ⟨w.heap.size + 1, 3, none⟩) (by simp) (.slice (some ⟨gr, 0, none⟩) (nr + 4) (nr + 4))
  have O := Hid.mk4 o1 o2 o3 or
  clear o1 o2 o3 ot op oq or bW bt2 blt blp blq blr start HE
  go_wp2
  refine bodyPost_ret (v := .agg #[.slice (some ⟨gt, 0, none⟩) (nt + 4) (nt + 4), .slice (some ⟨gp, 0, none⟩) (np + 4) (np + 4), .slice (some ⟨gq, 0, none⟩) (nq + 4) (nq + 4), .slice (some ⟨gr, 0, none⟩) (nr + 4) (nr + 4)]) (by simp [results, Tryd.results4, go_sem, k0, k1, k2, k3]) rfl ⟨gt, gp, gq, gr, rfl, by omega, by omega, by omega, by omega, ((((O.out.1.other n1 _ _).other n1 _ _).other n1 _ _).other n1 _ _), ((((O.out.2.1.other n2 _ _).other n2 _ _).other n2 _ _).other n2 _ _), ((((O.out.2.2.1.other n3 _ _).other n3 _ _).other n3 _ _).other n3 _ _), ((((O.out.2.2.2.other n4 _ _).other n4 _ _).other n4 _ _).other n4 _ _), hfin⟩
end Go.Proofs.YtmjolcdocoiaeaaDoor
