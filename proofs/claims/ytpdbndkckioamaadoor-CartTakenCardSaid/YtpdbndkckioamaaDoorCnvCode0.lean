/-
  What Convert answers, as plain functions; the blocks that a Convert works with.
-/
import Derived.Test.YtpdbndkckioamaaDoorCnvEq
set_option linter.unusedSimpArgs false
set_option linter.unusedVariables false
namespace Go.Proofs.YtpdbndkckioamaaDoor
open Go.RowKit
/-- The cartridge in another format. -/
def cvD (c : CF) (f : Int) : CF := { c with fmt := f, misc := tmN c f }
/-- Which way a Convert ends: 0 a format that is none, 1 the cartridge may not be, 2 the turned one may not be, 3 well. -/
def cvK (c : CF) (f : Int) : Nat := if f < 0 ∨ 2 < f then 0 else if ckE c ≠ 0 then 1 else if ckE (cvD c f) ≠ 0 then 2 else 3
def cvE (c : CF) (f : Int) : Int := match cvK c f with | 0 => 2 | 1 => ckE c | 2 => 16 | _ => 0
def cvN (c : CF) (f : Int) : Int := match cvK c f with | 0 => 0 | 1 => ckN c | 2 => ckN (cvD c f) | _ => 0
def cvC (c : CF) (f : Int) : CF := if cvK c f = 3 then cvD c f else zC
def cvT (c : CF) (f : Int) (l : List Nat) : List Nat := if cvK c f = 3 then l else []
/-- What a Convert is to answer. -/
def CvOk (c : CF) (f : Int) (T P Q R : List Nat) (w : World) (e : Ending) (w' : World) : Prop :=
  ∃ xs, e = .returned (.tuple #[.agg xs, .int .i64 (cvE c f), .int .i64 (cvN c f)]) ∧ Cl w' xs (cvC c f) (cvT c f T) (cvT c f P) (cvT c f Q) (cvT c f R) ∧ Below w.heap.size w w'
theorem CvOk.bad {c : CF} {f : Int} {T P Q R : List Nat} {w w' : World} (k : Nat) (hk : cvK c f = k) (h3 : k ≠ 3) (x y : Int) (hx : cvE c f = x) (hy : cvN c f = y) (hb : Below w.heap.size w w') :
    CvOk c f T P Q R w (.returned (.tuple #[.agg Z19, .int .i64 x, .int .i64 y])) w' := by
  have hn : ¬ cvK c f = 3 := by rw [hk]; exact h3
  refine ⟨Z19, by rw [hx, hy], ?_, hb⟩
  unfold cvC cvT
  rw [if_neg hn, if_neg hn, if_neg hn, if_neg hn, if_neg hn]
  exact Cl.zero _
theorem CvOk.good {c : CF} {f : Int} {T P Q R : List Nat} {w w' : World} (hk : cvK c f = 3) (xs : Array Value) (h : Cl w' xs (cvD c f) T P Q R) (hb : Below w.heap.size w w') :
    CvOk c f T P Q R w (.returned (.tuple #[.agg xs, .int .i64 0, .int .i64 0])) w' := by
  refine ⟨xs, by unfold cvE cvN; rw [hk]; rfl, ?_, hb⟩
  unfold cvC cvT
  rw [if_pos hk, if_pos hk, if_pos hk, if_pos hk, if_pos hk]
  exact h
/-- The argument's block and the result's. -/
structure Cv (w : World) (cs : Array Value) (W : World) : Prop where
  b : Blk W w.heap.size cs 25
  z : Blk W (w.heap.size + 1) Z19 25
  bl : Below w.heap.size w W
theorem Cv.below {w W W' : World} {cs : Array Value} (K : Cv w cs W) (hb : Below W.heap.size W W') : Cv w cs W' := ⟨K.b.below K.b.lt hb, K.z.below K.z.lt hb, K.bl.trans (hb.mono K.bl.size)⟩
theorem Cv.new (w : World) (cs : Array Value) : Cv w cs ((w.alloc (.cells cs 25)).alloc (.cells Z19 25)) :=
  ⟨(Blk.new w cs _).old _, by have := Blk.new (w.alloc (.cells cs 25)) Z19 25; rwa [World.size_alloc] at this, ((Below.refl _ _).alloc (Nat.le_refl _) _).alloc (by simp) _⟩
/-- And the block of the turned cartridge. -/
structure Cd (w : World) (cs : Array Value) (g : Nat) (ds : Array Value) (W : World) : Prop where
  b : Blk W w.heap.size cs 25
  z : Blk W (w.heap.size + 1) Z19 25
  d : Blk W g ds 25
  hg : w.heap.size + 1 < g
  bl : Below w.heap.size w W
theorem Cd.below {w W W' : World} {cs ds : Array Value} {g : Nat} (K : Cd w cs g ds W) (hb : Below W.heap.size W W') : Cd w cs g ds W' := ⟨K.b.below K.b.lt hb, K.z.below K.z.lt hb, K.d.below K.d.lt hb, K.hg, K.bl.trans (hb.mono K.bl.size)⟩
theorem Cd.put {w W : World} {cs ds : Array Value} {g : Nat} (K : Cd w cs g ds W) (i : Nat) (v : Value) : Cd w cs g (ds.setIfInBounds i v) (W.setCell ⟨g, i, none⟩ v) :=
  ⟨K.b.other (by have := K.hg; omega) i v, K.z.other (by have := K.hg; omega) i v, K.d.set i v, K.hg, K.bl.setCell (p := ⟨g, i, none⟩) (by have := K.hg; show w.heap.size ≤ g; omega) v⟩
theorem Cd.puts {w W : World} {cs ds L : Array Value} {g : Nat} (K : Cd w cs g ds W) (hs : L.size = ds.size) : Cd w cs g L (W.setCells g 0 L.toList) :=
  ⟨K.b.otherCells (by have := K.hg; omega) _ _, K.z.otherCells (by have := K.hg; omega) _ _, K.d.setAll hs, K.hg, setCells_below (by have := K.hg; omega) _ _ _ _ K.bl⟩
theorem Cv.d {w W : World} {cs : Array Value} (K : Cv w cs W) : Cd w cs W.heap.size cs (W.alloc (.cells cs 25)) :=
  ⟨K.b.old _, K.z.old _, Blk.new W cs _, K.z.lt, K.bl.alloc K.bl.size _⟩
theorem Cv.dz {w W : World} {cs : Array Value} (K : Cv w cs W) (hs : cs.size = 19) : Cd w cs W.heap.size cs ((W.alloc (.cells Z19 25)).setCells W.heap.size 0 cs.toList) :=
  Cd.puts (ds := Z19) ⟨K.b.old _, K.z.old _, Blk.new W Z19 _, K.z.lt, K.bl.alloc K.bl.size _⟩ (by rw [hs]; rfl)
theorem one_set' {a : Array Value} {x : Value} (i : Nat) (ha : a.all (·.oneCell') = true) (hx : x.oneCell' = true) : (a.setIfInBounds i x).all (·.oneCell') = true := by
  rw [Array.all_eq_true_iff_forall_mem] at ha ⊢
  intro v hv
  obtain ⟨j, hj, rfl⟩ := Array.mem_iff_getElem.1 hv
  have hj' : j < a.size := by simpa using hj
  rw [Array.getElem_setIfInBounds hj']
  split
  · exact hx
  · exact ha _ (Array.getElem_mem hj')
theorem IsC.turn {cs : Array Value} {c : CF} (C : IsC cs c) (f : Int) : IsC ((cs.setIfInBounds 0 (.int .i64 f)).setIfInBounds 10 (.int .i64 (tmN c f))) (cvD c f) := by
  have hs := C.size
  have lo : ∀ i v, i ≠ 0 → i ≠ 10 → cs[i]? = some v → ((cs.setIfInBounds 0 (.int .i64 f)).setIfInBounds 10 (.int .i64 (tmN c f)))[i]? = some v := by
    intro i v h0 h10 h
    rw [Array.getElem?_setIfInBounds_ne (by omega), Array.getElem?_setIfInBounds_ne (by omega)]
    exact h
  have one : ((cs.setIfInBounds 0 (.int .i64 f)).setIfInBounds 10 (.int .i64 (tmN c f))).all (·.oneCell') = true := one_set' 10 (one_set' 0 C.one rfl) rfl
  exact ⟨by simpa using hs, one, by simp [hs, cvD], lo 1 _ (by decide) (by decide) C.h1, lo 2 _ (by decide) (by decide) C.h2, lo 3 _ (by decide) (by decide) C.h3, lo 4 _ (by decide) (by decide) C.h4, lo 5 _ (by decide) (by decide) C.h5,
    lo 6 _ (by decide) (by decide) C.h6, lo 7 _ (by decide) (by decide) C.h7, lo 8 _ (by decide) (by decide) C.h8, lo 9 _ (by decide) (by decide) C.h9, by simp [hs, cvD], lo 11 _ (by decide) (by decide) C.h11, lo 12 _ (by decide) (by decide) C.h12,
    lo 13 _ (by decide) (by decide) C.h13, lo 14 _ (by decide) (by decide) C.h14, C.h15.imp fun _ h => h.imp fun _ h => lo 15 _ (by decide) (by decide) h, C.h16.imp fun _ h => h.imp fun _ h => lo 16 _ (by decide) (by decide) h,
    C.h17.imp fun _ h => h.imp fun _ h => lo 17 _ (by decide) (by decide) h, C.h18.imp fun _ h => h.imp fun _ h => lo 18 _ (by decide) (by decide) h, C.mt, C.mp, C.mq, C.mr⟩
theorem cl_lists {W : World} {ds : Array Value} {d : CF} (D : IsC ds d) {T P Q R : List Nat} (lt : T.length = d.nt) (lp : P.length = d.np) (lq : Q.length = d.nq) (lr : R.length = d.nr) (a1 a2 a3 a4 : Option Addr) (k1 k2 k3 k4 : Nat)
    (r1 : Row W a1 T) (r2 : Row W a2 P) (r3 : Row W a3 Q) (r4 : Row W a4 R) : Cl W (lists4 ds (.slice a1 d.nt k1) (.slice a2 d.np k2) (.slice a3 d.nq k3) (.slice a4 d.nr k4)) d T P Q R := by
  have hs := D.size
  exact ⟨D.lists _ _ _ _ _ _ _ _, lt, lp, lq, lr, ⟨a1, k1, by simp [lists4, hs], r1⟩, ⟨a2, k2, by simp [lists4, hs], r2⟩, ⟨a3, k3, by simp [lists4, hs], r3⟩, ⟨a4, k4, by simp [lists4, hs], r4⟩⟩
end Go.Proofs.YtpdbndkckioamaaDoor
