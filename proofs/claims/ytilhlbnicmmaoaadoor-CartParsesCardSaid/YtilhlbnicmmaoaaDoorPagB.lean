/-
  What the reading of images stands on: blocks, lists of bytes, results; conditions: what is named.
-/
import Derived.Test.YtilhlbnicmmaoaaDoorBase
import Derived.Test.YtilhlbnicmmaoaaDoorChkSpec
import Derived.WalkKit
import Derived.WalkSpells
import Derived.WalkLawsBesides
import Derived.Laws.BitsAllLaws
import Derived.BigQuiet
import Derived.Deep.QuietTactic
import Derived.Deep.RegionHeld3
import Derived.BigRegion
import Derived.Deep.MidRow
import Derived.Deep.DeepCutAuto
import Derived.Shelf.Spec.TrailingZeros
import Derived.Laws.Bits64b
import Derived.OrdersHeld
import Derived.OwnWalk
import Derived.Laws.AppendOwn
import Derived.Laws.CopyOwn
import Derived.Lib.LazyBuf
import Derived.StillTailTactics
import Derived.Deep.Heap
import Derived.StillTactics
import Derived.Defers
import Derived.Recover
set_option linter.unusedSimpArgs false
set_option linter.unusedVariables false
namespace Go.Proofs.YtilhlbnicmmaoaaDoor
open Go.RowKit
/-- The bytes with four marks behind them. -/
def marked (l : List Nat) : List Nat := l ++ [165, 165, 165, 165]
set_option maxHeartbeats 400000 in
theorem same_true (l : List Nat) (hlen : l.length ≤ 140737488355328) (a b : Option Addr) (capa capb : Nat) (w : World) (ra : Row w a l) (rb : Row w b l) :
    Calls Tryd.prog 14 #[.slice a l.length capa, .slice b l.length capb] w fun e w' => e = .returned (.bool true) ∧ ∃ m, w' = w.drewN m := by
  have hne : ((l.length : Int) != (l.length : Int)) = false := by simp
  go_enter Tryd.func14, Tryd.ntmps14
  go_wp2
  go_loopw [5] (fun i wr => ∃ k : Nat, k ≤ l.length ∧ i = .int .i64 k ∧ ∃ m, wr = w.drewN m) (fun i _ => l.length - (intOf i).toNat)
  case atStart => exact ⟨0, Nat.zero_le _, rfl, 0, rfl⟩
  case round =>
    obtain ⟨k, hk, rfl, m, rfl⟩ := hrel
    by_cases hkl : k < l.length
    · rcases ra with rfl | ⟨ab, aoff, rfl, ca⟩
      · simp at hkl
      rcases rb with rfl | ⟨bb, boff, rfl, cb⟩
      · simp at hkl
      have cak := ca k hkl
      have cbk := cb k hkl
      have hee : (((l.getD k 0 : Nat) : Int) != ((l.getD k 0 : Nat) : Int)) = false := by simp
      clear ca cb
      generalize l.getD k 0 = y at *
      have hki : (k : Int) < (l.length : Int) := by omega
      go_wp2
      go_quiet (fail)
      go_wp2
      go_roundw
      case rel => exact ⟨k + 1, by omega, by go_num, _, rfl⟩
      case measure => simp [intOf]; omega
    · go_wp2
      go_ret
      exact ⟨rfl, m, rfl⟩

theorem same_n (n m : Nat) (l : List Nat) (hn : l.length = n) (hm : l.length = m) (hlen : n ≤ 140737488355328) (a b : Option Addr) (capa capb : Nat) (w : World) (ra : Row w a l) (rb : Row w b l) :
    Calls Tryd.prog 14 #[.slice a n capa, .slice b m capb] w fun e w' => e = .returned (.bool true) ∧ ∃ m, w' = w.drewN m := by
  subst hn; subst hm; exact same_true l hlen a b capa capb w ra rb
theorem Row.drewN {w : World} {a : Option Addr} {l : List Nat} (h : Row w a l) (m : Nat) : Row (w.drewN m) a l := h

theorem Own.other {w : World} {g m : Nat} {l : List Nat} (h : Own w g l) (hn : g ≠ m) (i : Nat) (v : Value) : Own (w.setCell ⟨m, i, none⟩ v) g l := (Below.heap_setCell w ⟨m, i, none⟩ v g hn).trans h
/-- The block b holds just these cells. -/
def Blk (w : World) (b : Nat) (cs : Array Value) (t : TypeId) : Prop := w.heap[b]? = some (.cells cs t (0, 0))
theorem Blk.lt {w : World} {b : Nat} {cs : Array Value} {t : TypeId} (h : Blk w b cs t) : b < w.heap.size := (Array.getElem?_eq_some_iff.1 h).1
theorem Blk.cell {w : World} {b : Nat} {cs : Array Value} {t : TypeId} (h : Blk w b cs t) (i : Nat) : w.cell? ⟨b, i, none⟩ = cs[i]? := cell_of_row w b i cs t (0, 0) h
theorem Blk.free {w : World} {b : Nat} {cs : Array Value} {t : TypeId} (h : Blk w b cs t) (i : Nat) : w.frozen? ⟨b, i, none⟩ = false := frozen_of_row w b i cs t h
theorem Blk.set {w : World} {b : Nat} {cs : Array Value} {t : TypeId} (h : Blk w b cs t) (i : Nat) (v : Value) : Blk (w.setCell ⟨b, i, none⟩ v) b (cs.setIfInBounds i v) t := heap_setCell_same w b i cs t v h
theorem Blk.other {w : World} {b m : Nat} {cs : Array Value} {t : TypeId} (h : Blk w b cs t) (hn : b ≠ m) (i : Nat) (v : Value) : Blk (w.setCell ⟨m, i, none⟩ v) b cs t := (Below.heap_setCell w ⟨m, i, none⟩ v b hn).trans h
theorem Blk.below {w w' : World} {b B : Nat} {cs : Array Value} {t : TypeId} (h : Blk w b cs t) (hB : b < B) (hb : Below B w w') : Blk w' b cs t := (hb.block b hB).trans h
theorem Blk.drew {w : World} {b : Nat} {cs : Array Value} {t : TypeId} (h : Blk w b cs t) : Blk w.drew b cs t := h
theorem Blk.range {w : World} {b : Nat} {cs : Array Value} {t : TypeId} (h : Blk w b cs t) : w.rangeAt b 0 cs.toList := fun j v hv => by
  rw [Nat.zero_add, h.cell j]; simpa using hv
theorem Blk.there {w : World} {b : Nat} {cs : Array Value} {t : TypeId} (h : Blk w b cs t) (n : Nat) (hn : cs.size = n) : w.there b 0 n := fun j hj => by
  rw [Nat.zero_add, h.cell j]; exact ⟨by simp; omega, h.free j⟩
theorem Blk.new (w : World) (cs : Array Value) (t : TypeId) : Blk (w.alloc (.cells cs t)) w.heap.size cs t := heap_alloc_new w _
theorem Blk.old {w : World} {b : Nat} {cs : Array Value} {t : TypeId} (h : Blk w b cs t) (o : Obj) : Blk (w.alloc o) b cs t := (Below.heap_alloc w o b h.lt).trans h
theorem setCells_below {B b : Nat} (hB : B ≤ b) : ∀ (vs : List Value) (o : Nat) (a w : World), Below B a w → Below B a (w.setCells b o vs)
  | [], _, _, _, h => h
  | _ :: vs, o, a, _, h => setCells_below hB vs (o + 1) a _ (h.setCell (p := ⟨b, o, none⟩) hB _)

theorem Tryd.infoCart : (Tryd.prog.info? 25).map (·.size) = some 19 := by kernel_rfl

abbrev Z19 : Array Value := #[.int .i64 0, .int .i64 0, .int .i64 0, .bool false, .bool false, .bool false, .int .i64 0, .int .i64 0, .int .i64 0, .int .i64 0, .int .i64 0, .int .i64 0, .int .i64 0, .int .i64 0, .int .i64 0, .slice none 0 0, .slice none 0 0, .slice none 0 0, .slice none 0 0]

theorem below_draws {B : Nat} {a w : World} (h : Below B a w) (n : Nat) : Below B a (w.drewN n) := ⟨h.os, h.tape, h.output, h.size, h.block⟩

theorem greatestKind_any (con : Int) (w : World) :
    Calls Tryd.prog 80 #[.int .i64 con] w fun e w' => e = .returned (.int .i64 (Chk.kindTop con)) ∧ w' = w := by
  unfold Chk.kindTop
  by_cases h1 : con = 1
  · subst h1
    go_enter Tryd.func80, Tryd.ntmps80
    go_wp2
    go_ret
    exact ⟨rfl, rfl⟩
  · have d1 : (con == 1) = false := by simp [h1]
    by_cases h3 : con = 3
    · subst h3
      go_enter Tryd.func80, Tryd.ntmps80
      go_wp2
      go_ret
      exact ⟨rfl, rfl⟩
    · have d3 : (con == 3) = false := by simp [h3]
      go_enter Tryd.func80, Tryd.ntmps80
      go_wp2
      go_ret
      exact ⟨rfl, rfl⟩
/-- The bytes of a memory that four bits tell. -/
def ramV (k : Nat) : Nat := if k = 0 then 0 else 64 * 2 ^ k
theorem ramV_le : ∀ k : Nat, k ≤ 15 → ramV k ≤ 2097152 := by decide
theorem ramSize_any (k : Nat) (hk : k ≤ 15) (w : World) :
    Calls Tryd.prog 81 #[.int .u8 k] w fun e w' => e = .returned (.int .i64 (ramV k : Nat)) ∧ w' = w := by
  by_cases h0 : k = 0
  · subst h0
    go_enter Tryd.func81, Tryd.ntmps81
    go_wp2
    go_ret
    exact ⟨rfl, rfl⟩
  · have h0' : ((k : Int) == 0) = false := by simp [h0]
    have hb := ramV_le k hk
    have e : (ramV k : Int) = 64 * 2 ^ k := by unfold ramV; rw [if_neg h0]; simp
    have H : Hid (wrap64 (64 * 2 ^ k) = (ramV k : Nat)) := by
      unfold Hid
      rw [← e, IntWalk.wrap64_in _ ⟨by omega, by omega⟩]
    clear e hb
    go_enter Tryd.func81, Tryd.ntmps81
    go_wp2
    go_ret
    exact ⟨congrArg (fun n => Ending.returned (.int .i64 n)) H.out, rfl⟩
/-- The cells of a cartridge with these numbers and lengths. -/
structure IsC (cs : Array Value) (c : CF) : Prop where
  size : cs.size = 19
  one : cs.all (·.oneCell') = true
  h0 : cs[0]? = some (.int .i64 c.fmt)
  h1 : cs[1]? = some (.int .i64 c.map)
  h2 : cs[2]? = some (.int .i64 c.sub)
  h3 : cs[3]? = some (.bool c.vert)
  h4 : cs[4]? = some (.bool c.four)
  h5 : cs[5]? = some (.bool c.bat)
  h6 : cs[6]? = some (.int .i64 c.con)
  h7 : cs[7]? = some (.int .i64 c.kind)
  h8 : cs[8]? = some (.int .i64 c.tim)
  h9 : cs[9]? = some (.int .i64 c.dev)
  h10 : cs[10]? = some (.int .i64 c.misc)
  h11 : cs[11]? = some (.int .i64 c.pr)
  h12 : cs[12]? = some (.int .i64 c.pn)
  h13 : cs[13]? = some (.int .i64 c.cr)
  h14 : cs[14]? = some (.int .i64 c.cn)
  h15 : ∃ a k, cs[15]? = some (.slice a c.nt k)
  h16 : ∃ a k, cs[16]? = some (.slice a c.np k)
  h17 : ∃ a k, cs[17]? = some (.slice a c.nq k)
  h18 : ∃ a k, cs[18]? = some (.slice a c.nr k)
  mt : c.nt ≤ 140737488351232
  mp : c.np ≤ 140737488351232
  mq : c.nq ≤ 140737488351232
  mr : c.nr ≤ 140737488351232

set_option maxHeartbeats 400000 in
theorem implied_any (cs : Array Value) (c : CF) (C : IsC cs c) (w : World) :
    Calls Tryd.prog 45 #[.agg cs] w fun e w' => e = .returned (.int .i64 (Chk.implied c)) ∧ Below w.heap.size w w' := by
  have hsz := C.size
  go_enter Tryd.func45, Tryd.ntmps45
  go_upto_region 1 with fail
  have hb0 : Below w.heap.size w (w.alloc (.cells cs 25)) := (Below.refl _ _).alloc (Nat.le_refl _) _
  have b0 : Blk (w.alloc (.cells cs 25)) w.heap.size cs 25 := Blk.new w cs _
  generalize w.alloc (.cells cs 25) = W at *
  obtain ⟨a, k, e17⟩ := C.h17
  have d := (b0.cell 17).trans e17
  clear hsz e17
  by_cases hq : c.nq = 0
  · have H : Hid (Chk.implied c = 8192) := by unfold Hid Chk.implied; rw [if_pos hq]
    have hq' : ((c.nq : Int) == 0) = true := by simp [hq]
    clear hq
    go_wp2
    go_ret
    exact ⟨by rw [H.out]; rfl, hb0⟩
  · have H : Hid (Chk.implied c = 0) := by unfold Hid Chk.implied; rw [if_neg hq]
    have hq' : ((c.nq : Int) == 0) = false := by simp [hq]
    clear hq
    go_wp2
    go_ret
    exact ⟨by rw [H.out]; rfl, hb0⟩

set_option maxHeartbeats 400000 in
theorem barred_any (cs : Array Value) (c : CF) (C : IsC cs c) (w : World) :
    Calls Tryd.prog 64 #[.agg cs] w fun e w' => e = .returned (.bool (decide (c.fmt = 2 ∧ c.misc = 0))) ∧ Below w.heap.size w w' := by
  have hsz := C.size
  go_enter Tryd.func64, Tryd.ntmps64
  go_upto_region 1 with fail
  have hb0 : Below w.heap.size w (w.alloc (.cells cs 25)) := (Below.refl _ _).alloc (Nat.le_refl _) _
  have b0 : Blk (w.alloc (.cells cs 25)) w.heap.size cs 25 := Blk.new w cs _
  generalize w.alloc (.cells cs 25) = W at *
  have d0 := (b0.cell 0).trans C.h0
  have d10 := (b0.cell 10).trans C.h10
  clear hsz
  by_cases h2 : c.fmt = 2
  · have h2' : (c.fmt == 2) = true := by simp [h2]
    by_cases h0 : c.misc = 0
    · have h0' : (c.misc == 0) = true := by simp [h0]
      have H : Hid (decide (c.fmt = 2 ∧ c.misc = 0) = true) := decide_eq_true ⟨h2, h0⟩
      clear h2 h0
      go_wp2
      go_ret
      exact ⟨by rw [H.out]; rfl, hb0⟩
    · have h0' : (c.misc == 0) = false := by simp [h0]
      have H : Hid (decide (c.fmt = 2 ∧ c.misc = 0) = false) := decide_eq_false fun h => h0 h.2
      clear h2 h0
      go_wp2
      go_ret
      exact ⟨by rw [H.out]; rfl, hb0⟩
  · have h2' : (c.fmt == 2) = false := by simp [h2]
    have H : Hid (decide (c.fmt = 2 ∧ c.misc = 0) = false) := decide_eq_false fun h => h2 h.1
    clear h2
    go_wp2
    go_ret
    exact ⟨by rw [H.out]; rfl, hb0⟩

/-- How many bytes must follow CHR. -/
def leastV (c : CF) : Int := if c.fmt = 1 ∧ c.con = 2 then 8192 else if c.fmt = 2 then c.misc else 0
set_option maxHeartbeats 400000 in
theorem least_any (cs : Array Value) (c : CF) (C : IsC cs c) (w : World) :
    Calls Tryd.prog 65 #[.agg cs] w fun e w' => e = .returned (.int .i64 (leastV c)) ∧ Below w.heap.size w w' := by
  have hsz := C.size
  go_enter Tryd.func65, Tryd.ntmps65
  go_upto_region 1 with fail
  have hb0 : Below w.heap.size w (w.alloc (.cells cs 25)) := (Below.refl _ _).alloc (Nat.le_refl _) _
  have b0 : Blk (w.alloc (.cells cs 25)) w.heap.size cs 25 := Blk.new w cs _
  generalize w.alloc (.cells cs 25) = W at *
  have d0 := (b0.cell 0).trans C.h0
  have d6 := (b0.cell 6).trans C.h6
  have d10 := (b0.cell 10).trans C.h10
  clear hsz
  by_cases h1 : c.fmt = 1
  · have h1' : (c.fmt == 1) = true := by simp [h1]
    have h12 : (c.fmt == 2) = false := by simp [h1]
    by_cases hc : c.con = 2
    · have hc' : (c.con == 2) = true := by simp [hc]
      have H : Hid (leastV c = 8192) := by unfold Hid leastV; rw [if_pos ⟨h1, hc⟩]
      clear h1 hc
      go_wp2
      go_ret
      exact ⟨by rw [H.out]; rfl, hb0⟩
    · have hc' : (c.con == 2) = false := by simp [hc]
      have H : Hid (leastV c = 0) := by unfold Hid leastV; rw [if_neg (fun h => hc h.2), if_neg (by omega)]
      clear h1 hc
      go_wp2
      go_ret
      exact ⟨by rw [H.out]; rfl, hb0⟩
  · have h1' : (c.fmt == 1) = false := by simp [h1]
    by_cases h2 : c.fmt = 2
    · have h2' : (c.fmt == 2) = true := by simp [h2]
      have H : Hid (leastV c = c.misc) := by unfold Hid leastV; rw [if_neg (fun h => h1 h.1), if_pos h2]
      clear h1 h2
      go_wp2
      go_ret
      exact ⟨by rw [H.out]; rfl, hb0⟩
    · have h2' : (c.fmt == 2) = false := by simp [h2]
      have H : Hid (leastV c = 0) := by unfold Hid leastV; rw [if_neg (fun h => h1 h.1), if_neg h2]
      clear h1 h2
      go_wp2
      go_ret
      exact ⟨by rw [H.out]; rfl, hb0⟩

theorem IsC.lit {cs : Array Value} {c : CF} (C : IsC cs c) : ∃ a15 k15 a16 k16 a17 k17 a18 k18, cs = #[.int .i64 c.fmt, .int .i64 c.map, .int .i64 c.sub, .bool c.vert, .bool c.four, .bool c.bat, .int .i64 c.con, .int .i64 c.kind, .int .i64 c.tim, .int .i64 c.dev, .int .i64 c.misc, .int .i64 c.pr, .int .i64 c.pn, .int .i64 c.cr, .int .i64 c.cn, .slice a15 c.nt k15, .slice a16 c.np k16, .slice a17 c.nq k17, .slice a18 c.nr k18] := by
  obtain ⟨a15, k15, e15⟩ := C.h15
  obtain ⟨a16, k16, e16⟩ := C.h16
  obtain ⟨a17, k17, e17⟩ := C.h17
  obtain ⟨a18, k18, e18⟩ := C.h18
  refine ⟨a15, k15, a16, k16, a17, k17, a18, k18, ?_⟩
  apply Array.ext_getElem?
  intro i
  match i with
  | 0 => exact C.h0
  | 1 => exact C.h1
  | 2 => exact C.h2
  | 3 => exact C.h3
  | 4 => exact C.h4
  | 5 => exact C.h5
  | 6 => exact C.h6
  | 7 => exact C.h7
  | 8 => exact C.h8
  | 9 => exact C.h9
  | 10 => exact C.h10
  | 11 => exact C.h11
  | 12 => exact C.h12
  | 13 => exact C.h13
  | 14 => exact C.h14
  | 15 => exact e15
  | 16 => exact e16
  | 17 => exact e17
  | 18 => exact e18
  | j + 19 => rw [Array.getElem?_eq_none (by rw [C.size]; omega), Array.getElem?_eq_none (by simp)]
theorem wpOp_contract {P : Program} {ops : Array Oper} {Q : Exit → Act → World → Prop} {i : Nat} {K : Act → World → Prop} {a : Act} {w : World} {o : Oper} {f : FuncId} {args : Array Value} {v : Value} {R : World → Prop}
    (hi : ops[i]? = some o) (hw : Region.wanted o (yielded ops a.tmps) = true) (he : (execOp a.eval o).run P w = .ok (.enter f args) w)
    (hc : Calls P f args w fun e w' => e = .returned v ∧ R w') (a' : Act) (ha : a.put o.dst v = a') (h : ∀ w', R w' → K a' w') : wpOp P ops Q i K a w := by
  subst ha
  unfold wpOp
  rw [hi]
  simp only [hw, if_true]
  left
  unfold Oper.wp
  rw [he, Oper.upon_enter]
  refine hc.mono ?_
  rintro e w' ⟨rfl, hR⟩
  exact h w' hR
theorem takeH {P : Program} {ops : Array Oper} {Q : Exit → Act → World → Prop} {md : Region.Mode} {S : World → Prop} {i : Nat} {oi : Oper} {v : Value} {fuel : Nat} {listed : Array Bool} {a : Act} {w : World} (a' : Act) (hi : ops[i]? = some oi)
    (hs : Region.noSelect ops = true) (hf : Region.free md ops listed i = true) (hr : (Region.ready md ops listed).contains i = true)
    (hQ : ∀ c a w, Q (.panic c) (a.put oi.dst v) w → Q (.panic c) a w) (hy : YieldsIf P ops S oi v a) (hS : S w) (ha : a.put oi.dst v = a')
    (h : wpAnyH P md ops Q S fuel (listed.setIfInBounds i true) a' w) : wpAnyH P md ops Q S (fuel + 1) listed a w :=
  wpAnyH_take hi hs hf hr hQ hy hS (by rw [ha]; exact h)
theorem wpOp_store {P : Program} {ops : Array Oper} {Q : Exit → Act → World → Prop} {i : Nat} {K : Act → World → Prop} {a : Act} {w : World} {op : Oper} (hi : ops[i]? = some op) (hw : Region.wanted op (yielded ops a.tmps) = true) (ty : TypeId) (x y : Operand) (ho : op.op = .store ty x y)
    (b o : Nat) (v : Value) (cells : Array Value) (hx : a.eval x = .pointer (some ⟨b, o, none⟩)) (hy : a.eval y = v) (hv : v.cells = cells)
    (ht : w.there b o cells.size) (hs : (P.info? ty).map (·.size) = some cells.size) (h1 : cells.all (·.oneCell') = true) (a' : Act) (ha : a.put op.dst undef = a')
    (h : ∀ w', w' = w.setCells b o cells.toList → K a' w') : wpOp P ops Q i K a w := by
  subst ha
  unfold wpOp
  rw [hi]
  simp only [hw, if_true]
  left
  have e : storeVar ty ⟨b, o, none⟩ v = storeVar ty ⟨b, o, none⟩ (.agg cells) := by unfold storeVar; rw [hv]; rfl
  unfold Oper.wp execOp
  simp only [ho, hx, hy, Instr.storeAt, Instr.sureAddr, Sem.run_bind, Sem.run_pure, Result.andThen_ok, e, run_storeVar_mid w b o ty cells ht hs h1]
  exact h _ rfl
theorem Blk.setCells {b : Nat} {t : TypeId} : ∀ (vs : List Value) (o : Nat) (w : World) (cs : Array Value), Blk w b cs t → o + vs.length ≤ cs.size →
    ∃ cs' : Array Value, Blk (w.setCells b o vs) b cs' t ∧ cs'.size = cs.size ∧ ∀ j, cs'[j]? = if o ≤ j ∧ j < o + vs.length then vs[j - o]? else cs[j]?
  | [], o, w, cs, h, _ => ⟨cs, h, rfl, fun j => by rw [if_neg (by simp only [List.length_nil]; omega)]⟩
  | v :: vs, o, w, cs, h, hl => by
    obtain ⟨cs', h1, h2, h3⟩ := Blk.setCells vs (o + 1) (w.setCell ⟨b, o, none⟩ v) (cs.setIfInBounds o v) (h.set o v) (by simp at hl ⊢; omega)
    refine ⟨cs', h1, by simpa using h2, fun j => ?_⟩
    rw [h3 j]
    simp only [List.length_cons] at hl ⊢
    by_cases hj : o + 1 ≤ j ∧ j < o + 1 + vs.length
    · rw [if_pos hj, if_pos (by omega), show j - o = (j - (o + 1)) + 1 by omega, List.getElem?_cons_succ]
    · rw [if_neg hj]
      by_cases ho : j = o
      · subst ho
        rw [if_pos (by omega), Nat.sub_self, List.getElem?_cons_zero, Array.getElem?_setIfInBounds_self_of_lt (by omega)]
      · rw [if_neg (by omega), Array.getElem?_setIfInBounds_ne (by omega)]
theorem Blk.setAll {w : World} {b : Nat} {cs L : Array Value} {t : TypeId} (h : Blk w b cs t) (hs : L.size = cs.size) : Blk (w.setCells b 0 L.toList) b L t := by
  obtain ⟨cs', h1, h2, h3⟩ := Blk.setCells L.toList 0 w cs h (by simp; omega)
  have e : cs' = L := by
    apply Array.ext_getElem?
    intro j
    rw [h3 j]
    by_cases hj : j < L.size
    · rw [if_pos (by simp; omega)]; simp
    · rw [if_neg (by simp; omega), Array.getElem?_eq_none (by omega), Array.getElem?_eq_none (by omega)]
  rwa [e] at h1
theorem Blk.otherCells {w : World} {b m : Nat} {cs : Array Value} {t : TypeId} (h : Blk w b cs t) (hn : b ≠ m) : ∀ (vs : List Value) (o : Nat), Blk (w.setCells m o vs) b cs t
  | [], _ => h
  | v :: vs, o => Blk.otherCells (h.other hn o v) hn vs (o + 1)
/-- The numbers of a cartridge that may be printed. -/
structure HN where
  f : Nat
  m : Nat
  s : Nat
  k : Nat
  kd : Nat
  t : Nat
  d : Nat
  mi : Nat
  u : Nat
  a1 : Nat
  a2 : Nat
  a3 : Nat
  a4 : Nat
/-- The bytes of a memory that four bits tell. -/
def rz (k : Nat) : Nat := if k = 0 then 0 else 64 * 2 ^ k
def h6 (c : CF) (x : HN) : Nat := x.m % 16 * 16 + (if c.vert then 1 else 0) + (if c.bat then 2 else 0) + (if 0 < c.nt then 4 else 0) + (if c.four then 8 else 0)
theorem map_or (m : Nat) (h : m < 4096) : bits BinOp.or IntKind.i64 ((m / 16 % 16 * 16 : Nat) : Int) ((m / 256 * 256 : Nat) : Int) = ((m / 16 * 16 : Nat) : Int) ∧ bits BinOp.or IntKind.i64 ((m % 16 : Nat) : Int) ((m / 16 * 16 : Nat) : Int) = (m : Int) := by
  have g : ∀ (a : Fin 64) (b : Fin 64), bits BinOp.or IntKind.i64 (((a.val * 64 + b.val) / 16 % 16 * 16 : Nat) : Int) (((a.val * 64 + b.val) / 256 * 256 : Nat) : Int) = (((a.val * 64 + b.val) / 16 * 16 : Nat) : Int) ∧ bits BinOp.or IntKind.i64 (((a.val * 64 + b.val) % 16 : Nat) : Int) (((a.val * 64 + b.val) / 16 * 16 : Nat) : Int) = ((a.val * 64 + b.val : Nat) : Int) := by decide +kernel
  have e := g ⟨m / 64, by omega⟩ ⟨m % 64, by omega⟩
  simp only [show m / 64 * 64 + m % 64 = m by omega] at e
  exact e
/-- A load whose guard says yes. -/
theorem wpList_load_want {P : Program} {ops : Array Oper} {rest : List Oper} {op : Oper} {a : Act} {w : World} {Q : Exit → Act → World → Prop} (hw : Region.wanted op (yielded ops a.tmps) = true) (ty : TypeId) (x : Operand) (ho : op.op = .load ty x)
    (b o : Nat) (hx : a.eval x = .pointer (some ⟨b, o, none⟩)) (cs : List Value) (d : TypeDesc) (hc : w.rangeAt b o cs)
    (hu : P.underlying ty = some d) (hd : d.isRow = true) (hi : (P.info? ty).map (·.size) = some cs.length)
    (h : wpList P ops Q rest (a.put op.dst (.agg cs.toArray)) w) : wpList P ops Q (op :: rest) a w :=
  BigFrame.wpList_want hw fun _ hK => wp_load_mid ty x ho b o hx cs d hc hu hd hi (hK _ _ h)
theorem marked_take (l : List Nat) : (marked l).take l.length = l := by simp [marked]
theorem Own.front {w : World} {g : Nat} {l : List Nat} (h : Own w g (marked l)) : Row w (some ⟨g, 0, none⟩) l := by
  have := h.row.take l.length
  rwa [marked_take] at this

theorem vals_one (l : List Nat) : ∀ u ∈ vals l, u.oneCell' = true := by
  intro u hu
  simp only [vals, List.mem_map] at hu
  obtain ⟨n, _, rfl⟩ := hu
  rfl
theorem row_of {w : World} {base n : Nat} {v : Value} {xs : List Value} (l : List Nat) (hx : xs = vals l) (h : w.ownsRow base 5 1 v n xs) : ∃ a cap, v = .slice a n cap ∧ Row w a l := by
  obtain ⟨hlen, h⟩ := h
  rcases h with ⟨rfl, rfl⟩ | ⟨g, cap, cur, rfl, _, hh, hn, _, hs, ht⟩
  · refine ⟨none, 0, rfl, .inl ?_⟩
    rw [hx] at hlen
    simpa [vals] using hlen
  · refine ⟨_, cap, rfl, .inr ⟨g, 0, rfl, fun i hi => ?_⟩⟩
    rw [Nat.zero_add, cell_of_row w g i cur _ (0, 0) hh]
    have hl : l.length = n := by rw [hx] at hlen; simpa [vals] using hlen
    have e : cur.toList.take n = vals l := by rw [← hx, ← ht, Nat.mul_one]
    have e2 : (cur.toList.take n)[i]? = some (.int .u8 (l.getD i 0 : Nat)) := by rw [e]; simp [vals, hi]
    rw [List.getElem?_take, if_pos (by omega)] at e2
    simpa using e2
theorem vals_len (l : List Nat) : (vals l).length = l.length := by simp [vals]
theorem splice_full (cur cs : List Value) (h : cs.length = cur.length) : splice cur 0 cs = cs := by
  simp [splice, h]
/-- The bytes lie in the slice, in a block from B on. -/
def RowF (B : Nat) (w : World) (a : Option Addr) (l : List Nat) : Prop := l = [] ∨ ∃ b off, a = some ⟨b, off, none⟩ ∧ B ≤ b ∧ ∀ i, i < l.length → w.cell? ⟨b, off + i, none⟩ = some (.int .u8 (l.getD i 0 : Nat))
/-- What clone and piece are to answer. -/
def ListOk (B n : Nat) (l : List Nat) (e : Ending) (w' : World) : Prop := ∃ a' k, e = .returned (.slice a' n k) ∧ RowF B w' a' l
theorem RowF.row {B : Nat} {w : World} {a : Option Addr} {l : List Nat} (h : RowF B w a l) : Row w a l := by
  rcases h with h | ⟨b, off, e, _, hc⟩
  · exact .inl h
  · exact .inr ⟨b, off, e, hc⟩
theorem RowF.of_own {B g : Nat} {w : World} {l : List Nat} (h : Own w g l) (hg : B ≤ g) : RowF B w (some ⟨g, 0, none⟩) l := .inr ⟨g, 0, rfl, hg, fun i hi => by rw [Nat.zero_add]; exact h.cell i hi⟩
theorem RowF.mono {B B' : Nat} {w : World} {a : Option Addr} {l : List Nat} (h : RowF B w a l) (hB : B' ≤ B) : RowF B' w a l := by
  rcases h with h | ⟨b, off, e, hb, hc⟩
  · exact .inl h
  · exact .inr ⟨b, off, e, Nat.le_trans hB hb, hc⟩
theorem RowF.below {B : Nat} {w w' : World} {a : Option Addr} {l : List Nat} (h : RowF B w a l) (hb : Below w.heap.size w w') : RowF B w' a l := by
  rcases h with h | ⟨b, off, e, h2, hc⟩
  · exact .inl h
  · exact .inr ⟨b, off, e, h2, fun j hj => (hb.cell (p := ⟨b, off + j, none⟩) (cell_lt (p := ⟨b, off + j, none⟩) (hc j hj))).trans (hc j hj)⟩
theorem RowF.put {B m : Nat} {w : World} {a : Option Addr} {l : List Nat} (h : RowF B w a l) (hm : m < B) (i : Nat) (v : Value) : RowF B (w.setCell ⟨m, i, none⟩ v) a l := by
  rcases h with h | ⟨b, off, e, h2, hc⟩
  · exact .inl h
  · refine .inr ⟨b, off, e, h2, fun t ht => ?_⟩
    rw [World.cell?_setCell_far w ⟨m, i, none⟩ ⟨b, off + t, none⟩ v (by show m ≠ b; omega)]
    exact hc t ht
theorem RowF.puts {B m : Nat} {a : Option Addr} {l : List Nat} (hm : m < B) : ∀ (vs : List Value) (o : Nat) {w : World}, RowF B w a l → RowF B (w.setCells m o vs) a l
  | [], _, _, h => h
  | v :: vs, o, _, h => RowF.puts hm vs (o + 1) (h.put hm o v)
set_option maxHeartbeats 400000 in
theorem clone_any (n : Nat) (l : List Nat) (hn : l.length = n) (hlen : n ≤ 140737488351232) (a : Option Addr) (cap : Nat) (w : World) (hrow : Row w a l) :
    Calls Tryd.prog 37 #[.slice a n cap] w fun e w' => ListOk w.heap.size n l e w' ∧ Below w.heap.size w w' := by
  by_cases h0 : n = 0
  · obtain rfl : l = [] := List.eq_nil_of_length_eq_zero (hn.trans h0)
    subst h0
    clear hrow
    go_enter Tryd.func37, Tryd.ntmps37
    go_wp2
    go_ret
    exact ⟨⟨_, _, rfl, .inl rfl⟩, Below.refl _ _⟩
  · have h0' : ((n : Int) == 0) = false := by rw [beq_eq_false_iff_ne]; omega
    obtain ⟨b, off, rfl, hc⟩ := hrow.resolve_left (fun e => h0 (by rw [← hn, e]; rfl))
    have HC : Hid (∀ i, i < l.length → w.cell? ⟨b, off + i, none⟩ = some (.int .u8 (l.getD i 0 : Nat))) := hc
    have HL : Hid (l.length = n) := hn
    obtain ⟨i0, hi, hz0, hz1, hz2⟩ := info_parts Tryd.infoU8
    clear hrow hc hn
    go_enter Tryd.func37, Tryd.ntmps37
    go_upto_region 4 with (at_make; refine wpList_make_full _ rfl _ _ 22 rfl w.heap.size 5 i0 (.int .u8 0) 1 Tryd.underlying22 hi hz0 hz1 .i64 .i64 _ _ n rfl rfl rfl rfl (by rw [hz2]; omega) (by unfold maxLen; omega) (Nat.le_refl _) ?_; intro w1 hown hgrow)
    have ho := Own.of_row (List.replicate n 0) (vals_zero _) hown
    have hb := (Below.refl w.heap.size w).grown hgrow (Nat.le_refl _) (by simp)
    clear hown hgrow hi hz0 hz1 hz2
    have HO : Hid (w1.heap[w.heap.size]? = some (.cells (vals (List.replicate n 0)).toArray 5 (0, 0))) := ho
    have F1 : Hid ((vals l).length = Nat.min n n) := by unfold Hid; rw [vals_len, HL.out]; exact (Nat.min_self n).symm
    have F2 : Hid (0 < (vals l).length → (some ⟨w.heap.size, 0, none⟩ : Option Addr) = some ⟨w.heap.size, 0, none⟩ ∧ ∃ ad, (some ⟨b, off, none⟩ : Option Addr) = some ad ∧ ∀ j v, (vals l)[j]? = some v → w1.cell? (ad.add j) = some v) := by
      intro _
      refine ⟨rfl, _, rfl, fun j v hv => ?_⟩
      have hj : j < l.length := by have := (List.getElem?_eq_some_iff.1 hv).1; rwa [vals_len] at this
      have h1 := HC.out j hj
      have h2 := (hb.cell (p := ⟨b, off + j, none⟩) (cell_lt h1)).trans h1
      rw [Addr.add_lit, h2]
      simp [vals, hj] at hv
      rw [← hv]
      simp [hj]
    have F3 : Hid (0 + (vals l).length ≤ (vals (List.replicate n 0)).length) := by unfold Hid; rw [vals_len, vals_len, HL.out]; simp
    clear ho
    go_wp2_with (refine wpList_copy_splice rfl _ _ 22 22 rfl 5 (by kernel_rfl) (by kernel_rfl) (some ⟨w.heap.size, 0, none⟩) (some ⟨b, off, none⟩) n n n cap rfl rfl w.heap.size 0 (vals (List.replicate n 0)) 5 HO.out (vals l) F1.out F2.out F3.out (vals_one l) w.heap.size w hb (Nat.le_refl _) ?_; intro w5 hg5 hb6)
    have hg := hg5.out
    rw [splice_full _ _ (by rw [vals_len, vals_len, HL.out]; simp)] at hg
    go_ret
    exact ⟨⟨_, _, rfl, RowF.of_own (show Own w5 w.heap.size l from hg) (Nat.le_refl _)⟩, hb6⟩
/-- Misc in another format. -/
def tmN (c : CF) (f : Int) : Int := if c.fmt ≠ 2 ∧ f = 2 then (if c.nr = 0 then 0 else 1) else if c.fmt = 2 ∧ f ≠ 2 ∧ c.misc = 1 then 0 else c.misc
/-- A list of bytes that the call made. -/
def Tx (w : World) (base : Nat) (v : Value) (l : List Nat) : Prop := w.ownsRow base 5 1 v l.length (vals l)
theorem Tx.rowF {w : World} {base : Nat} {v : Value} {l : List Nat} (h : Tx w base v l) : ∃ a k, v = .slice a l.length k ∧ RowF base w a l := by
  obtain ⟨a, k, e, hr⟩ := row_of l rfl h
  refine ⟨a, k, e, ?_⟩
  rcases hr with hr | ⟨b, off, ea, hc⟩
  · exact .inl hr
  · refine .inr ⟨b, off, ea, ?_, hc⟩
    exact (World.ownsRow.lt h b (by rw [e, ea]; rfl)).1
/-- A cartridge's cells hold these numbers and these lists. -/
structure Cl (W : World) (xs : Array Value) (d : CF) (T P Q R : List Nat) : Prop where
  c : IsC xs d
  lt : T.length = d.nt
  lp : P.length = d.np
  lq : Q.length = d.nq
  lr : R.length = d.nr
  rt : ∃ a k, xs[15]? = some (.slice a d.nt k) ∧ Row W a T
  rp : ∃ a k, xs[16]? = some (.slice a d.np k) ∧ Row W a P
  rq : ∃ a k, xs[17]? = some (.slice a d.nq k) ∧ Row W a Q
  rr : ∃ a k, xs[18]? = some (.slice a d.nr k) ∧ Row W a R
theorem Cl.below {W W' : World} {xs : Array Value} {d : CF} {T P Q R : List Nat} (h : Cl W xs d T P Q R) (hb : Below W.heap.size W W') : Cl W' xs d T P Q R :=
  ⟨h.c, h.lt, h.lp, h.lq, h.lr, h.rt.imp fun _ ⟨k, e, r⟩ => ⟨k, e, r.below hb⟩, h.rp.imp fun _ ⟨k, e, r⟩ => ⟨k, e, r.below hb⟩, h.rq.imp fun _ ⟨k, e, r⟩ => ⟨k, e, r.below hb⟩, h.rr.imp fun _ ⟨k, e, r⟩ => ⟨k, e, r.below hb⟩⟩
/-- No cartridge. -/
def zC : CF := ⟨0, 0, 0, 0, 0, 0, 0, 0, 0, 0, 0, 0, false, false, false, 0, 0, 0, 0⟩
theorem Cl.zero (W : World) : Cl W Z19 zC [] [] [] [] :=
  ⟨⟨rfl, by kernel_rfl, rfl, rfl, rfl, rfl, rfl, rfl, rfl, rfl, rfl, rfl, rfl, rfl, rfl, rfl, rfl, ⟨none, 0, rfl⟩, ⟨none, 0, rfl⟩, ⟨none, 0, rfl⟩, ⟨none, 0, rfl⟩, by decide, by decide, by decide, by decide⟩, rfl, rfl, rfl, rfl,
    ⟨none, 0, rfl, .inl rfl⟩, ⟨none, 0, rfl, .inl rfl⟩, ⟨none, 0, rfl, .inl rfl⟩, ⟨none, 0, rfl, .inl rfl⟩⟩
theorem drewN_two (W : World) (a b : Nat) : (W.drewN a).drewN b = W.drewN (a + b) := by
  induction b with
  | zero => rfl
  | succ b ih => first | (show ((W.drewN a).drewN b).drew = _; rw [ih]; rfl) | (simp [World.drewN] at *; try rw [ih])
set_option maxRecDepth 100000 in
set_option maxHeartbeats 2000000 in
theorem equal_yes (xs ys : Array Value) (d : CF) (T P Q R : List Nat) (w : World) (X : Cl w xs d T P Q R) (Y : Cl w ys d T P Q R) :
    Calls Tryd.prog 10 #[.agg xs, .agg ys] w fun e w' => e = .returned (.bool true) ∧ Below w.heap.size w w' := by
  have hsx := X.c.size
  have hsy := Y.c.size
  go_enter Tryd.func10, Tryd.ntmps10
  go_upto_region 1 with fail
  have hb0 : Below w.heap.size w ((w.alloc (.cells xs 25)).alloc (.cells ys 25)) := ((Below.refl _ _).alloc (Nat.le_refl _) _).alloc (by simp) _
  have x0 : Blk ((w.alloc (.cells xs 25)).alloc (.cells ys 25)) w.heap.size xs 25 := (Blk.new w xs _).old _
  have y0 : Blk ((w.alloc (.cells xs 25)).alloc (.cells ys 25)) (w.heap.size + 1) ys 25 := by
    have := Blk.new (w.alloc (.cells xs 25)) ys 25
    rwa [World.size_alloc] at this
  generalize ((w.alloc (.cells xs 25)).alloc (.cells ys 25)) = W at *
  clear hsx hsy
  have p0 := (x0.cell 0).trans X.c.h0
  have q0 := (y0.cell 0).trans Y.c.h0
  have p1 := (x0.cell 1).trans X.c.h1
  have q1 := (y0.cell 1).trans Y.c.h1
  have p2 := (x0.cell 2).trans X.c.h2
  have q2 := (y0.cell 2).trans Y.c.h2
  have p3 := (x0.cell 3).trans X.c.h3
  have q3 := (y0.cell 3).trans Y.c.h3
  have p4 := (x0.cell 4).trans X.c.h4
  have q4 := (y0.cell 4).trans Y.c.h4
  have p5 := (x0.cell 5).trans X.c.h5
  have q5 := (y0.cell 5).trans Y.c.h5
  have p6 := (x0.cell 6).trans X.c.h6
  have q6 := (y0.cell 6).trans Y.c.h6
  have p7 := (x0.cell 7).trans X.c.h7
  have q7 := (y0.cell 7).trans Y.c.h7
  have p8 := (x0.cell 8).trans X.c.h8
  have q8 := (y0.cell 8).trans Y.c.h8
  have p9 := (x0.cell 9).trans X.c.h9
  have q9 := (y0.cell 9).trans Y.c.h9
  have p10 := (x0.cell 10).trans X.c.h10
  have q10 := (y0.cell 10).trans Y.c.h10
  have p11 := (x0.cell 11).trans X.c.h11
  have q11 := (y0.cell 11).trans Y.c.h11
  have p12 := (x0.cell 12).trans X.c.h12
  have q12 := (y0.cell 12).trans Y.c.h12
  have p13 := (x0.cell 13).trans X.c.h13
  have q13 := (y0.cell 13).trans Y.c.h13
  have p14 := (x0.cell 14).trans X.c.h14
  have q14 := (y0.cell 14).trans Y.c.h14
  go_upto_region 7 with fail
  clear p0 q0 p1 q1 p2 q2 p3 q3 p4 q4 p5 q5 p6 q6 p7 q7 p8 q8 p9 q9 p10 q10 p11 q11 p12 q12 p13 q13 p14 q14
  obtain ⟨a1, j1, e1, r1⟩ := X.rt
  obtain ⟨a2, j2, e2, r2⟩ := X.rp
  obtain ⟨a3, j3, e3, r3⟩ := X.rq
  obtain ⟨a4, j4, e4, r4⟩ := X.rr
  obtain ⟨b1, k1, f1, s1⟩ := Y.rt
  obtain ⟨b2, k2, f2, s2⟩ := Y.rp
  obtain ⟨b3, k3, f3, s3⟩ := Y.rq
  obtain ⟨b4, k4, f4, s4⟩ := Y.rr
  have p15 := (x0.cell 15).trans e1
  have p16 := (x0.cell 16).trans e2
  have p17 := (x0.cell 17).trans e3
  have p18 := (x0.cell 18).trans e4
  have q15 := (y0.cell 15).trans f1
  have q16 := (y0.cell 16).trans f2
  have q17 := (y0.cell 17).trans f3
  have q18 := (y0.cell 18).trans f4
  have S1 : Hid (∀ nn : Nat, _) := fun nn : Nat => same_n d.nt d.nt T X.lt X.lt (by have := X.c.mt; omega) a1 b1 j1 k1 (W.drewN nn) ((r1.below hb0).drewN nn) ((s1.below hb0).drewN nn)
  have S2 : Hid (∀ nn : Nat, _) := fun nn : Nat => same_n d.np d.np P X.lp X.lp (by have := X.c.mp; omega) a2 b2 j2 k2 (W.drewN nn) ((r2.below hb0).drewN nn) ((s2.below hb0).drewN nn)
  have S3 : Hid (∀ nn : Nat, _) := fun nn : Nat => same_n d.nq d.nq Q X.lq X.lq (by have := X.c.mq; omega) a3 b3 j3 k3 (W.drewN nn) ((r3.below hb0).drewN nn) ((s3.below hb0).drewN nn)
  have S4 : Hid (∀ nn : Nat, _) := fun nn : Nat => same_n d.nr d.nr R X.lr X.lr (by have := X.c.mr; omega) a4 b4 j4 k4 (W.drewN nn) ((r4.below hb0).drewN nn) ((s4.below hb0).drewN nn)
  have D : Hid (∀ a b : Nat, (W.drewN a).drewN b = W.drewN (a + b)) := fun a b => by rw [drewN_two]
  clear X Y e1 e2 e3 e4 f1 f2 f3 f4 r1 r2 r3 r4 s1 s2 s3 s4 x0 y0
  go_wp2_with fail
  refine (S1.out 0).mono ?_
  rintro e w1 ⟨rfl, m1, hw1⟩
  rw [D.out] at hw1
  subst hw1
  go_wp2_with fail
  refine (S2.out _).mono ?_
  rintro e w1 ⟨rfl, m2, hw1⟩
  rw [D.out] at hw1
  subst hw1
  go_wp2_with fail
  refine (S3.out _).mono ?_
  rintro e w1 ⟨rfl, m3, hw1⟩
  rw [D.out] at hw1
  subst hw1
  go_wp2_with fail
  refine (S4.out _).mono ?_
  rintro e w1 ⟨rfl, m4, hw1⟩
  rw [D.out] at hw1
  subst hw1
  go_wp2
  go_ret
  exact ⟨rfl, below_draws hb0 _⟩
theorem results_cell_two {fn : Func} {p q r : Tmp} {ty : TypeId} (h : fn.results = #[.cell p ty, .tmp q, .tmp r]) (tmps : Array Value) (P : Program) (w : World) :
    (results fn tmps).run P w = ((asAddr (tmps.getD p undef)).run P w).andThen fun a w₁ => ((loadVar ty a).run P w₁).andThen fun v w₂ => .ok (.tuple #[v, tmps.getD q undef, tmps.getD r undef]) w₂ := by
  simp only [results, h]
  simp [Sem.run_bind, Result.andThen]
theorem ret_agg3 {P : Program} {fn : Func} {R : Ending → World → Prop} {tmps : Array Value} {w : World} {p q r : Tmp} {ty : TypeId} {m : Nat} {L : Array Value} {d : TypeDesc} {t : TypeId} {x y : Value} (h : fn.results = #[.cell p ty, .tmp q, .tmp r]) (hp : tmps.getD p undef = .pointer (some ⟨m, 0, none⟩)) (hq : tmps.getD q undef = x) (hr : tmps.getD r undef = y)
    (hb : Blk w m L t) (hu : P.underlying ty = some d) (hd : d.isRow = true) (hi : (P.info? ty).map (·.size) = some L.size) (hR : R (.returned (.tuple #[.agg L, x, y])) w) : bodyPost P fn R .ret ⟨tmps, []⟩ w := by
  refine bodyPost_ret (v := .tuple #[.agg L, x, y]) ?_ rfl hR
  rw [results_cell_two h]
  show ((asAddr (tmps.getD p undef)).run P w).andThen _ = _
  rw [hp, hq, hr]
  have hr := run_loadVar_mid (P := P) w m 0 ty L.toList d hb.range hu hd (by rw [Array.length_toList]; exact hi)
  simp only [asAddr, Sem.run_pure, Result.andThen_ok]
  rw [hr]
  rfl
/-- The cartridge in another format. -/
def cvD (c : CF) (f : Int) : CF := { c with fmt := f, misc := tmN c f }
theorem one_set' {a : Array Value} {x : Value} (i : Nat) (ha : a.all (·.oneCell') = true) (hx : x.oneCell' = true) : (a.setIfInBounds i x).all (·.oneCell') = true := by
  rw [Array.all_eq_true_iff_forall_mem] at ha ⊢
  intro v hv
  obtain ⟨j, hj, rfl⟩ := Array.mem_iff_getElem.1 hv
  have hj' : j < a.size := by simpa using hj
  rw [Array.getElem_setIfInBounds hj']
  split
  · exact hx
  · exact ha _ (Array.getElem_mem hj')
theorem IsC.turn {cs : Array Value} {c : CF} (C : IsC cs c) (f : Int) : IsC ((cs.setIfInBounds 0 (.int .i64 f)).setIfInBounds 10 (.int .i64 (tmN c f))) (cvD c f) := by
  have hs := C.size
  have lo : ∀ i v, i ≠ 0 → i ≠ 10 → cs[i]? = some v → ((cs.setIfInBounds 0 (.int .i64 f)).setIfInBounds 10 (.int .i64 (tmN c f)))[i]? = some v := by
    intro i v h0 h10 h
    rw [Array.getElem?_setIfInBounds_ne (by omega), Array.getElem?_setIfInBounds_ne (by omega)]
    exact h
  have one : ((cs.setIfInBounds 0 (.int .i64 f)).setIfInBounds 10 (.int .i64 (tmN c f))).all (·.oneCell') = true := one_set' 10 (one_set' 0 C.one rfl) rfl
  exact ⟨by simpa using hs, one, by simp [hs, cvD], lo 1 _ (by decide) (by decide) C.h1, lo 2 _ (by decide) (by decide) C.h2, lo 3 _ (by decide) (by decide) C.h3, lo 4 _ (by decide) (by decide) C.h4, lo 5 _ (by decide) (by decide) C.h5,
    lo 6 _ (by decide) (by decide) C.h6, lo 7 _ (by decide) (by decide) C.h7, lo 8 _ (by decide) (by decide) C.h8, lo 9 _ (by decide) (by decide) C.h9, by simp [hs, cvD], lo 11 _ (by decide) (by decide) C.h11, lo 12 _ (by decide) (by decide) C.h12,
    lo 13 _ (by decide) (by decide) C.h13, lo 14 _ (by decide) (by decide) C.h14, C.h15.imp fun _ h => h.imp fun _ h => lo 15 _ (by decide) (by decide) h, C.h16.imp fun _ h => h.imp fun _ h => lo 16 _ (by decide) (by decide) h,
    C.h17.imp fun _ h => h.imp fun _ h => lo 17 _ (by decide) (by decide) h, C.h18.imp fun _ h => h.imp fun _ h => lo 18 _ (by decide) (by decide) h, C.mt, C.mp, C.mq, C.mr⟩
theorem results_cell1 {fn : Func} {p : Tmp} {ty : TypeId} (h : fn.results = #[.cell p ty]) (tmps : Array Value) (P : Program) (w : World) :
    (results fn tmps).run P w = ((asAddr (tmps.getD p undef)).run P w).andThen fun a w₁ => (loadVar ty a).run P w₁ := by
  simp only [results, h]
  simp [Sem.run_bind, Result.andThen]
theorem ret_agg1 {P : Program} {fn : Func} {R : Ending → World → Prop} {tmps : Array Value} {w : World} {p : Tmp} {ty : TypeId} {m : Nat} {L : Array Value} {d : TypeDesc} {t : TypeId} (h : fn.results = #[.cell p ty]) (hp : tmps.getD p undef = .pointer (some ⟨m, 0, none⟩))
    (hb : Blk w m L t) (hu : P.underlying ty = some d) (hd : d.isRow = true) (hi : (P.info? ty).map (·.size) = some L.size) (hR : R (.returned (.agg L)) w) : bodyPost P fn R .ret ⟨tmps, []⟩ w := by
  refine bodyPost_ret (v := .agg L) ?_ rfl hR
  rw [results_cell1 h]
  show ((asAddr (tmps.getD p undef)).run P w).andThen _ = _
  rw [hp]
  have hr := run_loadVar_mid (P := P) w m 0 ty L.toList d hb.range hu hd (by rw [Array.length_toList]; exact hi)
  simp only [asAddr, Sem.run_pure, Result.andThen_ok]
  rw [hr]
theorem run_app_nil {P : Program} {w : World} (base : Nat) (t ty e : TypeId) (i : TypeInfo) (size k : Nat) (ht : P.underlying t = some (.slice e)) (hi : P.info? e = some i)
    (v : Value) (n : Nat) (xs : List Value) (hown : w.ownsRow base e size v n xs) : (Builtin.append_ #[t, t] ty #[v, .slice none 0 k]).run P w = .ok v w := by
  rcases hown.2 with ⟨rfl, rfl⟩ | ⟨g, cap, cur, rfl, _, _, hnc, _⟩
  · simp [Builtin.append_, run_underlying ht, sizeOf, typeInfo, hi, Builtin.lenOf, Builtin.firstCells]
  · simp [Builtin.append_, run_underlying ht, sizeOf, typeInfo, hi, Builtin.lenOf, Builtin.firstCells, hnc, storeCells]
theorem wpList_app_nil {P : Program} {w : World} {ops : Array Oper} {rest : List Oper} {o : Oper} {a : Act} {Q : Exit → Act → World → Prop} (hgd : o.guard = none) (s x : Operand) (t : TypeId)
    (ho : o.op = .call { callee := .builtin .append, args := #[s, x], argTypes := #[t, t] }) (base : Nat) (e : TypeId) (i : TypeInfo) (size k : Nat) (ht : P.underlying t = some (.slice e)) (hi : P.info? e = some i)
    (v : Value) (n : Nat) (xs : List Value) (hs : a.eval s = v) (hown : w.ownsRow base e size v n xs) (hx : a.eval x = .slice none 0 k)
    (h : wpList P ops Q rest (a.put o.dst v) w) : wpList P ops Q (o :: rest) a w := by
  refine wpList_plain hgd fun K hK => ?_
  have hrun := run_app_nil (P := P) (w := w) base t o.type e i size k ht hi v n xs hown
  unfold Oper.wp
  simp [execOp, ho, resolve, invoke, builtin, hs, hx, hrun, Result.andThen]
  exact hK _ _ h
/-- append of a list that lies in memory to one that the call made. -/
theorem wpList_appR {ops : Array Oper} {rest : List Oper} {o : Oper} {a : Act} {Q : Exit → Act → World → Prop} (hgd : o.guard = none) (s x : Operand)
    (ho : o.op = .call { callee := .builtin .append, args := #[s, x], argTypes := #[22, 22] }) {l r : List Nat} {v : Value} {W w0 : World} {base : Nat} {ad : Option Addr} {n k : Nat} (hown : Tx W base v l) (hb : Below base w0 W) (hbase : base ≤ W.heap.size)
    (hs : a.eval s = v) (hx : a.eval x = .slice ad n k) (hn : r.length = n) (hr : Row W ad r) (hlm : l.length + r.length ≤ 140737488355328)
    (h : ∀ v' w', Tx w' base v' (l ++ r) → Below base w0 w' → base ≤ w'.heap.size → wpList Tryd.prog ops Q rest (a.put o.dst v') w') : wpList Tryd.prog ops Q (o :: rest) a W := by
  obtain ⟨i0, hi, hz0, hz1, hz2⟩ := info_parts Tryd.infoU8
  cases ad with
  | none =>
    have hr0 : r = [] := by
      rcases hr with e | ⟨b, off, e, _⟩
      · exact e
      · cases e
    subst hr0
    obtain rfl : n = 0 := by simpa using hn.symm
    refine wpList_app_nil hgd s x 22 ho base 5 i0 1 k (by kernel_rfl) hi v l.length (vals l) hs hown hx (h v W ?_ hb hbase)
    rw [List.append_nil]
    exact hown
  | some ad =>
    refine wpList_append_own W hgd s x 22 ho base 5 i0 _ 1 1 (by kernel_rfl) hi hz0 hz1 hz2 rfl (by decide) v l.length (vals l) hs hown ad n k (vals r) hx (by rw [vals_len, hn, Nat.mul_one]) ?_ (vals_one _) (by unfold maxLen; omega) (by omega) hbase ?_
    · intro j u hu
      have hj : j < r.length := by have := (List.getElem?_eq_some_iff.1 hu).1; rwa [vals_len] at this
      rcases hr with e | ⟨b, off, e, hc⟩
      · rw [e] at hj; cases hj
      · obtain rfl := Option.some.inj e
        rw [Addr.add_lit, hc j hj]
        simp [vals, hj] at hu
        rw [← hu]
        simp [hj]
    · intro v' w' h1 h2 _
      refine h v' w' ?_ (hb.grown h2 hbase (fun k hk => (World.ownsRow.lt hown k hk).1)) ?_
      · unfold Tx; rw [List.length_append, show vals (l ++ r) = vals l ++ vals r by simp [vals], hn]; exact h1
      · have := h2.size; omega
abbrev Z16 : Array Value := #[.int .u8 0, .int .u8 0, .int .u8 0, .int .u8 0, .int .u8 0, .int .u8 0, .int .u8 0, .int .u8 0, .int .u8 0, .int .u8 0, .int .u8 0, .int .u8 0, .int .u8 0, .int .u8 0, .int .u8 0, .int .u8 0]
theorem infoHdr : (Tryd.prog.info? 67).map (·.size) = some 16 := by kernel_rfl
theorem Blk.cong {W : World} {m : Nat} {a a' : Array Value} {t : TypeId} (h : Blk W m a t) (e : a = a') : Blk W m a' t := e ▸ h
set_option maxHeartbeats 400000 in
theorem copied_any (l : List Nat) (hl : Bytes l) (hlen : l.length ≤ 140737488351232) (a : Option Addr) (cap : Nat) (w : World) (hrow : Row w a l) :
    Calls Tryd.prog 13 #[.slice a l.length cap] w fun e w' => ∃ g, e = .returned (.slice (some ⟨g, 0, none⟩) l.length l.length) ∧ w.heap.size ≤ g ∧ Own w' g l ∧ Below w.heap.size w w' := by
  obtain ⟨i0, hi, hz0, hz1, hz2⟩ := info_parts Tryd.infoU8
  go_enter Tryd.func13, Tryd.ntmps13
  go_wp2_with (at_make; refine wpList_make_full _ rfl _ _ 22 rfl w.heap.size 5 i0 (.int .u8 0) 1 Tryd.underlying22 hi hz0 hz1 .i64 .i64 _ _ l.length rfl rfl rfl rfl (by rw [hz2]; omega) (by unfold maxLen; omega) (Nat.le_refl _) ?_; intro w1 hown hgrow)
  have ho := Own.of_row (List.replicate l.length 0) (vals_zero _) hown
  have hb := (Below.refl w.heap.size w).grown hgrow (Nat.le_refl _) (by simp)
  clear hown hgrow hi hz0 hz1 hz2
  go_loopw [4] (fun i wr => ∃ k : Nat, k ≤ l.length ∧ i = .int .i64 k ∧ Own wr w.heap.size (l.take k ++ List.replicate (l.length - k) 0) ∧ Below w.heap.size w wr) (fun i _ => l.length - (intOf i).toNat)
  case atStart => exact ⟨0, Nat.zero_le _, rfl, by simpa using ho, hb⟩
  case round =>
    obtain ⟨k, hk, rfl, hor, hbr⟩ := hrel
    by_cases hkl : k < l.length
    · rcases hrow with rfl | ⟨b, off, rfl, hc⟩
      · simp at hkl
      have hB : b < w.heap.size := cell_lt (hc k hkl)
      have hcell : wr.cell? ⟨b, off + k, none⟩ = some (.int .u8 (l.getD k 0 : Nat)) := (hbr.cell (p := ⟨b, off + k, none⟩) hB).trans (hc k hkl)
      have hfr := hor.free k
      have hold := hor.cell k (by simp; omega)
      have hset := hor.set k (l.getD k 0)
      have hbs := hbr.setCell (p := ⟨w.heap.size, k, none⟩) (Nat.le_refl _) (.int .u8 (l.getD k 0 : Nat))
      rw [copy_step l k hkl] at hset
      clear hc hor hbr ho hb
      generalize l.getD k 0 = y at *
      go_wp2
      go_roundw
      case rel => exact ⟨k + 1, by omega, by go_num, hset, hbs⟩
      case measure => simp [intOf]; omega
    · have e : l.take k ++ List.replicate (l.length - k) 0 = l := by
        rw [List.take_of_length_le (by omega), show l.length - k = 0 by omega]; simp
      rw [e] at hor
      go_wp2
      go_ret
      exact ⟨_, rfl, Nat.le_refl _, hor, hbr⟩
/-- What span answers. -/
def spanV (n lo hi : Int) : Int := lo + (if n < 0 then -(n + 1) else n) % (hi - lo + 1)
theorem spanV_bd (n lo hi : Int) (h : lo ≤ hi) : lo ≤ spanV n lo hi ∧ spanV n lo hi ≤ hi := by
  unfold spanV
  have h1 := Int.emod_nonneg (if n < 0 then -(n + 1) else n) (show hi - lo + 1 ≠ 0 by omega)
  have h2 := Int.emod_lt_of_pos (if n < 0 then -(n + 1) else n) (show 0 < hi - lo + 1 by omega)
  omega
theorem span_any (n lo hi : Int) (w : World) (h1 : -9223372036854775808 ≤ n) (h2 : n ≤ 9223372036854775807) (h3 : 0 ≤ lo) (h4 : lo ≤ hi) (h5 : hi ≤ 1152921504606846976) :
    Calls Tryd.prog 31 #[.int .i64 n, .int .i64 lo, .int .i64 hi] w fun e w' => e = .returned (.int .i64 (spanV n lo hi)) ∧ w' = w := by
  have hb := spanV_bd n lo hi h4
  by_cases hn : n < 0
  · have e : spanV n lo hi = lo + -(n + 1).tmod (hi - lo + 1) := by
      unfold spanV
      rw [if_pos hn, ← Int.neg_tmod, Int.tmod_eq_emod_of_nonneg (by omega)]
    have H : Hid (wrap64 (lo + -(n + 1).tmod (hi - lo + 1)) = spanV n lo hi) := by
      rw [← e]
      exact IntWalk.wrap64_in _ ⟨by omega, by omega⟩
    clear e hb
    go_enter Tryd.func31, Tryd.ntmps31
    go_wp2
    go_ret
    exact ⟨congrArg (fun n => Ending.returned (.int .i64 n)) H.out, rfl⟩
  · have e : spanV n lo hi = lo + n % (hi - lo + 1) := by
      unfold spanV
      rw [if_neg hn]
    have H : Hid (wrap64 (lo + n % (hi - lo + 1)) = spanV n lo hi) := by
      rw [← e]
      exact IntWalk.wrap64_in _ ⟨by omega, by omega⟩
    clear e hb
    go_enter Tryd.func31, Tryd.ntmps31
    go_wp2
    go_ret
    exact ⟨congrArg (fun n => Ending.returned (.int .i64 n)) H.out, rfl⟩

/-- The register behind k rounds. -/
def lcg (x : Int) : Nat → Int
  | 0 => x
  | k + 1 => (lcg x k * 1103515245 + 12345) % 4294967296
/-- The byte of round k. -/
def fillAt (x : Int) (k : Nat) : Nat := ((lcg x (k + 1) / 65536) % 256).toNat
def fillL (x : Int) (n : Nat) : List Nat := (List.range n).map (fillAt x)
theorem fillL_len (x : Int) (n : Nat) : (fillL x n).length = n := by simp [fillL]
theorem fillAt_lt (x : Int) (k : Nat) : fillAt x k < 256 := by unfold fillAt; omega
theorem fillL_bytes (x : Int) (n : Nat) : Bytes (fillL x n) := by
  intro y hy
  simp only [fillL, List.mem_map] at hy
  obtain ⟨k, _, rfl⟩ := hy
  exact fillAt_lt x k
theorem fillL_at (x : Int) (n k : Nat) (h : k < n) : (fillL x n).getD k 0 = fillAt x k := by simp [fillL, h]

theorem lcg_bd (x : Int) (h0 : 0 ≤ x) (h1 : x < 4294967296) (k : Nat) : 0 ≤ lcg x k ∧ lcg x k < 4294967296 := by
  cases k with
  | zero => exact ⟨h0, h1⟩
  | succ k => simp only [lcg]; omega

set_option maxHeartbeats 400000 in
theorem filled_any (n : Nat) (hn : n ≤ 1048576) (fill : Int) (w : World) :
    Calls Tryd.prog 32 #[.int .i64 n, .int .i64 fill] w fun e w' => ∃ g, e = .returned (.slice (some ⟨g, 0, none⟩) n n) ∧ w.heap.size ≤ g ∧ Own w' g (fillL (fill % 4294967296) n) ∧ Below w.heap.size w w' := by
  obtain ⟨i0, hi, hz0, hz1, hz2⟩ := info_parts Tryd.infoU8
  go_enter Tryd.func32, Tryd.ntmps32
  go_wp2_with (at_make; refine wpList_make_full _ rfl _ _ 22 rfl w.heap.size 5 i0 (.int .u8 0) 1 Tryd.underlying22 hi hz0 hz1 .i64 .i64 _ _ n rfl rfl rfl rfl (by rw [hz2]; omega) (by unfold maxLen; omega) (Nat.le_refl _) ?_; intro w1 hown hgrow)
  have ho := Own.of_row (List.replicate n 0) (vals_zero _) hown
  have hb := (Below.refl w.heap.size w).grown hgrow (Nat.le_refl _) (by simp)
  clear hown hgrow hi hz0 hz1 hz2
  have hX0 : 0 ≤ fill % 4294967296 := by omega
  have hX1 : fill % 4294967296 < 4294967296 := by omega
  generalize hXX : fill % 4294967296 = X at *
  have HX : Hid (fill % 4294967296 = X) := hXX
  clear hXX
  go_loopw [6, 7] (fun x i wr => ∃ k : Nat, k ≤ n ∧ i = .int .i64 k ∧ x = .int .u32 (lcg X k) ∧ Own wr w.heap.size ((fillL X n).take k ++ List.replicate ((fillL X n).length - k) 0) ∧ Below w.heap.size w wr) (fun _ i _ => n - (intOf i).toNat)
  case atStart => exact ⟨0, Nat.zero_le _, rfl, rfl, by rw [fillL_len]; simpa using ho, hb⟩
  case round =>
    obtain ⟨k, hk, rfl, rfl, hor, hbr⟩ := hrel
    by_cases hkl : k < n
    · have hfr := hor.free k
      have hold := hor.cell k (by rw [List.length_append, List.length_take, List.length_replicate, fillL_len]; omega)
      have hset := hor.set k (fillAt X k)
      have hbs := hbr.setCell (p := ⟨w.heap.size, k, none⟩) (Nat.le_refl _) (.int .u8 (fillAt X k : Nat))
      rw [show fillAt X k = (fillL X n).getD k 0 from (fillL_at X n k hkl).symm, copy_step (fillL X n) k (by rw [fillL_len]; omega), fillL_at X n k hkl] at hset
      have hx := lcg_bd X hX0 hX1 k
      have e1 : (lcg X k * 1103515245 % 4294967296 + 12345) % 4294967296 = lcg X (k + 1) := by
        show _ = (lcg X k * 1103515245 + 12345) % 4294967296
        omega
      have hy := lcg_bd X hX0 hX1 (k + 1)
      have e2 : lcg X (k + 1) / 65536 % 256 = (fillAt X k : Nat) := by unfold fillAt; omega
      have hf := fillAt_lt X k
      clear hor hbr ho hb
      generalize fillAt X k = b at *
      have HY : Hid (lcg X (k + 1) = lcg X (k + 1)) := rfl
      generalize hyy : lcg X (k + 1) = y at *
      have HY' : Hid (lcg X (k + 1) = y) := hyy
      clear hyy HY
      generalize lcg X k = x at *
      obtain ⟨hx0, hx1⟩ := hx
      obtain ⟨hy0, hy1⟩ := hy
      go_wp2
      go_roundw
      case rel => exact ⟨k + 1, by omega, by go_num, by rw [HY'.out, e1], hset, hbs⟩
      case measure => simp [intOf]; omega
    · have e : (fillL X n).take k ++ List.replicate ((fillL X n).length - k) 0 = fillL X n := by
        rw [List.take_of_length_le (by rw [fillL_len]; omega), show (fillL X n).length - k = 0 by rw [fillL_len]; omega]; simp
      rw [e] at hor
      go_wp2
      go_ret
      exact ⟨_, rfl, Nat.le_refl _, by rw [HX.out]; exact hor, hbr⟩

theorem filled_i (m : Int) (h0 : 0 ≤ m) (h1 : m ≤ 1048576) (fill : Int) (w : World) :
    Calls Tryd.prog 32 #[.int .i64 m, .int .i64 fill] w fun e w' => ∃ (g n : Nat) (l : List Nat), (n : Int) = m ∧ l.length = n ∧ Bytes l ∧ e = .returned (.slice (some ⟨g, 0, none⟩) n n) ∧ w.heap.size ≤ g ∧ Own w' g l ∧ Below w.heap.size w w' := by
  obtain ⟨n, rfl⟩ := Int.eq_ofNat_of_zero_le h0
  refine (filled_any n (by omega) fill w).mono ?_
  rintro e w' ⟨g, he, hg, ho, hb⟩
  exact ⟨g, n, _, rfl, fillL_len _ _, fillL_bytes _ _, he, hg, ho, hb⟩
/-- What a step of the reader leaves: all blocks but its own. -/
structure Tk (m : Nat) (w w' : World) : Prop where
  bl : Below m w w'
  keep : ∀ k, k < w.heap.size → k ≠ m → w'.heap[k]? = w.heap[k]?
theorem Tk.refl (m : Nat) (w : World) : Tk m w w := ⟨Below.refl _ _, fun _ _ _ => rfl⟩
theorem Tk.trans {m : Nat} {a b c : World} (h : Tk m a b) (k : Tk m b c) : Tk m a c :=
  ⟨h.bl.trans k.bl, fun i hi hn => (k.keep i (Nat.lt_of_lt_of_le hi h.bl.size) hn).trans (h.keep i hi hn)⟩
theorem Tk.of {m : Nat} {w w' : World} (h : Below w.heap.size w w') (hm : m < w.heap.size) : Tk m w w' := ⟨h.mono (Nat.le_of_lt hm), fun k hk _ => h.block k hk⟩
theorem Tk.set {m : Nat} (w : World) (i : Nat) (v : Value) : Tk m w (w.setCell ⟨m, i, none⟩ v) :=
  ⟨(Below.refl _ _).setCell (p := ⟨m, i, none⟩) (Nat.le_refl _) v, fun k _ hn => Deep.blk_setCell_other w ⟨m, i, none⟩ v k hn⟩
theorem Row.sub {w : World} {b off : Nat} {I : List Nat} (h : Row w (some ⟨b, off, none⟩) I) (at' n : Nat) (hn : at' + n ≤ I.length) : Row w (some ⟨b, off + at', none⟩) ((I.drop at').take n) := by
  rcases h with e | ⟨b', off', e, hc⟩
  · left
    rw [e]
    simp
  · obtain ⟨rfl, rfl⟩ : b = b' ∧ off = off' := by simpa using e
    refine .inr ⟨_, _, rfl, fun i hi => ?_⟩
    have hi' : i < n := by simp at hi; omega
    rw [Nat.add_assoc, hc (at' + i) (by omega)]
    simp [hi']
theorem Tk.row {m B : Nat} {w w' : World} {a : Option Addr} {l : List Nat} (h : Tk m w w') (r : RowF B w a l) (hm : m < B) : RowF B w' a l := by
  rcases r with e | ⟨b, off, ea, hb, hc⟩
  · exact .inl e
  · refine .inr ⟨b, off, ea, hb, fun i hi => ?_⟩
    have h1 := hc i hi
    have h2 : b < w.heap.size := cell_lt (p := ⟨b, off + i, none⟩) h1
    exact (World.cell?_of_block (w := w) (a := ⟨b, off + i, none⟩) (h.keep b h2 (by omega))).trans h1
theorem Tk.blk {m g : Nat} {w w' : World} {cs : Array Value} {t : TypeId} (h : Tk m w w') (b : Blk w g cs t) (hn : g ≠ m) : Blk w' g cs t := (h.keep g b.lt hn).trans b
set_option maxHeartbeats 400000 in
theorem left_any (m : Nat) (a : Option Addr) (n k at' : Nat) (hn : n ≤ 2097152) (ha : at' ≤ n) (w : World) (b : Blk w m #[.slice a n k, .int .i64 at'] 77) :
    Calls Tryd.prog 63 #[.pointer (some ⟨m, 0, none⟩)] w fun e w' => e = .returned (.int .i64 (n - at' : Nat)) ∧ ∃ j, w' = w.drewN j := by
  have d0 := (b.cell 0).trans (show _ = some (.slice a n k) from rfl)
  have d1 := (b.cell 1).trans (show _ = some (.int .i64 (at' : Int)) from rfl)
  clear b
  go_enter Tryd.func63, Tryd.ntmps63
  go_upto_region 1 with fail
  go_quiet (fail)
  go_wp2
  go_ret
  exact ⟨by go_num, _, rfl⟩
/-- What the reader's take is to answer and to leave. -/
def TakeOk (m b off n k nx nn : Nat) (l : List Nat) (w : World) (e : Ending) (w' : World) : Prop :=
  ∃ a' k', e = .returned (.slice a' nn k') ∧ RowF w.heap.size w' a' l ∧ Blk w' m #[.slice (some ⟨b, off, none⟩) n k, .int .i64 (nx : Nat)] 77 ∧ Tk m w w'
set_option maxRecDepth 100000 in
set_option maxHeartbeats 1000000 in
theorem take_any (m b off n k at' nn : Nat) (I : List Nat) (hI : I.length = n) (hn : n ≤ 2097152) (hk : n ≤ k) (ha : at' + nn ≤ n) (w : World) (bl : Blk w m #[.slice (some ⟨b, off, none⟩) n k, .int .i64 at'] 77) (hr : Row w (some ⟨b, off, none⟩) I) :
    Calls Tryd.prog 44 #[.pointer (some ⟨m, 0, none⟩), .int .i64 nn] w (TakeOk m b off n k (at' + nn) nn ((I.drop at').take nn) w) := by
  have HM : Hid (m < w.heap.size) := bl.lt
  have LC : Hid (Calls _ _ _ _ _) := left_any m (some ⟨b, off, none⟩) n k at' hn (by omega) w bl
  have HR : Hid (Row w (some ⟨b, off + at', none⟩) ((I.drop at').take nn)) := hr.sub at' nn (by omega)
  have HL : Hid (((I.drop at').take nn).length = nn) := by unfold Hid; simp; omega
  clear hr hI
  generalize (I.drop at').take nn = l at *
  go_enter Tryd.func44, Tryd.ntmps44
  go_wp2_with fail
  refine LC.out.mono ?_
  rintro e W1 ⟨rfl, j, hj⟩
  have t1 : Tk m w W1 := Tk.of (by rw [hj]; exact below_draws (Below.refl _ _) _) bl.lt
  have HR1 : Hid (Row W1 (some ⟨b, off + at', none⟩) l) := HR.out.below (by rw [hj]; exact below_draws (Below.refl _ _) _)
  have b1 : Blk W1 m #[.slice (some ⟨b, off, none⟩) n k, .int .i64 at'] 77 := bl.below bl.lt (by rw [hj]; exact below_draws (Below.refl _ _) _)
  clear hj LC HR bl
  have hlt : ¬ n - at' < nn := by omega
  go_upto_region 3 with fail
  clear hlt
  have d0 := (b1.cell 0).trans (show _ = some (.slice (some ⟨b, off, none⟩) n k) from rfl)
  have d1 := (b1.cell 1).trans (show _ = some (.int .i64 (at' : Int)) from rfl)
  have g1 : (0 : Int) ≤ (at' : Int) := by omega
  have g2 : (at' : Int) ≤ ((at' + nn : Nat) : Int) := by omega
  have g3 : ((at' + nn : Nat) : Int) ≤ (k : Int) := by omega
  have u : IntKind.i64.wrap ((at' : Int) + (nn : Int)) = ((at' + nn : Nat) : Int) := by rw [IntKind.wrap_i64]; omega
  refine wp_region_still_tail 14 (by kernel_rfl) (by kernel_rfl) ?_
  simp only [List.take_succ_cons, List.take_zero, List.drop_succ_cons, List.drop_zero]
  repeat still_step
  refine wpStill_nil ?_
  change wpList _ _ _ _ _ W1.drew
  have t2 : Tk m W1 W1.drew := Tk.of (Below.refl _ _).drew b1.lt
  have b2 := b1.drew
  have CL : Hid (Calls _ _ _ _ _) := clone_any nn l HL.out (by omega) (some ⟨b, off + at', none⟩) (k - at') W1.drew (HR1.out.below (Below.refl _ _).drew)
  have t12 := t1.trans t2
  have hsz2 : w.heap.size ≤ W1.drew.heap.size := t12.bl.size
  clear b1 HR1 t1 t2 u d0 d1
  generalize W1.drew = W2 at *
  by_cases hk0 : k = at'
  · obtain rfl : nn = 0 := by omega
    have hl0 : l = [] := List.eq_nil_of_length_eq_zero HL.out
    have HC : Hid (∀ (ad : Option Addr) (cp : Nat), Calls _ _ _ _ _) := fun ad cp => clone_any 0 l HL.out (by omega) ad cp W2 (.inl hl0)
    clear hl0
    go_wp2_with fail
    refine (HC.out _ _).mono ?_
    rintro e W3 ⟨⟨a', k', rfl, rf⟩, hb3⟩
    have t3 := t12.trans (Tk.of hb3 b2.lt)
    have b3 := b2.below b2.lt hb3
    have RF : Hid (RowF w.heap.size W3 a' l) := rf.mono hsz2
    clear CL rf t12 b2 hb3
    have d1 := (b3.cell 1).trans (show _ = some (.int .i64 (at' : Int)) from rfl)
    have f1 := b3.free 1
    go_wp2
    go_ret
    have hm : m < w.heap.size := HM.out
    refine ⟨a', k', rfl, RF.out.put hm _ _, ?_, t3.trans (Tk.set W3 1 _)⟩
    exact b3.set 1 _
  · go_wp2_with fail
    refine CL.out.mono ?_
    rintro e W3 ⟨⟨a', k', rfl, rf⟩, hb3⟩
    have t3 := t12.trans (Tk.of hb3 b2.lt)
    have b3 := b2.below b2.lt hb3
    have RF : Hid (RowF w.heap.size W3 a' l) := rf.mono hsz2
    clear CL rf t12 b2 hb3
    have d1 := (b3.cell 1).trans (show _ = some (.int .i64 (at' : Int)) from rfl)
    have f1 := b3.free 1
    go_wp2
    go_ret
    have hm : m < w.heap.size := HM.out
    refine ⟨a', k', rfl, RF.out.put hm _ _, ?_, t3.trans (Tk.set W3 1 _)⟩
    exact b3.set 1 _
/-- The header's block, and a cartridge in the making. -/
structure Nf (w : World) (hs : Array Value) (g : Nat) (a : Array Value) (W : World) : Prop where
  b : Blk W w.heap.size hs 67
  c : Blk W g a 25
  hg : g < w.heap.size
  tk : Tk g w W
theorem Nf.put {w W : World} {hs a a' : Array Value} {g : Nat} (K : Nf w hs g a W) (i : Nat) (v : Value) (e : a.setIfInBounds i v = a') : Nf w hs g a' (W.setCell ⟨g, i, none⟩ v) :=
  ⟨K.b.other (by have := K.hg; omega) i v, e ▸ K.c.set i v, K.hg, K.tk.trans (Tk.set W i v)⟩
theorem Nf.drew {w W : World} {hs a : Array Value} {g : Nat} (K : Nf w hs g a W) : Nf w hs g a W.drew := ⟨K.b.drew, K.c.drew, K.hg, K.tk.trans ⟨(Below.refl _ _).drew, fun _ _ _ => rfl⟩⟩
/-- The cells of a cartridge without lists. -/
def cN (c : CF) : Array Value := #[.int .i64 c.fmt, .int .i64 c.map, .int .i64 c.sub, .bool c.vert, .bool c.four, .bool c.bat, .int .i64 c.con, .int .i64 c.kind, .int .i64 c.tim, .int .i64 c.dev, .int .i64 c.misc, .int .i64 c.pr, .int .i64 c.pn, .int .i64 c.cr, .int .i64 c.cn, .slice none 0 0, .slice none 0 0, .slice none 0 0, .slice none 0 0]
structure SF (w : World) (hs : Array Value) (W v : World) : Prop where
  bb : Blk v w.heap.size hs 67
  zz : Blk v (w.heap.size + 1) Z19 25
  bl : Below W.heap.size W v
theorem SF.on {w : World} {hs : Array Value} {W v v' : World} (h : SF w hs W v) (hb : Below v.heap.size v v') : SF w hs W v' :=
  ⟨h.bb.below h.bb.lt hb, h.zz.below h.zz.lt hb, h.bl.trans (hb.mono h.bl.size)⟩
theorem wpOp_world {P : Program} {ops : Array Oper} {Q : Exit → Act → World → Prop} {i : Nat} {K : Act → World → Prop} {a : Act} {w w1 : World} {o : Oper} {v : Value}
    (hi : ops[i]? = some o) (hw : Region.wanted o (yielded ops a.tmps) = true) (he : (execOp a.eval o).run P w = .ok (.value v) w1) (a' : Act) (ha : a.put o.dst v = a') (h : K a' w1) : wpOp P ops Q i K a w := by
  subst ha
  unfold wpOp
  rw [hi]
  simp only [hw, if_true]
  left
  unfold Oper.wp
  rw [he]
  exact h
theorem exec_allocC {ρ : Operand → Value} {o : Oper} {w : World} (ho : o.op = .alloc 25) : (execOp ρ o).run Tryd.prog w = .ok (.value (.pointer (some ⟨w.heap.size, 0, none⟩))) (w.alloc (.cells Z19 25)) := by
  obtain ⟨dst, o, ty, pos, after, guard⟩ := o
  simp only at ho
  subst ho
  go_simp
theorem Tx.rowC {w : World} {base : Nat} {v : Value} {l : List Nat} (h : Tx w base v l) : ∃ a k, v = .slice a l.length k ∧ RowF base w a l ∧ l.length ≤ k := by
  obtain ⟨a, k, e, hr⟩ := h.rowF
  refine ⟨a, k, e, hr, ?_⟩
  obtain ⟨hlen, h⟩ := h
  rcases h with ⟨hv, hn⟩ | ⟨g, cap, cur, hv, _, _, hn, _⟩
  · rw [e] at hv
    injection hv with _ h1 h2
    omega
  · rw [e] at hv
    injection hv with _ h1 h2
    omega
theorem vals_one' (l : List Nat) : (vals l).toArray.all (·.oneCell') = true := by
  rw [Array.all_eq_true_iff_forall_mem]
  intro v hv
  exact vals_one l v (by simpa using hv)
theorem row_at {w : World} {b off : Nat} {I : List Nat} (h : Row w (some ⟨b, off, none⟩) I) (i v : Nat) (hi : i < I.length) (hv : I.getD i 0 = v) : w.cell? ⟨b, off + i, none⟩ = some (.int .u8 (v : Nat)) := by
  rcases h with e | ⟨b', off', e, hc⟩
  · rw [e] at hi; cases hi
  · obtain ⟨rfl, rfl⟩ : b = b' ∧ off = off' := by simpa using e
    rw [hc i hi, hv]
structure SQ (w : World) (m : Nat) (ds : Array Value) (b off n k at' : Nat) (W v : World) : Prop where
  bb : Blk v w.heap.size ds 25
  rr : Blk v m #[.slice (some ⟨b, off, none⟩) n k, .int .i64 at'] 77
  bl : Below W.heap.size W v
theorem SQ.on {w : World} {m : Nat} {ds : Array Value} {b off n k at' : Nat} {W v v' : World} (h : SQ w m ds b off n k at' W v) (hb : Below v.heap.size v v') : SQ w m ds b off n k at' W v' :=
  ⟨h.bb.below h.bb.lt hb, h.rr.below h.rr.lt hb, h.bl.trans (hb.mono h.bl.size)⟩
theorem cut_mid (A B C : List Nat) {a n : Nat} (ha : A.length = a) (hn : B.length = n) : ((A ++ B ++ C).drop a).take n = B := by
  subst ha
  subst hn
  rw [List.append_assoc, List.drop_left, List.take_left]
theorem cut_end (A B : List Nat) {a n : Nat} (ha : A.length = a) (hn : B.length = n) : ((A ++ B).drop a).take n = B := by
  have := cut_mid A B [] ha hn
  rwa [List.append_nil] at this
/-- What lies in memory while read works. -/
structure Rs (w : World) (hs ca : Array Value) (gh gc m b off n k at' : Nat) (W : World) : Prop where
  z : Blk W w.heap.size Z19 25
  h : Blk W gh hs 67
  c : Blk W gc ca 25
  r : Blk W m #[.slice (some ⟨b, off, none⟩) n k, .int .i64 at'] 77
  o1 : w.heap.size < gh
  o2 : gh < gc
  o3 : gc < m
  bl : Below w.heap.size w W
theorem Rs.put {w W : World} {hs ca ca' : Array Value} {gh gc m b off n k at' : Nat} (K : Rs w hs ca gh gc m b off n k at' W) (i : Nat) (v : Value) (e : ca.setIfInBounds i v = ca') : Rs w hs ca' gh gc m b off n k at' (W.setCell ⟨gc, i, none⟩ v) :=
  ⟨K.z.other (by have := K.o1; have := K.o2; omega) i v, K.h.other (by have := K.o2; omega) i v, e ▸ K.c.set i v, K.r.other (by have := K.o3; omega) i v, K.o1, K.o2, K.o3, K.bl.setCell (p := ⟨gc, i, none⟩) (by have := K.o1; have := K.o2; show w.heap.size ≤ gc; omega) v⟩
theorem Rs.took {w W W' : World} {hs ca : Array Value} {gh gc m b off n k at' to' : Nat} (K : Rs w hs ca gh gc m b off n k at' W) (t : Tk m W W') (r : Blk W' m #[.slice (some ⟨b, off, none⟩) n k, .int .i64 to'] 77) : Rs w hs ca gh gc m b off n k to' W' :=
  ⟨t.blk K.z (by have := K.o1; have := K.o2; have := K.o3; omega), t.blk K.h (by have := K.o2; have := K.o3; omega), t.blk K.c (by have := K.o3; omega), r, K.o1, K.o2, K.o3, K.bl.trans (t.bl.mono (by have := K.o1; have := K.o2; have := K.o3; omega))⟩
/-- What read is to answer. -/
def ReOk (c : CF) (T P Q R : List Nat) (w : World) (e : Ending) (w' : World) : Prop := ∃ xs aT kT aP kP aQ kQ aR kR, e = .returned (.agg xs) ∧ IsC xs c ∧ (xs[15]? = some (.slice aT c.nt kT) ∧ xs[16]? = some (.slice aP c.np kP) ∧ xs[17]? = some (.slice aQ c.nq kQ) ∧ xs[18]? = some (.slice aR c.nr kR)) ∧ (RowF w.heap.size w' aT T ∧ RowF w.heap.size w' aP P ∧ RowF w.heap.size w' aQ Q ∧ RowF w.heap.size w' aR R) ∧ Below w.heap.size w w'
set_option maxRecDepth 100000 in
theorem catch_idle (p q r : Addr) (w : World) :
    CallsD Tryd.prog 25 #[.pointer (some p), .pointer (some q), .pointer (some r)] .returning w fun e u' w' => e = .returned (.tuple #[]) ∧ u' = .returning ∧ Below w.heap.size w w' := by
  have hta : ∀ w : World, Sem.run Tryd.prog (Instr.typeAssert Value.nilIface 20 55 true) w = .ok (.tuple #[.agg #[.int .i64 0, .int .i64 0], .bool false]) w := fun _ => by kernel_rfl
  refine callsD_of_wpS Tryd.func25 rfl fun c₀ cs hu => ?_
  apply wpS_seq
  apply wpS_region
  simp [wpOpsS, go_sem, recoverD, hu, hta, Tryd.ntmps25, Exit.thenS]
  apply wpS_seq
  apply wpS_region
  simp [wpOpsS, go_sem, Exit.thenS]
  refine wpS_cond (t := false) (by simp [Act.eval, Array.replicate]) ?_
  simp only [Bool.false_eq_true, if_false]
  refine wpS_of_wp (wp_skip ?_)
  cases c₀
  simp_all [bodyPostS, results, Tryd.results25]
  exact (Below.refl _ _).alloc (Nat.le_refl _) _
theorem results_cells3 {fn : Func} {p q r : Tmp} {t u s : TypeId} (h : fn.results = #[.cell p t, .cell q u, .cell r s]) (tmps : Array Value) (P : Program) (w : World) :
    (results fn tmps).run P w = ((asAddr (tmps.getD p undef)).run P w).andThen fun a w₁ => ((loadVar t a).run P w₁).andThen fun v w₂ => ((asAddr (tmps.getD q undef)).run P w₂).andThen fun b w₃ => ((loadVar u b).run P w₃).andThen fun v' w₄ => ((asAddr (tmps.getD r undef)).run P w₄).andThen fun d w₅ => ((loadVar s d).run P w₅).andThen fun v'' w₆ => .ok (.tuple #[v, v', v'']) w₆ := by
  simp only [results, h]
  simp [Sem.run_bind, Result.andThen]
theorem results_three {fn : Func} {p q r : Tmp} {t u s : TypeId} {tmps : Array Value} {P : Program} {w : World} {a b d : Addr} {v v' v'' : Value} (h : fn.results = #[.cell p t, .cell q u, .cell r s]) (hp : tmps.getD p undef = .pointer (some a)) (hq : tmps.getD q undef = .pointer (some b)) (hr : tmps.getD r undef = .pointer (some d))
    (l1 : (loadVar t a).run P w = .ok v w) (l2 : (loadVar u b).run P w = .ok v' w) (l3 : (loadVar s d).run P w = .ok v'' w) : (results fn tmps).run P w = .ok (.tuple #[v, v', v'']) w := by
  rw [results_cells3 h, hp, hq, hr]
  simp only [asAddr, Sem.run_pure, Result.andThen_ok, l1, l2, l3]
/-- What Parse is to answer. -/
def PaOk (c : CF) (T P Q R : List Nat) (w : World) (e : Ending) (w' : World) : Prop := ∃ xs, e = .returned (.tuple #[.agg xs, .int .i64 0, .int .i64 0]) ∧ Cl w' xs c T P Q R ∧ Below w.heap.size w w'
end Go.Proofs.YtilhlbnicmmaoaaDoor
