/-
  How a block holds a clock's cells, what stays of it; two clocks are equal just if their fields are; the tables of the timer in memory.
-/
import Derived.Test.YtobiiogoofkmaaaDoorTMath
import Derived.WalkKit
import Derived.WalkSpells
import Derived.WalkLawsBesides
import Derived.Laws.StructEq
import Derived.Laws.BitsAllLaws
import Derived.Deep.MidRow
import Derived.Deep.DeepCutAuto
import Derived.Deep.CutBlock
import Derived.BigGuard
import Derived.BigRegion
import Derived.Deep.QuietTactic
import Derived.BigQuiet
set_option linter.unusedSimpArgs false
set_option linter.unusedVariables false
namespace Go.Proofs.YtobiiogoofkmaaaDoor
open Go.RowKit Classical
theorem cell_lt {w : World} {p : Addr} {v : Value} (h : w.cell? p = some v) : p.block < w.heap.size := by
  refine Nat.lt_of_not_le fun hle => ?_
  have : w.heap[p.block]? = none := by simp [hle]
  simp [World.cell?, this] at h
/-- The block b holds just these cells. -/
def Blk (w : World) (b : Nat) (cs : Array Value) (t : TypeId) : Prop := w.heap[b]? = some (.cells cs t (0, 0))
theorem Blk.lt {w : World} {b : Nat} {cs : Array Value} {t : TypeId} (h : Blk w b cs t) : b < w.heap.size := (Array.getElem?_eq_some_iff.1 h).1
theorem Blk.cell {w : World} {b : Nat} {cs : Array Value} {t : TypeId} (h : Blk w b cs t) (i : Nat) : w.cell? ⟨b, i, none⟩ = cs[i]? := cell_of_row w b i cs t (0, 0) h
theorem Blk.free {w : World} {b : Nat} {cs : Array Value} {t : TypeId} (h : Blk w b cs t) (i : Nat) : w.frozen? ⟨b, i, none⟩ = false := frozen_of_row w b i cs t h
theorem Blk.set {w : World} {b : Nat} {cs : Array Value} {t : TypeId} (h : Blk w b cs t) (i : Nat) (v : Value) : Blk (w.setCell ⟨b, i, none⟩ v) b (cs.setIfInBounds i v) t := heap_setCell_same w b i cs t v h
theorem Blk.other {w : World} {b m : Nat} {cs : Array Value} {t : TypeId} (h : Blk w b cs t) (hn : b ≠ m) (i : Nat) (v : Value) : Blk (w.setCell ⟨m, i, none⟩ v) b cs t := (Below.heap_setCell w ⟨m, i, none⟩ v b hn).trans h
theorem Blk.below {w w' : World} {b B : Nat} {cs : Array Value} {t : TypeId} (h : Blk w b cs t) (hB : b < B) (hb : Below B w w') : Blk w' b cs t := (hb.block b hB).trans h
theorem Blk.drew {w : World} {b : Nat} {cs : Array Value} {t : TypeId} (h : Blk w b cs t) : Blk w.drew b cs t := h
theorem Blk.new (w : World) (cs : Array Value) (t : TypeId) : Blk (w.alloc (.cells cs t)) w.heap.size cs t := heap_alloc_new w _
theorem Blk.old {w : World} {b : Nat} {cs : Array Value} {t : TypeId} (h : Blk w b cs t) (o : Obj) : Blk (w.alloc o) b cs t := (Below.heap_alloc w o b h.lt).trans h
theorem Blk.range' {w : World} {b : Nat} {cs : Array Value} {t : TypeId} (h : Blk w b cs t) : w.rangeAt b 0 cs.toList := fun j v hv => by
  rw [Nat.zero_add, h.cell j]; simpa using hv
theorem Blk.there' {w : World} {b : Nat} {cs : Array Value} {t : TypeId} (h : Blk w b cs t) (n : Nat) (hn : cs.size = n) : w.there b 0 n := fun j hj => by
  rw [Nat.zero_add, h.cell j]; exact ⟨by simp; omega, h.free j⟩
theorem setCells_below' {B b : Nat} (hB : B ≤ b) : ∀ (vs : List Value) (o : Nat) (a w : World), Below B a w → Below B a (w.setCells b o vs)
  | [], _, _, _, h => h
  | _ :: vs, o, a, _, h => setCells_below' hB vs (o + 1) a _ (h.setCell (p := ⟨b, o, none⟩) hB _)
theorem below_draws {B : Nat} {a w : World} (h : Below B a w) : ∀ n, Below B a (w.drewN n)
  | 0 => h
  | n + 1 => (below_draws h n).drew
theorem bcell {B : Nat} {W w1 : World} (hb : Below B W w1) : (∀ b o, b < B → w1.cell? ⟨b, o, none⟩ = W.cell? ⟨b, o, none⟩) ∧ (∀ b o, b < B → w1.frozen? ⟨b, o, none⟩ = W.frozen? ⟨b, o, none⟩) :=
  ⟨fun b o h => hb.cell (p := ⟨b, o, none⟩) h, fun b o h => hb.frozen (p := ⟨b, o, none⟩) h⟩
/-- The cells of a clock. -/
def Ck.cells (c : Ck) : Array Value := #[.int .u16 c.latch, .int .u16 c.count, .int .u16 c.pre, .int .u8 c.hold, .int .u8 c.ctl, .bool c.flag, .bool c.over, .bool c.five, .bool c.inh, .bool c.frame, .int .u16 c.at_, .int .u8 c.wait, .int .u8 c.beats]
section
variable {P : Program} (w : World)
theorem eqFields_step {d : Nat} {xs ys : Array Value} {f : Field} {fs : List Field} {a b : Value} {r r' : Bool} (hn : (f.name ≠ "_") = True) (hx : (part f.type xs f.offset).run P w = .ok a w) (hy : (part f.type ys f.offset).run P w = .ok b w)
    (he : (Op.equalIn d f.type a b).run P w = .ok r w) (hr : (Op.eqFields d xs ys fs).run P w = .ok r' w) : (Op.eqFields d xs ys (f :: fs)).run P w = .ok (r && r') w := by
  simp only [Op.eqFields, hn, if_true, Sem.run_bind, hx, hy, he, Result.andThen_ok]
  cases r
  · simp
  · simpa using hr
end
set_option maxRecDepth 100000 in
theorem eqC0 (w : World) (b d : Ck) : (Op.equalIn 10000 24 (.agg b.cells) (.agg d.cells)).run Tryd.prog w = .ok (decide (b = d)) w := by
  have h16 := fun (a b : Int) => run_equalIn_int (P := Tryd.prog) w 9998 22 .u16 .u16 a b Tryd.underlying22
  have h8 := fun (a b : Int) => run_equalIn_int (P := Tryd.prog) w 9998 5 .u8 .u8 a b Tryd.underlying5
  have hb := fun (a b : Bool) => run_equalIn_bool (P := Tryd.prog) w 9998 4 a b Tryd.underlying4
  rw [run_equalIn_struct w 9999 24 _ _ (by kernel_rfl) (by kernel_rfl)]
  simp only [Program.fieldsOf, Tryd.underlying24, Ck.cells]
  refine Eq.trans (b := .ok ((b.latch == d.latch) && ((b.count == d.count) && ((b.pre == d.pre) && ((b.hold == d.hold) && ((b.ctl == d.ctl) && ((b.flag == d.flag) && ((b.over == d.over) && ((b.five == d.five) && ((b.inh == d.inh) && ((b.frame == d.frame) && ((b.at_ == d.at_) && ((b.wait == d.wait) && ((b.beats == d.beats) && true))))))))))))) w) ?_ ?_
  · refine eqFields_step w (by simp) (by kernel_rfl) (by kernel_rfl) (h16 _ _) ?_
    refine eqFields_step w (by simp) (by kernel_rfl) (by kernel_rfl) (h16 _ _) ?_
    refine eqFields_step w (by simp) (by kernel_rfl) (by kernel_rfl) (h16 _ _) ?_
    refine eqFields_step w (by simp) (by kernel_rfl) (by kernel_rfl) (h8 _ _) ?_
    refine eqFields_step w (by simp) (by kernel_rfl) (by kernel_rfl) (h8 _ _) ?_
    refine eqFields_step w (by simp) (by kernel_rfl) (by kernel_rfl) (hb _ _) ?_
    refine eqFields_step w (by simp) (by kernel_rfl) (by kernel_rfl) (hb _ _) ?_
    refine eqFields_step w (by simp) (by kernel_rfl) (by kernel_rfl) (hb _ _) ?_
    refine eqFields_step w (by simp) (by kernel_rfl) (by kernel_rfl) (hb _ _) ?_
    refine eqFields_step w (by simp) (by kernel_rfl) (by kernel_rfl) (hb _ _) ?_
    refine eqFields_step w (by simp) (by kernel_rfl) (by kernel_rfl) (h16 _ _) ?_
    refine eqFields_step w (by simp) (by kernel_rfl) (by kernel_rfl) (h8 _ _) ?_
    refine eqFields_step w (by simp) (by kernel_rfl) (by kernel_rfl) (h8 _ _) ?_
    rfl
  · congr 1
    rw [Bool.eq_iff_iff]
    simp only [Bool.and_eq_true, beq_iff_eq, decide_eq_true_eq, and_true, Ck.ext_iff]
theorem neqC (w : World) (b d : Ck) : (binOp .neq 24 (.agg b.cells) (.agg d.cells)).run Tryd.prog w = .ok (.bool (!decide (b = d))) w := by
  rw [run_neq_struct, eqC0 w b d]; rfl
theorem eqlC (w : World) (b d : Ck) : (binOp .eql 24 (.agg b.cells) (.agg d.cells)).run Tryd.prog w = .ok (.bool (decide (b = d))) w := by
  rw [run_eql_struct, eqC0 w b d]; rfl
theorem infoC : (Tryd.prog.info? 24).map (·.size) = some 13 := by kernel_rfl
/-- The table of the dividers lies in its variable. -/
structure DTab (w : World) : Prop where
  c0 : w.cell? ⟨0, 0, none⟩ = some (.int .u16 1)
  c1 : w.cell? ⟨0, 1, none⟩ = some (.int .u16 8)
  c2 : w.cell? ⟨0, 2, none⟩ = some (.int .u16 64)
  c3 : w.cell? ⟨0, 3, none⟩ = some (.int .u16 256)
theorem DTab.lt {w : World} (h : DTab w) : 0 < w.heap.size := cell_lt h.c0
theorem DTab.below {w w' : World} {B : Nat} (h : DTab w) (h1 : 0 < B) (hb : Below B w w') : DTab w' :=
  ⟨(hb.cell (p := ⟨0, 0, none⟩) h1).trans h.c0, (hb.cell (p := ⟨0, 1, none⟩) h1).trans h.c1, (hb.cell (p := ⟨0, 2, none⟩) h1).trans h.c2, (hb.cell (p := ⟨0, 3, none⟩) h1).trans h.c3⟩
theorem DTab.on {w w' : World} (h : DTab w) (hb : Below w.heap.size w w') : DTab w' := h.below h.lt hb
/-- A table of four, three or two numbers lies in the block g. -/
def Tab (w : World) (g : Nat) (l : List Int) : Prop := ∀ i, i < l.length → w.cell? ⟨g, i, none⟩ = some (.int .u16 (l.getD i 0))
theorem Tab.below {w w' : World} {g B : Nat} {l : List Int} (h : Tab w g l) (h1 : g < B) (hb : Below B w w') : Tab w' g l := fun i hi => (hb.cell (p := ⟨g, i, none⟩) h1).trans (h i hi)
/-- All five. -/
structure Tabs (w : World) : Prop where
  d : DTab w
  four : Tab w 3 [7457, 14913, 22371, 29829]
  five : Tab w 2 [7457, 14913, 22371, 37281]
  frames : Tab w 1 [29828, 29829, 29830]
  rounds : Tab w 4 [29830, 37282]
theorem Tabs.on {w w' : World} (h : Tabs w) (hb : Below w.heap.size w w') : Tabs w' :=
  ⟨h.d.on hb, h.four.below (cell_lt (h.four 0 (by decide))) hb, h.five.below (cell_lt (h.five 0 (by decide))) hb, h.frames.below (cell_lt (h.frames 0 (by decide))) hb, h.rounds.below (cell_lt (h.rounds 0 (by decide))) hb⟩
end Go.Proofs.YtobiiogoofkmaaaDoor
