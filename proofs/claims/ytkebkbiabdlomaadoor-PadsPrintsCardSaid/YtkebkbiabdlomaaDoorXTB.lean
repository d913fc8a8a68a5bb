/-
  Turns: their cells, blocks that hold them, when two are equal; a list of them in memory.
-/
import Derived.WalkKit
import Derived.WalkSpells
import Derived.WalkLawsBesides
import Derived.Laws.StructEq
import Derived.Laws.BitsAllLaws
import Derived.Deep.MidRow
import Derived.Deep.DeepCutAuto
import Derived.Deep.CutBlock
import Derived.BigGuard
import Derived.BigRegion
import Derived.Deep.QuietTactic
import Derived.BigQuiet
import Derived.ChangeKeysEq
import Derived.Test.YtkebkbiabdlomaaDoorRows
set_option linter.unusedSimpArgs false
set_option linter.unusedVariables false
namespace Go.Proofs.YtkebkbiabdlomaaDoor
open Go.RowKit Classical
theorem cell_lt {w : World} {p : Addr} {v : Value} (h : w.cell? p = some v) : p.block < w.heap.size := by
  refine Nat.lt_of_not_le fun hle => ?_
  have : w.heap[p.block]? = none := by simp [hle]
  simp [World.cell?, this] at h
/-- The block b holds just these cells. -/
def Blk (w : World) (b : Nat) (cs : Array Value) (t : TypeId) : Prop := w.heap[b]? = some (.cells cs t (0, 0))
theorem Blk.lt {w : World} {b : Nat} {cs : Array Value} {t : TypeId} (h : Blk w b cs t) : b < w.heap.size := (Array.getElem?_eq_some_iff.1 h).1
theorem Blk.cell {w : World} {b : Nat} {cs : Array Value} {t : TypeId} (h : Blk w b cs t) (i : Nat) : w.cell? ⟨b, i, none⟩ = cs[i]? := cell_of_row w b i cs t (0, 0) h
theorem Blk.free {w : World} {b : Nat} {cs : Array Value} {t : TypeId} (h : Blk w b cs t) (i : Nat) : w.frozen? ⟨b, i, none⟩ = false := frozen_of_row w b i cs t h
theorem Blk.set {w : World} {b : Nat} {cs : Array Value} {t : TypeId} (h : Blk w b cs t) (i : Nat) (v : Value) : Blk (w.setCell ⟨b, i, none⟩ v) b (cs.setIfInBounds i v) t := heap_setCell_same w b i cs t v h
theorem Blk.other {w : World} {b m : Nat} {cs : Array Value} {t : TypeId} (h : Blk w b cs t) (hn : b ≠ m) (i : Nat) (v : Value) : Blk (w.setCell ⟨m, i, none⟩ v) b cs t := (Below.heap_setCell w ⟨m, i, none⟩ v b hn).trans h
theorem Blk.below {w w' : World} {b B : Nat} {cs : Array Value} {t : TypeId} (h : Blk w b cs t) (hB : b < B) (hb : Below B w w') : Blk w' b cs t := (hb.block b hB).trans h
theorem Blk.drew {w : World} {b : Nat} {cs : Array Value} {t : TypeId} (h : Blk w b cs t) : Blk w.drew b cs t := h
theorem Blk.new (w : World) (cs : Array Value) (t : TypeId) : Blk (w.alloc (.cells cs t)) w.heap.size cs t := heap_alloc_new w _
theorem Blk.old {w : World} {b : Nat} {cs : Array Value} {t : TypeId} (h : Blk w b cs t) (o : Obj) : Blk (w.alloc o) b cs t := (Below.heap_alloc w o b h.lt).trans h
theorem Blk.range' {w : World} {b : Nat} {cs : Array Value} {t : TypeId} (h : Blk w b cs t) : w.rangeAt b 0 cs.toList := fun j v hv => by
  rw [Nat.zero_add, h.cell j]; simpa using hv
theorem Blk.there' {w : World} {b : Nat} {cs : Array Value} {t : TypeId} (h : Blk w b cs t) (n : Nat) (hn : cs.size = n) : w.there b 0 n := fun j hj => by
  rw [Nat.zero_add, h.cell j]; exact ⟨by simp; omega, h.free j⟩
theorem setCells_below' {B b : Nat} (hB : B ≤ b) : ∀ (vs : List Value) (o : Nat) (a w : World), Below B a w → Below B a (w.setCells b o vs)
  | [], _, _, _, h => h
  | _ :: vs, o, a, _, h => setCells_below' hB vs (o + 1) a _ (h.setCell (p := ⟨b, o, none⟩) hB _)
theorem below_draws {B : Nat} {a w : World} (h : Below B a w) : ∀ n, Below B a (w.drewN n)
  | 0 => h
  | n + 1 => (below_draws h n).drew
theorem bcell {B : Nat} {W w1 : World} (hb : Below B W w1) : (∀ b o, b < B → w1.cell? ⟨b, o, none⟩ = W.cell? ⟨b, o, none⟩) ∧ (∀ b o, b < B → w1.frozen? ⟨b, o, none⟩ = W.frozen? ⟨b, o, none⟩) :=
  ⟨fun b o h => hb.cell (p := ⟨b, o, none⟩) h, fun b o h => hb.frozen (p := ⟨b, o, none⟩) h⟩
/-- An element. -/
structure TuE where
  bu : Int
  one : Int
  two : Int
  fl : Bool
  rs : Bool
def TuE.cells (x : TuE) : Array Value := #[.int .u32 x.bu, .int .u8 x.one, .int .u8 x.two, .bool x.fl, .bool x.rs]
/-- Its numbers fit. -/
structure TuE.Ok (x : TuE) : Prop where
  bu0 : 0 ≤ x.bu
  bu1 : x.bu ≤ 4294967295
  one0 : 0 ≤ x.one
  one1 : x.one ≤ 255
  two0 : 0 ≤ x.two
  two1 : x.two ≤ 255
/-- The list's elements in memory. -/
structure Tu (W : World) (a : Option Addr) (len : Nat) (q : Nat → TuE) (b o : Nat) : Prop where
  at_ : 0 < len → a = some ⟨b, o, none⟩ ∧ b < W.heap.size
  cells : ∀ i, i < len → W.rangeAt b (o + i * 5) (q i).cells.toList
  ok : ∀ i, i < len → (q i).Ok
section
variable {P : Program} (w : World)
theorem eqFields_step {d : Nat} {xs ys : Array Value} {f : Field} {fs : List Field} {a b : Value} {r r' : Bool} (hn : (f.name ≠ "_") = True) (hx : (part f.type xs f.offset).run P w = .ok a w) (hy : (part f.type ys f.offset).run P w = .ok b w)
    (he : (Op.equalIn d f.type a b).run P w = .ok r w) (hr : (Op.eqFields d xs ys fs).run P w = .ok r' w) : (Op.eqFields d xs ys (f :: fs)).run P w = .ok (r && r') w := by
  simp only [Op.eqFields, hn, if_true, Sem.run_bind, hx, hy, he, Result.andThen_ok]
  cases r
  · simp
  · simpa using hr
end
theorem TuE.ext_iff (a b : TuE) : a = b ↔ a.bu = b.bu ∧ a.one = b.one ∧ a.two = b.two ∧ a.fl = b.fl ∧ a.rs = b.rs := by
  obtain ⟨a1, a2, a3, a4, a5⟩ := a
  obtain ⟨b1, b2, b3, b4, b5⟩ := b
  simp
set_option maxRecDepth 100000 in
theorem eqT0 (w : World) (b d : TuE) : (Op.equalIn 10000 25 (.agg b.cells) (.agg d.cells)).run Tryd.prog w = .ok (decide (b = d)) w := by
  have hb := fun (a b : Bool) => run_equalIn_bool (P := Tryd.prog) w 9998 4 a b Tryd.underlying4
  have h8 := fun (a b : Int) => run_equalIn_int (P := Tryd.prog) w 9998 5 .u8 .u8 a b Tryd.underlying5
  have h32 := fun (a b : Int) => run_equalIn_int (P := Tryd.prog) w 9998 23 .u32 .u32 a b Tryd.underlying23
  rw [run_equalIn_struct w 9999 25 _ _ (by kernel_rfl) (by kernel_rfl)]
  simp only [Program.fieldsOf, Tryd.underlying25, TuE.cells]
  refine Eq.trans (b := .ok ((b.bu == d.bu) && ((b.one == d.one) && ((b.two == d.two) && ((b.fl == d.fl) && ((b.rs == d.rs) && true))))) w) ?_ ?_
  · refine eqFields_step w (by simp) (by kernel_rfl) (by kernel_rfl) (h32 _ _) ?_
    refine eqFields_step w (by simp) (by kernel_rfl) (by kernel_rfl) (h8 _ _) ?_
    refine eqFields_step w (by simp) (by kernel_rfl) (by kernel_rfl) (h8 _ _) ?_
    refine eqFields_step w (by simp) (by kernel_rfl) (by kernel_rfl) (hb _ _) ?_
    refine eqFields_step w (by simp) (by kernel_rfl) (by kernel_rfl) (hb _ _) ?_
    rfl
  · congr 1
    rw [Bool.eq_iff_iff]
    simp only [Bool.and_eq_true, beq_iff_eq, decide_eq_true_eq, and_true, TuE.ext_iff]
theorem neqT (w : World) (b d : TuE) : (binOp .neq 25 (.agg b.cells) (.agg d.cells)).run Tryd.prog w = .ok (.bool (!decide (b = d))) w := by
  rw [run_neq_struct, eqT0 w b d]; rfl
theorem eqlT (w : World) (b d : TuE) : (binOp .eql 25 (.agg b.cells) (.agg d.cells)).run Tryd.prog w = .ok (.bool (decide (b = d))) w := by
  rw [run_eql_struct, eqT0 w b d]; rfl
theorem infoT : (Tryd.prog.info? 25).map (·.size) = some 5 := by kernel_rfl
/-- The list stays where what lay there stays. -/
theorem Tu.on {W W' : World} {a : Option Addr} {len : Nat} {q : Nat → TuE} {b o : Nat} {B : Nat} (h : Tu W a len q b o) (hB : 0 < len → b < B) (hs : W.heap.size ≤ W'.heap.size) (hb : Below B W W') : Tu W' a len q b o :=
  ⟨fun hl => ⟨(h.at_ hl).1, Nat.lt_of_lt_of_le (h.at_ hl).2 hs⟩, fun i hi j v hv => (hb.cell (p := ⟨b, o + i * 5 + j, none⟩) (hB (by omega))).trans (h.cells i hi j v hv), h.ok⟩
/-- The sum of the first budgets, as an int has it. -/
def tot (q : Nat → TuE) : Nat → Int
  | 0 => 0
  | k + 1 => wrap64 (tot q k + (q k).bu)
end Go.Proofs.YtkebkbiabdlomaaDoor
