/-
  How a block holds its cells, and what stays of it.
-/
import Derived.Test.YtokbnffofaeipaaITab
import Derived.Laws.CopyOwn
set_option linter.unusedSimpArgs false
set_option linter.unusedVariables false
namespace Go.Proofs.Ytokbnffofaeipaa
open Go.RowKit
/-- The block b holds just these cells. -/
def Blk (w : World) (b : Nat) (cs : Array Value) (t : TypeId) : Prop := w.heap[b]? = some (.cells cs t (0, 0))
theorem Blk.lt {w : World} {b : Nat} {cs : Array Value} {t : TypeId} (h : Blk w b cs t) : b < w.heap.size := (Array.getElem?_eq_some_iff.1 h).1
theorem Blk.cell {w : World} {b : Nat} {cs : Array Value} {t : TypeId} (h : Blk w b cs t) (i : Nat) : w.cell? ⟨b, i, none⟩ = cs[i]? := cell_of_row w b i cs t (0, 0) h
theorem Blk.free {w : World} {b : Nat} {cs : Array Value} {t : TypeId} (h : Blk w b cs t) (i : Nat) : w.frozen? ⟨b, i, none⟩ = false := frozen_of_row w b i cs t h
theorem Blk.set {w : World} {b : Nat} {cs : Array Value} {t : TypeId} (h : Blk w b cs t) (i : Nat) (v : Value) : Blk (w.setCell ⟨b, i, none⟩ v) b (cs.setIfInBounds i v) t := heap_setCell_same w b i cs t v h
theorem Blk.other {w : World} {b m : Nat} {cs : Array Value} {t : TypeId} (h : Blk w b cs t) (hn : b ≠ m) (i : Nat) (v : Value) : Blk (w.setCell ⟨m, i, none⟩ v) b cs t := (Below.heap_setCell w ⟨m, i, none⟩ v b hn).trans h
theorem Blk.below {w w' : World} {b B : Nat} {cs : Array Value} {t : TypeId} (h : Blk w b cs t) (hB : b < B) (hb : Below B w w') : Blk w' b cs t := (hb.block b hB).trans h
theorem Blk.new (w : World) (cs : Array Value) (t : TypeId) : Blk (w.alloc (.cells cs t)) w.heap.size cs t := heap_alloc_new w _
theorem Blk.old {w : World} {b : Nat} {cs : Array Value} {t : TypeId} (h : Blk w b cs t) (o : Obj) : Blk (w.alloc o) b cs t := (Below.heap_alloc w o b h.lt).trans h
def ints (l : List Nat) : List Value := l.map fun n : Nat => Value.int .i64 n
theorem ints_append (l m : List Nat) : ints (l ++ m) = ints l ++ ints m := by simp [ints]
theorem ints_length (l : List Nat) : (ints l).length = l.length := by simp [ints]
theorem ints_one (l : List Nat) : ∀ v ∈ ints l, v.oneCell' = true := by
  intro v hv; simp only [ints, List.mem_map] at hv; obtain ⟨n, _, rfl⟩ := hv; rfl
theorem ints_at {l : List Nat} {j : Nat} {v : Value} (h : (ints l)[j]? = some v) : j < l.length := by
  have := (List.getElem?_eq_some_iff.1 h).1; simpa [ints] using this
/-- The cells of a run: eight accesses, and how many count. -/
def runC (l : List Nat) : List Value := ints (l ++ List.replicate (8 - l.length) 0) ++ [.int .i64 (l.length : Nat)]
theorem runC_length {l : List Nat} (h : l.length ≤ 8) : (runC l).length = 9 := by simp [runC, ints]; omega
theorem runC_n {l : List Nat} (h : l.length ≤ 8) : (runC l).toArray[8]? = some (.int .i64 (l.length : Nat)) := by
  simp only [List.getElem?_toArray, runC]
  rw [List.getElem?_append_right (by simp [ints]; omega)]
  simp [ints, show 8 - (l.length + (8 - l.length)) = 0 by omega]
/-- What copy and the new count make of it. -/
theorem runC_add {l m : List Nat} (h : l.length + m.length ≤ 8) :
    ((splice (runC l) l.length (ints m)).toArray.setIfInBounds 8 (.int .i64 ((l.length : Int) + (m.length : Int)))) = (runC (l ++ m)).toArray := by
  have e1 : (runC l).take l.length = ints l := by
    simp [runC, ints_append, List.take_append, ints]
  have e2 : (runC l).drop (l.length + m.length) = ints (List.replicate (8 - (l.length + m.length)) 0) ++ [.int .i64 (l.length : Nat)] := by
    simp only [runC, ints_append, List.append_assoc]
    rw [List.drop_append, List.drop_eq_nil_of_le (by simp [ints]), List.nil_append, List.drop_append]
    simp only [ints, List.length_map, List.length_replicate]
    rw [show l.length + m.length - l.length = m.length by omega, ← List.map_drop, List.drop_replicate, show 8 - l.length - m.length = 8 - (l.length + m.length) by omega, show m.length - (8 - l.length) = 0 by omega]
    rfl
  rw [splice, ints_length, e1, e2]
  rw [List.setIfInBounds_toArray, ← List.append_assoc, ← List.append_assoc, List.set_append_right _ _ (by simp [ints]; omega)]
  have e3 : 8 - (ints l ++ ints m ++ ints (List.replicate (8 - (l.length + m.length)) 0)).length = 0 := by simp [ints]; omega
  rw [e3]
  simp [runC, ints_append, ints]
end Go.Proofs.Ytokbnffofaeipaa
