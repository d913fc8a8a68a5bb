/-
  Lists of bytes in memory: how a slice holds them, a block of its own that holds them, and what stays of both behind new blocks and stores; no conditions beyond those named.
-/
import Derived.Test.YtlckjbangdnejaaDoorRows
import Derived.WalkKit
import Derived.WalkSpells
import Derived.WalkLawsBesides
import Derived.Laws.BitsAllLaws
namespace Go.Proofs.YtlckjbangdnejaaDoor
open Go.RowKit
/-- The bytes of a slice. -/
def Row (w : World) (a : Option Addr) (l : List Nat) : Prop :=
  l = [] ∨ ∃ b off, a = some ⟨b, off, none⟩ ∧ ∀ i, i < l.length → w.cell? ⟨b, off + i, none⟩ = some (.int .u8 (l.getD i 0 : Nat))
theorem cell_lt {w : World} {p : Addr} {v : Value} (h : w.cell? p = some v) : p.block < w.heap.size := by
  refine Nat.lt_of_not_le fun hle => ?_
  have : w.heap[p.block]? = none := by simp [hle]
  simp [World.cell?, this] at h
theorem Row.below {w w' : World} {a : Option Addr} {l : List Nat} (h : Row w a l) (hb : Below w.heap.size w w') : Row w' a l := by
  rcases h with h | ⟨b, off, e, hc⟩
  · exact .inl h
  · exact .inr ⟨b, off, e, fun i hi => (hb.cell (p := ⟨b, off + i, none⟩) (cell_lt (p := ⟨b, off + i, none⟩) (hc i hi))).trans (hc i hi)⟩
theorem Row.take {w : World} {a : Option Addr} {l : List Nat} (h : Row w a l) (n : Nat) : Row w a (l.take n) := by
  rcases h with h | ⟨b, off, e, hc⟩
  · exact .inl (by simp [h])
  · refine .inr ⟨b, off, e, fun i hi => ?_⟩
    simp only [List.length_take] at hi
    rw [hc i (by omega)]
    simp [show i < n by omega]
/-- Every number is a byte. -/
def Bytes (l : List Nat) : Prop := ∀ x ∈ l, x < 256
theorem bytes_take {l : List Nat} (h : Bytes l) (k : Nat) : Bytes (l.take k) := fun x hx => h x (List.mem_of_mem_take hx)
theorem bytes_at {l : List Nat} (h : Bytes l) (k : Nat) : l.getD k 0 < 256 := by
  by_cases hk : k < l.length
  · have := h (l[k]) (List.getElem_mem hk)
    simpa [List.getD, hk] using this
  · simp [List.getD, hk]

/-- A block of its own holds the bytes. -/
def vals (l : List Nat) : List Value := l.map fun n : Nat => Value.int .u8 n
def Own (w : World) (g : Nat) (l : List Nat) : Prop := w.heap[g]? = some (.cells (vals l).toArray 5 (0, 0))
theorem Own.lt {w : World} {g : Nat} {l : List Nat} (h : Own w g l) : g < w.heap.size := (Array.getElem?_eq_some_iff.1 h).1
theorem Own.below {w w' : World} {g B : Nat} {l : List Nat} (h : Own w g l) (hB : g < B) (hb : Below B w w') : Own w' g l := (hb.block g hB).trans h
theorem Own.of_row {w : World} {base g n : Nat} {xs : List Value} (l : List Nat) (hx : xs = vals l) (h : w.ownsRow base 5 1 (.slice (some ⟨g, 0, none⟩) n n) n xs) : Own w g l := by
  obtain ⟨hlen, h⟩ := h
  rcases h with ⟨h, _⟩ | ⟨g', cap, cur, e, _, hh, _, _, hs, ht⟩
  · cases h
  · cases e
    have : cur.toList = xs := by rw [← ht, List.take_of_length_le (by simp [hs])]
    unfold Own
    rw [hh, ← hx, ← this]
theorem Own.cell {w : World} {g : Nat} {l : List Nat} (h : Own w g l) (i : Nat) (hi : i < l.length) : w.cell? ⟨g, i, none⟩ = some (.int .u8 (l.getD i 0 : Nat)) := by
  rw [cell_of_row w g i _ 5 (0, 0) h]
  simp [vals, hi]
theorem Own.row {w : World} {g : Nat} {l : List Nat} (h : Own w g l) : Row w (some ⟨g, 0, none⟩) l :=
  .inr ⟨g, 0, rfl, fun i hi => by rw [Nat.zero_add]; exact h.cell i hi⟩
theorem Own.free {w : World} {g : Nat} {l : List Nat} (h : Own w g l) (i : Nat) : w.frozen? ⟨g, i, none⟩ = false := frozen_of_row w g i _ 5 h
theorem Own.set {w : World} {g : Nat} {l : List Nat} (h : Own w g l) (i v : Nat) : Own (w.setCell ⟨g, i, none⟩ (.int .u8 v)) g (l.set i v) := by
  unfold Own
  rw [heap_setCell_same w g i _ 5 _ h]
  simp [vals, List.map_set]
theorem Tryd.infoU8 : (Tryd.prog.info? 5).map (fun i => (i.zero, i.size, i.bytes)) = some (some (.int .u8 0), 1, 1) := by kernel_rfl
theorem vals_zero (n : Nat) : (madeCells (Value.int .u8 0).cells (n * 1)).toList = vals (List.replicate n 0) := by
  rw [show (Value.int .u8 0).cells = #[.int .u8 0] from rfl, toList_madeCells_one]
  simp [vals]

theorem copy_step (l : List Nat) (k : Nat) (h : k < l.length) : (l.take k ++ List.replicate (l.length - k) 0).set k (l.getD k 0) = l.take (k + 1) ++ List.replicate (l.length - (k + 1)) 0 := by
  rw [List.take_succ_eq_append_getElem h, List.set_append_right _ _ (by simp; omega)]
  rw [List.length_take, Nat.min_eq_left (by omega), Nat.sub_self, show l.length - k = l.length - (k + 1) + 1 by omega, List.replicate_succ, List.set_cons_zero, List.append_assoc, show l.getD k 0 = l[k] by simp [h]]
  rfl
end Go.Proofs.YtlckjbangdnejaaDoor
