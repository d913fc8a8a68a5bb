/-
  A cartridge's cells written out, and that leastRest keeps what lay there; conditions: the cells hold its numbers and lists.
-/
import Derived.Test.YtpdbndkckioamaaDoorChkCart2
set_option linter.unusedSimpArgs false
set_option linter.unusedVariables false
namespace Go.Proofs.YtpdbndkckioamaaDoor
open Go.RowKit
theorem least_keep (cs : Array Value) (c : CF) (C : IsC cs c) (w0 w : World) (hb : Below w0.heap.size w0 w) :
    Calls Tryd.prog 65 #[.agg cs] w fun e w' => e = .returned (.int .i64 (leastV c)) ∧ Below w0.heap.size w0 w' ∧ (∀ p v, w.cell? p = some v → w'.cell? p = some v) := by
  refine (least_any cs c C w).mono ?_
  rintro e w' ⟨he, hbb⟩
  exact ⟨he, hb.trans (hbb.mono hb.size), fun p v h => (hbb.cell (cell_lt h)).trans h⟩
theorem IsC.lit {cs : Array Value} {c : CF} (C : IsC cs c) : ∃ a15 k15 a16 k16 a17 k17 a18 k18, cs = #[.int .i64 c.fmt, .int .i64 c.map, .int .i64 c.sub, .bool c.vert, .bool c.four, .bool c.bat, .int .i64 c.con, .int .i64 c.kind, .int .i64 c.tim, .int .i64 c.dev, .int .i64 c.misc, .int .i64 c.pr, .int .i64 c.pn, .int .i64 c.cr, .int .i64 c.cn, .slice a15 c.nt k15, .slice a16 c.np k16, .slice a17 c.nq k17, .slice a18 c.nr k18] := by
  obtain ⟨a15, k15, e15⟩ := C.h15
  obtain ⟨a16, k16, e16⟩ := C.h16
  obtain ⟨a17, k17, e17⟩ := C.h17
  obtain ⟨a18, k18, e18⟩ := C.h18
  refine ⟨a15, k15, a16, k16, a17, k17, a18, k18, ?_⟩
  apply Array.ext_getElem?
  intro i
  match i with
  | 0 => exact C.h0
  | 1 => exact C.h1
  | 2 => exact C.h2
  | 3 => exact C.h3
  | 4 => exact C.h4
  | 5 => exact C.h5
  | 6 => exact C.h6
  | 7 => exact C.h7
  | 8 => exact C.h8
  | 9 => exact C.h9
  | 10 => exact C.h10
  | 11 => exact C.h11
  | 12 => exact C.h12
  | 13 => exact C.h13
  | 14 => exact C.h14
  | 15 => exact e15
  | 16 => exact e16
  | 17 => exact e17
  | 18 => exact e18
  | j + 19 => rw [Array.getElem?_eq_none (by rw [C.size]; omega), Array.getElem?_eq_none (by simp)]
/-- What a region that reads a cartridge's cells may lean on. -/
abbrev CartS (c : CF) (B : Nat) (a15 a16 a17 a18 : Option Addr) (k15 k16 k17 k18 : Nat) (w w' : World) : Prop := w'.cell? ⟨B, 0, none⟩ = some (.int .i64 c.fmt) ∧ w'.cell? ⟨B, 1, none⟩ = some (.int .i64 c.map) ∧ w'.cell? ⟨B, 2, none⟩ = some (.int .i64 c.sub) ∧ w'.cell? ⟨B, 3, none⟩ = some (.bool c.vert) ∧ w'.cell? ⟨B, 4, none⟩ = some (.bool c.four) ∧ w'.cell? ⟨B, 5, none⟩ = some (.bool c.bat) ∧ w'.cell? ⟨B, 6, none⟩ = some (.int .i64 c.con) ∧ w'.cell? ⟨B, 7, none⟩ = some (.int .i64 c.kind) ∧ w'.cell? ⟨B, 8, none⟩ = some (.int .i64 c.tim) ∧ w'.cell? ⟨B, 9, none⟩ = some (.int .i64 c.dev) ∧ w'.cell? ⟨B, 10, none⟩ = some (.int .i64 c.misc) ∧ w'.cell? ⟨B, 11, none⟩ = some (.int .i64 c.pr) ∧ w'.cell? ⟨B, 12, none⟩ = some (.int .i64 c.pn) ∧ w'.cell? ⟨B, 13, none⟩ = some (.int .i64 c.cr) ∧ w'.cell? ⟨B, 14, none⟩ = some (.int .i64 c.cn) ∧ w'.cell? ⟨B, 15, none⟩ = some (.slice a15 c.nt k15) ∧ w'.cell? ⟨B, 16, none⟩ = some (.slice a16 c.np k16) ∧ w'.cell? ⟨B, 17, none⟩ = some (.slice a17 c.nq k17) ∧ w'.cell? ⟨B, 18, none⟩ = some (.slice a18 c.nr k18) ∧ Below w.heap.size w w'
theorem CartS.keep {c : CF} {B : Nat} {a15 a16 a17 a18 : Option Addr} {k15 k16 k17 k18 : Nat} {w w1 w2 : World} (hk : ∀ p v, w1.cell? p = some v → w2.cell? p = some v) (hb : Below w.heap.size w w2) (h : CartS c B a15 a16 a17 a18 k15 k16 k17 k18 w w1) : CartS c B a15 a16 a17 a18 k15 k16 k17 k18 w w2 := by
  obtain ⟨h0, h1, h2, h3, h4, h5, h6, h7, h8, h9, h10, h11, h12, h13, h14, h15, h16, h17, h18, _⟩ := h
  exact ⟨hk _ _ h0, hk _ _ h1, hk _ _ h2, hk _ _ h3, hk _ _ h4, hk _ _ h5, hk _ _ h6, hk _ _ h7, hk _ _ h8, hk _ _ h9, hk _ _ h10, hk _ _ h11, hk _ _ h12, hk _ _ h13, hk _ _ h14, hk _ _ h15, hk _ _ h16, hk _ _ h17, hk _ _ h18, hb⟩
theorem CartS.of {c : CF} {B : Nat} {a15 a16 a17 a18 : Option Addr} {k15 k16 k17 k18 : Nat} {w w1 : World} (b : Blk w1 B #[.int .i64 c.fmt, .int .i64 c.map, .int .i64 c.sub, .bool c.vert, .bool c.four, .bool c.bat, .int .i64 c.con, .int .i64 c.kind, .int .i64 c.tim, .int .i64 c.dev, .int .i64 c.misc, .int .i64 c.pr, .int .i64 c.pn, .int .i64 c.cr, .int .i64 c.cn, .slice a15 c.nt k15, .slice a16 c.np k16, .slice a17 c.nq k17, .slice a18 c.nr k18] 25) (hb : Below w.heap.size w w1) : CartS c B a15 a16 a17 a18 k15 k16 k17 k18 w w1 :=
  ⟨b.cell 0, b.cell 1, b.cell 2, b.cell 3, b.cell 4, b.cell 5, b.cell 6, b.cell 7, b.cell 8, b.cell 9, b.cell 10, b.cell 11, b.cell 12, b.cell 13, b.cell 14, b.cell 15, b.cell 16, b.cell 17, b.cell 18, hb⟩

theorem range_keep {w w' : World} {b o : Nat} {l : List Value} (hk : ∀ p v, w.cell? p = some v → w'.cell? p = some v) (h : w.rangeAt b o l) : w'.rangeAt b o l := fun j v hv => hk _ _ (h j v hv)
theorem rest_keep {w w1 w2 : World} {B n k : Nat} {a : Option Addr} {l : List Value} (hk : ∀ p v, w1.cell? p = some v → w2.cell? p = some v) (hb : Below w.heap.size w w2)
    (h : w1.rangeAt B 0 l ∧ w1.cell? ⟨B, 18, none⟩ = some (.slice a n k) ∧ Below w.heap.size w w1) : w2.rangeAt B 0 l ∧ w2.cell? ⟨B, 18, none⟩ = some (.slice a n k) ∧ Below w.heap.size w w2 :=
  ⟨range_keep hk h.1, hk _ _ h.2.1, hb⟩
end Go.Proofs.YtpdbndkckioamaaDoor
