/-
  The two pads as a Lean structure; how a block holds their cells, what stays of it; two of them are equal just if their fields are.
-/
import Derived.WalkKit
import Derived.WalkSpells
import Derived.WalkLawsBesides
import Derived.Laws.StructEq
import Derived.Laws.BitsAllLaws
import Derived.Deep.MidRow
import Derived.Deep.DeepCutAuto
import Derived.Deep.CutBlock
import Derived.BigGuard
import Derived.BigRegion
import Derived.Deep.QuietTactic
import Derived.BigQuiet
import Derived.ChangeKeysEq
import Derived.Test.YtkebkbiabdlomaaRows
set_option linter.unusedSimpArgs false
set_option linter.unusedVariables false
namespace Go.Proofs.Ytkebkbiabdlomaa
open Go.RowKit Classical
/-- The strobe, what is held, the shift registers. -/
structure Pd where
  s : Bool
  h0 : Int
  h1 : Int
  p0 : Int
  p1 : Int
theorem Pd.ext_iff' (a b : Pd) : a = b ↔ a.s = b.s ∧ a.h0 = b.h0 ∧ a.h1 = b.h1 ∧ a.p0 = b.p0 ∧ a.p1 = b.p1 := by
  obtain ⟨a1, a2, a3, a4, a5⟩ := a
  obtain ⟨b1, b2, b3, b4, b5⟩ := b
  simp
/-- Each byte is one. -/
structure Pd.Ok (p : Pd) : Prop where
  a0 : 0 ≤ p.h0
  a1 : p.h0 ≤ 255
  b0 : 0 ≤ p.h1
  b1 : p.h1 ≤ 255
  c0 : 0 ≤ p.p0
  c1 : p.p0 ≤ 255
  d0 : 0 ≤ p.p1
  d1 : p.p1 ≤ 255
def Pd.set (p : Pd) (a b : Int) : Pd := ⟨p.s, a, b, if p.s then a else p.p0, if p.s then b else p.p1⟩
def Pd.wr (p : Pd) (v : Int) : Pd := ⟨decide (v % 2 = 1), p.h0, p.h1, if p.s || decide (v % 2 = 1) then p.h0 else p.p0, if p.s || decide (v % 2 = 1) then p.h1 else p.p1⟩
def Pd.rdV (p : Pd) (k : Int) : Int := if k = 0 then (if p.s then p.h0 % 2 else p.p0 % 2) else if k = 1 then (if p.s then p.h1 % 2 else p.p1 % 2) else 0
def Pd.rd (p : Pd) (k : Int) : Pd := ⟨p.s, p.h0, p.h1, if k = 0 ∧ p.s = false then p.p0 / 2 + 128 else p.p0, if k = 1 ∧ p.s = false then p.p1 / 2 + 128 else p.p1⟩
theorem Pd.set_ok {p : Pd} (o : p.Ok) {a b : Int} (a0 : 0 ≤ a) (a1 : a ≤ 255) (b0 : 0 ≤ b) (b1 : b ≤ 255) : (p.set a b).Ok := by
  refine ⟨a0, a1, b0, b1, ?_, ?_, ?_, ?_⟩ <;> simp only [Pd.set] <;> split <;> first | assumption | exact o.c0 | exact o.c1 | exact o.d0 | exact o.d1
theorem Pd.wr_ok {p : Pd} (o : p.Ok) (v : Int) : (p.wr v).Ok := by
  refine ⟨o.a0, o.a1, o.b0, o.b1, ?_, ?_, ?_, ?_⟩ <;> simp only [Pd.wr] <;> split <;> first | exact o.a0 | exact o.a1 | exact o.b0 | exact o.b1 | exact o.c0 | exact o.c1 | exact o.d0 | exact o.d1
theorem Pd.rd_ok {p : Pd} (o : p.Ok) (k : Int) : (p.rd k).Ok := by
  have := o.c0; have := o.c1; have := o.d0; have := o.d1
  refine ⟨o.a0, o.a1, o.b0, o.b1, ?_, ?_, ?_, ?_⟩ <;> simp only [Pd.rd] <;> split <;> omega
theorem Pd.rdV_ok (p : Pd) (k : Int) : 0 ≤ p.rdV k ∧ p.rdV k ≤ 1 := by
  unfold Pd.rdV
  repeat' split
  all_goals omega
theorem cell_lt {w : World} {p : Addr} {v : Value} (h : w.cell? p = some v) : p.block < w.heap.size := by
  refine Nat.lt_of_not_le fun hle => ?_
  have : w.heap[p.block]? = none := by simp [hle]
  simp [World.cell?, this] at h
/-- The block b holds just these cells. -/
def Blk (w : World) (b : Nat) (cs : Array Value) (t : TypeId) : Prop := w.heap[b]? = some (.cells cs t (0, 0))
theorem Blk.lt {w : World} {b : Nat} {cs : Array Value} {t : TypeId} (h : Blk w b cs t) : b < w.heap.size := (Array.getElem?_eq_some_iff.1 h).1
theorem Blk.cell {w : World} {b : Nat} {cs : Array Value} {t : TypeId} (h : Blk w b cs t) (i : Nat) : w.cell? ⟨b, i, none⟩ = cs[i]? := cell_of_row w b i cs t (0, 0) h
theorem Blk.free {w : World} {b : Nat} {cs : Array Value} {t : TypeId} (h : Blk w b cs t) (i : Nat) : w.frozen? ⟨b, i, none⟩ = false := frozen_of_row w b i cs t h
theorem Blk.set {w : World} {b : Nat} {cs : Array Value} {t : TypeId} (h : Blk w b cs t) (i : Nat) (v : Value) : Blk (w.setCell ⟨b, i, none⟩ v) b (cs.setIfInBounds i v) t := heap_setCell_same w b i cs t v h
theorem Blk.other {w : World} {b m : Nat} {cs : Array Value} {t : TypeId} (h : Blk w b cs t) (hn : b ≠ m) (i : Nat) (v : Value) : Blk (w.setCell ⟨m, i, none⟩ v) b cs t := (Below.heap_setCell w ⟨m, i, none⟩ v b hn).trans h
theorem Blk.below {w w' : World} {b B : Nat} {cs : Array Value} {t : TypeId} (h : Blk w b cs t) (hB : b < B) (hb : Below B w w') : Blk w' b cs t := (hb.block b hB).trans h
theorem Blk.drew {w : World} {b : Nat} {cs : Array Value} {t : TypeId} (h : Blk w b cs t) : Blk w.drew b cs t := h
theorem Blk.new (w : World) (cs : Array Value) (t : TypeId) : Blk (w.alloc (.cells cs t)) w.heap.size cs t := heap_alloc_new w _
theorem Blk.old {w : World} {b : Nat} {cs : Array Value} {t : TypeId} (h : Blk w b cs t) (o : Obj) : Blk (w.alloc o) b cs t := (Below.heap_alloc w o b h.lt).trans h
theorem Blk.range' {w : World} {b : Nat} {cs : Array Value} {t : TypeId} (h : Blk w b cs t) : w.rangeAt b 0 cs.toList := fun j v hv => by
  rw [Nat.zero_add, h.cell j]; simpa using hv
theorem Blk.there' {w : World} {b : Nat} {cs : Array Value} {t : TypeId} (h : Blk w b cs t) (n : Nat) (hn : cs.size = n) : w.there b 0 n := fun j hj => by
  rw [Nat.zero_add, h.cell j]; exact ⟨by simp; omega, h.free j⟩
theorem setCells_below' {B b : Nat} (hB : B ≤ b) : ∀ (vs : List Value) (o : Nat) (a w : World), Below B a w → Below B a (w.setCells b o vs)
  | [], _, _, _, h => h
  | _ :: vs, o, a, _, h => setCells_below' hB vs (o + 1) a _ (h.setCell (p := ⟨b, o, none⟩) hB _)
theorem below_draws {B : Nat} {a w : World} (h : Below B a w) : ∀ n, Below B a (w.drewN n)
  | 0 => h
  | n + 1 => (below_draws h n).drew
theorem bcell {B : Nat} {W w1 : World} (hb : Below B W w1) : (∀ b o, b < B → w1.cell? ⟨b, o, none⟩ = W.cell? ⟨b, o, none⟩) ∧ (∀ b o, b < B → w1.frozen? ⟨b, o, none⟩ = W.frozen? ⟨b, o, none⟩) :=
  ⟨fun b o h => hb.cell (p := ⟨b, o, none⟩) h, fun b o h => hb.frozen (p := ⟨b, o, none⟩) h⟩
/-- The cells of the pads. -/
def Pd.cells (r : Pd) : Array Value := #[.bool r.s, .int .u8 r.h0, .int .u8 r.h1, .int .u8 r.p0, .int .u8 r.p1]
section
variable {P : Program} (w : World)
theorem eqFields_step {d : Nat} {xs ys : Array Value} {f : Field} {fs : List Field} {a b : Value} {r r' : Bool} (hn : (f.name ≠ "_") = True) (hx : (part f.type xs f.offset).run P w = .ok a w) (hy : (part f.type ys f.offset).run P w = .ok b w)
    (he : (Op.equalIn d f.type a b).run P w = .ok r w) (hr : (Op.eqFields d xs ys fs).run P w = .ok r' w) : (Op.eqFields d xs ys (f :: fs)).run P w = .ok (r && r') w := by
  simp only [Op.eqFields, hn, if_true, Sem.run_bind, hx, hy, he, Result.andThen_ok]
  cases r
  · simp
  · simpa using hr
end
section
variable {P : Program} (w : World)
theorem eqItems_step {d c i : Nat} {e : TypeId} {xs ys : Array Value} {is : List Nat} {a b : Value} {r r' : Bool} (hx : (part e xs (i * c)).run P w = .ok a w) (hy : (part e ys (i * c)).run P w = .ok b w)
    (he : (Op.equalIn d e a b).run P w = .ok r w) (hr : (Op.eqItems d e c xs ys is).run P w = .ok r' w) : (Op.eqItems d e c xs ys (i :: is)).run P w = .ok (r && r') w := by
  simp only [Op.eqItems, Sem.run_bind, hx, hy, he, Result.andThen_ok]
  cases r
  · simp
  · simpa using hr
end
theorem eq2 (w : World) (d : Nat) (a0 a1 c0 c1 : Int) : (Op.equalIn (d + 2) 23 (.agg #[.int .u8 a0, .int .u8 a1]) (.agg #[.int .u8 c0, .int .u8 c1])).run Try.prog w = .ok ((a0 == c0) && ((a1 == c1) && true)) w := by
  obtain ⟨i, hi⟩ : ∃ i, Try.prog.info? 5 = some i := by
    cases h : Try.prog.info? 5 with
    | none => exact absurd (by kernel_rfl : (Try.prog.info? 5).isSome = true) (by simp [h])
    | some i => exact ⟨i, rfl⟩
  rw [run_equalIn_array w (d + 1) _ _ Try.underlying23 hi]
  have hu := fun (a b : Int) => run_equalIn_int (P := Try.prog) w d 5 .u8 .u8 a b Try.underlying5
  have hc : Try.prog.cellsOf 5 = 1 := by kernel_rfl
  have hr : List.range 2 = [0, 1] := rfl
  rw [hc, hr]
  iterate 2 refine eqItems_step w (by kernel_rfl) (by kernel_rfl) (hu _ _) ?_
  rfl
set_option maxRecDepth 100000 in
theorem eqP0 (w : World) (b d : Pd) : (Op.equalIn 10000 25 (.agg b.cells) (.agg d.cells)).run Try.prog w = .ok (decide (b = d)) w := by
  have hb := fun (a b : Bool) => run_equalIn_bool (P := Try.prog) w 9998 4 a b Try.underlying4
  have h2 := eq2 w 9997
  rw [run_equalIn_struct w 9999 25 _ _ (by kernel_rfl) (by kernel_rfl)]
  simp only [Program.fieldsOf, Try.underlying25, Pd.cells]
  refine Eq.trans (b := .ok ((b.s == d.s) && (((b.h0 == d.h0) && ((b.h1 == d.h1) && true)) && (((b.p0 == d.p0) && ((b.p1 == d.p1) && true)) && true))) w) ?_ ?_
  · refine eqFields_step w (by simp) (by kernel_rfl) (by kernel_rfl) (hb _ _) ?_
    refine eqFields_step w (by simp) (by kernel_rfl) (by kernel_rfl) (h2 _ _ _ _) ?_
    refine eqFields_step w (by simp) (by kernel_rfl) (by kernel_rfl) (h2 _ _ _ _) ?_
    rfl
  · congr 1
    rw [Bool.eq_iff_iff]
    simp only [Bool.and_eq_true, beq_iff_eq, decide_eq_true_eq, and_true, Pd.ext_iff', and_assoc]
theorem neqP (w : World) (b d : Pd) : (binOp .neq 25 (.agg b.cells) (.agg d.cells)).run Try.prog w = .ok (.bool (!decide (b = d))) w := by
  rw [run_neq_struct, eqP0 w b d]; rfl
theorem eqlP (w : World) (b d : Pd) : (binOp .eql 25 (.agg b.cells) (.agg d.cells)).run Try.prog w = .ok (.bool (decide (b = d))) w := by
  rw [run_eql_struct, eqP0 w b d]; rfl
theorem infoP : (Try.prog.info? 25).map (·.size) = some 5 := by kernel_rfl
theorem Pd.cells_one (r : Pd) : r.cells.all (·.oneCell') = true := by kernel_rfl
theorem infoP' (r : Pd) : (Try.prog.info? 25).map (·.size) = some r.cells.size := infoP
theorem bitsN_and (a b : Nat) (ha : a < 256) (hb : b < 256) : bits .and .u8 (a : Int) (b : Int) = ((a &&& b : Nat) : Int) := u8_and_nat a b ha hb
theorem nat_and1 (a : Nat) (h : a < 256) : a &&& 1 = a % 2 := by revert a; decide +kernel
theorem and1 (x : Int) (h0 : 0 ≤ x) (h1 : x ≤ 255) : bits .and .u8 x 1 = x % 2 := by
  obtain ⟨k, rfl⟩ := Int.eq_ofNat_of_zero_le h0
  have := bitsN_and k 1 (by omega) (by decide)
  rw [nat_and1 k (by omega)] at this
  refine this.trans ?_
  omega
end Go.Proofs.Ytkebkbiabdlomaa
