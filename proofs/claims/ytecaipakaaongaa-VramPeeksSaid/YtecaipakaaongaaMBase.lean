/-
  A board as a plain value: its fields, the cells that hold it, and that two boards are equal just if their fields are; conditions: the numbers fit their kinds.
-/
import Derived.Test.YtecaipakaaongaaRows
import Derived.WalkKit
import Derived.WalkSpells
import Derived.WalkLawsBesides
import Derived.Laws.BitsAllLaws
import Derived.Deep.MidRow
import Derived.Deep.DeepCutAuto
import Derived.ChangeKeysEq
import Derived.BigGuard
import Derived.BigRegion
import Derived.Deep.QuietTactic
import Derived.BigQuiet
import Derived.StillTailTactics
namespace Go.Proofs.Ytecaipakaaongaa
open Go.RowKit Classical
theorem cell_lt {w : World} {p : Addr} {v : Value} (h : w.cell? p = some v) : p.block < w.heap.size := by
  refine Nat.lt_of_not_le fun hle => ?_
  have : w.heap[p.block]? = none := by simp [hle]
  simp [World.cell?, this] at h
/-- The block b holds just these cells. -/
def Blk (w : World) (b : Nat) (cs : Array Value) (t : TypeId) : Prop := w.heap[b]? = some (.cells cs t (0, 0))
theorem Blk.lt {w : World} {b : Nat} {cs : Array Value} {t : TypeId} (h : Blk w b cs t) : b < w.heap.size := (Array.getElem?_eq_some_iff.1 h).1
theorem Blk.cell {w : World} {b : Nat} {cs : Array Value} {t : TypeId} (h : Blk w b cs t) (i : Nat) : w.cell? ⟨b, i, none⟩ = cs[i]? := cell_of_row w b i cs t (0, 0) h
theorem Blk.free {w : World} {b : Nat} {cs : Array Value} {t : TypeId} (h : Blk w b cs t) (i : Nat) : w.frozen? ⟨b, i, none⟩ = false := frozen_of_row w b i cs t h
theorem Blk.set {w : World} {b : Nat} {cs : Array Value} {t : TypeId} (h : Blk w b cs t) (i : Nat) (v : Value) : Blk (w.setCell ⟨b, i, none⟩ v) b (cs.setIfInBounds i v) t := heap_setCell_same w b i cs t v h
theorem Blk.other {w : World} {b m : Nat} {cs : Array Value} {t : TypeId} (h : Blk w b cs t) (hn : b ≠ m) (i : Nat) (v : Value) : Blk (w.setCell ⟨m, i, none⟩ v) b cs t := (Below.heap_setCell w ⟨m, i, none⟩ v b hn).trans h
theorem Blk.below {w w' : World} {b B : Nat} {cs : Array Value} {t : TypeId} (h : Blk w b cs t) (hB : b < B) (hb : Below B w w') : Blk w' b cs t := (hb.block b hB).trans h
theorem Blk.drew {w : World} {b : Nat} {cs : Array Value} {t : TypeId} (h : Blk w b cs t) : Blk w.drew b cs t := h
theorem Blk.range {w : World} {b : Nat} {cs : Array Value} {t : TypeId} (h : Blk w b cs t) : w.rangeAt b 0 cs.toList := fun j v hv => by
  rw [Nat.zero_add, h.cell j]; simpa using hv
theorem Blk.there {w : World} {b : Nat} {cs : Array Value} {t : TypeId} (h : Blk w b cs t) (n : Nat) (hn : cs.size = n) : w.there b 0 n := fun j hj => by
  rw [Nat.zero_add, h.cell j]; exact ⟨by simp; omega, h.free j⟩
theorem Blk.new (w : World) (cs : Array Value) (t : TypeId) : Blk (w.alloc (.cells cs t)) w.heap.size cs t := heap_alloc_new w _
theorem Blk.old {w : World} {b : Nat} {cs : Array Value} {t : TypeId} (h : Blk w b cs t) (o : Obj) : Blk (w.alloc o) b cs t := (Below.heap_alloc w o b h.lt).trans h
theorem setCells_below {B b : Nat} (hB : B ≤ b) : ∀ (vs : List Value) (o : Nat) (a w : World), Below B a w → Below B a (w.setCells b o vs)
  | [], _, _, _, h => h
  | _ :: vs, o, a, _, h => setCells_below hB vs (o + 1) a _ (h.setCell (p := ⟨b, o, none⟩) hB _)
theorem results_cell {fn : Func} {p : Tmp} {ty : TypeId} (h : fn.results = #[.cell p ty]) (tmps : Array Value) (P : Program) (w : World) :
    (results fn tmps).run P w = ((asAddr (tmps.getD p undef)).run P w).andThen fun a w₁ => (loadVar ty a).run P w₁ := by
  simp only [results, h]
  simp [Sem.run_bind, Result.andThen]

/-- A board. -/
structure Bd where
  kind : Int
  sub : Int
  hard : Int
  work : Bool
  prg : Int
  chr : Int
  chrRam : Bool
  shift : Int
  ctrl : Int
  chrA : Int
  chrB : Int
  prgR : Int
  last : Int
  latch : Int
  sel : Int
  r : List Int
  turn : Int
  guard : Int
  iLatch : Int
  iCount : Int
  iLoad : Bool
  iOn : Bool
  irq : Bool
  epoch : Int
theorem Bd.ext {a b : Bd} (e0 : a.kind = b.kind) (e1 : a.sub = b.sub) (e2 : a.hard = b.hard) (e3 : a.work = b.work) (e4 : a.prg = b.prg) (e5 : a.chr = b.chr) (e6 : a.chrRam = b.chrRam) (e7 : a.shift = b.shift) (e8 : a.ctrl = b.ctrl) (e9 : a.chrA = b.chrA) (e10 : a.chrB = b.chrB) (e11 : a.prgR = b.prgR) (e12 : a.last = b.last) (e13 : a.latch = b.latch) (e14 : a.sel = b.sel) (e15 : a.r = b.r) (e16 : a.turn = b.turn) (e17 : a.guard = b.guard) (e18 : a.iLatch = b.iLatch) (e19 : a.iCount = b.iCount) (e20 : a.iLoad = b.iLoad) (e21 : a.iOn = b.iOn) (e22 : a.irq = b.irq) (e23 : a.epoch = b.epoch) : a = b := by
  obtain ⟨a0, a1, a2, a3, a4, a5, a6, a7, a8, a9, a10, a11, a12, a13, a14, a15, a16, a17, a18, a19, a20, a21, a22, a23⟩ := a
  obtain ⟨b0, b1, b2, b3, b4, b5, b6, b7, b8, b9, b10, b11, b12, b13, b14, b15, b16, b17, b18, b19, b20, b21, b22, b23⟩ := b
  simp only at e0 e1 e2 e3 e4 e5 e6 e7 e8 e9 e10 e11 e12 e13 e14 e15 e16 e17 e18 e19 e20 e21 e22 e23
  subst e0 e1 e2 e3 e4 e5 e6 e7 e8 e9 e10 e11 e12 e13 e14 e15 e16 e17 e18 e19 e20 e21 e22 e23
  rfl
theorem Bd.ext_iff {a b : Bd} : a = b ↔ a.kind = b.kind ∧ a.sub = b.sub ∧ a.hard = b.hard ∧ a.work = b.work ∧ a.prg = b.prg ∧ a.chr = b.chr ∧ a.chrRam = b.chrRam ∧ a.shift = b.shift ∧ a.ctrl = b.ctrl ∧ a.chrA = b.chrA ∧ a.chrB = b.chrB ∧ a.prgR = b.prgR ∧ a.last = b.last ∧ a.latch = b.latch ∧ a.sel = b.sel ∧ a.r = b.r ∧ a.turn = b.turn ∧ a.guard = b.guard ∧ a.iLatch = b.iLatch ∧ a.iCount = b.iCount ∧ a.iLoad = b.iLoad ∧ a.iOn = b.iOn ∧ a.irq = b.irq ∧ a.epoch = b.epoch :=
  ⟨fun h => by subst h; exact ⟨rfl, rfl, rfl, rfl, rfl, rfl, rfl, rfl, rfl, rfl, rfl, rfl, rfl, rfl, rfl, rfl, rfl, rfl, rfl, rfl, rfl, rfl, rfl, rfl⟩, fun ⟨e0, e1, e2, e3, e4, e5, e6, e7, e8, e9, e10, e11, e12, e13, e14, e15, e16, e17, e18, e19, e20, e21, e22, e23⟩ => Bd.ext e0 e1 e2 e3 e4 e5 e6 e7 e8 e9 e10 e11 e12 e13 e14 e15 e16 e17 e18 e19 e20 e21 e22 e23⟩
/-- The same board, field by field. -/
def sameB (x b : Bd) : Bool := (x.kind == b.kind) && (x.sub == b.sub) && (x.hard == b.hard) && (x.work == b.work) && (x.prg == b.prg) && (x.chr == b.chr) && (x.chrRam == b.chrRam) && (x.shift == b.shift) && (x.ctrl == b.ctrl) && (x.chrA == b.chrA) && (x.chrB == b.chrB) && (x.prgR == b.prgR) && (x.last == b.last) && (x.latch == b.latch) && (x.sel == b.sel) && (x.r == b.r) && (x.turn == b.turn) && (x.guard == b.guard) && (x.iLatch == b.iLatch) && (x.iCount == b.iCount) && (x.iLoad == b.iLoad) && (x.iOn == b.iOn) && (x.irq == b.irq) && (x.epoch == b.epoch)
theorem sameB_dec (x b : Bd) : sameB x b = decide (x = b) := by
  rw [Bool.eq_iff_iff]
  simp only [sameB, Bool.and_eq_true, beq_iff_eq, decide_eq_true_eq, Bd.ext_iff, and_assoc]
theorem sameB_eq {x b : Bd} (h : sameB x b = true) : x = b := by
  rw [sameB_dec] at h
  exact of_decide_eq_true h
/-- The numbers fit their kinds. -/
structure Bd.Wf (b : Bd) : Prop where
  kind : -9223372036854775808 ≤ b.kind ∧ b.kind ≤ 9223372036854775807
  sub : -9223372036854775808 ≤ b.sub ∧ b.sub ≤ 9223372036854775807
  hard : 0 ≤ b.hard ∧ b.hard ≤ 255
  prg : -9223372036854775808 ≤ b.prg ∧ b.prg ≤ 9223372036854775807
  chr : -9223372036854775808 ≤ b.chr ∧ b.chr ≤ 9223372036854775807
  shift : 0 ≤ b.shift ∧ b.shift ≤ 255
  ctrl : 0 ≤ b.ctrl ∧ b.ctrl ≤ 255
  chrA : 0 ≤ b.chrA ∧ b.chrA ≤ 255
  chrB : 0 ≤ b.chrB ∧ b.chrB ≤ 255
  prgR : 0 ≤ b.prgR ∧ b.prgR ≤ 255
  last : -9223372036854775808 ≤ b.last ∧ b.last ≤ 9223372036854775807
  latch : 0 ≤ b.latch ∧ b.latch ≤ 255
  sel : 0 ≤ b.sel ∧ b.sel ≤ 255
  turn : 0 ≤ b.turn ∧ b.turn ≤ 255
  guard : 0 ≤ b.guard ∧ b.guard ≤ 255
  iLatch : 0 ≤ b.iLatch ∧ b.iLatch ≤ 255
  iCount : 0 ≤ b.iCount ∧ b.iCount ≤ 255
  epoch : -9223372036854775808 ≤ b.epoch ∧ b.epoch ≤ 9223372036854775807
  rlen : b.r.length = 8
  rall : ∀ x ∈ b.r, 0 ≤ x ∧ x ≤ 255
/-- The cells of a board. -/
def Bd.cells (b : Bd) : Array Value := (([.int .i64 b.kind, .int .i64 b.sub, .int .u8 b.hard, .bool b.work, .int .i64 b.prg, .int .i64 b.chr, .bool b.chrRam, .int .u8 b.shift, .int .u8 b.ctrl, .int .u8 b.chrA, .int .u8 b.chrB, .int .u8 b.prgR, .int .i64 b.last, .int .u8 b.latch, .int .u8 b.sel] : List Value) ++ (b.r.map (Value.int .u8) ++ ([.int .u8 b.turn, .int .u8 b.guard, .int .u8 b.iLatch, .int .u8 b.iCount, .bool b.iLoad, .bool b.iOn, .bool b.irq, .int .i64 b.epoch] : List Value))).toArray
theorem Bd.eight {l : List Int} (h : l.length = 8) : ∃ a0 a1 a2 a3 a4 a5 a6 a7, l = [a0, a1, a2, a3, a4, a5, a6, a7] := by
  match l, h with
  | [a0, a1, a2, a3, a4, a5, a6, a7], _ => exact ⟨_, _, _, _, _, _, _, _, rfl⟩
/-- These are the cells of the board. -/
structure IsB (cs : Array Value) (b : Bd) : Prop where
  eq : cs = b.cells
  size : cs.size = 31
  one : cs.all (·.oneCell') = true
  h0 : cs[0]? = some (.int .i64 b.kind)
  h1 : cs[1]? = some (.int .i64 b.sub)
  h2 : cs[2]? = some (.int .u8 b.hard)
  h3 : cs[3]? = some (.bool b.work)
  h4 : cs[4]? = some (.int .i64 b.prg)
  h5 : cs[5]? = some (.int .i64 b.chr)
  h6 : cs[6]? = some (.bool b.chrRam)
  h7 : cs[7]? = some (.int .u8 b.shift)
  h8 : cs[8]? = some (.int .u8 b.ctrl)
  h9 : cs[9]? = some (.int .u8 b.chrA)
  h10 : cs[10]? = some (.int .u8 b.chrB)
  h11 : cs[11]? = some (.int .u8 b.prgR)
  h12 : cs[12]? = some (.int .i64 b.last)
  h13 : cs[13]? = some (.int .u8 b.latch)
  h14 : cs[14]? = some (.int .u8 b.sel)
  r : ∀ i, i < 8 → cs[15 + i]? = some (.int .u8 (b.r.getD i 0))
  h23 : cs[23]? = some (.int .u8 b.turn)
  h24 : cs[24]? = some (.int .u8 b.guard)
  h25 : cs[25]? = some (.int .u8 b.iLatch)
  h26 : cs[26]? = some (.int .u8 b.iCount)
  h27 : cs[27]? = some (.bool b.iLoad)
  h28 : cs[28]? = some (.bool b.iOn)
  h29 : cs[29]? = some (.bool b.irq)
  h30 : cs[30]? = some (.int .i64 b.epoch)
theorem isB (b : Bd) (h : b.r.length = 8) : IsB b.cells b := by
  obtain ⟨a0, a1, a2, a3, a4, a5, a6, a7, e⟩ := Bd.eight h
  have ec : b.cells = #[.int .i64 b.kind, .int .i64 b.sub, .int .u8 b.hard, .bool b.work, .int .i64 b.prg, .int .i64 b.chr, .bool b.chrRam, .int .u8 b.shift, .int .u8 b.ctrl, .int .u8 b.chrA, .int .u8 b.chrB, .int .u8 b.prgR, .int .i64 b.last, .int .u8 b.latch, .int .u8 b.sel, .int .u8 a0, .int .u8 a1, .int .u8 a2, .int .u8 a3, .int .u8 a4, .int .u8 a5, .int .u8 a6, .int .u8 a7, .int .u8 b.turn, .int .u8 b.guard, .int .u8 b.iLatch, .int .u8 b.iCount, .bool b.iLoad, .bool b.iOn, .bool b.irq, .int .i64 b.epoch] := by unfold Bd.cells; rw [e]; rfl
  rw [ec]
  refine { eq := ec.symm, size := rfl, one := by kernel_rfl, r := ?_, h0 := rfl, h1 := rfl, h2 := rfl, h3 := rfl, h4 := rfl, h5 := rfl, h6 := rfl, h7 := rfl, h8 := rfl, h9 := rfl, h10 := rfl, h11 := rfl, h12 := rfl, h13 := rfl, h14 := rfl, h23 := rfl, h24 := rfl, h25 := rfl, h26 := rfl, h27 := rfl, h28 := rfl, h29 := rfl, h30 := rfl }
  intro i hi
  rw [e]
  match i, hi with
  | 0, _ | 1, _ | 2, _ | 3, _ | 4, _ | 5, _ | 6, _ | 7, _ => rfl

section
variable {P : Program} (w : World)
theorem eqFields_step {d : Nat} {xs ys : Array Value} {f : Field} {fs : List Field} {a b : Value} {r r' : Bool} (hn : (f.name ≠ "_") = True) (hx : (part f.type xs f.offset).run P w = .ok a w) (hy : (part f.type ys f.offset).run P w = .ok b w)
    (he : (Op.equalIn d f.type a b).run P w = .ok r w) (hr : (Op.eqFields d xs ys fs).run P w = .ok r' w) : (Op.eqFields d xs ys (f :: fs)).run P w = .ok (r && r') w := by
  simp only [Op.eqFields, hn, if_true, Sem.run_bind, hx, hy, he, Result.andThen_ok]
  cases r
  · simp
  · simpa using hr
theorem eqItems_step {d c i : Nat} {e : TypeId} {xs ys : Array Value} {is : List Nat} {a b : Value} {r r' : Bool} (hx : (part e xs (i * c)).run P w = .ok a w) (hy : (part e ys (i * c)).run P w = .ok b w)
    (he : (Op.equalIn d e a b).run P w = .ok r w) (hr : (Op.eqItems d e c xs ys is).run P w = .ok r' w) : (Op.eqItems d e c xs ys (i :: is)).run P w = .ok (r && r') w := by
  simp only [Op.eqItems, Sem.run_bind, hx, hy, he, Result.andThen_ok]
  cases r
  · simp
  · simpa using hr
end
theorem Try.eq8 (w : World) (d : Nat) (a0 a1 a2 a3 a4 a5 a6 a7 c0 c1 c2 c3 c4 c5 c6 c7 : Int) :
    (Op.equalIn (d + 2) 35 (.agg #[.int .u8 a0, .int .u8 a1, .int .u8 a2, .int .u8 a3, .int .u8 a4, .int .u8 a5, .int .u8 a6, .int .u8 a7]) (.agg #[.int .u8 c0, .int .u8 c1, .int .u8 c2, .int .u8 c3, .int .u8 c4, .int .u8 c5, .int .u8 c6, .int .u8 c7])).run Try.prog w
      = .ok ((a0 == c0) && ((a1 == c1) && ((a2 == c2) && ((a3 == c3) && ((a4 == c4) && ((a5 == c5) && ((a6 == c6) && ((a7 == c7) && true)))))))) w := by
  obtain ⟨i, hi⟩ : ∃ i, Try.prog.info? 5 = some i := by
    cases h : Try.prog.info? 5 with
    | none => exact absurd (by kernel_rfl : (Try.prog.info? 5).isSome = true) (by simp [h])
    | some i => exact ⟨i, rfl⟩
  rw [run_equalIn_array w (d + 1) _ _ Try.underlying35 hi]
  have hu := fun (a b : Int) => run_equalIn_int (P := Try.prog) w d 5 .u8 .u8 a b Try.underlying5
  have hc : Try.prog.cellsOf 5 = 1 := by kernel_rfl
  have hr : List.range 8 = [0, 1, 2, 3, 4, 5, 6, 7] := rfl
  rw [hc, hr]
  iterate 8 refine eqItems_step w (by kernel_rfl) (by kernel_rfl) (hu _ _) ?_
  rfl

set_option maxRecDepth 100000 in
theorem Try.eqB0 (w : World) (b d : Bd) (hb : b.r.length = 8) (hd : d.r.length = 8) : (Op.equalIn 10000 37 (.agg b.cells) (.agg d.cells)).run Try.prog w = .ok (decide (b = d)) w := by
  obtain ⟨a0, a1, a2, a3, a4, a5, a6, a7, eb⟩ := Bd.eight hb
  obtain ⟨c0, c1, c2, c3, c4, c5, c6, c7, ed⟩ := Bd.eight hd
  have ecb : b.cells = #[.int .i64 b.kind, .int .i64 b.sub, .int .u8 b.hard, .bool b.work, .int .i64 b.prg, .int .i64 b.chr, .bool b.chrRam, .int .u8 b.shift, .int .u8 b.ctrl, .int .u8 b.chrA, .int .u8 b.chrB, .int .u8 b.prgR, .int .i64 b.last, .int .u8 b.latch, .int .u8 b.sel, .int .u8 a0, .int .u8 a1, .int .u8 a2, .int .u8 a3, .int .u8 a4, .int .u8 a5, .int .u8 a6, .int .u8 a7, .int .u8 b.turn, .int .u8 b.guard, .int .u8 b.iLatch, .int .u8 b.iCount, .bool b.iLoad, .bool b.iOn, .bool b.irq, .int .i64 b.epoch] := by unfold Bd.cells; rw [eb]; rfl
  have ecd : d.cells = #[.int .i64 d.kind, .int .i64 d.sub, .int .u8 d.hard, .bool d.work, .int .i64 d.prg, .int .i64 d.chr, .bool d.chrRam, .int .u8 d.shift, .int .u8 d.ctrl, .int .u8 d.chrA, .int .u8 d.chrB, .int .u8 d.prgR, .int .i64 d.last, .int .u8 d.latch, .int .u8 d.sel, .int .u8 c0, .int .u8 c1, .int .u8 c2, .int .u8 c3, .int .u8 c4, .int .u8 c5, .int .u8 c6, .int .u8 c7, .int .u8 d.turn, .int .u8 d.guard, .int .u8 d.iLatch, .int .u8 d.iCount, .bool d.iLoad, .bool d.iOn, .bool d.irq, .int .i64 d.epoch] := by unfold Bd.cells; rw [ed]; rfl
  have hi64 := fun (a b : Int) => run_equalIn_int (P := Try.prog) w 9998 3 .i64 .i64 a b Try.underlying3
  have hu8 := fun (a b : Int) => run_equalIn_int (P := Try.prog) w 9998 5 .u8 .u8 a b Try.underlying5
  have hm := fun (a b : Int) => run_equalIn_int (P := Try.prog) w 9998 34 .u8 .u8 a b Try.underlying34
  have hbo := fun (a b : Bool) => run_equalIn_bool (P := Try.prog) w 9998 4 a b Try.underlying4
  have h8 := Try.eq8 w 9997 a0 a1 a2 a3 a4 a5 a6 a7 c0 c1 c2 c3 c4 c5 c6 c7
  rw [run_equalIn_struct w 9999 37 _ _ (by kernel_rfl) (by kernel_rfl)]
  simp only [Program.fieldsOf, Try.underlying37, ecb, ecd]
  refine Eq.trans (b := .ok ((b.kind == d.kind) && ((b.sub == d.sub) && ((b.hard == d.hard) && ((b.work == d.work) && ((b.prg == d.prg) && ((b.chr == d.chr) && ((b.chrRam == d.chrRam) && ((b.shift == d.shift) && ((b.ctrl == d.ctrl) && ((b.chrA == d.chrA) && ((b.chrB == d.chrB) && ((b.prgR == d.prgR) && ((b.last == d.last) && ((b.latch == d.latch) && ((b.sel == d.sel) && (((a0 == c0) && ((a1 == c1) && ((a2 == c2) && ((a3 == c3) && ((a4 == c4) && ((a5 == c5) && ((a6 == c6) && ((a7 == c7) && true)))))))) && ((b.turn == d.turn) && ((b.guard == d.guard) && ((b.iLatch == d.iLatch) && ((b.iCount == d.iCount) && ((b.iLoad == d.iLoad) && ((b.iOn == d.iOn) && ((b.irq == d.irq) && ((b.epoch == d.epoch) && true)))))))))))))))))))))))) w) ?_ ?_

  · refine eqFields_step w (by simp) (by kernel_rfl) (by kernel_rfl) (hi64 _ _) ?_
    refine eqFields_step w (by simp) (by kernel_rfl) (by kernel_rfl) (hi64 _ _) ?_
    refine eqFields_step w (by simp) (by kernel_rfl) (by kernel_rfl) (hm _ _) ?_
    refine eqFields_step w (by simp) (by kernel_rfl) (by kernel_rfl) (hbo _ _) ?_
    refine eqFields_step w (by simp) (by kernel_rfl) (by kernel_rfl) (hi64 _ _) ?_
    refine eqFields_step w (by simp) (by kernel_rfl) (by kernel_rfl) (hi64 _ _) ?_
    refine eqFields_step w (by simp) (by kernel_rfl) (by kernel_rfl) (hbo _ _) ?_
    refine eqFields_step w (by simp) (by kernel_rfl) (by kernel_rfl) (hu8 _ _) ?_
    refine eqFields_step w (by simp) (by kernel_rfl) (by kernel_rfl) (hu8 _ _) ?_
    refine eqFields_step w (by simp) (by kernel_rfl) (by kernel_rfl) (hu8 _ _) ?_
    refine eqFields_step w (by simp) (by kernel_rfl) (by kernel_rfl) (hu8 _ _) ?_
    refine eqFields_step w (by simp) (by kernel_rfl) (by kernel_rfl) (hu8 _ _) ?_
    refine eqFields_step w (by simp) (by kernel_rfl) (by kernel_rfl) (hi64 _ _) ?_
    refine eqFields_step w (by simp) (by kernel_rfl) (by kernel_rfl) (hu8 _ _) ?_
    refine eqFields_step w (by simp) (by kernel_rfl) (by kernel_rfl) (hu8 _ _) ?_
    refine eqFields_step w (by simp) (by kernel_rfl) (by kernel_rfl) h8 ?_
    refine eqFields_step w (by simp) (by kernel_rfl) (by kernel_rfl) (hu8 _ _) ?_
    refine eqFields_step w (by simp) (by kernel_rfl) (by kernel_rfl) (hu8 _ _) ?_
    refine eqFields_step w (by simp) (by kernel_rfl) (by kernel_rfl) (hu8 _ _) ?_
    refine eqFields_step w (by simp) (by kernel_rfl) (by kernel_rfl) (hu8 _ _) ?_
    refine eqFields_step w (by simp) (by kernel_rfl) (by kernel_rfl) (hbo _ _) ?_
    refine eqFields_step w (by simp) (by kernel_rfl) (by kernel_rfl) (hbo _ _) ?_
    refine eqFields_step w (by simp) (by kernel_rfl) (by kernel_rfl) (hbo _ _) ?_
    refine eqFields_step w (by simp) (by kernel_rfl) (by kernel_rfl) (hi64 _ _) ?_
    rfl
  · congr 1
    rw [Bool.eq_iff_iff]
    simp only [Bool.and_eq_true, beq_iff_eq, decide_eq_true_eq, and_true, Bd.ext_iff, eb, ed, List.cons.injEq]
theorem Try.neqB (w : World) (b d : Bd) (hb : b.r.length = 8) (hd : d.r.length = 8) : (binOp .neq 37 (.agg b.cells) (.agg d.cells)).run Try.prog w = .ok (.bool (!decide (b = d))) w := by
  rw [run_neq_struct, Try.eqB0 w b d hb hd]; rfl
theorem Try.eqlB (w : World) (b d : Bd) (hb : b.r.length = 8) (hd : d.r.length = 8) : (binOp .eql 37 (.agg b.cells) (.agg d.cells)).run Try.prog w = .ok (.bool (decide (b = d))) w := by
  rw [run_eql_struct, Try.eqB0 w b d hb hd]; rfl
theorem Try.infoBoard : (Try.prog.info? 37).map (·.size) = some 31 := by kernel_rfl
end Go.Proofs.Ytecaipakaaongaa
