/-
  The contract of blocks, of the laws of xlate.
-/
import Derived.Test.YtfdiplgjiidnbaaDoorXlEq
import Derived.BigQuiet
import Derived.Deep.QuietTactic
set_option linter.unusedSimpArgs false
set_option linter.unusedVariables false
namespace Go.Proofs.YtfdiplgjiidnbaaDoor
open Go.RowKit Classical
theorem below_drawsX {B : Nat} {a w : World} (h : Below B a w) (n : Nat) : Below B a (w.drewN n) := ⟨h.os, h.tape, h.output, h.size, h.block⟩
theorem mflat_len : ∀ l : List Mic, (mflat l).length = l.length * 7
  | [] => rfl
  | m :: l => by
    have e : mflat (m :: l) = m.cells.toList ++ mflat l := by simp [mflat]
    rw [e, List.length_append, mflat_len l, List.length_cons]
    show 7 + l.length * 7 = (l.length + 1) * 7
    omega
theorem mflat_app (l k : List Mic) : mflat (l ++ k) = mflat l ++ mflat k := by simp [mflat]
theorem mflat_at {l : List Mic} {j : Nat} {m : Mic} (h : l[j]? = some m) (t : Nat) (ht : t < 7) : (mflat l)[j * 7 + t]? = m.cells[t]? := by
  obtain ⟨hj, rfl⟩ := List.getElem?_eq_some_iff.1 h
  have e : l = l.take j ++ l[j] :: l.drop (j + 1) := by rw [List.getElem_cons_drop, List.take_append_drop]
  have e2 : mflat l = mflat (l.take j) ++ (l[j].cells.toList ++ mflat (l.drop (j + 1))) := by
    have e3 : mflat (l[j] :: l.drop (j + 1)) = l[j].cells.toList ++ mflat (l.drop (j + 1)) := by simp only [mflat, List.flatMap_cons]
    rw [← e3, ← mflat_app, ← e]
  rw [e2, List.getElem?_append_right (by rw [mflat_len, List.length_take]; omega), mflat_len, List.length_take, Nat.min_eq_left (by omega), Nat.add_sub_cancel_left, List.getElem?_append_left (by show t < 7; exact ht)]
  simp
set_option maxRecDepth 100000 in
set_option maxHeartbeats 4000000 in
/-- Two blocks that say the same, their lists wherever they lie. -/
theorem blocks_yes (pc tag : Int) (s : ByteArray) (ni lo hi : Int) (l : List Mic) (n b1 b2 : Nat) (v1 v2 : Value) (w : World) (hn : l.length = n) (hn9 : n ≤ 1000) (R1 : w.ownsRow b1 35 7 v1 n (mflat l)) (R2 : w.ownsRow b2 35 7 v2 n (mflat l)) :
    Calls Tryd.prog 9 #[.agg #[.int .u16 pc, .int .i64 tag, .string s, .int .i64 ni, v1, .int .i64 lo, .int .i64 hi], .agg #[.int .u16 pc, .int .i64 tag, .string s, .int .i64 ni, v2, .int .i64 lo, .int .i64 hi]] w fun e w' => e = .returned (.bool true) ∧ Below w.heap.size w w' := by
  obtain ⟨a1, c1, rfl, h1⟩ := orow_form R1
  obtain ⟨a2, c2, rfl, h2⟩ := orow_form R2
  have HR1 : Hid (w.ownsRow b1 35 7 (.slice a1 n c1) n (mflat l)) := R1
  have HR2 : Hid (w.ownsRow b2 35 7 (.slice a2 n c2) n (mflat l)) := R2
  have HN : Hid (l.length = n) := hn
  clear R1 R2 hn
  go_enter Tryd.func9, Tryd.ntmps9
  go_upto_region 1 with fail
  have hb0 : Below w.heap.size w ((w.alloc (.cells #[.int .u16 pc, .int .i64 tag, .string s, .int .i64 ni, .slice a1 n c1, .int .i64 lo, .int .i64 hi] 27)).alloc (.cells #[.int .u16 pc, .int .i64 tag, .string s, .int .i64 ni, .slice a2 n c2, .int .i64 lo, .int .i64 hi] 27)) := ((Below.refl _ _).alloc (Nat.le_refl _) _).alloc (by simp) _
  have P1 : Blk ((w.alloc (.cells #[.int .u16 pc, .int .i64 tag, .string s, .int .i64 ni, .slice a1 n c1, .int .i64 lo, .int .i64 hi] 27)).alloc (.cells #[.int .u16 pc, .int .i64 tag, .string s, .int .i64 ni, .slice a2 n c2, .int .i64 lo, .int .i64 hi] 27)) w.heap.size #[.int .u16 pc, .int .i64 tag, .string s, .int .i64 ni, .slice a1 n c1, .int .i64 lo, .int .i64 hi] 27 := (Blk.new w #[.int .u16 pc, .int .i64 tag, .string s, .int .i64 ni, .slice a1 n c1, .int .i64 lo, .int .i64 hi] 27).old _
  have P2 : Blk ((w.alloc (.cells #[.int .u16 pc, .int .i64 tag, .string s, .int .i64 ni, .slice a1 n c1, .int .i64 lo, .int .i64 hi] 27)).alloc (.cells #[.int .u16 pc, .int .i64 tag, .string s, .int .i64 ni, .slice a2 n c2, .int .i64 lo, .int .i64 hi] 27)) (w.heap.size + 1) #[.int .u16 pc, .int .i64 tag, .string s, .int .i64 ni, .slice a2 n c2, .int .i64 lo, .int .i64 hi] 27 := by
    have := Blk.new (w.alloc (.cells #[.int .u16 pc, .int .i64 tag, .string s, .int .i64 ni, .slice a1 n c1, .int .i64 lo, .int .i64 hi] 27)) #[.int .u16 pc, .int .i64 tag, .string s, .int .i64 ni, .slice a2 n c2, .int .i64 lo, .int .i64 hi] 27
    simpa using this
  generalize (w.alloc (.cells #[.int .u16 pc, .int .i64 tag, .string s, .int .i64 ni, .slice a1 n c1, .int .i64 lo, .int .i64 hi] 27)).alloc (.cells #[.int .u16 pc, .int .i64 tag, .string s, .int .i64 ni, .slice a2 n c2, .int .i64 lo, .int .i64 hi] 27) = W at *
  have x0 := P1.cell 0; have x1 := P1.cell 1; have x2 := P1.cell 2; have x3 := P1.cell 3; have x4 := P1.cell 4; have x5 := P1.cell 5; have x6 := P1.cell 6
  have y0 := P2.cell 0; have y1 := P2.cell 1; have y2 := P2.cell 2; have y3 := P2.cell 3; have y4 := P2.cell 4; have y5 := P2.cell 5; have y6 := P2.cell 6
  simp at x0 x1 x2 x3 x4 x5 x6 y0 y1 y2 y3 y4 y5 y6
  clear P1 P2
  go_upto_region 4 with fail
  clear x0 x1 x2 x3 x5 x6 y0 y1 y2 y3 y5 y6
  go_loopw [5] (fun i wr => ∃ m : Nat, m ≤ n ∧ i = .int .i64 (m : Nat) ∧ Below W.heap.size W wr) (fun i _ => n - (intOf i).toNat)
  case atStart => exact ⟨0, Nat.zero_le _, rfl, Below.refl _ _⟩
  case round =>
    obtain ⟨m, hm, rfl, hb⟩ := hrel
    have x4' := (hb.cell (p := ⟨w.heap.size, 4, none⟩) (cell_lt x4)).trans x4
    have y4' := (hb.cell (p := ⟨w.heap.size + 1, 4, none⟩) (cell_lt y4)).trans y4
    have X4 : Hid (W.cell? ⟨w.heap.size, 4, none⟩ = some (.slice a1 n c1) ∧ W.cell? ⟨w.heap.size + 1, 4, none⟩ = some (.slice a2 n c2)) := ⟨x4, y4⟩
    clear x4 y4
    by_cases hlt : m < n
    · obtain ⟨g1, rfl⟩ := h1 (by omega)
      obtain ⟨g2, rfl⟩ := h2 (by omega)
      have hbw : Below w.heap.size w wr := hb0.trans (hb.mono hb0.size)
      have hml : m < l.length := by rw [HN.out]; exact hlt
      obtain ⟨q, hq⟩ : ∃ q, l[m]? = some q := ⟨_, List.getElem?_eq_getElem hml⟩
      have e1 : ∀ t, t < 7 → wr.cell? ⟨g1, m * 7 + t, none⟩ = q.cells[t]? := fun t ht => by
        rw [hbw.cell (p := ⟨g1, m * 7 + t, none⟩) (orow_base HR1.out).2.1, orow_cell HR1.out (m * 7 + t) (by omega)]; exact mflat_at hq t ht
      have e2 : ∀ t, t < 7 → wr.cell? ⟨g2, m * 7 + t, none⟩ = q.cells[t]? := fun t ht => by
        rw [hbw.cell (p := ⟨g2, m * 7 + t, none⟩) (orow_base HR2.out).2.1, orow_cell HR2.out (m * 7 + t) (by omega)]; exact mflat_at hq t ht
      have qN : ∀ W : World, (binOp .neq 35 (.agg #[.int .u8 ((q.kd : Nat) : Int), .int .i64 q.op, .int .i64 ((q.md : Nat) : Int), .int .u16 q.arg, .int .u8 q.fl, .int .i64 ((q.num : Nat) : Int), .int .i64 ((q.cyc : Nat) : Int)]) (.agg #[.int .u8 ((q.kd : Nat) : Int), .int .i64 q.op, .int .i64 ((q.md : Nat) : Int), .int .u16 q.arg, .int .u8 q.fl, .int .i64 ((q.num : Nat) : Int), .int .i64 ((q.cyc : Nat) : Int)])).run Tryd.prog W = .ok (.bool false) W := fun W => neqMic W _ _ _ _ _ _ _
      have e1x0 : wr.cell? ⟨g1, m * 7, none⟩ = some (.int .u8 ((q.kd : Nat) : Int)) := e1 0 (by decide)
      have e1x1 : wr.cell? ⟨g1, m * 7 + 1, none⟩ = some (.int .i64 q.op) := e1 1 (by decide)
      have e1x2 : wr.cell? ⟨g1, m * 7 + 2, none⟩ = some (.int .i64 ((q.md : Nat) : Int)) := e1 2 (by decide)
      have e1x3 : wr.cell? ⟨g1, m * 7 + 3, none⟩ = some (.int .u16 q.arg) := e1 3 (by decide)
      have e1x4 : wr.cell? ⟨g1, m * 7 + 4, none⟩ = some (.int .u8 q.fl) := e1 4 (by decide)
      have e1x5 : wr.cell? ⟨g1, m * 7 + 5, none⟩ = some (.int .i64 ((q.num : Nat) : Int)) := e1 5 (by decide)
      have e1x6 : wr.cell? ⟨g1, m * 7 + 6, none⟩ = some (.int .i64 ((q.cyc : Nat) : Int)) := e1 6 (by decide)
      have e2x0 : wr.cell? ⟨g2, m * 7, none⟩ = some (.int .u8 ((q.kd : Nat) : Int)) := e2 0 (by decide)
      have e2x1 : wr.cell? ⟨g2, m * 7 + 1, none⟩ = some (.int .i64 q.op) := e2 1 (by decide)
      have e2x2 : wr.cell? ⟨g2, m * 7 + 2, none⟩ = some (.int .i64 ((q.md : Nat) : Int)) := e2 2 (by decide)
      have e2x3 : wr.cell? ⟨g2, m * 7 + 3, none⟩ = some (.int .u16 q.arg) := e2 3 (by decide)
      have e2x4 : wr.cell? ⟨g2, m * 7 + 4, none⟩ = some (.int .u8 q.fl) := e2 4 (by decide)
      have e2x5 : wr.cell? ⟨g2, m * 7 + 5, none⟩ = some (.int .i64 ((q.num : Nat) : Int)) := e2 5 (by decide)
      have e2x6 : wr.cell? ⟨g2, m * 7 + 6, none⟩ = some (.int .i64 ((q.cyc : Nat) : Int)) := e2 6 (by decide)
      obtain ⟨kd, op, md, arg, fl, num, cyc⟩ := q
      clear e1 e2 hq hml hbw
      have hlti : (m : Int) < (n : Int) := by omega
      go_upto_region 6 with fail
      go_quiet (fail)
      go_wp2
      go_roundw
      case rel => first | exact ⟨m + 1, by omega, by go_num, below_drawsX hb _⟩ | ((repeat apply Exists.intro); refine ⟨?_, rfl⟩; exact ⟨m + 1, by omega, by go_num, below_drawsX hb _⟩)
      case measure => simp [intOf]; omega
    · obtain rfl : m = n := by omega
      go_wp2
      go_ret
      exact ⟨rfl, hb0.trans (hb.mono hb0.size)⟩
end Go.Proofs.YtfdiplgjiidnbaaDoor
