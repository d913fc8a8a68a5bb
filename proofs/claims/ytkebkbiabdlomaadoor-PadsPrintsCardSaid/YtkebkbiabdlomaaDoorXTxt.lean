/-
  Texts in memory of the call's own, and what append makes of them; a pad's text.
-/
import Derived.Test.YtkebkbiabdlomaaDoorXTB
import Derived.OwnWalk
import Derived.Laws.AppendOwn
import Derived.Lib.AppendStr
import Derived.Lib.UnsafeStr
import Derived.Laws.IdiomStrings
import Derived.Lib.ItoaNum
import Derived.Lib.OthersKept
import Derived.Lib.BufferKept
set_option linter.unusedSimpArgs false
set_option linter.unusedVariables false
namespace Go.Proofs.YtkebkbiabdlomaaDoor
open Go.RowKit Classical
/-- The value v is this text, in memory from block base on. -/
def Txt (w : World) (base : Nat) (v : Value) (l : List UInt8) : Prop := w.ownsRow base 5 1 v l.length (Lib.byteCells l)
theorem Tryd.infoByte : (Tryd.prog.info? 5).map (fun i => (i.zero, i.size, i.bytes)) = some (some (.int .u8 0), 1, 1) := by kernel_rfl
theorem Txt.keep {w w' : World} {base B : Nat} {v : Value} {l : List UInt8} (h : Txt w base v l) (hB : w.heap.size ≤ B) (hb : Below B w w') : Txt w' base v l := by
  obtain ⟨h1, h2⟩ := h
  refine ⟨h1, ?_⟩
  rcases h2 with h | ⟨g, cap, cur, e, hb', hh, hr⟩
  · exact .inl h
  · exact .inr ⟨g, cap, cur, e, hb', (hb.block g (Nat.lt_of_lt_of_le (Array.getElem?_eq_some_iff.1 hh).1 hB)).trans hh, hr⟩
theorem Txt.row {w : World} {base : Nat} {v : Value} {l : List UInt8} (h : Txt w base v l) : ∀ k, v.ownBlock = some k → base ≤ k := fun k hk => (World.ownsRow.lt h k hk).1
theorem bytes_one (l : List UInt8) : ∀ v ∈ Lib.byteCells l, v.oneCell' = true := by
  intro v hv; simp only [Lib.byteCells, List.mem_map] at hv; obtain ⟨n, _, rfl⟩ := hv; rfl
/-- What a call that appends to a text leaves as it was: all below base, and all that is no row of bytes. -/
structure Fr (base : Nat) (w w' : World) : Prop where
  below : Below base w w'
  others : Lib.OthersKept 5 none w w'
  size : base ≤ w'.heap.size
theorem Fr.refl {base : Nat} {w : World} (h : base ≤ w.heap.size) : Fr base w w := ⟨Below.refl _ _, Lib.OthersKept.refl _ _ _, h⟩
theorem Fr.trans {base : Nat} {a b c : World} (h : Fr base a b) (g : Fr base b c) : Fr base a c := ⟨h.below.trans g.below, h.others.trans g.others, g.size⟩
theorem Fr.on {base : Nat} {a b c : World} (h : Fr base a b) (g : Below b.heap.size b c) : Fr base a c := ⟨h.below.trans (g.mono h.size), h.others.below g, Nat.le_trans h.size g.size⟩
theorem Fr.blk {base : Nat} {w w' : World} (h : Fr base w w') {b : Nat} {cs : Array Value} {t : TypeId} (hb : Blk w b cs t) (ht : t ≠ 5) : Blk w' b cs t :=
  h.others b _ hb (by simp) (fun c fz e => ht (by cases e; rfl))
theorem Txt.rows {w : World} {base : Nat} {v : Value} {l : List UInt8} (h : Txt w base v l) : ∀ g, v.ownBlock = some g → ∃ c fz, w.heap[g]? = some (.cells c 5 fz) := by
  intro g hg
  rcases h.2 with ⟨e, _⟩ | ⟨g', cap, cur, e, _, hh, _⟩
  · rw [e] at hg; cases hg
  · rw [e] at hg; cases hg; exact ⟨_, _, hh⟩
/-- append, of a byte that lies in a block just made. -/
theorem wpList_app1 {ops : Array Oper} {rest : List Oper} {o : Oper} {a : Act} {Q : Exit → Act → World → Prop} (hgd : o.guard = none) (s x : Operand)
    (ho : o.op = .call { callee := .builtin .append, args := #[s, x], argTypes := #[42, 42] }) {l : List UInt8} {v : Value} {W w0 : World} {base : Nat} (c : UInt8) {cs : Array Value} (hown : Txt W base v l) (hb : Fr base w0 W)
    (hs : a.eval s = v) (hx : a.eval x = .slice (some ⟨W.heap.size, 0, none⟩) 1 1) (hcs : cs = #[.int .u8 (c.toNat : Int)]) (hlm : l.length ≤ 17592186044416)
    (h : ∀ v' w', Txt w' base v' (l ++ [c]) → Fr base w0 w' → wpList Tryd.prog ops Q rest (a.put o.dst v') w') : wpList Tryd.prog ops Q (o :: rest) a (W.alloc (.cells cs 5)) := by
  subst hcs
  have hbase := hb.size
  obtain ⟨i0, hi, hz0, hz1, hz2⟩ := info_parts Tryd.infoByte
  refine wpList_append_own (W.alloc (.cells #[.int .u8 (c.toNat : Int)] 5)) hgd s x 42 ho base 5 i0 _ 1 1 (by kernel_rfl) hi hz0 hz1 hz2 rfl (by decide) v l.length (Lib.byteCells l) hs (World.ownsRow.alloc hown _) ⟨W.heap.size, 0, none⟩ 1 1 (Lib.byteCells [c]) hx rfl ?_ (bytes_one _) (by unfold maxLen; omega) (by omega) (by simp; omega) ?_
  · intro j u hu
    have hj : j = 0 := by have := (List.getElem?_eq_some_iff.1 hu).1; simp [Lib.byteCells] at this; omega
    subst hj
    simp [Lib.byteCells] at hu
    subst hu
    simp [Addr.add]
  · intro v' w' h1 h2 _
    refine h v' w' ?_ ⟨(hb.below.alloc hbase _).grown h2 (by simp; omega) hown.row, (hb.others.alloc _).grown h2 (fun g hg => by
      obtain ⟨c, fz, hh⟩ := hown.rows g hg
      exact ⟨c, fz, (Below.heap_alloc W _ g (Array.getElem?_eq_some_iff.1 hh).1).trans hh⟩), ?_⟩
    · unfold Txt; rw [List.length_append, Lib.byteCells_append]; exact h1
    · have := h2.size; simp at this; omega
/-- append, of a string. -/
theorem wpList_appS {ops : Array Oper} {rest : List Oper} {o : Oper} {a : Act} {Q : Exit → Act → World → Prop} (hgd : o.guard = none) (s x : Operand)
    (ho : o.op = .call { callee := .builtin .append, args := #[s, x], argTypes := #[42, 9] }) {l m : List UInt8} {v : Value} {W w0 : World} {base : Nat} (hown : Txt W base v l) (hb : Fr base w0 W)
    (hs : a.eval s = v) (hx : a.eval x = .string ⟨m.toArray⟩) (hlm : l.length + m.length ≤ 17592186044416)
    (h : ∀ v' w', Txt w' base v' (l ++ m) → Fr base w0 w' → wpList Tryd.prog ops Q rest (a.put o.dst v') w') : wpList Tryd.prog ops Q (o :: rest) a W := by
  have hbase := hb.size
  obtain ⟨i0, hi, hz0, hz1, hz2⟩ := info_parts Tryd.infoByte
  have hm : (ByteArray.mk m.toArray).size = m.length := by simp [ByteArray.size]
  refine Lib.wpList_append_own_string W hgd s x 42 9 ho base 5 i0 (by kernel_rfl) (by kernel_rfl) hi hz0 hz1 hz2 v l.length (Lib.byteCells l) hs hown ⟨m.toArray⟩ hx (by rw [hm]; unfold maxLen; omega) (by rw [hm]; omega) hbase ?_
  intro v' w' h1 h2 _
  rw [hm, Lib.strCells_eq] at h1
  refine h v' w' ?_ ⟨hb.below.grown h2 hbase hown.row, hb.others.grown h2 hown.rows, ?_⟩
  · unfold Txt; rw [List.length_append, Lib.byteCells_append]; exact h1
  · have := h2.size; omega
/-- A text of one's own, as a string. -/
theorem Txt.str {w : World} {base : Nat} {v : Value} {l : List UInt8} (h : Txt w base v l) (hl : 0 < l.length) : (convert 42 9 v).run Tryd.prog w = .ok (.string ⟨l.toArray⟩) w := by
  obtain ⟨h1, h2⟩ := h
  rcases h2 with ⟨_, h⟩ | ⟨g, cap, cur, e, hb', hh, h3, h4, h5, h6⟩
  · omega
  · rw [e]
    refine run_convert_bytes_back w 42 9 5 ⟨g, 0, none⟩ cap l (by kernel_rfl) (by kernel_rfl) (by kernel_rfl) fun j hj => ?_
    have hc := cell_of_row w g j cur _ (0, 0) hh
    have : (Lib.byteCells l)[j]? = some (.int .u8 (l[j].toNat : Int)) := by simp [Lib.byteCells, hj]
    rw [← h6, List.getElem?_take, if_pos (by omega)] at this
    rw [← Array.getElem?_toList, this] at hc
    by_cases hj0 : j = 0
    · subst hj0; simpa [Addr.add] using hc
    · simpa [Addr.add, hj0] using hc
theorem Txt.len {w : World} {base : Nat} {v : Value} {l : List UInt8} (h : Txt w base v l) : ∃ a cap, v = .slice a l.length cap := by
  rcases h.2 with ⟨e, h⟩ | ⟨g, cap, cur, e, _⟩
  · exact ⟨none, 0, by rw [h]; exact e⟩
  · exact ⟨_, _, e⟩
/-- A pad's sign at place i. -/
def padC (p i : Nat) : UInt8 := if p / 2 ^ (7 - i) % 2 = 1 then [82, 76, 68, 85, 84, 83, 66, 65].getD i 0 else 46
/-- The first n signs. -/
def padT (p n : Nat) : List UInt8 := (List.range n).map (padC p)
theorem padT_succ (p n : Nat) : padT p (n + 1) = padT p n ++ [padC p n] := by simp [padT, List.range_succ]
theorem padT_len (p n : Nat) : (padT p n).length = n := by simp [padT]
theorem nat_andb (a : Nat) (h : a < 256) : ∀ i, i < 8 → a &&& 2 ^ (7 - i) = a / 2 ^ (7 - i) % 2 * 2 ^ (7 - i) := by revert a; decide +kernel
theorem andb (a i m : Nat) (h : a < 256) (hi : i < 8) (hm : 2 ^ (7 - i) = m) : bits .and .u8 (a : Int) (m : Int) = ((a / m % 2 * m : Nat) : Int) := by
  subst hm
  have h2 : 2 ^ (7 - i) < 256 := by
    have : 2 ^ (7 - i) ≤ 2 ^ 7 := Nat.pow_le_pow_right (by decide) (by omega)
    omega
  rw [u8_and_nat a (2 ^ (7 - i)) h h2, nat_andb a h i hi]
end Go.Proofs.YtkebkbiabdlomaaDoor
