/-
  copied of a block with a list.
-/
import Derived.Test.YtpnalcbpdejpjaaXcLeaf
import Derived.Test.YtpnalcbpdejpjaaXcFr
import Derived.Laws.CopyOwn
set_option linter.unusedSimpArgs false
set_option linter.unusedVariables false
namespace Go.Proofs.Ytpnalcbpdejpjaa
open Go.RowKit Classical
/-- A list of micro-ops that lies somewhere. -/
def Ls (w : World) (a : Option Addr) (n c : Nat) (cells : List Value) : Prop := cells.length = n * 7 ∧ (∀ u ∈ cells, u.oneCell' = true) ∧ ((a = none ∧ n = 0 ∧ c = 0) ∨ ∃ ad, a = some ad ∧ ∀ j v, cells[j]? = some v → w.cell? (ad.add j) = some v)
theorem Ls.on {w w' : World} {a : Option Addr} {n c : Nat} {cells : List Value} (h : Ls w a n c cells) (hb : Below w.heap.size w w') : Ls w' a n c cells := by
  refine ⟨h.1, h.2.1, ?_⟩
  rcases h.2.2 with h | ⟨ad, e, h⟩
  · exact .inl h
  · exact .inr ⟨ad, e, fun j v hv => (hb.cell (cell_lt (h j v hv))).trans (h j v hv)⟩
theorem Ls.of_row {w : World} {base n c : Nat} {a : Option Addr} {cells : List Value} (h : w.ownsRow base 54 7 (.slice a n c) n cells) (h1 : ∀ u ∈ cells, u.oneCell' = true) : Ls w a n c cells := by
  refine ⟨h.1, h1, ?_⟩
  cases a with
  | none => obtain ⟨rfl, rfl⟩ := orow_none h; exact .inl ⟨rfl, rfl, rfl⟩
  | some ad =>
    obtain ⟨g, rfl⟩ := orow_where h
    refine .inr ⟨_, rfl, fun j v hv => ?_⟩
    have hj : j < n * 7 := by rw [← h.1]; exact (List.getElem?_eq_some_iff.1 hv).1
    have := (orow_cell h j hj).trans hv
    rw [Addr.add_lit, Nat.zero_add]
    exact this
theorem run_copyK {P : Program} (w : World) (dT sT ty elem : TypeId) (g dLen dCap : Nat) (a : Addr) (sLen sCap k n : Nat) (cur : Array Value) (t : TypeId) (cs : List Value)
    (hu : P.underlying dT = some (.slice elem)) (hs : (P.info? elem).map (·.size) = some k)
    (hg : w.heap[g]? = some (.cells cur t (0, 0))) (hn : Nat.min sLen dLen = n) (hc : cs.length = n * k)
    (hsrc : ∀ j v, cs[j]? = some v → w.cell? (a.add j) = some v) (hfit : cur.size = cs.length) (h1 : ∀ v ∈ cs, v.oneCell' = true) :
    (Builtin.copy_ #[dT, sT] ty #[.slice (some ⟨g, 0, none⟩) dLen dCap, .slice (some a) sLen sCap]).run P w = .ok (goInt n) (w.setRow g cs.toArray) := by
  have hl := run_loadCells_list (P := P) w a cs hsrc
  have hst := run_storeCells_at P g 0 t cs 0 cur w hg (by simp; omega) h1
  have e : (cur.toList.take (0 + 0) ++ cs ++ cur.toList.drop (0 + 0 + cs.length)) = cs := by
    rw [List.drop_eq_nil_of_le (by simp; omega)]; simp
  rw [e] at hst
  cases hq : P.info? elem with
  | none => simp [hq] at hs
  | some i =>
    have hi : i.size = k := by simpa [hq] using hs
    simp [Builtin.copy_, run_underlying hu, Builtin.lenOf, Builtin.firstCells, sizeOf, typeInfo, hq, hi, hn, ← hc, hl, hst]
theorem wpList_copyK {P : Program} {w : World} {ops : Array Oper} {rest : List Oper} {o : Oper} {a : Act} {Q : Exit → Act → World → Prop} (hgd : o.guard = none) (d s : Operand) (dT sT : TypeId)
    (ho : o.op = .call { callee := .builtin .copy, args := #[d, s], argTypes := #[dT, sT] }) (elem : TypeId) (k : Nat) (hu : P.underlying dT = some (.slice elem)) (hsz : (P.info? elem).map (·.size) = some k)
    (g dLen dCap : Nat) (ad : Addr) (sLen sCap n : Nat) (hd : a.eval d = .slice (some ⟨g, 0, none⟩) dLen dCap) (hs : a.eval s = .slice (some ad) sLen sCap)
    (cur : Array Value) (t : TypeId) (hg : w.heap[g]? = some (.cells cur t (0, 0))) (cs : List Value) (hn : Nat.min sLen dLen = n) (hc : cs.length = n * k)
    (hsrc : ∀ j v, cs[j]? = some v → w.cell? (ad.add j) = some v) (hfit : cur.size = cs.length) (h1 : ∀ v ∈ cs, v.oneCell' = true)
    (h : wpList P ops Q rest (a.put o.dst (goInt n)) (w.setRow g cs.toArray)) : wpList P ops Q (o :: rest) a w := by
  refine wpList_plain hgd fun K hK => ?_
  have hrun := run_copyK (P := P) w dT sT o.type elem g dLen dCap ad sLen sCap k n cur t cs hu hsz hg hn hc hsrc hfit h1
  unfold Oper.wp
  simp [execOp, ho, resolve, invoke, builtin, hd, hs, hrun, Result.andThen]
  exact hK _ _ h
theorem Try.infoMi : (Try.prog.info? 54).map (fun i => (i.zero, i.size, i.bytes)) = some (some (.agg #[.int .u8 0, .int .i64 0, .int .i64 0, .int .u16 0, .int .u8 0, .int .i64 0, .int .i64 0]), 7, 48) := by kernel_rfl
theorem made_size (n : Nat) : (madeCells (Value.agg #[.int .u8 0, .int .i64 0, .int .i64 0, .int .u16 0, .int .u8 0, .int .i64 0, .int .i64 0]).cells (n * 7)).size = n * 7 := by
  simp [madeCells]
set_option maxRecDepth 100000 in
set_option maxHeartbeats 4000000 in
theorem copied_some (pc tag : Int) (s : ByteArray) (ni lo hi : Int) (ad : Addr) (n c : Nat) (cells : List Value) (w : World) (H : Ls w (some ad) n c cells) (hn : n ≤ 2932031007317) :
    Calls Try.prog 38 #[.agg #[.int .u16 pc, .int .i64 tag, .string s, .int .i64 ni, .slice (some ad) n c, .int .i64 lo, .int .i64 hi]] w fun e w' => ∃ g, e = .returned (.agg #[.int .u16 pc, .int .i64 tag, .string s, .int .i64 ni, .slice (some ⟨g, 0, none⟩) n n, .int .i64 lo, .int .i64 hi]) ∧ w'.ownsRow w.heap.size 54 7 (.slice (some ⟨g, 0, none⟩) n n) n cells ∧ Below w.heap.size w w' := by
  obtain ⟨hlen, hone, h3⟩ := H
  have HSRC : Hid (∀ W, Below w.heap.size w W → ∀ j v, cells[j]? = some v → W.cell? (ad.add j) = some v) := by
    rcases h3 with ⟨e, _⟩ | ⟨ad', e, h⟩
    · cases e
    · cases e
      exact fun W hb j v hv => (hb.cell (cell_lt (h j v hv))).trans (h j v hv)
  have HC : Hid (cells.length = n * 7 ∧ ∀ u ∈ cells, u.oneCell' = true) := ⟨hlen, hone⟩
  clear h3 hlen hone
  have hb0 : Below w.heap.size w ((w.alloc (.cells #[.int .u16 pc, .int .i64 tag, .string s, .int .i64 ni, .slice (some ad) n c, .int .i64 lo, .int .i64 hi] 34)).alloc (.cells #[.int .u16 0, .int .i64 0, .string ⟨#[]⟩, .int .i64 0, .slice none 0 0, .int .i64 0, .int .i64 0] 34)) := ((Below.refl _ _).alloc (Nat.le_refl _) _).alloc (by simp) _
  have z1 : Blk ((w.alloc (.cells #[.int .u16 pc, .int .i64 tag, .string s, .int .i64 ni, .slice (some ad) n c, .int .i64 lo, .int .i64 hi] 34)).alloc (.cells #[.int .u16 0, .int .i64 0, .string ⟨#[]⟩, .int .i64 0, .slice none 0 0, .int .i64 0, .int .i64 0] 34)) w.heap.size #[.int .u16 pc, .int .i64 tag, .string s, .int .i64 ni, .slice (some ad) n c, .int .i64 lo, .int .i64 hi] 34 := (Blk.new w _ _).old _
  have z2 : Blk ((w.alloc (.cells #[.int .u16 pc, .int .i64 tag, .string s, .int .i64 ni, .slice (some ad) n c, .int .i64 lo, .int .i64 hi] 34)).alloc (.cells #[.int .u16 0, .int .i64 0, .string ⟨#[]⟩, .int .i64 0, .slice none 0 0, .int .i64 0, .int .i64 0] 34)) (w.heap.size + 1) #[.int .u16 0, .int .i64 0, .string ⟨#[]⟩, .int .i64 0, .slice none 0 0, .int .i64 0, .int .i64 0] 34 := by
    have := Blk.new (w.alloc (.cells #[.int .u16 pc, .int .i64 tag, .string s, .int .i64 ni, .slice (some ad) n c, .int .i64 lo, .int .i64 hi] 34)) #[.int .u16 0, .int .i64 0, .string ⟨#[]⟩, .int .i64 0, .slice none 0 0, .int .i64 0, .int .i64 0] 34
    simpa using this
  obtain ⟨i0, hi0, hz0, hz1, hz2⟩ := info_parts Try.infoMi
  go_enter Try.func38, Try.ntmps38
  go_upto_region 1 with fail
  generalize ((w.alloc (.cells #[.int .u16 pc, .int .i64 tag, .string s, .int .i64 ni, .slice (some ad) n c, .int .i64 lo, .int .i64 hi] 34)).alloc (.cells #[.int .u16 0, .int .i64 0, .string ⟨#[]⟩, .int .i64 0, .slice none 0 0, .int .i64 0, .int .i64 0] 34)) = W0 at *
  have EQ : ∀ W : World, (binOp .eql 32 (.slice (some ad) n c) (.slice none 0 0)).run Try.prog W = .ok (.bool false) W := fun W => run_eql_nil_slice W 32 _ (some ad) n c 0 0 Try.underlying32
  have c4 : W0.cell? ⟨w.heap.size, 4, none⟩ = some (.slice (some ad) n c) := z1.cell 4
  go_upto_region 3 with fail
  go_upto_region 4 with (at_make; refine wpList_make_full _ rfl _ _ 32 rfl w.heap.size 54 i0 (.agg #[.int .u8 0, .int .i64 0, .int .i64 0, .int .u16 0, .int .u8 0, .int .i64 0, .int .i64 0]) 7 Try.underlying32 hi0 hz0 hz1 .i64 .i64 _ _ n rfl rfl rfl rfl (by rw [hz2]; omega) (by unfold maxLen; omega) hb0.size ?_; intro W1 hown hgrow)
  have hgw : w.heap.size + 1 < W0.heap.size := z2.lt
  have hb1 : Below W0.heap.size W0 W1 := (Below.refl W0.heap.size W0).grown hgrow (Nat.le_refl _) (by simp)
  have hbw1 : Below w.heap.size w W1 := hb0.trans (hb1.mono hb0.size)
  have y1 := z1.below z1.lt hb1
  have y2 := z2.below z2.lt hb1
  clear hb1 z1 z2 c4
  generalize W0.heap.size = g at *
  obtain ⟨cur, hcur, hcs⟩ : ∃ cur, W1.heap[g]? = some (.cells cur 54 (0, 0)) ∧ cur.size = n * 7 := by
    rcases hown.2 with ⟨e, _⟩ | ⟨g', cap, cur, e, _, hh, _, _, h5, _⟩
    · cases e
    · cases e; exact ⟨cur, hh, h5⟩
  have d4 : W1.cell? ⟨w.heap.size, 4, none⟩ = some (.slice (some ad) n c) := y1.cell 4
  clear hown hgrow hi0 hz0 hz1 hz2
  go_upto_region 5 with (refine wpList_copyK rfl _ _ 32 32 rfl 54 7 (by kernel_rfl) (by kernel_rfl) g n n ad n c n rfl rfl cur 54 hcur cells (Nat.min_self n) HC.out.1 (HSRC.out W1 hbw1) (by rw [hcs]; exact HC.out.1.symm) HC.out.2 ?_)
  have hcur2 : (W1.setRow g cells.toArray).heap[g]? = some (.cells cells.toArray 54 (0, 0)) := setRow_heap W1 g _ _ 54 _ hcur
  have x1 : Blk (W1.setRow g cells.toArray) w.heap.size #[.int .u16 pc, .int .i64 tag, .string s, .int .i64 ni, .slice (some ad) n c, .int .i64 lo, .int .i64 hi] 34 := (setRow_other W1 g _ _ (by omega)).trans y1
  have x2 : Blk (W1.setRow g cells.toArray) (w.heap.size + 1) #[.int .u16 0, .int .i64 0, .string ⟨#[]⟩, .int .i64 0, .slice none 0 0, .int .i64 0, .int .i64 0] 34 := (setRow_other W1 g _ _ (by omega)).trans y2
  have hbw2 : Below w.heap.size w (W1.setRow g cells.toArray) := below_setRow hbw1 (by omega) _
  generalize W1.setRow g cells.toArray = W2 at *
  clear y1 y2 d4 hcur hcs hbw1
  have e4 : W2.cell? ⟨w.heap.size, 4, none⟩ = some (.slice (some ad) n c) := x1.cell 4
  have f4 : W2.frozen? ⟨w.heap.size, 4, none⟩ = false := x1.free 4
  go_upto_region 6 with fail
  have v1 : Blk (W2.setCell ⟨w.heap.size, 4, none⟩ (.slice (some ⟨g, 0, none⟩) n n)) w.heap.size #[.int .u16 pc, .int .i64 tag, .string s, .int .i64 ni, .slice (some ⟨g, 0, none⟩) n n, .int .i64 lo, .int .i64 hi] 34 := x1.set 4 _
  have v2 : Blk (W2.setCell ⟨w.heap.size, 4, none⟩ (.slice (some ⟨g, 0, none⟩) n n)) (w.heap.size + 1) #[.int .u16 0, .int .i64 0, .string ⟨#[]⟩, .int .i64 0, .slice none 0 0, .int .i64 0, .int .i64 0] 34 := x2.other (by omega) 4 _
  have hcur3 : (W2.setCell ⟨w.heap.size, 4, none⟩ (.slice (some ⟨g, 0, none⟩) n n)).heap[g]? = some (.cells cells.toArray 54 (0, 0)) := (Below.heap_setCell W2 ⟨w.heap.size, 4, none⟩ _ g (by show g ≠ w.heap.size; omega)).trans hcur2
  have hbw3 : Below w.heap.size w (W2.setCell ⟨w.heap.size, 4, none⟩ (.slice (some ⟨g, 0, none⟩) n n)) := hbw2.setCell (p := ⟨w.heap.size, 4, none⟩) (Nat.le_refl _) _
  generalize W2.setCell ⟨w.heap.size, 4, none⟩ (.slice (some ⟨g, 0, none⟩) n n) = W3 at *
  clear x1 x2 e4 f4 hcur2 hbw2
  go_wp2_with (first
    | (refine wpList_load_blk rfl 34 _ rfl w.heap.size rfl #[.int .u16 pc, .int .i64 tag, .string s, .int .i64 ni, .slice (some ⟨g, 0, none⟩) n n, .int .i64 lo, .int .i64 hi] _ v1 Try.underlying34 rfl (by kernel_rfl) ?_)
    | (refine wpList_store_mid rfl 34 _ _ rfl (w.heap.size + 1) 0 #[.int .u16 pc, .int .i64 tag, .string s, .int .i64 ni, .slice (some ⟨g, 0, none⟩) n n, .int .i64 lo, .int .i64 hi] rfl rfl (v2.there' 7 rfl) (by kernel_rfl) (by kernel_rfl) ?_))
  have z5 : Blk (W3.setCells (w.heap.size + 1) 0 (#[.int .u16 pc, .int .i64 tag, .string s, .int .i64 ni, .slice (some ⟨g, 0, none⟩) n n, .int .i64 lo, .int .i64 hi] : Array Value).toList) (w.heap.size + 1) #[.int .u16 pc, .int .i64 tag, .string s, .int .i64 ni, .slice (some ⟨g, 0, none⟩) n n, .int .i64 lo, .int .i64 hi] 34 := v2.setAll rfl
  refine ret_agg1 (m := w.heap.size + 1) (L := #[.int .u16 pc, .int .i64 tag, .string s, .int .i64 ni, .slice (some ⟨g, 0, none⟩) n n, .int .i64 lo, .int .i64 hi]) Try.results38 (by kernel_rfl) (by kernel_rfl) z5 Try.underlying34 rfl (by kernel_rfl) ?_
  have hcur4 := (heap_setCells (w.heap.size + 1) (#[.int .u16 pc, .int .i64 tag, .string s, .int .i64 ni, .slice (some ⟨g, 0, none⟩) n n, .int .i64 lo, .int .i64 hi] : Array Value).toList 0 W3 g (by omega)).trans hcur3
  refine ⟨g, rfl, ⟨HC.out.1, .inr ⟨g, n, cells.toArray, rfl, by omega, hcur4, Nat.le_refl _, by unfold maxLen; omega, by rw [List.size_toArray]; exact HC.out.1, ?_⟩⟩, setCells_below' (by omega) _ _ _ _ hbw3⟩
  rw [← HC.out.1]
  simp
/-- What copied gives for a block's list. -/
def Cpd (w w' : World) (a : Option Addr) (n c : Nat) (cells : List Value) (a' : Option Addr) (c' : Nat) : Prop := ((a = none ∧ a' = none ∧ c' = 0) ∨ ((∃ ad, a = some ad) ∧ ∃ g, a' = some ⟨g, 0, none⟩ ∧ c' = n)) ∧ w'.ownsRow w.heap.size 54 7 (.slice a' n c') n cells
theorem copied_any (pc tag : Int) (s : ByteArray) (ni lo hi : Int) (a : Option Addr) (n c : Nat) (cells : List Value) (w : World) (H : Ls w a n c cells) (hn : n ≤ 2932031007317) :
    Calls Try.prog 38 #[.agg #[.int .u16 pc, .int .i64 tag, .string s, .int .i64 ni, .slice a n c, .int .i64 lo, .int .i64 hi]] w fun e w' => ∃ a' c', e = .returned (.agg #[.int .u16 pc, .int .i64 tag, .string s, .int .i64 ni, .slice a' n c', .int .i64 lo, .int .i64 hi]) ∧ Cpd w w' a n c cells a' c' ∧ Below w.heap.size w w' := by
  cases a with
  | none =>
    rcases H.2.2 with ⟨-, rfl, rfl⟩ | ⟨_, e, _⟩
    · refine (copied_nil pc tag s ni lo hi w).mono ?_
      rintro e w' ⟨rfl, hb⟩
      exact ⟨none, 0, rfl, ⟨.inl ⟨rfl, rfl, rfl⟩, ⟨H.1, .inl ⟨rfl, rfl⟩⟩⟩, hb⟩
    · cases e
  | some ad =>
    refine (copied_some pc tag s ni lo hi ad n c cells w H hn).mono ?_
    rintro e w' ⟨g, rfl, hr, hb⟩
    exact ⟨some ⟨g, 0, none⟩, n, rfl, ⟨.inr ⟨⟨ad, rfl⟩, g, rfl, rfl⟩, hr⟩, hb⟩
end Go.Proofs.Ytpnalcbpdejpjaa
