/-
  Appends to a list of bytes that a call was handed, and what stays of memory.
-/
import Derived.Test.YtlckjbangdnejaaDoorXwBase
set_option linter.unusedSimpArgs false
set_option linter.unusedVariables false
namespace Go.Proofs.YtlckjbangdnejaaDoor
open Go.RowKit Classical
/-- All but the block of the list that was handed in stays; the list that is handed back lies in that block or in a new one. -/
structure Gr (w0 : World) (v0 : Value) (w : World) (v : Value) : Prop where
  grown : w0.grownBy w v0.ownBlock
  own : v.ownBlock = v0.ownBlock ∨ ∀ g, v.ownBlock = some g → w0.heap.size ≤ g
theorem Gr.refl (w : World) (v : Value) : Gr w v w v := ⟨World.grownBy.refl w _, .inl rfl⟩
theorem Gr.trans {a b c : World} {x y z : Value} (h : Gr a x b y) (k : Gr b y c z) : Gr a x c z := by
  refine ⟨⟨k.grown.os.trans h.grown.os, k.grown.tape.trans h.grown.tape, k.grown.output.trans h.grown.output, Nat.le_trans h.grown.size k.grown.size, fun m hm hn => ?_⟩, ?_⟩
  · refine (k.grown.block m (Nat.lt_of_lt_of_le hm h.grown.size) fun e => ?_).trans (h.grown.block m hm hn)
    rcases h.own with e2 | e2
    · exact hn (e.trans e2)
    · exact absurd (e2 m e.symm) (by omega)
  · rcases k.own with e | e
    · rcases h.own with e2 | e2
      · exact .inl (e.trans e2)
      · exact .inr fun g hg => e2 g (e ▸ hg)
    · exact .inr fun g hg => Nat.le_trans h.grown.size (e g hg)
theorem Gr.on {a b c : World} {x y : Value} (h : Gr a x b y) (k : Below b.heap.size b c) : Gr a x c y :=
  h.trans ⟨⟨k.os, k.tape, k.output, k.size, fun m hm _ => k.block m hm⟩, .inl rfl⟩
theorem Gr.alloc {a b : World} {x y : Value} (h : Gr a x b y) (o : Obj) : Gr a x (b.alloc o) y := h.on ((Below.refl _ _).alloc (Nat.le_refl _) o)
theorem Gr.below {a b : World} {x y : Value} (h : Gr a x b y) {B : Nat} (hB : B ≤ a.heap.size) (hx : ∀ k, x.ownBlock = some k → B ≤ k) : Below B a b :=
  (Below.refl B a).grown h.grown hB hx
theorem Gr.blk {a b : World} {x y : Value} (h : Gr a x b y) {g : Nat} {cs : Array Value} {t : TypeId} (hb : Blk a g cs t) (hx : x.ownBlock ≠ some g) : Blk b g cs t :=
  (h.grown.block g hb.lt fun e => hx e.symm).trans hb
theorem Gr.row {a b : World} {x y : Value} (h : Gr a x b y) {ad : Option Addr} {r : List Nat} (hr : Row a ad r) (hx : ∀ p, ad = some p → x.ownBlock ≠ some p.block) : Row b ad r := by
  rcases hr with e | ⟨g, off, e, hc⟩
  · exact .inl e
  · refine .inr ⟨g, off, e, fun i hi => h.grown.cell (hc i hi) fun e2 => hx _ e e2.symm⟩
theorem Tx.on {W W' : World} {base : Nat} {v : Value} {l : List Nat} (h : Tx W base v l) (k : Below W.heap.size W W') : Tx W' base v l := orow_keep h k
theorem Tx.block {W : World} {base : Nat} {v : Value} {l : List Nat} (h : Tx W base v l) : ∀ k, v.ownBlock = some k → base ≤ k ∧ k < W.heap.size := World.ownsRow.lt h
theorem Tx.notBlk {W : World} {base g : Nat} {v : Value} {l : List Nat} {cs : Array Value} {t : TypeId} (h : Tx W base v l) (hb : Blk W g cs t) (ht : t ≠ 5) : v.ownBlock ≠ some g := by
  intro e
  rcases h.2 with ⟨rfl, _⟩ | ⟨g', cap, cur, rfl, _, hh, _⟩
  · cases e
  · have e2 : g' = g := by cases e; rfl
    rw [e2, show W.heap[g]? = _ from hb] at hh
    cases hh
    exact ht rfl
theorem Tx.len {W : World} {base : Nat} {v : Value} {l : List Nat} (h : Tx W base v l) : ∃ a k, v = .slice a l.length k := by
  obtain ⟨a, k, e, _⟩ := h.rowF
  exact ⟨a, k, e⟩
/-- append to a list of one's own, as a run. -/
theorem run_ap {P : Program} (w : World) (base : Nat) (t ty e : TypeId) (i : TypeInfo) (z : Value) (size bytes : Nat) (ht : P.underlying t = some (.slice e)) (hi : P.info? e = some i) (hz : i.zero = some z)
    (hsize : i.size = size) (hby : i.bytes = bytes) (hzs : z.cells.size = size) (hsz : 0 < size)
    (v : Value) (n : Nat) (xs : List Value) (hown : w.ownsRow base e size v n xs)
    (a : Addr) (m c : Nat) (news : List Value) (hl : news.length = m * size) (hnews : ∀ j u, news[j]? = some u → w.cell? (a.add j) = some u) (h1 : ∀ u ∈ news, u.oneCell' = true)
    (h63 : n + m ≤ maxLen) (hbytes : (n + m) * bytes ≤ 140737488355328) (hbase : base ≤ w.heap.size) :
    ∃ v' w', (Builtin.append_ #[t, t] ty #[v, .slice (some a) m c]).run P w = .ok v' w' ∧ w'.ownsRow base e size v' (n + m) (xs ++ news) ∧ Gr w v w' v' := by
  subst hsize
  subst hby
  have hsmall : n + m ≤ 9223372036854775807 := by simp only [maxLen] at h63; omega
  have hlen : (xs ++ news).length = (n + m) * i.size := by rw [List.length_append, hown.1, hl, Nat.add_mul]
  have grown : ∀ (old : Nat), old < n + m → ∀ (row : Option Nat),
      (w.drew.alloc (.cells (xs.toArray ++ news.toArray ++ Builtin.zeroCells z.cells (grownCap w (n + m) old e - (n + m))) e)).ownsRow base e i.size
        (.slice (some ⟨w.heap.size, 0, none⟩) (n + m) (grownCap w (n + m) old e)) (n + m) (xs ++ news) ∧
      w.grownBy (w.drew.alloc (.cells (xs.toArray ++ news.toArray ++ Builtin.zeroCells z.cells (grownCap w (n + m) old e - (n + m))) e)) row := by
    intro old ho row
    have hge := grownCap_ge w (n + m) old e
    have hcm : grownCap w (n + m) old e ≤ maxLen := grownCap_le_maxLen w (n + m) old e h63
    refine ⟨⟨hlen, .inr ⟨w.heap.size, _, _, rfl, hbase, heap_alloc_new w.drew _, hge, hcm, ?_, ?_⟩⟩, ⟨rfl, rfl, rfl, by simp, fun k hk _ => Below.heap_alloc w.drew _ k hk⟩⟩
    · simp only [Array.size_append, List.size_toArray, size_zeroCells, hzs, hown.1, hl, ← Nat.add_mul]
      congr 1
      omega
    · simp only [Array.toList_append, List.append_assoc]
      rw [← List.append_assoc, ← hlen]
      exact List.take_left
  have new : ∀ x : Nat, (Value.slice (some ⟨w.heap.size, 0, none⟩) (n + m) x).ownBlock = v.ownBlock ∨ ∀ g, (Value.slice (some ⟨w.heap.size, 0, none⟩) (n + m) x).ownBlock = some g → w.heap.size ≤ g :=
    fun x => .inr fun g hg => by cases hg; exact Nat.le_refl _
  rcases hown.2 with ⟨rfl, rfl⟩ | ⟨g, cap, cur, rfl, hbg, hg, hnc, hcm, hcs, htake⟩
  · have hx : xs = [] := List.eq_nil_of_length_eq_zero (by simpa using hown.1)
    subst hx
    by_cases hm : m = 0
    · subst hm
      have hn : news = [] := List.eq_nil_of_length_eq_zero (by simpa using hl)
      subst hn
      refine ⟨.slice none 0 0, w, ?_, World.ownsRow_nil w base e i.size, Gr.refl _ _⟩
      simp [Builtin.append_, run_underlying ht, sizeOf, typeInfo, hi, Builtin.lenOf, Builtin.firstCells, loadCells, loadCellsFrom]
    · have hr := run_append_nil (P := P) w t ty e i z ht hi hz a m c news hl hnews (by omega) (by omega) (by have hb := hbytes; simp only [Nat.zero_add] at hb; omega)
      have hgr := grown 0 (by omega) (Value.ownBlock (.slice none 0 0))
      simp only [Nat.zero_add, List.nil_append, Array.empty_append] at hgr new ⊢
      exact ⟨_, _, hr, hgr.1, ⟨hgr.2, new _⟩⟩
  · by_cases hroom : n + m ≤ cap
    · have hfit : n * i.size + news.length ≤ cur.size := by rw [hl, hcs, ← Nat.add_mul]; exact Nat.mul_le_mul_right _ hroom
      have hr := run_append_room (P := P) w t ty e i ht hi g n cap cur hg a m c news hl hnews h1 hroom hfit
      refine ⟨_, _, hr, ⟨hlen, .inr ⟨g, cap, _, rfl, hbg, setRow_heap w g cur _ e _ hg, hroom, hcm, ?_, ?_⟩⟩, ⟨⟨rfl, rfl, rfl, by simp, fun k _ hk => setRow_other w g k _ (fun e => hk (by simp [Value.ownBlock, e]))⟩, .inl rfl⟩⟩
      · simp only [List.size_toArray, List.length_append, List.length_take, List.length_drop, Array.length_toList]
        omega
      · rw [htake, ← hlen]
        exact List.take_left
    · have holds : ∀ j u, xs[j]? = some u → w.cell? ((⟨g, 0, none⟩ : Addr).add j) = some u := hown.cells (g := g) rfl
      have hr := run_append_grow (P := P) w t ty e i z ht hi hz ⟨g, 0, none⟩ n cap xs hown.1 holds a m c news hl hnews (by omega) (by omega) (growslice_fits (by omega) hbytes)
      have hgr := grown cap (by omega) (Value.ownBlock (.slice (some ⟨g, 0, none⟩) n cap))
      exact ⟨_, _, hr, hgr.1, ⟨hgr.2, new _⟩⟩
/-- append of a list that lies in memory to one of the call's own. -/
theorem wpList_ap {ops : Array Oper} {rest : List Oper} {o : Oper} {a : Act} {Q : Exit → Act → World → Prop} (hgd : o.guard = none) (s x : Operand)
    (ho : o.op = .call { callee := .builtin .append, args := #[s, x], argTypes := #[28, 28] }) {l r : List Nat} {v v0 : Value} {W w0 : World} {base : Nat} {ad : Option Addr} {n k : Nat} (hown : Tx W base v l) (hb : Gr w0 v0 W v) (hbase : base ≤ W.heap.size)
    (hs : a.eval s = v) (hx : a.eval x = .slice ad n k) (hn : r.length = n) (hr : Row W ad r) (hlm : l.length + r.length ≤ 140737488355328)
    (h : ∀ v' w', Tx w' base v' (l ++ r) → Gr w0 v0 w' v' → base ≤ w'.heap.size → wpList Tryd.prog ops Q rest (a.put o.dst v') w') : wpList Tryd.prog ops Q (o :: rest) a W := by
  obtain ⟨i0, hi, hz0, hz1, hz2⟩ := info_parts Tryd.infoU8
  cases ad with
  | none =>
    have hr0 : r = [] := by
      rcases hr with e | ⟨b, off, e, _⟩
      · exact e
      · cases e
    subst hr0
    obtain rfl : n = 0 := by simpa using hn.symm
    refine wpList_app_nil hgd s x 28 ho base 5 i0 1 k (by kernel_rfl) hi v l.length (vals l) hs hown hx (h v W ?_ hb hbase)
    rw [List.append_nil]
    exact hown
  | some ad =>
    have hnews : ∀ j u, (vals r)[j]? = some u → W.cell? (ad.add j) = some u := by
      intro j u hu
      have hj : j < r.length := by have := (List.getElem?_eq_some_iff.1 hu).1; rwa [vals_len] at this
      rcases hr with e | ⟨b, off, e, hc⟩
      · rw [e] at hj; cases hj
      · obtain rfl := Option.some.inj e
        rw [Addr.add_lit, hc j hj]
        simp [vals, hj] at hu
        rw [← hu]
        simp [hj]
    obtain ⟨v', w', hrun, h1, h2⟩ := run_ap (P := Tryd.prog) W base 28 o.type 5 i0 _ 1 1 (by kernel_rfl) hi hz0 hz1 hz2 rfl (by decide) v l.length (vals l) hown ad n k (vals r) (by rw [vals_len, hn, Nat.mul_one]) hnews (vals_one _) (by unfold maxLen; omega) (by omega) hbase
    refine wpList_plain hgd fun K hK => ?_
    unfold Oper.wp execOp
    simp only [ho, resolve, invoke, builtin, Sem.run_bind, Sem.run_pure, Result.andThen_ok, List.map_toArray, List.map_cons, List.map_nil, hs, hx, hrun]
    refine hK _ _ (h v' w' ?_ (hb.trans h2) (Nat.le_trans hbase h2.grown.size))
    unfold Tx; rw [List.length_append, show vals (l ++ r) = vals l ++ vals r by simp [vals], hn]; exact h1
/-- append of a byte. -/
theorem wpList_ap1 {ops : Array Oper} {rest : List Oper} {o : Oper} {a : Act} {Q : Exit → Act → World → Prop} (hgd : o.guard = none) (s x : Operand)
    (ho : o.op = .call { callee := .builtin .append, args := #[s, x], argTypes := #[28, 28] }) {l : List Nat} {v v0 : Value} {W w0 : World} {base : Nat} (c : Nat) {cs : Array Value} (hown : Tx W base v l) (hb : Gr w0 v0 W v) (hbase : base ≤ W.heap.size)
    (hs : a.eval s = v) (hx : a.eval x = .slice (some ⟨W.heap.size, 0, none⟩) 1 1) (hcs : cs = #[.int .u8 (c : Int)]) (hlm : l.length ≤ 17592186044416)
    (h : ∀ v' w', Tx w' base v' (l ++ [c]) → Gr w0 v0 w' v' → base ≤ w'.heap.size → wpList Tryd.prog ops Q rest (a.put o.dst v') w') : wpList Tryd.prog ops Q (o :: rest) a (W.alloc (.cells cs 5)) := by
  subst hcs
  refine wpList_ap hgd s x ho (r := [c]) (World.ownsRow.alloc hown _) (hb.alloc _) (by simp; omega) hs hx rfl (.inr ⟨W.heap.size, 0, rfl, fun j hj => ?_⟩) (by simp; omega) h
  obtain rfl : j = 0 := by simpa using hj
  exact (Blk.new W #[.int .u8 (c : Nat)] 5).cell 0
/-- The value v is this list; its row may have a mark, where it is full. -/
def Ty (w : World) (base : Nat) (v : Value) (l : List Nat) : Prop :=
  Tx w base v l ∨ ∃ g fz, v = .slice (some ⟨g, 0, none⟩) l.length l.length ∧ base ≤ g ∧ w.heap[g]? = some (.cells (vals l).toArray 5 fz)
theorem Ty.on {W W' : World} {base : Nat} {v : Value} {l : List Nat} (h : Ty W base v l) (k : Below W.heap.size W W') : Ty W' base v l := by
  rcases h with h | ⟨g, fz, e, hg, hh⟩
  · exact .inl (h.on k)
  · exact .inr ⟨g, fz, e, hg, (k.block g (Array.getElem?_eq_some_iff.1 hh).1).trans hh⟩
theorem Ty.block {W : World} {base : Nat} {v : Value} {l : List Nat} (h : Ty W base v l) : ∀ k, v.ownBlock = some k → base ≤ k ∧ k < W.heap.size := by
  rcases h with h | ⟨g, fz, e, hg, hh⟩
  · exact h.block
  · intro k hk
    rw [e] at hk; cases hk
    exact ⟨hg, (Array.getElem?_eq_some_iff.1 hh).1⟩
theorem Ty.notBlk {W : World} {base g : Nat} {v : Value} {l : List Nat} {cs : Array Value} {t : TypeId} (h : Ty W base v l) (hb : Blk W g cs t) (ht : t ≠ 5) : v.ownBlock ≠ some g := by
  rcases h with h | ⟨g', fz, e, hg, hh⟩
  · exact h.notBlk hb ht
  · intro e3
    have e2 : g' = g := by rw [e] at e3; cases e3; rfl
    rw [e2, show W.heap[g]? = _ from hb] at hh
    cases hh
    exact ht rfl
theorem wpList_ay1 {ops : Array Oper} {rest : List Oper} {o : Oper} {a : Act} {Q : Exit → Act → World → Prop} (hgd : o.guard = none) (s x : Operand)
    (ho : o.op = .call { callee := .builtin .append, args := #[s, x], argTypes := #[28, 28] }) {l : List Nat} {v v0 : Value} {W w0 : World} {base : Nat} (c : Nat) {cs : Array Value} (hown : Ty W base v l) (hb : Gr w0 v0 W v) (hbase : base ≤ W.heap.size)
    (hs : a.eval s = v) (hx : a.eval x = .slice (some ⟨W.heap.size, 0, none⟩) 1 1) (hcs : cs = #[.int .u8 (c : Int)]) (hlm : l.length ≤ 17592186044416)
    (h : ∀ v' w', Tx w' base v' (l ++ [c]) → Gr w0 v0 w' v' → base ≤ w'.heap.size → wpList Tryd.prog ops Q rest (a.put o.dst v') w') : wpList Tryd.prog ops Q (o :: rest) a (W.alloc (.cells cs 5)) := by
  rcases hown with hown | ⟨g, fz, e, hg, hh⟩
  · exact wpList_ap1 hgd s x ho c hown hb hbase hs hx hcs hlm h
  · subst hcs
    obtain ⟨i0, hi, hz0, hz1, hz2⟩ := info_parts Tryd.infoU8
    obtain ⟨w, hw⟩ : ∃ w, w = W.alloc (.cells #[.int .u8 (c : Int)] 5) := ⟨_, rfl⟩
    have hgw : w.heap[g]? = some (.cells (vals l).toArray 5 fz) := by rw [hw]; exact (Below.heap_alloc W _ g (Array.getElem?_eq_some_iff.1 hh).1).trans hh
    have holds : ∀ j u, (vals l)[j]? = some u → w.cell? ((⟨g, 0, none⟩ : Addr).add j) = some u := by
      intro j u hu
      rw [Addr.add_lit, Nat.zero_add, cell_of_row w g j _ _ fz hgw]
      simpa using hu
    have hnews : ∀ j u, (vals [c])[j]? = some u → w.cell? ((⟨W.heap.size, 0, none⟩ : Addr).add j) = some u := by
      intro j u hu
      have hj : j = 0 := by have := (List.getElem?_eq_some_iff.1 hu).1; simp [vals] at this; omega
      subst hj
      rw [hw, Addr.add_lit]
      simp [vals] at hu
      subst hu
      exact (Blk.new W #[.int .u8 (c : Nat)] 5).cell 0
    have hr := run_append_grow (P := Tryd.prog) w 28 o.type 5 i0 (.int .u8 0) (by kernel_rfl) hi hz0 ⟨g, 0, none⟩ l.length l.length (vals l) (by rw [hz1, vals_len]; omega) holds ⟨W.heap.size, 0, none⟩ 1 1 (vals [c]) (by rw [hz1]; rfl) hnews (by omega) (by omega) (growslice_fits (by omega) (by rw [hz2]; omega))
    have hge := grownCap_ge w (l.length + 1) l.length 5
    have hcm : grownCap w (l.length + 1) l.length 5 ≤ maxLen := grownCap_le_maxLen w (l.length + 1) l.length 5 (by unfold maxLen; omega)
    have hws : w.heap.size = W.heap.size + 1 := by rw [hw]; exact World.size_alloc _ _
    rw [← hw]
    refine wpList_plain hgd fun K hK => ?_
    unfold Oper.wp execOp
    simp only [ho, resolve, invoke, builtin, Sem.run_bind, Sem.run_pure, Result.andThen_ok, List.map_toArray, List.map_cons, List.map_nil, hs, e, hx, hr]
    have hgr : Gr w v (w.drew.alloc (.cells ((vals l).toArray ++ (vals [c]).toArray ++ Builtin.zeroCells (Value.int .u8 0).cells (grownCap w (l.length + 1) l.length 5 - (l.length + 1))) 5)) (.slice (some ⟨w.heap.size, 0, none⟩) (l.length + 1) (grownCap w (l.length + 1) l.length 5)) :=
      ⟨⟨rfl, rfl, rfl, by simp, fun k hk _ => Below.heap_alloc w.drew _ k hk⟩, .inr fun g hg => by cases hg; exact Nat.le_refl _⟩
    refine hK _ _ (h _ _ ?_ ((hw ▸ hb.alloc _ : Gr w0 v0 w v).trans hgr) (by have := hgr.grown.size; omega))
    unfold Tx
    rw [List.length_append, show vals (l ++ [c]) = vals l ++ vals [c] by simp [vals]]
    refine ⟨by simp [vals_len], .inr ⟨w.heap.size, _, _, rfl, by omega, heap_alloc_new w.drew _, hge, hcm, ?_, ?_⟩⟩
    · have hc1 : (Value.int .u8 0).cells.size = 1 := rfl
      rw [Array.size_append, size_zeroCells, hc1]
      simp [vals_len]
      omega
    · rw [Array.toList_append, Array.toList_append]
      refine List.take_left' ?_
      simp [vals]
/-- A list handed back, grown by some bytes. -/
def LsOk (base : Nat) (w : World) (v : Value) (L : List Nat) (e : Ending) (w' : World) : Prop := ∃ v', e = .returned v' ∧ Tx w' base v' L ∧ Gr w v w' v' ∧ base ≤ w'.heap.size
end Go.Proofs.YtlckjbangdnejaaDoor
