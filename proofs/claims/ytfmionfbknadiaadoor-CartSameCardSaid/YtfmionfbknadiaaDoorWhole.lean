/-
  What the function whole answers: a cartridge with PRG that is not empty, its four lists in memory; conditions: the cartridge's lists lie in memory, its numbers are ints.
-/
import Derived.Test.YtfmionfbknadiaaDoorTwin
import Derived.Test.YtfmionfbknadiaaDoorFilled
namespace Go.Proofs.YtfmionfbknadiaaDoor
open Go.RowKit
/-- A cartridge's cells: twelve numbers, three flags. -/
structure Shape (cs : Array Value) : Prop where
  size : cs.size = 19
  ints : ∀ i, i < 15 → i ≠ 3 → i ≠ 4 → i ≠ 5 → ∃ n : Int, cs[i]? = some (.int .i64 n) ∧ -9223372036854775808 ≤ n ∧ n ≤ 9223372036854775807
  bools : ∀ i, i = 3 ∨ i = 4 ∨ i = 5 → ∃ b : Bool, cs[i]? = some (.bool b)
  one : cs.all (·.oneCell') = true
theorem one_set {a : Array Value} {x : Value} (i : Nat) (ha : a.all (·.oneCell') = true) (hx : x.oneCell' = true) : (a.setIfInBounds i x).all (·.oneCell') = true := by
  rw [Array.all_eq_true_iff_forall_mem] at ha ⊢
  intro v hv
  obtain ⟨j, hj, rfl⟩ := Array.mem_iff_getElem.1 hv
  have hj' : j < a.size := by simpa using hj
  rw [Array.getElem_setIfInBounds hj']
  split
  · exact hx
  · exact ha _ (Array.getElem_mem hj')
theorem set_ne (cs : Array Value) {i j : Nat} (v : Value) (h : i ≠ j) : (cs.setIfInBounds i v)[j]? = cs[j]? := by simp [h]
theorem set_eq (cs : Array Value) {i : Nat} (v : Value) (h : i < cs.size) : (cs.setIfInBounds i v)[i]? = some v := by
  rw [Array.getElem?_eq_getElem (by simpa using h), Array.getElem_setIfInBounds (by simpa using h)]
  simp
theorem Shape.putInt {cs : Array Value} (h : Shape cs) (i : Nat) (hi : i < 15) (n3 : i ≠ 3) (n4 : i ≠ 4) (n5 : i ≠ 5) (v : Int) (h1 : -9223372036854775808 ≤ v) (h2 : v ≤ 9223372036854775807) : Shape (cs.setIfInBounds i (.int .i64 v)) := by
  refine ⟨by simpa using h.size, ?_, ?_, one_set i h.one rfl⟩
  · intro j hj m3 m4 m5
    by_cases e : i = j
    · subst e
      exact ⟨v, set_eq cs _ (by have := h.size; omega), h1, h2⟩
    · rw [set_ne cs _ e]
      exact h.ints j hj m3 m4 m5
  · intro j hj
    rw [set_ne cs _ (by omega)]
    exact h.bools j hj
theorem Shape.putList {cs : Array Value} (h : Shape cs) (i : Nat) (hi : 15 ≤ i) (a : Option Addr) (n k : Nat) : Shape (cs.setIfInBounds i (.slice a n k)) := by
  refine ⟨by simpa using h.size, ?_, ?_, one_set i h.one rfl⟩
  · intro j hj m3 m4 m5
    rw [set_ne cs _ (by omega)]
    exact h.ints j hj m3 m4 m5
  · intro j hj
    rw [set_ne cs _ (by omega)]
    exact h.bools j hj
/-- Where the work stands: the cartridge's own block, the result's, what is old. -/
structure Stage (w wx : World) (cs : Array Value) : Prop where
  blk : Blk wx w.heap.size cs 29
  zero : Blk wx (w.heap.size + 1) Z19 29
  bel : Below w.heap.size w wx
  shape : Shape cs
theorem Stage.call {w wx wy : World} {cs : Array Value} (h : Stage w wx cs) (hb : Below wx.heap.size wx wy) : Stage w wy cs :=
  ⟨h.blk.below h.blk.lt hb, h.zero.below h.zero.lt hb, h.bel.trans (hb.mono h.bel.size), h.shape⟩
theorem Stage.putInt {w wx : World} {cs : Array Value} (h : Stage w wx cs) (i : Nat) (hi : i < 15) (n3 : i ≠ 3) (n4 : i ≠ 4) (n5 : i ≠ 5) (v : Int) (h1 : -9223372036854775808 ≤ v) (h2 : v ≤ 9223372036854775807) :
    Stage w (wx.setCell ⟨w.heap.size, i, none⟩ (.int .i64 v)) (cs.setIfInBounds i (.int .i64 v)) :=
  ⟨h.blk.set i _, h.zero.other (by omega) i _, h.bel.setCell (p := ⟨w.heap.size, i, none⟩) (Nat.le_refl _) _, h.shape.putInt i hi n3 n4 n5 v h1 h2⟩
theorem Stage.putList {w wx : World} {cs : Array Value} (h : Stage w wx cs) (i : Nat) (hi : 15 ≤ i) (a : Option Addr) (n k : Nat) :
    Stage w (wx.setCell ⟨w.heap.size, i, none⟩ (.slice a n k)) (cs.setIfInBounds i (.slice a n k)) :=
  ⟨h.blk.set i _, h.zero.other (by omega) i _, h.bel.setCell (p := ⟨w.heap.size, i, none⟩) (Nat.le_refl _) _, h.shape.putList i hi a n k⟩
/-- Field i holds the list l, away from block B and the next. -/
def Lst (B : Nat) (wx : World) (cs : Array Value) (i : Nat) (l : List Nat) : Prop :=
  ∃ a k, cs[i]? = some (.slice a l.length k) ∧ l.length ≤ 140737488351232 ∧ Bytes l ∧ (l = [] ∨ ∃ b off, a = some ⟨b, off, none⟩ ∧ B + 1 < b ∧ ∀ j, j < l.length → wx.cell? ⟨b, off + j, none⟩ = some (.int .u8 (l.getD j 0 : Nat)))
theorem Lst.call {B : Nat} {wx wy : World} {cs : Array Value} {i : Nat} {l : List Nat} (h : Lst B wx cs i l) (hb : Below wx.heap.size wx wy) : Lst B wy cs i l := by
  obtain ⟨a, k, e, hl, hy, hr⟩ := h
  refine ⟨a, k, e, hl, hy, ?_⟩
  rcases hr with hr | ⟨b, off, ea, n1, hc⟩
  · exact .inl hr
  · exact .inr ⟨b, off, ea, n1, fun j hj => (hb.cell (p := ⟨b, off + j, none⟩) (cell_lt (p := ⟨b, off + j, none⟩) (hc j hj))).trans (hc j hj)⟩
theorem Lst.put {B : Nat} {wx : World} {cs : Array Value} {i : Nat} {l : List Nat} (h : Lst B wx cs i l) {j : Nat} (hij : j ≠ i) (v : Value) : Lst B (wx.setCell ⟨B, j, none⟩ v) (cs.setIfInBounds j v) i l := by
  obtain ⟨a, k, e, hl, hy, hr⟩ := h
  refine ⟨a, k, by rw [set_ne cs _ hij]; exact e, hl, hy, ?_⟩
  rcases hr with hr | ⟨b, off, ea, n1, hc⟩
  · exact .inl hr
  · refine .inr ⟨b, off, ea, n1, fun t ht => ?_⟩
    rw [World.cell?_setCell_far wx ⟨B, j, none⟩ ⟨b, off + t, none⟩ v (by show B ≠ b; omega)]
    exact hc t ht
theorem Lst.new {B : Nat} {wx : World} {cs : Array Value} {i : Nat} {l : List Nat} {g n : Nat} (hn : l.length = n) (hs : cs.size = 19) (hi : i < 19) (ho : Own wx g l) (hg : B + 1 < g) (hl : n ≤ 140737488351232) (hy : Bytes l) :
    Lst B (wx.setCell ⟨B, i, none⟩ (.slice (some ⟨g, 0, none⟩) n n)) (cs.setIfInBounds i (.slice (some ⟨g, 0, none⟩) n n)) i l := by
  subst hn
  refine ⟨some ⟨g, 0, none⟩, l.length, set_eq cs _ (by omega), hl, hy, .inr ⟨g, 0, rfl, hg, fun j hj => ?_⟩⟩
  rw [Nat.zero_add]
  exact (ho.other (m := B) (by omega) i _).cell j hj
/-- A CHR list that is nil has no room. -/
def Nk (cs : Array Value) : Prop := ∀ n k, cs[17]? = some (.slice none n k) → k = 0
theorem Nk.put {cs : Array Value} (h : Nk cs) {j : Nat} (hj : j ≠ 17) (v : Value) : Nk (cs.setIfInBounds j v) := fun n k e => h n k (by rw [← set_ne cs v hj]; exact e)
theorem Nk.nil {cs : Array Value} (hs : cs.size = 19) : Nk (cs.setIfInBounds 17 (.slice none 0 0)) := fun n k e => by
  rw [set_eq cs _ (by omega)] at e
  injection e with e; injection e with _ _ e3; exact e3.symm
theorem Nk.some {cs : Array Value} (hs : cs.size = 19) (a : Addr) (m : Nat) : Nk (cs.setIfInBounds 17 (.slice (some a) m m)) := fun n k e => by
  rw [set_eq cs _ (by omega)] at e
  injection e with e; injection e with e1; cases e1
theorem Shape.get {cs : Array Value} (h : Shape cs) (i : Nat) (hi : i < 19) : ∃ v, cs[i]? = some v := ⟨_, Array.getElem?_eq_getElem (by have := h.size; omega)⟩
theorem filled_i (m : Int) (h0 : 0 ≤ m) (h1 : m ≤ 1048576) (fill : Int) (w : World) :
    Calls Tryd.prog 22 #[.int .i64 m, .int .i64 fill] w fun e w' => ∃ (g n : Nat) (l : List Nat), (n : Int) = m ∧ l.length = n ∧ Bytes l ∧ e = .returned (.slice (some ⟨g, 0, none⟩) n n) ∧ w.heap.size ≤ g ∧ Own w' g l ∧ Below w.heap.size w w' := by
  obtain ⟨n, rfl⟩ := Int.eq_ofNat_of_zero_le h0
  refine (filled_any n (by omega) fill w).mono ?_
  rintro e w' ⟨g, he, hg, ho, hb⟩
  exact ⟨g, n, _, rfl, fillL_len _ _, fillL_bytes _ _, he, hg, ho, hb⟩
theorem size_prg (n : Int) (w : World) (h1 : -9223372036854775808 ≤ n) (h2 : n ≤ 9223372036854775807) :
    Calls Tryd.prog 21 #[.int .i64 n, .int .i64 16384, .int .i64 65536] w fun e w' => ∃ k : Nat, 1 ≤ k ∧ k ≤ 65536 ∧ e = .returned (.int .i64 k) ∧ w' = w := size_any n 16384 65536 w h1 h2 (by decide) (by decide) (by decide) (by decide)
theorem size_chr (n : Int) (w : World) (h1 : -9223372036854775808 ≤ n) (h2 : n ≤ 9223372036854775807) :
    Calls Tryd.prog 21 #[.int .i64 n, .int .i64 8192, .int .i64 32768] w fun e w' => ∃ k : Nat, 1 ≤ k ∧ k ≤ 65536 ∧ e = .returned (.int .i64 k) ∧ w' = w := size_any n 8192 32768 w h1 h2 (by decide) (by decide) (by decide) (by decide)
theorem mem_bd : ∀ k : Nat, k ≤ 15 → (if k = 0 then 0 else 64 * 2 ^ k : Nat) ≤ 2097152 := by decide
theorem Lst.empty {B : Nat} {wx : World} {cs : Array Value} {i : Nat} (hs : cs.size = 19) (hi : i < 19) : Lst B (wx.setCell ⟨B, i, none⟩ (.slice none 0 0)) (cs.setIfInBounds i (.slice none 0 0)) i [] :=
  ⟨none, 0, set_eq cs _ (by omega), by decide, (fun _ h => by cases h), .inl rfl⟩
theorem Lst.many {B : Nat} {cs : Array Value} {i : Nat} {l : List Nat} : ∀ (vs : List Value) (o : Nat) {wx : World}, Lst B wx cs i l → Lst B (wx.setCells (B + 1) o vs) cs i l
  | [], _, _, h => h
  | v :: vs, o, wx, h => by
    refine Lst.many vs (o + 1) ?_
    obtain ⟨a, k, e, hl, hy, hr⟩ := h
    refine ⟨a, k, e, hl, hy, ?_⟩
    rcases hr with hr | ⟨b, off, ea, n1, hc⟩
    · exact .inl hr
    · refine .inr ⟨b, off, ea, n1, fun t ht => ?_⟩
      rw [World.cell?_setCell_far wx ⟨B + 1, o, none⟩ ⟨b, off + t, none⟩ v (by show B + 1 ≠ b; omega)]
      exact hc t ht
theorem Lst.far {B : Nat} {wx : World} {cs : Array Value} {i : Nat} {l : List Nat} (h : Lst B wx cs i l) (m : Nat) (hm : m ≤ B + 1) : ∀ (vs : List Value) (o : Nat), Lst B (wx.setCells m o vs) cs i l := by
  intro vs
  induction vs generalizing wx with
  | nil => intro o; exact h
  | cons v vs ih =>
    intro o
    refine ih ?_ (o + 1)
    obtain ⟨a, k, e, hl, hy, hr⟩ := h
    refine ⟨a, k, e, hl, hy, ?_⟩
    rcases hr with hr | ⟨b, off, ea, n1, hc⟩
    · exact .inl hr
    · refine .inr ⟨b, off, ea, n1, fun t ht => ?_⟩
      rw [World.cell?_setCell_far wx ⟨m, o, none⟩ ⟨b, off + t, none⟩ v (by show m ≠ b; omega)]
      exact hc t ht
/-- Field i holds a list of n bytes. -/
def Sl (cs : Array Value) (i n : Nat) : Prop := ∃ a k, cs[i]? = some (.slice a n k)
theorem Sl.put {cs : Array Value} {i n : Nat} (h : Sl cs i n) {j : Nat} (hij : j ≠ i) (v : Value) : Sl (cs.setIfInBounds j v) i n := by
  obtain ⟨a, k, e⟩ := h
  exact ⟨a, k, by rw [set_ne cs _ hij]; exact e⟩
theorem Sl.call {cs : Array Value} {i n : Nat} (h : Sl cs i n) {wx wy : World} (_ : Below wx.heap.size wx wy) : Sl cs i n := h
theorem Lst.row {B : Nat} {wx : World} {cs : Array Value} {i : Nat} {l : List Nat} (h : Lst B wx cs i l) : ∃ a k, cs[i]? = some (.slice a l.length k) ∧ l.length ≤ 140737488351232 ∧ Bytes l ∧ Row wx a l := by
  obtain ⟨a, k, e, hl, hy, hr⟩ := h
  refine ⟨a, k, e, hl, hy, ?_⟩
  rcases hr with hr | ⟨b, off, ea, _, hc⟩
  · exact .inl hr
  · exact .inr ⟨b, off, ea, hc⟩

theorem emod16 (m : Int) (lo : -9223372036854775808 ≤ m) (hi : m ≤ 9223372036854775807) : -9223372036854775808 ≤ m.tmod 16 ∧ m.tmod 16 ≤ 9223372036854775807 := by
  rcases Int.le_total 0 m with h | h
  · rw [Int.tmod_eq_emod_of_nonneg h]; omega
  · obtain ⟨k, rfl⟩ : ∃ k, m = -k := ⟨-m, by omega⟩
    rw [Int.neg_tmod, Int.tmod_eq_emod_of_nonneg (by omega)]; omega
set_option maxRecDepth 100000 in
set_option maxHeartbeats 6400000 in
theorem whole_any (cs : Array Value) (tn : Nat) (p q fill : Int) (w : World) (S : Shape cs) (h15 : Sl cs 15 tn)
    (p1 : -9223372036854775808 ≤ p) (p2 : p ≤ 9223372036854775807) (q1 : -9223372036854775808 ≤ q) (q2 : q ≤ 9223372036854775807) (f1 : -9223372036854775808 ≤ fill) (f2 : fill ≤ 9223372036854775807) :
    Calls Tryd.prog 9 #[.agg cs, .int .i64 p, .int .i64 q, .int .i64 fill] w fun e w' => ∃ ds T' P Q R,
      e = .returned (.agg ds) ∧ Shape ds ∧ P ≠ [] ∧ Lst w.heap.size w' ds 15 T' ∧ Lst w.heap.size w' ds 16 P ∧ Lst w.heap.size w' ds 17 Q ∧ Lst w.heap.size w' ds 18 R ∧ Q.length ≤ 65536 ∧ P.length ≤ 65536 ∧ Nk ds ∧ Below w.heap.size w w' := by
  have HS : Hid (cs.size = 19) := S.size
  have hsz := S.size
  have HF : Hid ((-9223372036854775808 ≤ fill ∧ fill ≤ 9223372036854775807) ∧ (-9223372036854775808 ≤ p ∧ p ≤ 9223372036854775807) ∧ (-9223372036854775808 ≤ q ∧ q ≤ 9223372036854775807)) := ⟨⟨f1, f2⟩, ⟨p1, p2⟩, ⟨q1, q2⟩⟩
  clear p1 p2 q1 q2 f1 f2
  go_enter Tryd.func9, Tryd.ntmps9
  go_upto_region 1 with fail
  have St0 : Stage w ((w.alloc (.cells cs 29)).alloc (.cells Z19 29)) cs := by
    refine ⟨(Blk.new w cs _).old _, ?_, ((Below.refl _ _).alloc (Nat.le_refl _) _).alloc (by simp) _, S⟩
    have := Blk.new (w.alloc (.cells cs 29)) Z19 29
    rwa [World.size_alloc] at this
  have LT0 := h15
  have X0 : Hid (cs.size = 19) := HS
  generalize ((w.alloc (.cells cs 29)).alloc (.cells Z19 29)) = W0 at *
  clear hsz S h15
  obtain ⟨n0, en, lo, hi⟩ := St0.shape.ints 0 (by omega) (by omega) (by omega) (by omega)
  have d := (St0.blk.cell 0).trans en
  have f := St0.blk.free 0
  clear en
  go_upto_region 2 with fail
  have St1 := St0.putInt 0 (by omega) (by omega) (by omega) (by omega) 2 (by omega) (by omega)
  have LT1 := LT0.put (j := 0) (by omega) (.int .i64 2)
  clear St0 LT0
  generalize W0.setCell ⟨w.heap.size, 0, none⟩ (.int .i64 2) = W1 at *
  generalize cs.setIfInBounds 0 (.int .i64 2) = cs1 at *
  clear d f lo hi
  obtain ⟨n1, en, lo, hi⟩ := St1.shape.ints 1 (by omega) (by omega) (by omega) (by omega)
  have d := (St1.blk.cell 1).trans en
  have f := St1.blk.free 1
  clear en
  go_wp2_with fail
  have hs := spanV_bd n1 0 4095 (by omega)
  refine (span_any n1 0 4095 W1 lo hi (by omega) (by omega) (by omega)).mono ?_
  rintro e W1 ⟨rfl, rfl⟩
  generalize spanV n1 0 4095 = s1 at *
  go_upto_region 3 with fail
  have St2 := St1.putInt 1 (by omega) (by omega) (by omega) (by omega) s1 (by omega) (by omega)
  have LT2 := LT1.put (j := 1) (by omega) (.int .i64 s1)
  clear St1 LT1
  generalize W1.setCell ⟨w.heap.size, 1, none⟩ (.int .i64 s1) = W2 at *
  generalize cs1.setIfInBounds 1 (.int .i64 s1) = cs2 at *
  clear d f lo hi hs
  obtain ⟨n2, en, lo, hi⟩ := St2.shape.ints 2 (by omega) (by omega) (by omega) (by omega)
  have d := (St2.blk.cell 2).trans en
  have f := St2.blk.free 2
  clear en
  go_wp2_with fail
  have hs := spanV_bd n2 0 15 (by omega)
  refine (span_any n2 0 15 W2 lo hi (by omega) (by omega) (by omega)).mono ?_
  rintro e W2 ⟨rfl, rfl⟩
  generalize spanV n2 0 15 = s2 at *
  go_upto_region 4 with fail
  have St3 := St2.putInt 2 (by omega) (by omega) (by omega) (by omega) s2 (by omega) (by omega)
  have LT3 := LT2.put (j := 2) (by omega) (.int .i64 s2)
  clear St2 LT2
  generalize W2.setCell ⟨w.heap.size, 2, none⟩ (.int .i64 s2) = W3 at *
  generalize cs2.setIfInBounds 2 (.int .i64 s2) = cs3 at *
  clear d f lo hi hs
  obtain ⟨n6, en, lo, hi⟩ := St3.shape.ints 6 (by omega) (by omega) (by omega) (by omega)
  have d := (St3.blk.cell 6).trans en
  have f := St3.blk.free 6
  clear en
  go_wp2_with fail
  have hs := spanV_bd n6 0 3 (by omega)
  refine (span_any n6 0 3 W3 lo hi (by omega) (by omega) (by omega)).mono ?_
  rintro e W3 ⟨rfl, rfl⟩
  generalize spanV n6 0 3 = s6 at *
  go_upto_region 5 with fail
  have St4 := St3.putInt 6 (by omega) (by omega) (by omega) (by omega) s6 (by omega) (by omega)
  have LT4 := LT3.put (j := 6) (by omega) (.int .i64 s6)
  clear St3 LT3
  generalize W3.setCell ⟨w.heap.size, 6, none⟩ (.int .i64 s6) = W4 at *
  generalize cs3.setIfInBounds 6 (.int .i64 s6) = cs4 at *
  clear d f lo hi hs
  obtain ⟨n7, en, lo, hi⟩ := St4.shape.ints 7 (by omega) (by omega) (by omega) (by omega)
  have d := (St4.blk.cell 7).trans en
  have f := St4.blk.free 7
  clear en
  go_wp2_with fail
  have hs := spanV_bd n7 0 255 (by omega)
  refine (span_any n7 0 255 W4 lo hi (by omega) (by omega) (by omega)).mono ?_
  rintro e W4 ⟨rfl, rfl⟩
  generalize spanV n7 0 255 = s7 at *
  go_upto_region 6 with fail
  have St5 := St4.putInt 7 (by omega) (by omega) (by omega) (by omega) s7 (by omega) (by omega)
  have LT5 := LT4.put (j := 7) (by omega) (.int .i64 s7)
  clear St4 LT4
  generalize W4.setCell ⟨w.heap.size, 7, none⟩ (.int .i64 s7) = W5 at *
  generalize cs4.setIfInBounds 7 (.int .i64 s7) = cs5 at *
  clear d f lo hi hs
  obtain ⟨m6, en, lo6, hi6⟩ := St5.shape.ints 6 (by omega) (by omega) (by omega) (by omega)
  have d6 := (St5.blk.cell 6).trans en
  have g6 := St5.blk.free 6
  clear en g6
  obtain ⟨m7, en, lo, hi⟩ := St5.shape.ints 7 (by omega) (by omega) (by omega) (by omega)
  have d := (St5.blk.cell 7).trans en
  have f := St5.blk.free 7
  clear en
  go_upto_if 30 with fail
  go_cut [] (fun wx => ∃ cx, Stage w wx cx ∧ Sl cx 15 tn)
  case first =>
    have hm := emod16 m7 lo hi
    by_cases h3 : m6 = 3
    · have h3' : (m6 == 3) = true := by simp [h3]
      go_wp2
      go_meet
      case rel => exact ⟨_, St5.putInt 7 (by omega) (by omega) (by omega) (by omega) (m7.tmod 16) hm.1 hm.2, LT5.put (j := 7) (by omega) _⟩
    · have h3' : (m6 == 3) = false := by simp [h3]
      by_cases h1 : m6 = 1
      · have h1' : (m6 != 1) = false := by simp [h1]
        go_wp2
        go_meet
        case rel => exact ⟨_, St5, LT5⟩
      · have h1' : (m6 != 1) = true := by simp [h1]
        go_wp2
        go_meet
        case rel => exact ⟨_, St5.putInt 7 (by omega) (by omega) (by omega) (by omega) 0 (by omega) (by omega), LT5.put (j := 7) (by omega) _⟩
  case rest =>
  clear St5 LT5 d6 d f lo hi lo6 hi6
  obtain ⟨cs6, St6, LT6⟩ := hcut
  generalize wc = W6 at *
  obtain ⟨n8, en, lo, hi⟩ := St6.shape.ints 8 (by omega) (by omega) (by omega) (by omega)
  have d := (St6.blk.cell 8).trans en
  have f := St6.blk.free 8
  clear en
  go_wp2_with fail
  have hs := spanV_bd n8 0 3 (by omega)
  refine (span_any n8 0 3 W6 lo hi (by omega) (by omega) (by omega)).mono ?_
  rintro e W6 ⟨rfl, rfl⟩
  generalize spanV n8 0 3 = s8 at *
  go_upto_region 11 with fail
  have St7 := St6.putInt 8 (by omega) (by omega) (by omega) (by omega) s8 (by omega) (by omega)
  have LT7 := LT6.put (j := 8) (by omega) (.int .i64 s8)
  clear St6 LT6
  generalize W6.setCell ⟨w.heap.size, 8, none⟩ (.int .i64 s8) = W7 at *
  generalize cs6.setIfInBounds 8 (.int .i64 s8) = cs7 at *
  clear d f lo hi hs
  obtain ⟨n9, en, lo, hi⟩ := St7.shape.ints 9 (by omega) (by omega) (by omega) (by omega)
  have d := (St7.blk.cell 9).trans en
  have f := St7.blk.free 9
  clear en
  go_wp2_with fail
  have hs := spanV_bd n9 0 63 (by omega)
  refine (span_any n9 0 63 W7 lo hi (by omega) (by omega) (by omega)).mono ?_
  rintro e W7 ⟨rfl, rfl⟩
  generalize spanV n9 0 63 = s9 at *
  go_upto_region 12 with fail
  have St8 := St7.putInt 9 (by omega) (by omega) (by omega) (by omega) s9 (by omega) (by omega)
  have LT8 := LT7.put (j := 9) (by omega) (.int .i64 s9)
  clear St7 LT7
  generalize W7.setCell ⟨w.heap.size, 9, none⟩ (.int .i64 s9) = W8 at *
  generalize cs7.setIfInBounds 9 (.int .i64 s9) = cs8 at *
  clear d f lo hi hs
  obtain ⟨n10, en, lo, hi⟩ := St8.shape.ints 10 (by omega) (by omega) (by omega) (by omega)
  have d := (St8.blk.cell 10).trans en
  have f := St8.blk.free 10
  clear en
  go_wp2_with fail
  have hs := spanV_bd n10 0 3 (by omega)
  refine (span_any n10 0 3 W8 lo hi (by omega) (by omega) (by omega)).mono ?_
  rintro e W8 ⟨rfl, rfl⟩
  generalize spanV n10 0 3 = s10 at *
  go_upto_region 13 with fail
  have St9 := St8.putInt 10 (by omega) (by omega) (by omega) (by omega) s10 (by omega) (by omega)
  have LT9 := LT8.put (j := 10) (by omega) (.int .i64 s10)
  clear St8 LT8
  generalize W8.setCell ⟨w.heap.size, 10, none⟩ (.int .i64 s10) = W9 at *
  generalize cs8.setIfInBounds 10 (.int .i64 s10) = cs9 at *
  clear d f lo hi hs
  obtain ⟨n11, en, lo, hi⟩ := St9.shape.ints 11 (by omega) (by omega) (by omega) (by omega)
  have d := (St9.blk.cell 11).trans en
  have f := St9.blk.free 11
  clear en
  go_wp2_with fail
  refine (memory_any n11 W9 lo hi).mono ?_
  rintro e W9 ⟨mk, hmk, rfl, rfl⟩
  have hv := mem_bd mk hmk
  generalize (if mk = 0 then 0 else 64 * 2 ^ mk : Nat) = v11 at *
  go_upto_region 14 with fail
  have St10 := St9.putInt 11 (by omega) (by omega) (by omega) (by omega) (v11 : Int) (by omega) (by omega)
  have LT10 := LT9.put (j := 11) (by omega) (.int .i64 (v11 : Int))
  clear St9 LT9
  generalize W9.setCell ⟨w.heap.size, 11, none⟩ (.int .i64 (v11 : Int)) = W10 at *
  generalize cs9.setIfInBounds 11 (.int .i64 (v11 : Int)) = cs10 at *
  clear d f lo hi hv hmk
  obtain ⟨n12, en, lo, hi⟩ := St10.shape.ints 12 (by omega) (by omega) (by omega) (by omega)
  have d := (St10.blk.cell 12).trans en
  have f := St10.blk.free 12
  clear en
  go_wp2_with fail
  refine (memory_any n12 W10 lo hi).mono ?_
  rintro e W10 ⟨mk, hmk, rfl, rfl⟩
  have hv := mem_bd mk hmk
  generalize (if mk = 0 then 0 else 64 * 2 ^ mk : Nat) = v12 at *
  go_upto_region 15 with fail
  have St11 := St10.putInt 12 (by omega) (by omega) (by omega) (by omega) (v12 : Int) (by omega) (by omega)
  have LT11 := LT10.put (j := 12) (by omega) (.int .i64 (v12 : Int))
  clear St10 LT10
  generalize W10.setCell ⟨w.heap.size, 12, none⟩ (.int .i64 (v12 : Int)) = W11 at *
  generalize cs10.setIfInBounds 12 (.int .i64 (v12 : Int)) = cs11 at *
  clear d f lo hi hv hmk
  obtain ⟨n13, en, lo, hi⟩ := St11.shape.ints 13 (by omega) (by omega) (by omega) (by omega)
  have d := (St11.blk.cell 13).trans en
  have f := St11.blk.free 13
  clear en
  go_wp2_with fail
  refine (memory_any n13 W11 lo hi).mono ?_
  rintro e W11 ⟨mk, hmk, rfl, rfl⟩
  have hv := mem_bd mk hmk
  generalize (if mk = 0 then 0 else 64 * 2 ^ mk : Nat) = v13 at *
  go_upto_region 16 with fail
  have St12 := St11.putInt 13 (by omega) (by omega) (by omega) (by omega) (v13 : Int) (by omega) (by omega)
  have LT12 := LT11.put (j := 13) (by omega) (.int .i64 (v13 : Int))
  clear St11 LT11
  generalize W11.setCell ⟨w.heap.size, 13, none⟩ (.int .i64 (v13 : Int)) = W12 at *
  generalize cs11.setIfInBounds 13 (.int .i64 (v13 : Int)) = cs12 at *
  clear d f lo hi hv hmk
  obtain ⟨n14, en, lo, hi⟩ := St12.shape.ints 14 (by omega) (by omega) (by omega) (by omega)
  have d := (St12.blk.cell 14).trans en
  have f := St12.blk.free 14
  clear en
  go_wp2_with fail
  refine (memory_any n14 W12 lo hi).mono ?_
  rintro e W12 ⟨mk, hmk, rfl, rfl⟩
  have hv := mem_bd mk hmk
  generalize (if mk = 0 then 0 else 64 * 2 ^ mk : Nat) = v14 at *
  go_upto_region 17 with fail
  have St13 := St12.putInt 14 (by omega) (by omega) (by omega) (by omega) (v14 : Int) (by omega) (by omega)
  have LT13 := LT12.put (j := 14) (by omega) (.int .i64 (v14 : Int))
  clear St12 LT12
  generalize W12.setCell ⟨w.heap.size, 14, none⟩ (.int .i64 (v14 : Int)) = W13 at *
  generalize cs12.setIfInBounds 14 (.int .i64 (v14 : Int)) = cs13 at *
  clear d f lo hi hv hmk
  go_wp2_with fail
  refine (size_prg p W13 HF.out.2.1.1 HF.out.2.1.2).mono ?_
  rintro e W13 ⟨np, hp1, hp2, rfl, rfl⟩
  go_wp2_with fail
  refine (filled_i np (by omega) (by omega) fill W13).mono ?_
  rintro e V ⟨gp, mp, P, hmp, lP, bP, rfl, zg, oP, u⟩
  have sv := u.size
  have lz := St13.zero.lt
  have ShV := St13.call u
  have LTV := LT13.call u
  obtain ⟨ov, ev⟩ := ShV.shape.get 16 (by omega)
  have d := (ShV.blk.cell 16).trans ev
  have f := ShV.blk.free 16
  go_upto_region 19 with fail
  have St14 := ShV.putList 16 (by omega) (some ⟨gp, 0, none⟩) mp mp
  have LT14 := LTV.put (j := 16) (by omega) (.slice (some ⟨gp, 0, none⟩) mp mp)
  have LP14 := Lst.new (B := w.heap.size) (i := 16) lP ShV.shape.size (by omega) oP (by omega) (by omega) bP
  have HP : Hid (P ≠ [] ∧ P.length ≤ 65536) := ⟨fun h => by rw [h] at lP; simp at lP; omega, by omega⟩
  clear St13 LT13 ShV LTV ev d f oP u sv lz zg lP bP
  generalize V.setCell ⟨w.heap.size, 16, none⟩ (.slice (some ⟨gp, 0, none⟩) mp mp) = W14 at *
  generalize cs13.setIfInBounds 16 (.slice (some ⟨gp, 0, none⟩) mp mp) = cs14 at *
  have NKq := Nk.nil (cs := cs14) St14.shape.size
  obtain ⟨ov15, ev⟩ := St14.shape.get 17 (by omega)
  have d := (St14.blk.cell 17).trans ev
  have f := St14.blk.free 17
  go_upto_region 20 with fail
  have St15 := St14.putList 17 (by omega) none 0 0
  have LT15 := LT14.put (j := 17) (by omega) (.slice none 0 0)
  have LP15 := LP14.put (j := 17) (by omega) (.slice none 0 0)
  have LQ15 := Lst.empty (B := w.heap.size) (wx := W14) (cs := cs14) (i := 17) St14.shape.size (by omega)
  clear St14 LT14 LP14 ev d f
  generalize W14.setCell ⟨w.heap.size, 17, none⟩ (.slice none 0 0) = W15 at *
  generalize cs14.setIfInBounds 17 (.slice none 0 0) = cs15 at *
  go_upto_if 75 with fail
  go_cut [] (fun wx => ∃ cx Q, Q.length ≤ 65536 ∧ Stage w wx cx ∧ Sl cx 15 tn ∧ Lst w.heap.size wx cx 16 P ∧ Lst w.heap.size wx cx 17 Q ∧ Nk cx)
  case first =>
    by_cases hq0 : q = 0
    · have hq0' : (q != 0) = false := by simp [hq0]
      go_wp2
      go_meet
      case rel => exact ⟨_, [], by simp, St15, LT15, LP15, LQ15, NKq⟩
    · have hq0' : (q != 0) = true := by simp [hq0]
      go_wp2_with fail
      refine (size_chr q W15 HF.out.2.2.1 HF.out.2.2.2).mono ?_
      rintro e W15 ⟨nq, hq1, hq2, rfl, rfl⟩
      go_wp2_with fail
      refine (filled_i nq (by omega) (by omega) _ W15).mono ?_
      rintro e V ⟨gq, mq, Q, hmq, lQ, bQ, rfl, zg, oQ, u⟩
      have sv := u.size
      have lz := St15.zero.lt
      have ShV := St15.call u
      obtain ⟨ov, ev⟩ := ShV.shape.get 17 (by omega)
      have d := (ShV.blk.cell 17).trans ev
      have f := ShV.blk.free 17
      have Fin := Hid.mk4 (ShV.putList 17 (by omega) (some ⟨gq, 0, none⟩) mq mq) ((LT15.call u).put (j := 17) (by omega) (.slice (some ⟨gq, 0, none⟩) mq mq)) ((LP15.call u).put (j := 17) (by omega) (.slice (some ⟨gq, 0, none⟩) mq mq)) (Lst.new (B := w.heap.size) (i := 17) lQ ShV.shape.size (by omega) oQ (by omega) (by omega) bQ)
      go_wp2
      go_meet
      case rel => exact ⟨_, Q, by omega, Fin.out.1, Fin.out.2.1, Fin.out.2.2.1, Fin.out.2.2.2, Nk.some ShV.shape.size _ _⟩
  case rest =>
  clear St15 LT15 LP15 LQ15 NKq
  obtain ⟨cs16, Q, hQ, St16, LT16, LP16, LQ16, NKa⟩ := hcut
  generalize wc = W16 at *
  obtain ⟨aT, kT, eT⟩ := LT16
  have d := (St16.blk.cell 15).trans eT
  have f := St16.blk.free 15
  go_upto_if 86 with fail
  go_cut [] (fun wx => ∃ cx T', Stage w wx cx ∧ Lst w.heap.size wx cx 15 T' ∧ Lst w.heap.size wx cx 16 P ∧ Lst w.heap.size wx cx 17 Q ∧ Nk cx)
  case first =>
    by_cases hT0 : 0 < tn
    · have hT0' : decide ((0 : Int) < (tn : Int)) = true := decide_eq_true (by omega)
      go_wp2_with fail
      refine (filled_i 512 (by omega) (by omega) _ W16).mono ?_
      rintro e V ⟨gt, mt, T', hmt, lT, bT', rfl, zg, oT, u⟩
      have sv := u.size
      have lz := St16.zero.lt
      have ShV := St16.call u
      have d2 := (ShV.blk.cell 15).trans eT
      have f2 := ShV.blk.free 15
      have Fin := Hid.mk4 (ShV.putList 15 (by omega) (some ⟨gt, 0, none⟩) mt mt) ((LP16.call u).put (j := 15) (by omega) (.slice (some ⟨gt, 0, none⟩) mt mt)) ((LQ16.call u).put (j := 15) (by omega) (.slice (some ⟨gt, 0, none⟩) mt mt)) (Lst.new (B := w.heap.size) (i := 15) lT ShV.shape.size (by omega) oT (by omega) (by omega) bT')
      go_wp2
      go_meet
      case rel => exact ⟨_, T', Fin.out.1, Fin.out.2.2.2, Fin.out.2.1, Fin.out.2.2.1, NKa.put (by omega) _⟩
    · have hT0' : decide ((0 : Int) < (tn : Int)) = false := decide_eq_false (by omega)
      go_wp2
      go_meet
      case rel => exact ⟨_, [], St16, ⟨aT, kT, by rw [eT, show tn = 0 by omega]; rfl, by decide, (fun _ h => by cases h), .inl rfl⟩, LP16, LQ16, NKa⟩
  case rest =>
  clear St16 LP16 LQ16 d f eT NKa
  obtain ⟨cs17, T', St17, LT17, LP17, LQ17, NKb⟩ := hcut
  generalize wc = W17 at *
  have NKc := NKb.put (j := 18) (by omega) (.slice none 0 0)
  clear NKb
  obtain ⟨ov18, ev⟩ := St17.shape.get 18 (by omega)
  have d := (St17.blk.cell 18).trans ev
  have f := St17.blk.free 18
  go_upto_region 26 with fail
  have St18 := St17.putList 18 (by omega) none 0 0
  have LT18 := LT17.put (j := 18) (by omega) (.slice none 0 0)
  have LP18 := LP17.put (j := 18) (by omega) (.slice none 0 0)
  have LQ18 := LQ17.put (j := 18) (by omega) (.slice none 0 0)
  have LR18 := Lst.empty (B := w.heap.size) (wx := W17) (cs := cs17) (i := 18) St17.shape.size (by omega)
  clear St17 LT17 LP17 LQ17 ev d f
  generalize W17.setCell ⟨w.heap.size, 18, none⟩ (.slice none 0 0) = W18 at *
  generalize cs17.setIfInBounds 18 (.slice none 0 0) = cs18 at *
  obtain ⟨n10, en, lo, hi⟩ := St18.shape.ints 10 (by omega) (by omega) (by omega) (by omega)
  have d := (St18.blk.cell 10).trans en
  have f := St18.blk.free 10
  clear en
  go_upto_if 94 with fail
  go_cut [] (fun wx => ∃ cx R, Stage w wx cx ∧ Lst w.heap.size wx cx 15 T' ∧ Lst w.heap.size wx cx 16 P ∧ Lst w.heap.size wx cx 17 Q ∧ Lst w.heap.size wx cx 18 R ∧ Nk cx)
  case first =>
    by_cases hm0 : 0 < n10
    · have hm0' : decide ((0 : Int) < n10) = true := by simp; omega
      go_wp2_with fail
      have hs := spanV_bd fill 0 30 (by omega)
      refine (span_any fill 0 30 W18 HF.out.1.1 HF.out.1.2 (by omega) (by omega) (by omega)).mono ?_
      rintro e W18 ⟨rfl, rfl⟩
      generalize spanV fill 0 30 = sr at *
      go_wp2_with fail
      refine (filled_i (3 + sr) (by omega) (by omega) _ W18).mono ?_
      rintro e V ⟨gr, mr, R, hmr, lR, bR, rfl, zg, oR, u⟩
      have sv := u.size
      have lz := St18.zero.lt
      have ShV := St18.call u
      obtain ⟨ov, ev⟩ := ShV.shape.get 18 (by omega)
      have d2 := (ShV.blk.cell 18).trans ev
      have f2 := ShV.blk.free 18
      have Fin := Hid.mk4 (ShV.putList 18 (by omega) (some ⟨gr, 0, none⟩) mr mr) ((LT18.call u).put (j := 18) (by omega) (.slice (some ⟨gr, 0, none⟩) mr mr)) ((LP18.call u).put (j := 18) (by omega) (.slice (some ⟨gr, 0, none⟩) mr mr)) ((LQ18.call u).put (j := 18) (by omega) (.slice (some ⟨gr, 0, none⟩) mr mr))
      have Fin2 := Hid.mk4 (Lst.new (B := w.heap.size) (i := 18) lR ShV.shape.size (by omega) oR (by omega) (by omega) bR) trivial trivial trivial
      go_wp2
      go_meet
      case rel => exact ⟨_, R, Fin.out.1, Fin.out.2.1, Fin.out.2.2.1, Fin.out.2.2.2, Fin2.out.1, NKc.put (by omega) _⟩
    · have hm0' : decide ((0 : Int) < n10) = false := by simp; omega
      go_wp2
      go_meet
      case rel => exact ⟨_, [], St18, LT18, LP18, LQ18, LR18, NKc⟩
  case rest =>
  clear St18 LT18 LP18 LQ18 LR18 d f lo hi NKc
  obtain ⟨L, R, St, LTz, LPz, LQz, LRz, NKz⟩ := hcut
  generalize wc = W at *
  have hsL := St.shape.size
  have HLS : Hid (L.size = 19) := hsL
  clear hsL
  have b5 := St.blk
  have z4 := St.zero
  have hb4 := St.bel
  go_wp2_with (first
    | refine wpList_load_mid rfl 29 _ rfl w.heap.size 0 rfl L.toList _ b5.range Tryd.underlying29 rfl (by rw [Array.length_toList, HLS.out]; exact Tryd.infoCart) ?_
    | refine wpList_store_mid rfl 29 _ _ rfl (w.heap.size + 1) 0 L rfl rfl (by exact z4.there _ HLS.out.symm) (by rw [HLS.out]; exact Tryd.infoCart) St.shape.one ?_)
  refine bodyPost_ret (v := .agg L) ?_ rfl ⟨L, T', P, Q, R, rfl, St.shape, HP.out.1, Lst.many _ _ LTz, Lst.many _ _ LPz, Lst.many _ _ LQz, Lst.many _ _ LRz, hQ, HP.out.2, NKz, setCells_below (by omega) _ _ _ _ hb4⟩
  rw [results_cell Tryd.results9]
  have hr := run_loadVar_mid (P := Tryd.prog) (W.setCells (w.heap.size + 1) 0 L.toList) (w.heap.size + 1) 0 29 L.toList _ (World.rangeAt_setCells_same W (w.heap.size + 1) 0 L.toList (z4.there _ (by rw [Array.length_toList]; exact HLS.out.symm))) Tryd.underlying29 rfl (by rw [Array.length_toList, HLS.out]; exact Tryd.infoCart)
  simp only [Array.toArray_toList] at hr
  refine Eq.trans (b := ((asAddr (.pointer (some ⟨w.heap.size + 1, 0, none⟩))).run Tryd.prog (W.setCells (w.heap.size + 1) 0 L.toList)).andThen fun a w₁ => (loadVar 29 a).run Tryd.prog w₁) rfl ?_
  simp only [asAddr, Sem.run_pure, Result.andThen_ok]
  exact hr
end Go.Proofs.YtfmionfbknadiaaDoor
