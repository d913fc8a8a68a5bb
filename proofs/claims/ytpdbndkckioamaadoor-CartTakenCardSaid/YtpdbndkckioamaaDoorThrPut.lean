/-
  A cartridge whose fields are set one by one; conditions: none.
-/
import Derived.Test.YtpdbndkckioamaaDoorThrSpec
set_option linter.unusedSimpArgs false
set_option linter.unusedVariables false
namespace Go.Proofs.YtpdbndkckioamaaDoor
open Go.RowKit Classical
theorem set_eq (cs : Array Value) {i : Nat} (v : Value) (h : i < cs.size) : (cs.setIfInBounds i v)[i]? = some v := by
  rw [Array.getElem?_eq_getElem (by simpa using h), Array.getElem_setIfInBounds (by simpa using h)]
  simp
theorem set_ne {cs : Array Value} {i j : Nat} {v x : Value} (h : i ≠ j) (e : cs[j]? = some x) : (cs.setIfInBounds i v)[j]? = some x := by
  rw [Array.getElem?_setIfInBounds_ne h]; exact e
theorem IsC.set0 {cs : Array Value} {c : CF} (C : IsC cs c) (v : Int) : IsC (cs.setIfInBounds 0 (.int .i64 v)) { c with fmt := v } :=
  ⟨by simpa using C.size, one_set' 0 C.one rfl, set_eq cs _ (by rw [C.size]; decide), set_ne (by decide) C.h1, set_ne (by decide) C.h2, set_ne (by decide) C.h3, set_ne (by decide) C.h4, set_ne (by decide) C.h5, set_ne (by decide) C.h6, set_ne (by decide) C.h7, set_ne (by decide) C.h8, set_ne (by decide) C.h9, set_ne (by decide) C.h10, set_ne (by decide) C.h11, set_ne (by decide) C.h12, set_ne (by decide) C.h13, set_ne (by decide) C.h14, C.h15.imp fun _ h => h.imp fun _ h => set_ne (by decide) h, C.h16.imp fun _ h => h.imp fun _ h => set_ne (by decide) h, C.h17.imp fun _ h => h.imp fun _ h => set_ne (by decide) h, C.h18.imp fun _ h => h.imp fun _ h => set_ne (by decide) h, C.mt, C.mp, C.mq, C.mr⟩
theorem IsC.set1 {cs : Array Value} {c : CF} (C : IsC cs c) (v : Int) : IsC (cs.setIfInBounds 1 (.int .i64 v)) { c with map := v } :=
  ⟨by simpa using C.size, one_set' 1 C.one rfl, set_ne (by decide) C.h0, set_eq cs _ (by rw [C.size]; decide), set_ne (by decide) C.h2, set_ne (by decide) C.h3, set_ne (by decide) C.h4, set_ne (by decide) C.h5, set_ne (by decide) C.h6, set_ne (by decide) C.h7, set_ne (by decide) C.h8, set_ne (by decide) C.h9, set_ne (by decide) C.h10, set_ne (by decide) C.h11, set_ne (by decide) C.h12, set_ne (by decide) C.h13, set_ne (by decide) C.h14, C.h15.imp fun _ h => h.imp fun _ h => set_ne (by decide) h, C.h16.imp fun _ h => h.imp fun _ h => set_ne (by decide) h, C.h17.imp fun _ h => h.imp fun _ h => set_ne (by decide) h, C.h18.imp fun _ h => h.imp fun _ h => set_ne (by decide) h, C.mt, C.mp, C.mq, C.mr⟩
theorem IsC.set2 {cs : Array Value} {c : CF} (C : IsC cs c) (v : Int) : IsC (cs.setIfInBounds 2 (.int .i64 v)) { c with sub := v } :=
  ⟨by simpa using C.size, one_set' 2 C.one rfl, set_ne (by decide) C.h0, set_ne (by decide) C.h1, set_eq cs _ (by rw [C.size]; decide), set_ne (by decide) C.h3, set_ne (by decide) C.h4, set_ne (by decide) C.h5, set_ne (by decide) C.h6, set_ne (by decide) C.h7, set_ne (by decide) C.h8, set_ne (by decide) C.h9, set_ne (by decide) C.h10, set_ne (by decide) C.h11, set_ne (by decide) C.h12, set_ne (by decide) C.h13, set_ne (by decide) C.h14, C.h15.imp fun _ h => h.imp fun _ h => set_ne (by decide) h, C.h16.imp fun _ h => h.imp fun _ h => set_ne (by decide) h, C.h17.imp fun _ h => h.imp fun _ h => set_ne (by decide) h, C.h18.imp fun _ h => h.imp fun _ h => set_ne (by decide) h, C.mt, C.mp, C.mq, C.mr⟩
theorem IsC.set6 {cs : Array Value} {c : CF} (C : IsC cs c) (v : Int) : IsC (cs.setIfInBounds 6 (.int .i64 v)) { c with con := v } :=
  ⟨by simpa using C.size, one_set' 6 C.one rfl, set_ne (by decide) C.h0, set_ne (by decide) C.h1, set_ne (by decide) C.h2, set_ne (by decide) C.h3, set_ne (by decide) C.h4, set_ne (by decide) C.h5, set_eq cs _ (by rw [C.size]; decide), set_ne (by decide) C.h7, set_ne (by decide) C.h8, set_ne (by decide) C.h9, set_ne (by decide) C.h10, set_ne (by decide) C.h11, set_ne (by decide) C.h12, set_ne (by decide) C.h13, set_ne (by decide) C.h14, C.h15.imp fun _ h => h.imp fun _ h => set_ne (by decide) h, C.h16.imp fun _ h => h.imp fun _ h => set_ne (by decide) h, C.h17.imp fun _ h => h.imp fun _ h => set_ne (by decide) h, C.h18.imp fun _ h => h.imp fun _ h => set_ne (by decide) h, C.mt, C.mp, C.mq, C.mr⟩
theorem IsC.set7 {cs : Array Value} {c : CF} (C : IsC cs c) (v : Int) : IsC (cs.setIfInBounds 7 (.int .i64 v)) { c with kind := v } :=
  ⟨by simpa using C.size, one_set' 7 C.one rfl, set_ne (by decide) C.h0, set_ne (by decide) C.h1, set_ne (by decide) C.h2, set_ne (by decide) C.h3, set_ne (by decide) C.h4, set_ne (by decide) C.h5, set_ne (by decide) C.h6, set_eq cs _ (by rw [C.size]; decide), set_ne (by decide) C.h8, set_ne (by decide) C.h9, set_ne (by decide) C.h10, set_ne (by decide) C.h11, set_ne (by decide) C.h12, set_ne (by decide) C.h13, set_ne (by decide) C.h14, C.h15.imp fun _ h => h.imp fun _ h => set_ne (by decide) h, C.h16.imp fun _ h => h.imp fun _ h => set_ne (by decide) h, C.h17.imp fun _ h => h.imp fun _ h => set_ne (by decide) h, C.h18.imp fun _ h => h.imp fun _ h => set_ne (by decide) h, C.mt, C.mp, C.mq, C.mr⟩
theorem IsC.set8 {cs : Array Value} {c : CF} (C : IsC cs c) (v : Int) : IsC (cs.setIfInBounds 8 (.int .i64 v)) { c with tim := v } :=
  ⟨by simpa using C.size, one_set' 8 C.one rfl, set_ne (by decide) C.h0, set_ne (by decide) C.h1, set_ne (by decide) C.h2, set_ne (by decide) C.h3, set_ne (by decide) C.h4, set_ne (by decide) C.h5, set_ne (by decide) C.h6, set_ne (by decide) C.h7, set_eq cs _ (by rw [C.size]; decide), set_ne (by decide) C.h9, set_ne (by decide) C.h10, set_ne (by decide) C.h11, set_ne (by decide) C.h12, set_ne (by decide) C.h13, set_ne (by decide) C.h14, C.h15.imp fun _ h => h.imp fun _ h => set_ne (by decide) h, C.h16.imp fun _ h => h.imp fun _ h => set_ne (by decide) h, C.h17.imp fun _ h => h.imp fun _ h => set_ne (by decide) h, C.h18.imp fun _ h => h.imp fun _ h => set_ne (by decide) h, C.mt, C.mp, C.mq, C.mr⟩
theorem IsC.set9 {cs : Array Value} {c : CF} (C : IsC cs c) (v : Int) : IsC (cs.setIfInBounds 9 (.int .i64 v)) { c with dev := v } :=
  ⟨by simpa using C.size, one_set' 9 C.one rfl, set_ne (by decide) C.h0, set_ne (by decide) C.h1, set_ne (by decide) C.h2, set_ne (by decide) C.h3, set_ne (by decide) C.h4, set_ne (by decide) C.h5, set_ne (by decide) C.h6, set_ne (by decide) C.h7, set_ne (by decide) C.h8, set_eq cs _ (by rw [C.size]; decide), set_ne (by decide) C.h10, set_ne (by decide) C.h11, set_ne (by decide) C.h12, set_ne (by decide) C.h13, set_ne (by decide) C.h14, C.h15.imp fun _ h => h.imp fun _ h => set_ne (by decide) h, C.h16.imp fun _ h => h.imp fun _ h => set_ne (by decide) h, C.h17.imp fun _ h => h.imp fun _ h => set_ne (by decide) h, C.h18.imp fun _ h => h.imp fun _ h => set_ne (by decide) h, C.mt, C.mp, C.mq, C.mr⟩
theorem IsC.set10 {cs : Array Value} {c : CF} (C : IsC cs c) (v : Int) : IsC (cs.setIfInBounds 10 (.int .i64 v)) { c with misc := v } :=
  ⟨by simpa using C.size, one_set' 10 C.one rfl, set_ne (by decide) C.h0, set_ne (by decide) C.h1, set_ne (by decide) C.h2, set_ne (by decide) C.h3, set_ne (by decide) C.h4, set_ne (by decide) C.h5, set_ne (by decide) C.h6, set_ne (by decide) C.h7, set_ne (by decide) C.h8, set_ne (by decide) C.h9, set_eq cs _ (by rw [C.size]; decide), set_ne (by decide) C.h11, set_ne (by decide) C.h12, set_ne (by decide) C.h13, set_ne (by decide) C.h14, C.h15.imp fun _ h => h.imp fun _ h => set_ne (by decide) h, C.h16.imp fun _ h => h.imp fun _ h => set_ne (by decide) h, C.h17.imp fun _ h => h.imp fun _ h => set_ne (by decide) h, C.h18.imp fun _ h => h.imp fun _ h => set_ne (by decide) h, C.mt, C.mp, C.mq, C.mr⟩
theorem IsC.set11 {cs : Array Value} {c : CF} (C : IsC cs c) (v : Int) : IsC (cs.setIfInBounds 11 (.int .i64 v)) { c with pr := v } :=
  ⟨by simpa using C.size, one_set' 11 C.one rfl, set_ne (by decide) C.h0, set_ne (by decide) C.h1, set_ne (by decide) C.h2, set_ne (by decide) C.h3, set_ne (by decide) C.h4, set_ne (by decide) C.h5, set_ne (by decide) C.h6, set_ne (by decide) C.h7, set_ne (by decide) C.h8, set_ne (by decide) C.h9, set_ne (by decide) C.h10, set_eq cs _ (by rw [C.size]; decide), set_ne (by decide) C.h12, set_ne (by decide) C.h13, set_ne (by decide) C.h14, C.h15.imp fun _ h => h.imp fun _ h => set_ne (by decide) h, C.h16.imp fun _ h => h.imp fun _ h => set_ne (by decide) h, C.h17.imp fun _ h => h.imp fun _ h => set_ne (by decide) h, C.h18.imp fun _ h => h.imp fun _ h => set_ne (by decide) h, C.mt, C.mp, C.mq, C.mr⟩
theorem IsC.set12 {cs : Array Value} {c : CF} (C : IsC cs c) (v : Int) : IsC (cs.setIfInBounds 12 (.int .i64 v)) { c with pn := v } :=
  ⟨by simpa using C.size, one_set' 12 C.one rfl, set_ne (by decide) C.h0, set_ne (by decide) C.h1, set_ne (by decide) C.h2, set_ne (by decide) C.h3, set_ne (by decide) C.h4, set_ne (by decide) C.h5, set_ne (by decide) C.h6, set_ne (by decide) C.h7, set_ne (by decide) C.h8, set_ne (by decide) C.h9, set_ne (by decide) C.h10, set_ne (by decide) C.h11, set_eq cs _ (by rw [C.size]; decide), set_ne (by decide) C.h13, set_ne (by decide) C.h14, C.h15.imp fun _ h => h.imp fun _ h => set_ne (by decide) h, C.h16.imp fun _ h => h.imp fun _ h => set_ne (by decide) h, C.h17.imp fun _ h => h.imp fun _ h => set_ne (by decide) h, C.h18.imp fun _ h => h.imp fun _ h => set_ne (by decide) h, C.mt, C.mp, C.mq, C.mr⟩
theorem IsC.set13 {cs : Array Value} {c : CF} (C : IsC cs c) (v : Int) : IsC (cs.setIfInBounds 13 (.int .i64 v)) { c with cr := v } :=
  ⟨by simpa using C.size, one_set' 13 C.one rfl, set_ne (by decide) C.h0, set_ne (by decide) C.h1, set_ne (by decide) C.h2, set_ne (by decide) C.h3, set_ne (by decide) C.h4, set_ne (by decide) C.h5, set_ne (by decide) C.h6, set_ne (by decide) C.h7, set_ne (by decide) C.h8, set_ne (by decide) C.h9, set_ne (by decide) C.h10, set_ne (by decide) C.h11, set_ne (by decide) C.h12, set_eq cs _ (by rw [C.size]; decide), set_ne (by decide) C.h14, C.h15.imp fun _ h => h.imp fun _ h => set_ne (by decide) h, C.h16.imp fun _ h => h.imp fun _ h => set_ne (by decide) h, C.h17.imp fun _ h => h.imp fun _ h => set_ne (by decide) h, C.h18.imp fun _ h => h.imp fun _ h => set_ne (by decide) h, C.mt, C.mp, C.mq, C.mr⟩
theorem IsC.set14 {cs : Array Value} {c : CF} (C : IsC cs c) (v : Int) : IsC (cs.setIfInBounds 14 (.int .i64 v)) { c with cn := v } :=
  ⟨by simpa using C.size, one_set' 14 C.one rfl, set_ne (by decide) C.h0, set_ne (by decide) C.h1, set_ne (by decide) C.h2, set_ne (by decide) C.h3, set_ne (by decide) C.h4, set_ne (by decide) C.h5, set_ne (by decide) C.h6, set_ne (by decide) C.h7, set_ne (by decide) C.h8, set_ne (by decide) C.h9, set_ne (by decide) C.h10, set_ne (by decide) C.h11, set_ne (by decide) C.h12, set_ne (by decide) C.h13, set_eq cs _ (by rw [C.size]; decide), C.h15.imp fun _ h => h.imp fun _ h => set_ne (by decide) h, C.h16.imp fun _ h => h.imp fun _ h => set_ne (by decide) h, C.h17.imp fun _ h => h.imp fun _ h => set_ne (by decide) h, C.h18.imp fun _ h => h.imp fun _ h => set_ne (by decide) h, C.mt, C.mp, C.mq, C.mr⟩
theorem IsC.set15 {cs : Array Value} {c : CF} (C : IsC cs c) (a : Option Addr) (n k : Nat) (hn : n ≤ 140737488351232) : IsC (cs.setIfInBounds 15 (.slice a n k)) { c with nt := n } :=
  ⟨by simpa using C.size, one_set' 15 C.one rfl, set_ne (by decide) C.h0, set_ne (by decide) C.h1, set_ne (by decide) C.h2, set_ne (by decide) C.h3, set_ne (by decide) C.h4, set_ne (by decide) C.h5, set_ne (by decide) C.h6, set_ne (by decide) C.h7, set_ne (by decide) C.h8, set_ne (by decide) C.h9, set_ne (by decide) C.h10, set_ne (by decide) C.h11, set_ne (by decide) C.h12, set_ne (by decide) C.h13, set_ne (by decide) C.h14, ⟨a, k, set_eq cs _ (by rw [C.size]; decide)⟩, C.h16.imp fun _ h => h.imp fun _ h => set_ne (by decide) h, C.h17.imp fun _ h => h.imp fun _ h => set_ne (by decide) h, C.h18.imp fun _ h => h.imp fun _ h => set_ne (by decide) h, hn, C.mp, C.mq, C.mr⟩
theorem IsC.set16 {cs : Array Value} {c : CF} (C : IsC cs c) (a : Option Addr) (n k : Nat) (hn : n ≤ 140737488351232) : IsC (cs.setIfInBounds 16 (.slice a n k)) { c with np := n } :=
  ⟨by simpa using C.size, one_set' 16 C.one rfl, set_ne (by decide) C.h0, set_ne (by decide) C.h1, set_ne (by decide) C.h2, set_ne (by decide) C.h3, set_ne (by decide) C.h4, set_ne (by decide) C.h5, set_ne (by decide) C.h6, set_ne (by decide) C.h7, set_ne (by decide) C.h8, set_ne (by decide) C.h9, set_ne (by decide) C.h10, set_ne (by decide) C.h11, set_ne (by decide) C.h12, set_ne (by decide) C.h13, set_ne (by decide) C.h14, C.h15.imp fun _ h => h.imp fun _ h => set_ne (by decide) h, ⟨a, k, set_eq cs _ (by rw [C.size]; decide)⟩, C.h17.imp fun _ h => h.imp fun _ h => set_ne (by decide) h, C.h18.imp fun _ h => h.imp fun _ h => set_ne (by decide) h, C.mt, hn, C.mq, C.mr⟩
theorem IsC.set17 {cs : Array Value} {c : CF} (C : IsC cs c) (a : Option Addr) (n k : Nat) (hn : n ≤ 140737488351232) : IsC (cs.setIfInBounds 17 (.slice a n k)) { c with nq := n } :=
  ⟨by simpa using C.size, one_set' 17 C.one rfl, set_ne (by decide) C.h0, set_ne (by decide) C.h1, set_ne (by decide) C.h2, set_ne (by decide) C.h3, set_ne (by decide) C.h4, set_ne (by decide) C.h5, set_ne (by decide) C.h6, set_ne (by decide) C.h7, set_ne (by decide) C.h8, set_ne (by decide) C.h9, set_ne (by decide) C.h10, set_ne (by decide) C.h11, set_ne (by decide) C.h12, set_ne (by decide) C.h13, set_ne (by decide) C.h14, C.h15.imp fun _ h => h.imp fun _ h => set_ne (by decide) h, C.h16.imp fun _ h => h.imp fun _ h => set_ne (by decide) h, ⟨a, k, set_eq cs _ (by rw [C.size]; decide)⟩, C.h18.imp fun _ h => h.imp fun _ h => set_ne (by decide) h, C.mt, C.mp, hn, C.mr⟩
theorem IsC.set18 {cs : Array Value} {c : CF} (C : IsC cs c) (a : Option Addr) (n k : Nat) (hn : n ≤ 140737488351232) : IsC (cs.setIfInBounds 18 (.slice a n k)) { c with nr := n } :=
  ⟨by simpa using C.size, one_set' 18 C.one rfl, set_ne (by decide) C.h0, set_ne (by decide) C.h1, set_ne (by decide) C.h2, set_ne (by decide) C.h3, set_ne (by decide) C.h4, set_ne (by decide) C.h5, set_ne (by decide) C.h6, set_ne (by decide) C.h7, set_ne (by decide) C.h8, set_ne (by decide) C.h9, set_ne (by decide) C.h10, set_ne (by decide) C.h11, set_ne (by decide) C.h12, set_ne (by decide) C.h13, set_ne (by decide) C.h14, C.h15.imp fun _ h => h.imp fun _ h => set_ne (by decide) h, C.h16.imp fun _ h => h.imp fun _ h => set_ne (by decide) h, C.h17.imp fun _ h => h.imp fun _ h => set_ne (by decide) h, ⟨a, k, set_eq cs _ (by rw [C.size]; decide)⟩, C.mt, C.mp, C.mq, hn⟩
/-- The argument's block and the result's. -/
structure Pn (w : World) (cs : Array Value) (c : CF) (W : World) : Prop where
  b : Blk W w.heap.size cs 25
  z : Blk W (w.heap.size + 1) Z19 25
  bl : Below w.heap.size w W
  c : IsC cs c
theorem Pn.below {w W W' : World} {cs : Array Value} {c : CF} (K : Pn w cs c W) (hb : Below W.heap.size W W') : Pn w cs c W' := ⟨K.b.below K.b.lt hb, K.z.below K.z.lt hb, K.bl.trans (hb.mono K.bl.size), K.c⟩
theorem Pn.put {w W : World} {cs : Array Value} {c c' : CF} (K : Pn w cs c W) (i : Nat) (v : Value) (C : IsC (cs.setIfInBounds i v) c') : Pn w (cs.setIfInBounds i v) c' (W.setCell ⟨w.heap.size, i, none⟩ v) :=
  ⟨K.b.set i v, K.z.other (by omega) i v, K.bl.setCell (p := ⟨w.heap.size, i, none⟩) (Nat.le_refl _) v, C⟩
theorem Pn.new (w : World) (cs : Array Value) (c : CF) (C : IsC cs c) : Pn w cs c ((w.alloc (.cells cs 25)).alloc (.cells Z19 25)) :=
  ⟨(Blk.new w cs _).old _, by have := Blk.new (w.alloc (.cells cs 25)) Z19 25; rwa [World.size_alloc] at this, ((Below.refl _ _).alloc (Nat.le_refl _) _).alloc (by simp) _, C⟩
theorem Pn.dn {w W : World} {cs : Array Value} {c : CF} (K : Pn w cs c W) (n : Nat) : Pn w cs c (W.drewN n) := K.below (below_draws (Below.refl _ _) n)
/-- Field i holds the list l, in a block from B on. -/
def Ls (B : Nat) (W : World) (cs : Array Value) (i : Nat) (l : List Nat) : Prop := ∃ a k, cs[i]? = some (.slice a l.length k) ∧ RowF B W a l ∧ Bytes l
theorem Ls.below {B : Nat} {W W' : World} {cs : Array Value} {i : Nat} {l : List Nat} (h : Ls B W cs i l) (hb : Below W.heap.size W W') : Ls B W' cs i l := by
  obtain ⟨a, k, e, r, y⟩ := h
  exact ⟨a, k, e, r.below hb, y⟩
theorem Ls.put {B : Nat} {W : World} {cs : Array Value} {i : Nat} {l : List Nat} (h : Ls B W cs i l) {m : Nat} (hm : m < B) {j : Nat} (hij : j ≠ i) (v : Value) : Ls B (W.setCell ⟨m, j, none⟩ v) (cs.setIfInBounds j v) i l := by
  obtain ⟨a, k, e, r, y⟩ := h
  exact ⟨a, k, set_ne hij e, r.put hm j v, y⟩
theorem Ls.new {B : Nat} {W : World} {cs : Array Value} {i : Nat} {l : List Nat} {m g n : Nat} (hn : l.length = n) (hs : i < cs.size) (ho : Own W g l) (hg : B ≤ g) (hm : m < B) (hy : Bytes l) :
    Ls B (W.setCell ⟨m, i, none⟩ (.slice (some ⟨g, 0, none⟩) n n)) (cs.setIfInBounds i (.slice (some ⟨g, 0, none⟩) n n)) i l := by
  subst hn
  exact ⟨_, _, set_eq cs _ hs, (RowF.of_own ho hg).put hm i _, hy⟩
theorem Ls.empty {B : Nat} {W : World} {cs : Array Value} {i : Nat} (h : ∃ a k, cs[i]? = some (.slice a 0 k)) : Ls B W cs i [] := by
  obtain ⟨a, k, e⟩ := h
  exact ⟨a, k, e, .inl rfl, fun _ h => by cases h⟩
theorem Ls.puts {B : Nat} {W : World} {cs : Array Value} {i : Nat} {l : List Nat} (h : Ls B W cs i l) {m : Nat} (hm : m < B) (vs : List Value) (o : Nat) : Ls B (W.setCells m o vs) cs i l := by
  obtain ⟨a, k, e, r, y⟩ := h
  exact ⟨a, k, e, RowF.puts hm vs o r, y⟩
theorem Ls.at {B : Nat} {W : World} {cs : Array Value} {i n : Nat} {l : List Nat} (h : Ls B W cs i l) (hn : l.length = n) : ∃ a k, cs[i]? = some (.slice a n k) ∧ Row W a l := by
  subst hn
  obtain ⟨a, k, e, r, _⟩ := h
  exact ⟨a, k, e, r.row⟩
theorem Ls.bytes {B : Nat} {W : World} {cs : Array Value} {i : Nat} {l : List Nat} (h : Ls B W cs i l) : Bytes l := by
  obtain ⟨_, _, _, _, y⟩ := h
  exact y
theorem results_cell1 {fn : Func} {p : Tmp} {ty : TypeId} (h : fn.results = #[.cell p ty]) (tmps : Array Value) (P : Program) (w : World) :
    (results fn tmps).run P w = ((asAddr (tmps.getD p undef)).run P w).andThen fun a w₁ => (loadVar ty a).run P w₁ := by
  simp only [results, h]
  simp [Sem.run_bind, Result.andThen]
theorem ret_agg1 {P : Program} {fn : Func} {R : Ending → World → Prop} {tmps : Array Value} {w : World} {p : Tmp} {ty : TypeId} {m : Nat} {L : Array Value} {d : TypeDesc} {t : TypeId} (h : fn.results = #[.cell p ty]) (hp : tmps.getD p undef = .pointer (some ⟨m, 0, none⟩))
    (hb : Blk w m L t) (hu : P.underlying ty = some d) (hd : d.isRow = true) (hi : (P.info? ty).map (·.size) = some L.size) (hR : R (.returned (.agg L)) w) : bodyPost P fn R .ret ⟨tmps, []⟩ w := by
  refine bodyPost_ret (v := .agg L) ?_ rfl hR
  rw [results_cell1 h]
  show ((asAddr (tmps.getD p undef)).run P w).andThen _ = _
  rw [hp]
  have hr := run_loadVar_mid (P := P) w m 0 ty L.toList d hb.range hu hd (by rw [Array.length_toList]; exact hi)
  simp only [asAddr, Sem.run_pure, Result.andThen_ok]
  rw [hr]
end Go.Proofs.YtpdbndkckioamaaDoor
