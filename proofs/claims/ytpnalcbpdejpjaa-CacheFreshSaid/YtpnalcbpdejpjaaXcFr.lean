/-
  What a call on a cache leaves as it was.
-/
import Derived.Test.YtpnalcbpdejpjaaXcTake
set_option linter.unusedSimpArgs false
set_option linter.unusedVariables false
namespace Go.Proofs.Ytpnalcbpdejpjaa
open Go.RowKit Classical
/-- v is w but for the blocks of S and new ones. -/
structure Fr (S : Nat → Prop) (w v : World) : Prop where
  os : v.os = w.os
  tape : v.tape = w.tape
  output : v.output = w.output
  size : w.heap.size ≤ v.heap.size
  block : ∀ k, k < w.heap.size → ¬ S k → v.heap[k]? = w.heap[k]?
theorem Fr.refl (S : Nat → Prop) (w : World) : Fr S w w := ⟨rfl, rfl, rfl, Nat.le_refl _, fun _ _ _ => rfl⟩
theorem Fr.of_below {S : Nat → Prop} {w v : World} (h : Below w.heap.size w v) : Fr S w v := ⟨h.os, h.tape, h.output, h.size, fun k hk _ => h.block k hk⟩
theorem Fr.trans {S : Nat → Prop} {a b c : World} (h : Fr S a b) (g : Fr S b c) : Fr S a c := ⟨g.os.trans h.os, g.tape.trans h.tape, g.output.trans h.output, Nat.le_trans h.size g.size, fun k hk hn => (g.block k (Nat.lt_of_lt_of_le hk h.size) hn).trans (h.block k hk hn)⟩
/-- .. what is new for the first may be changed by the second. -/
theorem Fr.andThen {S T : Nat → Prop} {a b c : World} (h : Fr S a b) (g : Fr T b c) (hT : ∀ k, T k → S k ∨ a.heap.size ≤ k) : Fr S a c := ⟨g.os.trans h.os, g.tape.trans h.tape, g.output.trans h.output, Nat.le_trans h.size g.size, fun k hk hn => (g.block k (Nat.lt_of_lt_of_le hk h.size) (fun t => (hT k t).elim hn (fun l => by omega))).trans (h.block k hk hn)⟩
theorem Fr.mono {S T : Nat → Prop} {a b : World} (h : Fr S a b) (g : ∀ k, S k → T k) : Fr T a b := ⟨h.os, h.tape, h.output, h.size, fun k hk hn => h.block k hk (fun s => hn (g k s))⟩
theorem heap_setCells (b : Nat) : ∀ (vs : List Value) (o : Nat) (w : World) (k : Nat), k ≠ b → (w.setCells b o vs).heap[k]? = w.heap[k]?
  | [], _, _, _, _ => rfl
  | v :: vs, o, w, k, h => (heap_setCells b vs (o + 1) (w.setCell ⟨b, o, none⟩ v) k h).trans (Below.heap_setCell w ⟨b, o, none⟩ v k h)
theorem Fr.setCells {S : Nat → Prop} {w v : World} (h : Fr S w v) {b : Nat} (hb : S b ∨ w.heap.size ≤ b) (o : Nat) (vs : List Value) : Fr S w (v.setCells b o vs) := by
  have g := setCells_below' (B := 0) (Nat.zero_le b) vs o v v (Below.refl 0 v)
  exact ⟨g.os.trans h.os, g.tape.trans h.tape, g.output.trans h.output, Nat.le_trans h.size g.size, fun k hk hn => (heap_setCells b vs o v k (fun e => hb.elim (fun s => hn (e ▸ s)) (fun l => by omega))).trans (h.block k hk hn)⟩
theorem Fr.setCell {S : Nat → Prop} {w v : World} (h : Fr S w v) {b : Nat} (hb : S b ∨ w.heap.size ≤ b) (o : Nat) (x : Value) : Fr S w (v.setCell ⟨b, o, none⟩ x) := h.setCells hb o [x]
theorem Fr.grown {S : Nat → Prop} {w v : World} {m : Nat} (g : w.grownBy v (some m)) (hm : S m) : Fr S w v := ⟨g.os, g.tape, g.output, g.size, fun k hk hn => g.block k hk (fun e => hn (by cases e; exact hm))⟩
theorem Fr.blk {S : Nat → Prop} {w v : World} (h : Fr S w v) {b : Nat} {cs : Array Value} {t : TypeId} (z : Blk w b cs t) (hn : ¬ S b) : Blk v b cs t := (h.block b z.lt hn).trans z
theorem Fr.below {S : Nat → Prop} {w v : World} (h : Fr S w v) {B : Nat} (hB : ∀ k, S k → B ≤ k) (hw : B ≤ w.heap.size) : Below B w v := ⟨h.os, h.tape, h.output, h.size, fun k hk => h.block k (by omega) (fun s => by have := hB k s; omega)⟩
theorem Fr.orow {S : Nat → Prop} {w v : World} (h : Fr S w v) {base s n : Nat} {T : TypeId} {x : Value} {cells : List Value} (r : w.ownsRow base T s x n cells) (hn : ∀ g c, x = .slice (some ⟨g, 0, none⟩) n c → ¬ S g) : v.ownsRow base T s x n cells := by
  rcases r with ⟨h1, h2⟩
  refine ⟨h1, ?_⟩
  rcases h2 with h2 | ⟨g, cap, cur, e, hg, hh, h3, h4, h5, h6⟩
  · exact .inl h2
  · exact .inr ⟨g, cap, cur, e, hg, (h.block g (Array.getElem?_eq_some_iff.1 hh).1 (hn g cap e)).trans hh, h3, h4, h5, h6⟩
theorem orow_apart {w : World} {base base' s s' n n' g g' c c' : Nat} {T T' : TypeId} {cells cells' : List Value} (h : w.ownsRow base T s (.slice (some ⟨g, 0, none⟩) n c) n cells) (h' : w.ownsRow base' T' s' (.slice (some ⟨g', 0, none⟩) n' c') n' cells') (hT : T ≠ T') : g ≠ g' := by
  rcases h.2 with ⟨e, _⟩ | ⟨_, _, cur, e, _, hh, _⟩
  · cases e
  · cases e
    rcases h'.2 with ⟨e, _⟩ | ⟨_, _, cur', e, _, hh', _⟩
    · cases e
    · cases e
      intro eg
      subst eg
      rw [hh] at hh'
      simp at hh'
      exact hT hh'.2
theorem orow_blk {w : World} {base s n g c q : Nat} {T T' : TypeId} {cells : List Value} {cs : Array Value} (h : w.ownsRow base T s (.slice (some ⟨g, 0, none⟩) n c) n cells) (z : Blk w q cs T') (hT : T ≠ T') : g ≠ q := fun e => orow_type h z hT (by rw [e]; rfl)
theorem Mk.apart {w : World} {m k q : Nat} {cnt : Int → Int} {cs : Array Value} {t : TypeId} (h : Mk w m k cnt) (z : Blk w q cs t) : m ≠ q := by
  obtain ⟨D, ⟨es, clock, h1, _⟩, _⟩ := h
  intro e
  subst e
  unfold Blk at z
  rw [h1] at z
  cases z
theorem Mk.row {w : World} {m k base s n g c : Nat} {T : TypeId} {cnt : Int → Int} {cells : List Value} (h : Mk w m k cnt) (r : w.ownsRow base T s (.slice (some ⟨g, 0, none⟩) n c) n cells) : m ≠ g := by
  obtain ⟨D, ⟨es, clock, h1, _⟩, _⟩ := h
  rcases r.2 with ⟨e, _⟩ | ⟨_, _, cur, e, _, hh, _⟩
  · cases e
  · cases e
    intro em
    subst em
    rw [h1] at hh
    cases hh
/-- The blocks that calls on a cache change. -/
def CaS (q ga m : Nat) (fv : Value) : Nat → Prop := fun k => k = q ∨ k = ga ∨ k = m ∨ fv.ownBlock = some k
end Go.Proofs.Ytpnalcbpdejpjaa
