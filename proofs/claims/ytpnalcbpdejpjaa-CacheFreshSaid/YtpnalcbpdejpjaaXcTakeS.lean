/-
  The worlds that take passes through.
-/
import Derived.Test.YtpnalcbpdejpjaaXcFr
set_option linter.unusedSimpArgs false
set_option linter.unusedVariables false
namespace Go.Proofs.Ytpnalcbpdejpjaa
open Go.RowKit Classical
theorem clear_run (g o c : Nat) (ty : TypeId) (w : World) (ht : w.there g o 12) : (Builtin.clear_ #[77] ty #[.slice (some ⟨g, o, none⟩) 1 c]).run Try.prog w = .ok (.tuple #[]) (w.setCells g o (#[.int .i64 0, .int .u16 0, .int .i64 0, .int .u16 0, .int .i64 0, .string ⟨#[]⟩, .int .i64 0, .slice none 0 0, .int .i64 0, .int .i64 0, .int .i64 0, .int .i64 0] : Array Value).toList) := by
  have h := run_storeCells_cells (P := Try.prog) g o (#[.int .i64 0, .int .u16 0, .int .i64 0, .int .u16 0, .int .i64 0, .string ⟨#[]⟩, .int .i64 0, .slice none 0 0, .int .i64 0, .int .i64 0, .int .i64 0, .int .i64 0] : Array Value).toList 0 w (fun j hj => by simpa using (ht j (by simpa using hj)).1) (fun j hj => by simpa using (ht j (by simpa using hj)).2) (fun v hv => (List.all_eq_true.1 (show (#[.int .i64 0, .int .u16 0, .int .i64 0, .int .u16 0, .int .i64 0, .string ⟨#[]⟩, .int .i64 0, .slice none 0 0, .int .i64 0, .int .i64 0, .int .i64 0, .int .i64 0] : Array Value).toList.all (·.oneCell') = true from rfl)) v hv)
  simp only [Nat.add_zero] at h
  have hz : (zeroValue 113).run Try.prog w = .ok (.agg #[.int .i64 0, .int .u16 0, .int .i64 0, .int .u16 0, .int .i64 0, .string ⟨#[]⟩, .int .i64 0, .slice none 0 0, .int .i64 0, .int .i64 0, .int .i64 0, .int .i64 0]) w := by kernel_rfl
  have hu : (underlying 77).run Try.prog w = .ok (.slice 113) w := by kernel_rfl
  have hc : (Builtin.zeroCells (Value.agg #[.int .i64 0, .int .u16 0, .int .i64 0, .int .u16 0, .int .i64 0, .string ⟨#[]⟩, .int .i64 0, .slice none 0 0, .int .i64 0, .int .i64 0, .int .i64 0, .int .i64 0]).cells 1).toList = (#[.int .i64 0, .int .u16 0, .int .i64 0, .int .u16 0, .int .i64 0, .string ⟨#[]⟩, .int .i64 0, .slice none 0 0, .int .i64 0, .int .i64 0, .int .i64 0, .int .i64 0] : Array Value).toList := by kernel_rfl
  unfold Builtin.clear_
  simp [Sem.run_bind, hu, hz, hc, h, Result.andThen]
/-- The two results of take, in worlds that are u but for them. -/
structure Kh2 (w u : World) (qe : Nat) (EC : Array Value) (v : World) : Prop where
  e : Blk v qe EC 113
  k : ∃ cs, Blk v w.heap.size cs 24 ∧ cs.size = 2
  h : ∃ cs, Blk v (w.heap.size + 1) cs 84 ∧ cs.size = 9
  b : Fr (fun k => k = w.heap.size ∨ k = w.heap.size + 1) u v
theorem Ca.fr {S : Nat → Prop} {base q ga kA m k N n fc : Nat} {fa : Option Addr} {A : List Nat} {es : List En} {cnt : Int → Int} {w w' : World} (h : Ca base q ga kA m k N (.slice fa n fc) A es cnt w) (g : Fr S w w') (h1 : ¬ S q) (h2 : ¬ S ga) (h3 : ¬ S m) (h4 : ∀ b, fa = some ⟨b, 0, none⟩ → ¬ S b) : Ca base q ga kA m k N (.slice fa n fc) A es cnt w' :=
  ⟨g.blk h.b h1, g.orow h.a (fun x c e => by cases e; exact h2), g.orow h.f (fun x c e => by cases e; exact h4 _ rfl), h.mr.keep (g.block m h.mr.lt h3), h.v, h.hq, h.hm⟩
/-- The worlds that take passes through. -/
structure Tw (w : World) (q ga kA m N fg n fc base : Nat) (A : List Nat) (es : List En) (v : World) : Prop where
  b : Blk v q #[.slice (some ⟨ga, 0, none⟩) N kA, .slice (some ⟨fg, 0, none⟩) n fc, .map (some m)] 88
  a : v.ownsRow base 3 1 (.slice (some ⟨ga, 0, none⟩) N kA) N (ints A)
  f : v.ownsRow base 113 12 (.slice (some ⟨fg, 0, none⟩) n fc) n (eflat es)
  k : Blk v w.heap.size #[.int .u16 0, .int .i64 0] 24
  h : Blk v (w.heap.size + 1) #[.int .u16 0, .int .i64 0, .string ⟨#[]⟩, .int .i64 0, .slice none 0 0, .int .i64 0, .int .i64 0, .int .i64 0, .int .i64 0] 84
  fr : Fr (fun k => k = q ∨ k = ga ∨ k = fg) w v
theorem Tw.on {w : World} {q ga kA m N fg n fc base : Nat} {A : List Nat} {es : List En} {v v' : World} (h : Tw w q ga kA m N fg n fc base A es v) (hb : Below v.heap.size v v') : Tw w q ga kA m N fg n fc base A es v' :=
  ⟨h.b.below h.b.lt hb, orow_keep h.a hb, orow_keep h.f hb, h.k.below h.k.lt hb, h.h.below h.h.lt hb, h.fr.trans (Fr.of_below hb)⟩
theorem orow_nes {base s n m : Nat} {T : TypeId} {x : Value} {cells : List Value} {w : World} (h : w.ownsRow base T s x n cells) (hm : ∀ g k, x = .slice (some ⟨g, 0, none⟩) n k → g ≠ m) (vs : List Value) (o : Nat) : (w.setCells m o vs).ownsRow base T s x n cells :=
  (Fr.refl (fun k => k = m) w).setCells (.inl rfl) o vs |>.orow h (fun g c e hs => hm g c e hs)
theorem Tw.setF {w : World} {q ga kA m N fg n fc base : Nat} {A : List Nat} {es : List En} {v : World} (h : Tw w q ga kA m N fg n fc base A es v) {j : Nat} {y : En} (hj : es[j]? = some y) (hn : es.length = n) (x : En) (hw : w.heap.size + 1 < w.heap.size + 2) (hqw : q < w.heap.size) (hfw : fg < w.heap.size) : Tw w q ga kA m N fg n fc base A (es.set j x) (v.setCells fg (j * 12) x.cells.toList) := by
  have hjl := (List.getElem?_eq_some_iff.1 hj).1
  have n1 := orow_blk h.f h.b (by decide)
  refine ⟨h.b.otherCells (fun e => n1 e.symm) _ _, orow_nes h.a (fun g k e => by cases e; exact orow_apart h.a h.f (by decide)) _ _, ?_, h.k.otherCells (by omega) _ _, h.h.otherCells (by omega) _ _, h.fr.setCells (.inl (.inr (.inr rfl))) _ _⟩
  rw [← eflat_set hj x]
  exact orow_setCells _ _ _ _ h.f (by show j * 12 + 12 ≤ n * 12; omega)
theorem Tw.setA {w : World} {q ga kA m N fg n fc base : Nat} {A : List Nat} {es : List En} {v : World} (h : Tw w q ga kA m N fg n fc base A es v) {j : Nat} (hj : j < N) (x : Nat) (hqw : q < w.heap.size) (hfw : ga < w.heap.size) : Tw w q ga kA m N fg n fc base (A.set j x) es (v.setCell ⟨ga, j, none⟩ (.int .i64 ((x : Nat) : Int))) := by
  have n1 := orow_blk h.a h.b (by decide)
  refine ⟨h.b.other (fun e => n1 e.symm) _ _, ?_, orow_ne h.f (fun g k e => by cases e; exact fun eg => orow_apart h.a h.f (by decide) eg.symm), h.k.other (by omega) _ _, h.h.other (by omega) _ _, h.fr.setCell (.inl (.inr (.inl rfl))) _ _⟩
  rw [← ints_set]
  exact orow_set h.a _ (by omega) _
end Go.Proofs.Ytpnalcbpdejpjaa
