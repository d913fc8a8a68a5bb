/-
  A cache over its entries, with their lists.
-/
import Derived.Test.YtpnalcbpdejpjaaXcPutL
import Derived.Test.YtpnalcbpdejpjaaXcGetN
import Derived.Test.YtpnalcbpdejpjaaXcOrd
set_option linter.unusedSimpArgs false
set_option linter.unusedVariables false
namespace Go.Proofs.Ytpnalcbpdejpjaa
open Go.RowKit Classical
/-- Whether an entry covers a page, and how many do. -/
def cov (p : Int) (e : En) : Bool := decide (pg0 e.f e.sz ≤ p ∧ p < pg1 e.f e.sz)
def cvr (es : List En) (p : Int) : Int := (((es.filter (cov p)).length : Nat) : Int)
structure Eg (N : Nat) (e : En) : Prop where
  sl : slotV e.pc e.tag N = ((e.slot : Nat) : Int)
  p0 : 0 ≤ e.pc
  p1 : e.pc ≤ 65535
  f0 : 0 ≤ e.f
  f1 : e.f ≤ 1099511627776
  s0 : 0 ≤ e.sz
  s1 : e.sz ≤ 140737488355328
  on : e.on ≤ 2932031007317
  fm : (e.oa = none ∧ e.on = 0 ∧ e.oc = 0) ∨ ∃ g, e.oa = some ⟨g, 0, none⟩ ∧ e.oc = e.on
/-- An entry's list. -/
def Er (w : World) (base : Nat) (e : En) (cells : List Value) : Prop := w.ownsRow base 54 7 (.slice e.oa e.on e.oc) e.on cells ∧ ∀ u ∈ cells, u.oneCell' = true
/-- A cache over its entries; of each entry and its list Φ holds. -/
def Cx (base q ga kA m N t : Nat) (Φ : En → List Value → Prop) (fa : Option Addr) (n fc : Nat) (es : List En) (w : World) : Prop :=
  ∃ (k : Nat) (A : List Nat) (cnt : Int → Int), Ca base q ga kA m k N (.slice fa n fc) A es cnt w ∧ (k : Int) ≤ 560000000000 * (t : Int) ∧ (∀ p, cnt p = cvr es p) ∧ ∀ e ∈ es, Eg N e ∧ ∃ cells, Er w base e cells ∧ Φ e cells
theorem Cx.mono {base q ga kA m N t n fc : Nat} {Φ Ψ : En → List Value → Prop} {fa : Option Addr} {es : List En} {w : World} (H : Cx base q ga kA m N t Φ fa n fc es w) (h : ∀ e ∈ es, ∀ cs, Φ e cs → Ψ e cs) : Cx base q ga kA m N t Ψ fa n fc es w := by
  obtain ⟨k, A, cnt, ca, h1, h2, h3⟩ := H
  exact ⟨k, A, cnt, ca, h1, h2, fun e he => ⟨(h3 e he).1, (h3 e he).2.imp fun cs hc => ⟨hc.1, h e he cs hc.2⟩⟩⟩
theorem Cx.on {base q ga kA m N t n fc : Nat} {Φ : En → List Value → Prop} {fa : Option Addr} {es : List En} {w w' : World} (H : Cx base q ga kA m N t Φ fa n fc es w) (hb : Below w.heap.size w w') : Cx base q ga kA m N t Φ fa n fc es w' := by
  obtain ⟨k, A, cnt, ca, h1, h2, h3⟩ := H
  exact ⟨k, A, cnt, ca.on hb, h1, h2, fun e he => ⟨(h3 e he).1, (h3 e he).2.imp fun cs hc => ⟨⟨orow_keep hc.1.1 hb, hc.1.2⟩, hc.2⟩⟩⟩
theorem Cx.up {base q ga kA m N t t' n fc : Nat} {Φ : En → List Value → Prop} {fa : Option Addr} {es : List En} {w : World} (H : Cx base q ga kA m N t Φ fa n fc es w) (h : t ≤ t') : Cx base q ga kA m N t' Φ fa n fc es w := by
  obtain ⟨k, A, cnt, ca, h1, h2⟩ := H
  exact ⟨k, A, cnt, ca, by omega, h2⟩
/-- The blocks of a cache. -/
def Cbl (q ga m : Nat) (fa : Option Addr) (n fc : Nat) (es : List En) (k : Nat) : Prop := CaS q ga m (.slice fa n fc) k ∨ ∃ e ∈ es, (Value.slice e.oa e.on e.oc).ownBlock = some k
theorem orow_own {w : World} {base s n b : Nat} {T : TypeId} {v : Value} {cells : List Value} (h : w.ownsRow base T s v n cells) (e : v.ownBlock = some b) : base ≤ b ∧ b < w.heap.size := by
  rcases h.2 with ⟨e', _⟩ | ⟨g, cap, cur, e', hb, hh, _⟩
  · rw [e'] at e; cases e
  · rw [e'] at e
    cases e
    exact ⟨hb, (Array.getElem?_eq_some_iff.1 hh).1⟩
theorem Cx.blk {base q ga kA m N t n fc b : Nat} {Φ : En → List Value → Prop} {fa : Option Addr} {es : List En} {w : World} (H : Cx base q ga kA m N t Φ fa n fc es w) (h : Cbl q ga m fa n fc es b) : base ≤ b ∧ b < w.heap.size := by
  obtain ⟨k, A, cnt, ca, h1, h2, h3⟩ := H
  obtain ⟨-, hf, ho⟩ := ca.row
  rcases h with (rfl | rfl | rfl | h) | ⟨e, he, h⟩
  · exact ⟨ca.hq, ca.b.lt⟩
  · exact ⟨(orow_base ca.a).1, (orow_base ca.a).2.1⟩
  · exact ⟨ca.hm, ca.mr.lt⟩
  · exact orow_own hf h
  · obtain ⟨-, cs, g, -⟩ := h3 e he
    exact orow_own g.1 h
theorem Cx.fr {base q ga kA m N t n fc : Nat} {Φ : En → List Value → Prop} {fa : Option Addr} {es : List En} {w v : World} {S : Nat → Prop} (H : Cx base q ga kA m N t Φ fa n fc es w) (g : Fr S w v) (hS : ∀ k, Cbl q ga m fa n fc es k → ¬ S k) : Cx base q ga kA m N t Φ fa n fc es v := by
  obtain ⟨k, A, cnt, ca, h1, h2, h3⟩ := H
  refine ⟨k, A, cnt, ca.fr g (hS _ (.inl (.inl rfl))) (hS _ (.inl (.inr (.inl rfl)))) (hS _ (.inl (.inr (.inr (.inl rfl))))) (fun b e => hS b (.inl (.inr (.inr (.inr (by rw [e]; rfl)))))), h1, h2, fun e he => ?_⟩
  obtain ⟨g1, cs, g2, g3⟩ := h3 e he
  refine ⟨g1, cs, ⟨g.orow g2.1 (fun b c e' => hS b (.inr ⟨e, he, ?_⟩)), g2.2⟩, g3⟩
  rw [e']; rfl
theorem Fr.of_belowB {B : Nat} {w v : World} (h : Below B w v) : Fr (fun k => B ≤ k) w v := ⟨h.os, h.tape, h.output, h.size, fun k _ hn => h.block k (by omega)⟩
theorem pg_far {f sz : Int} (f0 : 0 ≤ f) (s0 : 0 ≤ sz) (s1 : sz ≤ 140737488355328) : 0 ≤ pg1 f sz - pg0 f sz ∧ pg1 f sz - pg0 f sz ≤ 550000000000 := by
  unfold pg0 pg1
  split <;> omega
theorem cvr_near (es : List En) (p : Int) : 0 ≤ cvr es p ∧ cvr es p ≤ es.length := by
  have := List.length_filter_le (cov p) es
  unfold cvr
  omega
theorem cvr_app (es : List En) (x : En) (p : Int) : cvr (es ++ [x]) p = addP (cvr es) (pg0 x.f x.sz) (pg1 x.f x.sz) 1 p := by
  unfold cvr addP
  rw [List.filter_append, List.length_append]
  by_cases h : pg0 x.f x.sz ≤ p ∧ p < pg1 x.f x.sz
  · rw [if_pos h, List.filter_cons_of_pos (by unfold cov; exact decide_eq_true h)]; simp
  · rw [if_neg h, List.filter_cons_of_neg (by unfold cov; rw [decide_eq_true_iff]; exact h)]; simp
/-- The last one is moved to the place of one that goes. -/
theorem take_perm {es : List En} {i p : Nat} {y l : En} (hi : es[i]? = some y) (hp : es.length = p + 1) (hl : es[p]? = some l) : ((es.set i l).take p ++ [y]).Perm es := by
  have hil := (List.getElem?_eq_some_iff.1 hi).1
  have e1 : es = es.take p ++ [l] := by
    have h := List.take_append_drop p es
    rw [← h]
    congr 1
    · simp
    · apply List.ext_getElem?
      intro j
      rw [List.getElem?_drop]
      cases j with
      | zero => simpa using hl
      | succ j => rw [List.getElem?_eq_none (by omega)]; rfl
  by_cases hip : i = p
  · subst hip
    rw [hi] at hl
    cases hl
    have e2 : (es.set i y).take i = es.take i := by
      apply List.ext_getElem?
      intro j
      by_cases hj : j < i
      · rw [List.getElem?_take_of_lt hj, List.getElem?_take_of_lt hj, List.getElem?_set_ne (by omega)]
      · rw [List.getElem?_eq_none (by simp; omega), List.getElem?_eq_none (by simp; omega)]
    rw [e2, ← e1]
  · have hip2 : i < p := by omega
    have e2 : es.take p = es.take i ++ y :: (es.take p).drop (i + 1) := by
      have h1 := (List.take_append_drop i (es.take p)).symm
      rw [List.take_take, Nat.min_eq_left (by omega)] at h1
      have h2 : (es.take p).drop i = y :: (es.take p).drop (i + 1) := by
        have h3 : (es.take p)[i]? = some y := by rw [List.getElem?_take_of_lt hip2]; exact hi
        have h4 := (List.getElem?_eq_some_iff.1 h3).1
        rw [List.drop_eq_getElem_cons h4]
        congr 1
        exact (List.getElem?_eq_some_iff.1 h3).2
      rw [h2] at h1
      exact h1
    have e3 : (es.set i l).take p = es.take i ++ l :: (es.take p).drop (i + 1) := by
      have h1 : (es.set i l).take p = (es.take p).set i l := List.take_set
      rw [h1, e2, List.set_append_right _ _ (by simp; omega)]
      have h5 : i - (es.take i).length = 0 := by simp; omega
      rw [h5, List.set_cons_zero, ← e2]
    rw [e3]
    conv => rhs; rw [e1, e2]
    rw [List.append_assoc, List.append_assoc, List.cons_append, List.cons_append]
    refine List.Perm.append_left _ ?_
    refine (List.Perm.cons l List.perm_append_comm).trans ?_
    refine (List.Perm.swap y l _).trans (List.Perm.cons y ?_)
    exact (List.perm_append_comm (l₁ := [l]) (l₂ := (es.take p).drop (i + 1)))
theorem cvr_perm {l l' : List En} (h : l.Perm l') (p : Int) : cvr l p = cvr l' p := by
  unfold cvr
  rw [(h.filter _).length_eq]
theorem cvr_take {es : List En} {i p : Nat} {y l : En} (hi : es[i]? = some y) (hp : es.length = p + 1) (hl : es[p]? = some l) (c : Int) : cvr ((es.set i l).take p) c = addP (cvr es) (pg0 y.f y.sz) (pg1 y.f y.sz) (-1) c := by
  have h1 := cvr_perm (take_perm hi hp hl) c
  rw [cvr_app] at h1
  unfold addP at *
  split at h1
  · rename_i h; rw [if_pos h]; omega
  · rename_i h; rw [if_neg h]; omega
theorem addP_congr {f g : Int → Int} (h : ∀ p, f p = g p) (a b d p : Int) : addP f a b d p = addP g a b d p := by
  unfold addP; rw [h p]
/-- What Put does to the entries, and what it answers. -/
def PutRl (es : List En) (x : En) (es' : List En) (rr : Bool) (RK : Array Value) : Prop :=
  ((∀ e ∈ es, e.slot ≠ x.slot) ∧ rr = false ∧ RK = #[.int .u16 0, .int .i64 0] ∧ es' = es ++ [x]) ∨
  ∃ (y : En) (r : List En), (r ++ [y]).Perm es ∧ y.slot = x.slot ∧ es' = r ++ [x] ∧ ((rr = false ∧ RK = #[.int .u16 0, .int .i64 0] ∧ y.pc = x.pc ∧ y.tag = x.tag) ∨ (rr = true ∧ RK = #[.int .u16 y.pc, .int .i64 y.tag] ∧ ¬ (y.pc = x.pc ∧ y.tag = x.tag)))
theorem Ca.slots {base q ga kA m k N : Nat} {fv : Value} {A : List Nat} {es : List En} {cnt : Int → Int} {w : World} (ca : Ca base q ga kA m k N fv A es cnt w) : (es.map En.slot).Nodup := by
  refine List.pairwise_iff_getElem.2 fun i j hi hj hij e => ?_
  rw [List.length_map] at hi hj
  rw [List.getElem_map, List.getElem_map] at e
  have h1 := (ca.v.e i _ (List.getElem?_eq_getElem hi)).2
  have h2 := (ca.v.e j _ (List.getElem?_eq_getElem hj)).2
  rw [e, h2] at h1
  have := Option.some.inj h1
  omega
theorem cbl_put {q ga m n fc n' fc' B : Nat} {fa fa' : Option Addr} {es es0 : List En} {x : En} {cells : List Value} {w w' : World} (hw : (Value.slice fa' n' fc').ownBlock = (Value.slice fa n fc).ownBlock ∨ ∃ b, w.heap.size ≤ b ∧ (Value.slice fa' n' fc').ownBlock = some b) (hr : w'.ownsRow w.heap.size 54 7 (.slice x.oa x.on x.oc) x.on cells) (he : ∀ e ∈ es0, e ∈ es ∨ False) (hk : Cbl q ga m fa' n' fc' (es0 ++ [x]) B) : Cbl q ga m fa n fc es B ∨ w.heap.size ≤ B := by
  rcases hk with (h | h | h | h) | ⟨e, hm, h⟩
  · exact .inl (.inl (.inl h))
  · exact .inl (.inl (.inr (.inl h)))
  · exact .inl (.inl (.inr (.inr (.inl h))))
  · rcases hw with h2 | ⟨b, h2, h3⟩
    · exact .inl (.inl (.inr (.inr (.inr (h2.symm.trans h)))))
    · rw [h3] at h
      cases h
      exact .inr h2
  · rcases List.mem_append.1 hm with h2 | h2
    · exact .inl (.inr ⟨e, (he e h2).elim id (fun f => f.elim), h⟩)
    · rw [List.mem_singleton.1 h2] at h
      exact .inr (orow_own hr h).1
set_option maxRecDepth 100000 in
set_option maxHeartbeats 4000000 in
theorem putX (base q ga kA m N t sl n fc : Nat) (Φ : En → List Value → Prop) (fa : Option Addr) (es : List En) (pc tag : Int) (s : ByteArray) (ni lo hi place : Int) (oa : Option Addr) (on oc : Nat) (cells : List Value) (w : World) (H : Cx base q ga kA m N t Φ fa n fc es w)
    (hLs : ∀ V, Fr (CaS q ga m (.slice fa n fc)) w V → Ls V oa on oc cells) (hon : on ≤ 2932031007317) (p0 : 0 ≤ pc) (p1 : pc ≤ 65535) (hs : s.size ≤ 140737488355328) (hN0 : 1 ≤ N) (hN : N ≤ 65536) (hn : n ≤ 60000) (ht : t ≤ 200) (hbw : base ≤ w.heap.size) (hsl : slotV pc tag N = ((sl : Nat) : Int)) (hslN : sl < N) :
    Calls Try.prog 12 #[.pointer (some ⟨q, 0, none⟩), .agg #[.int .u16 pc, .int .i64 tag, .string s, .int .i64 ni, .slice oa on oc, .int .i64 lo, .int .i64 hi], .int .i64 place] w fun e w' => ∃ es' rr RK x, e = .returned (.tuple #[.agg RK, .bool rr]) ∧ (x.pc = pc ∧ x.tag = tag ∧ x.s = s ∧ x.ni = ni ∧ x.on = on ∧ x.lo = lo ∧ x.hi = hi ∧ x.f = spF place ∧ x.sz = spN place (s.size : Nat) ∧ x.slot = sl) ∧ PutRl es x es' rr RK ∧ (∃ fa' n' fc', Cx base q ga kA m N (t + 2) (fun e cs => ((e ∈ es ∧ e.slot ≠ x.slot) ∧ Φ e cs) ∨ (e = x ∧ cs = cells)) fa' n' fc' es' w' ∧ ∀ k, Cbl q ga m fa' n' fc' es' k → Cbl q ga m fa n fc es k ∨ w.heap.size ≤ k) ∧ Fr (CaS q ga m (.slice fa n fc)) w w' := by
  obtain ⟨k, A, cnt, ca, hk, hc0, he⟩ := H
  have hone := (hLs w (Fr.refl _ _)).2.1
  obtain ⟨hne, hf, ho⟩ := ca.row
  have hF : 0 ≤ spF place ∧ spF place ≤ 1099511627776 := by
    unfold spF farB; split
    · omega
    · rename_i h; simp at h; omega
  have hNn : 0 ≤ spN place (s.size : Nat) ∧ spN place (s.size : Nat) ≤ 140737488355328 := by
    unfold spN; split <;> omega
  have hpg := pg_far (f := spF place) (sz := spN place (s.size : Nat)) hF.1 hNn.1 hNn.2
  have hc : ∀ p, 0 ≤ cnt p ∧ cnt p ≤ 60000 := fun p => by rw [hc0 p]; have := cvr_near es p; omega
  have hfw : ∀ b, fa = some ⟨b, 0, none⟩ → b < w.heap.size := fun b e => by rw [e] at hf; exact (orow_base hf).2.1
  have hl4 : q < w.heap.size ∧ ga < w.heap.size ∧ m < w.heap.size ∧ ∀ b, fa = some ⟨b, 0, none⟩ → b < w.heap.size := ⟨ca.b.lt, (orow_base ca.a).2.1, ca.mr.lt, hfw⟩
  have hxg : ∀ la lc, ((oa = none ∧ la = none ∧ lc = 0) ∨ ((∃ ad, oa = some ad) ∧ ∃ g, la = some ⟨g, 0, none⟩ ∧ lc = on)) → Eg N (⟨sl, pc, tag, s, ni, la, on, lc, lo, hi, spF place, spN place (s.size : Nat)⟩ : En) := fun la lc h => ⟨hsl, p0, p1, hF.1, hF.2, hNn.1, hNn.2, hon, by
    rcases h with ⟨e, rfl, rfl⟩ | ⟨-, h⟩
    · have := (hLs w (Fr.refl _ _)).2.2
      rcases this with ⟨-, h2, -⟩ | ⟨ad, h2, -⟩
      · exact .inl ⟨rfl, h2, rfl⟩
      · rw [e] at h2; cases h2
    · exact .inr h⟩
  obtain ⟨u, hu⟩ : ∃ u, A[sl]? = some u := ⟨_, List.getElem?_eq_getElem (by rw [ca.v.len]; exact hslN)⟩
  rcases ca.v.a sl u hu with rfl | ⟨y, hy, hys, hu1⟩
  · refine (putL_of base q ga kA m k N n fc sl fa (.slice fa n fc) A A es es cnt cnt pc tag s ni lo hi place 0 0 oa on oc cells false false #[.int .u16 0, .int .i64 0] k w (.inl ⟨rfl, rfl, rfl⟩) ca hN0 hN (by omega) p0 p1 hsl hu hF.1 hF.2 hNn.1 hNn.2 (by omega) (fun p => by have := hc p; omega) hbw hl4 hLs hon (fun V hV _ => drop_none base q ga kA m k N sl n fc fa A es cnt V hV hu hN (by omega) (by omega) (fun p => by have := hc p; omega))).mono ?_
    have hsn : ∀ e ∈ es, e.slot ≠ sl := fun e hm => by
      obtain ⟨i, hi⟩ := List.mem_iff_getElem?.1 hm
      have := (ca.v.e i e hi).2
      intro e1
      rw [e1, hu] at this
      cases this
    rintro e w' ⟨rfl, ⟨fa', fc', k2, la, lc, hk2, ca2, hw2, hfo, hro⟩, fr⟩
    refine ⟨_, _, _, _, rfl, ⟨rfl, rfl, rfl, rfl, rfl, rfl, rfl, rfl, rfl, rfl⟩, .inl ⟨hsn, rfl, rfl, rfl⟩, ⟨fa', n + 1, fc', ⟨k2, _, _, ca2, by omega, fun p => ?_, fun e hm => ?_⟩, fun k hk => ?_⟩, fr⟩
    · rw [cvr_app]; exact addP_congr hc0 _ _ _ _
    · rcases List.mem_append.1 hm with h | h
      · obtain ⟨g1, cs, g2, g3⟩ := he e h
        exact ⟨g1, cs, ⟨ca.orow fr g2.1, g2.2⟩, .inl ⟨⟨h, hsn e h⟩, g3⟩⟩
      · rw [List.mem_singleton.1 h]
        exact ⟨hxg la lc hfo, cells, ⟨orow_lower hro hbw, hone⟩, .inr ⟨rfl, rfl⟩⟩
    · exact cbl_put hw2 hro (fun e he => .inl he) hk
  · obtain ⟨i, rfl⟩ : ∃ i, u = i + 1 := ⟨u - 1, by omega⟩
    rw [Nat.add_sub_cancel] at hy
    obtain ⟨p, hp⟩ : ∃ p, es.length = p + 1 := ⟨es.length - 1, by have := (List.getElem?_eq_some_iff.1 hy).1; omega⟩
    obtain ⟨l, hl⟩ : ∃ l, es[p]? = some l := ⟨_, List.getElem?_eq_getElem (by omega)⟩
    obtain rfl : n = p + 1 := by omega
    obtain ⟨fg, rfl⟩ : ∃ fg, fa = some ⟨fg, 0, none⟩ := by
      cases fa with
      | none => have := (orow_none hf).1; omega
      | some ad => obtain ⟨g, rfl⟩ := orow_where hf; exact ⟨g, rfl⟩
    have hey := (he y (List.mem_of_getElem? hy)).1
    have hpy := pg_far hey.f0 hey.s0 hey.s1
    obtain ⟨rr, RK, hR, hR2⟩ : ∃ (rr : Bool) (RK : Array Value), ((rr = false ∧ RK = #[.int .u16 0, .int .i64 0] ∧ true = false) ∨ (rr = false ∧ RK = #[.int .u16 0, .int .i64 0] ∧ true = true ∧ ((y.pc == pc) && (y.tag == tag)) = true) ∨ (rr = true ∧ RK = #[.int .u16 y.pc, .int .i64 y.tag] ∧ true = true ∧ ((y.pc == pc) && (y.tag == tag)) = false)) ∧ ((rr = false ∧ RK = #[.int .u16 0, .int .i64 0] ∧ y.pc = pc ∧ y.tag = tag) ∨ (rr = true ∧ RK = #[.int .u16 y.pc, .int .i64 y.tag] ∧ ¬ (y.pc = pc ∧ y.tag = tag))) := by
      by_cases e : y.pc = pc ∧ y.tag = tag
      · exact ⟨false, _, .inr (.inl ⟨rfl, rfl, rfl, by simp [e.1, e.2]⟩), .inl ⟨rfl, rfl, e⟩⟩
      · exact ⟨true, _, .inr (.inr ⟨rfl, rfl, rfl, by
          cases h : ((y.pc == pc) && (y.tag == tag)) with
          | false => rfl
          | true => simp at h; exact absurd h e⟩), .inr ⟨rfl, rfl, e⟩⟩
    obtain ⟨kn, hkn⟩ : ∃ kn : Nat, (kn : Int) = k + (pg1 y.f y.sz - pg0 y.f y.sz) := ⟨(k + (pg1 y.f y.sz - pg0 y.f y.sz)).toNat, by omega⟩
    have hA0 : ((A.set l.slot (i + 1)).set sl 0)[sl]? = some 0 := by
      rw [List.getElem?_set_self (by rw [List.length_set, ca.v.len]; exact hslN)]
    have hc1 : ∀ c, addP cnt (pg0 y.f y.sz) (pg1 y.f y.sz) (-1) c = cvr ((es.set i l).take p) c := fun c => by rw [cvr_take hy hp hl]; exact addP_congr hc0 _ _ _ _
    have hc2 : ∀ c, -1000000 ≤ addP cnt (pg0 y.f y.sz) (pg1 y.f y.sz) (-1) c ∧ addP cnt (pg0 y.f y.sz) (pg1 y.f y.sz) (-1) c ≤ 1000000 := fun c => by
      rw [hc1 c]
      have := cvr_near ((es.set i l).take p) c
      have h2 : ((es.set i l).take p).length ≤ 60000 := by simp; omega
      omega
    refine (putL_of base q ga kA m k N p fc sl (some ⟨fg, 0, none⟩) (.slice (some ⟨fg, 0, none⟩) (p + 1) fc) A ((A.set l.slot (i + 1)).set sl 0) es ((es.set i l).take p) cnt (addP cnt (pg0 y.f y.sz) (pg1 y.f y.sz) (-1)) pc tag s ni lo hi place y.pc y.tag oa on oc cells true rr RK kn w hR ca hN0 hN (by omega) p0 p1 hsl hA0 hF.1 hF.2 hNn.1 hNn.2 (by omega) hc2 hbw hl4 hLs hon (fun V hV _ => (drop_some base q ga kA m k N sl i p fg fc A es cnt y l V hV hu hy hl hN hp (by omega) hey.f0 hey.f1 hey.s0 hey.s1 (by omega) (fun x => by have := hc x; omega)).mono ?_)).mono ?_
    · rintro e w' ⟨rfl, ⟨k3, hk3, ca3⟩, fr⟩
      obtain rfl : k3 = kn := by omega
      exact ⟨rfl, ca3, fr⟩
    · rintro e w' ⟨rfl, ⟨fa', fc', k2, la, lc, hk2, ca2, hw2, hfo, hro⟩, fr⟩
      have hpm := take_perm hy hp hl
      have hslots := List.nodup_append.1 (show (((es.set i l).take p).map En.slot ++ [y.slot]).Nodup by
        have := (hpm.map En.slot).nodup_iff.2 ca.slots
        rw [List.map_append] at this
        exact this)
      refine ⟨_, _, _, _, rfl, ⟨rfl, rfl, rfl, rfl, rfl, rfl, rfl, rfl, rfl, rfl⟩, .inr ⟨y, (es.set i l).take p, hpm, hys, rfl, hR2⟩, ⟨fa', p + 1, fc', ⟨k2, _, _, ca2, by omega, fun c => ?_, fun e hm => ?_⟩, fun k hk => ?_⟩, fr⟩
      · rw [cvr_app]; exact addP_congr hc1 _ _ _ _
      · rcases List.mem_append.1 hm with h | h
        · have h2 : e ∈ es := hpm.mem_iff.1 (List.mem_append.2 (.inl h))
          obtain ⟨g1, cs, g2, g3⟩ := he e h2
          exact ⟨g1, cs, ⟨ca.orow fr g2.1, g2.2⟩, .inl ⟨⟨h2, fun e1 => hslots.2.2 e.slot (List.mem_map.2 ⟨e, h, rfl⟩) y.slot (by simp) (e1.trans hys.symm)⟩, g3⟩⟩
        · rw [List.mem_singleton.1 h]
          exact ⟨hxg la lc hfo, cells, ⟨orow_lower hro hbw, hone⟩, .inr ⟨rfl, rfl⟩⟩
      · exact cbl_put (n := p + 1) hw2 hro (fun e he => .inl (hpm.mem_iff.1 (List.mem_append.2 (.inl he)))) hk
theorem slotN (pc tag : Int) (N : Nat) (h : 1 ≤ N) : ∃ sl : Nat, slotV pc tag N = ((sl : Nat) : Int) ∧ sl < N := by
  unfold slotV
  rw [if_neg (by omega)]
  have h1 := Int.emod_nonneg (pc + 40503 * (tag % 65536)) (show ((N : Nat) : Int) ≠ 0 by omega)
  have h2 := Int.emod_lt_of_pos (pc + 40503 * (tag % 65536)) (show (0 : Int) < ((N : Nat) : Int) by omega)
  exact ⟨((pc + 40503 * (tag % 65536)) % ((N : Nat) : Int)).toNat, by omega, by omega⟩
set_option maxRecDepth 100000 in
set_option maxHeartbeats 4000000 in
theorem getX_hit (base q ga kA m N t n fc : Nat) (Φ : En → List Value → Prop) (fa : Option Addr) (es : List En) (x : En) (w : World) (H : Cx base q ga kA m N t Φ fa n fc es w) (hx : x ∈ es) (hN0 : 1 ≤ N) (hN : N ≤ 65536) (hn : n ≤ 65536) :
    Calls Try.prog 13 #[.pointer (some ⟨q, 0, none⟩), .agg #[.int .u16 x.pc, .int .i64 x.tag]] w fun e w' => ∃ a' c' cells, e = .returned (.tuple #[.agg #[.int .u16 x.pc, .int .i64 x.tag, .string x.s, .int .i64 x.ni, .slice a' x.on c', .int .i64 x.lo, .int .i64 x.hi], .bool true]) ∧ Φ x cells ∧ (∀ u ∈ cells, u.oneCell' = true) ∧ Cpd w w' x.oa x.on x.oc cells a' c' ∧ Below w.heap.size w w' := by
  obtain ⟨k, A, cnt, ca, hk, hc, he⟩ := H
  obtain ⟨hne, hf, ho⟩ := ca.row
  obtain ⟨hg, cells, hr, hΦ⟩ := he x hx
  obtain ⟨i, hi⟩ := List.mem_iff_getElem?.1 hx
  have hil := (List.getElem?_eq_some_iff.1 hi).1
  obtain ⟨fg, rfl⟩ : ∃ fg, fa = some ⟨fg, 0, none⟩ := by
    cases fa with
    | none => have := (orow_none hf).1; omega
    | some ad => obtain ⟨g, rfl⟩ := orow_where hf; exact ⟨g, rfl⟩
  refine (get_of q N x.slot (.bool true) x.pc x.tag x.pc x.tag x.s x.ni x.lo x.hi x.f x.sz x.oa x.on x.oc true cells w hN0 (fun v hb => csize_any q N _ _ v ((ca.on hb).b.cell 0)) (fun v _ => by rw [← hg.sl]; exact slot_any x.pc x.tag N v hg.p0 hg.p1 (by omega) (by omega)) (fun v hb => get_same base q ga kA m k N i n fg fc A es cnt x v (ca.on hb) hi hN hn) (Ls.of_row hr.1 hr.2) hg.on).mono ?_
  rintro e w' ⟨a', c', rfl, cp, hb⟩
  exact ⟨a', c', cells, rfl, hΦ, hr.2, cp, hb⟩
theorem getX_miss (base q ga kA m N t n fc : Nat) (Φ : En → List Value → Prop) (fa : Option Addr) (es : List En) (pc tag : Int) (w : World) (H : Cx base q ga kA m N t Φ fa n fc es w) (hx : ∀ e ∈ es, ¬ (e.pc = pc ∧ e.tag = tag)) (p0 : 0 ≤ pc) (p1 : pc ≤ 65535) (hN0 : 1 ≤ N) (hN : N ≤ 65536) (hn : n ≤ 65536) :
    Calls Try.prog 13 #[.pointer (some ⟨q, 0, none⟩), .agg #[.int .u16 pc, .int .i64 tag]] w fun e w' => e = .returned (.tuple #[.agg #[.int .u16 0, .int .i64 0, .string ⟨#[]⟩, .int .i64 0, .slice none 0 0, .int .i64 0, .int .i64 0], .bool false]) ∧ Below w.heap.size w w' := by
  obtain ⟨k, A, cnt, ca, hk, hc, he⟩ := H
  obtain ⟨sl, hsl, hslN⟩ := slotN pc tag N hN0
  obtain ⟨u, hu⟩ : ∃ u, A[sl]? = some u := ⟨_, List.getElem?_eq_getElem (by rw [ca.v.len]; exact hslN)⟩
  have hm : u = 0 ∨ ∃ x, es[u - 1]? = some x ∧ 1 ≤ u ∧ ((x.pc == pc) && (x.tag == tag)) = false := by
    rcases ca.v.a sl u hu with h | ⟨y, hy, hys, hu1⟩
    · exact .inl h
    · refine .inr ⟨y, hy, hu1, ?_⟩
      cases h : ((y.pc == pc) && (y.tag == tag)) with
      | false => rfl
      | true => simp at h; exact absurd h (hx y (List.mem_of_getElem? hy))
  refine (get_of q N sl (.bool true) pc tag 0 0 ⟨#[]⟩ 0 0 0 0 0 none 0 0 false [] w hN0 (fun v hb => csize_any q N _ _ v ((ca.on hb).b.cell 0)) (fun v _ => by rw [← hsl]; exact slot_any pc tag N v p0 p1 (by omega) (by omega)) (fun v hb => get_miss base q ga kA m k N n fc sl u fa A es cnt pc tag v (ca.on hb) hu hm hN hn) ⟨rfl, (fun u h => by cases h), .inl ⟨rfl, rfl, rfl⟩⟩ (by omega)).mono ?_
  rintro e w' ⟨a', c', rfl, cp, hb⟩
  rcases cp.1 with ⟨_, rfl, rfl⟩ | ⟨⟨ad, e⟩, _⟩
  · exact ⟨rfl, hb⟩
  · cases e
theorem lenX (base q ga kA m N t n fc : Nat) (Φ : En → List Value → Prop) (fa : Option Addr) (es : List En) (w : World) (H : Cx base q ga kA m N t Φ fa n fc es w) :
    Calls Try.prog 15 #[.pointer (some ⟨q, 0, none⟩)] w fun e w' => e = .returned (.int .i64 ((es.length : Nat) : Int)) ∧ w' = w := by
  obtain ⟨k, A, cnt, ca, -⟩ := H
  have := clen_any q n fa fc w (ca.b.cell 1)
  rw [ca.row.1] at this
  exact this
theorem Cx.length {base q ga kA m N t n fc : Nat} {Φ : En → List Value → Prop} {fa : Option Addr} {es : List En} {w : World} (H : Cx base q ga kA m N t Φ fa n fc es w) : n = es.length := by
  obtain ⟨k, A, cnt, ca, -⟩ := H
  exact ca.row.1
theorem Cx.eg {base q ga kA m N t n fc : Nat} {Φ : En → List Value → Prop} {fa : Option Addr} {es : List En} {w : World} (H : Cx base q ga kA m N t Φ fa n fc es w) : ∀ e ∈ es, Eg N e ∧ ∃ cells, Φ e cells := by
  obtain ⟨k, A, cnt, ca, -, -, h⟩ := H
  exact fun e he => ⟨(h e he).1, (h e he).2.imp fun _ h => h.2⟩
theorem Cx.apart {base q ga kA m N t n fc : Nat} {Φ : En → List Value → Prop} {fa : Option Addr} {es : List En} {w : World} (H : Cx base q ga kA m N t Φ fa n fc es w) {i j : Nat} {x y : En} (hi : es[i]? = some x) (hj : es[j]? = some y) (e : x.pc = y.pc) (e2 : x.tag = y.tag) : i = j := by
  obtain ⟨k, A, cnt, ca, hk, hc, he⟩ := H
  have hx := (he x (List.mem_of_getElem? hi)).1
  have hy := (he y (List.mem_of_getElem? hj)).1
  have h1 : x.slot = y.slot := by
    have := hx.sl
    rw [e, e2, hy.sl] at this
    omega
  have h2 := (ca.v.e i x hi).2
  have h3 := (ca.v.e j y hj).2
  rw [h1, h3] at h2
  have := Option.some.inj h2
  omega
theorem Cx.nodup {base q ga kA m N t n fc : Nat} {Φ : En → List Value → Prop} {fa : Option Addr} {es : List En} {w : World} (H : Cx base q ga kA m N t Φ fa n fc es w) : (es.map pr).Nodup := by
  refine List.pairwise_iff_getElem.2 fun i j hi hj hij e => ?_
  rw [List.length_map] at hi hj
  rw [List.getElem_map, List.getElem_map] at e
  have := H.apart (i := i) (j := j) (List.getElem?_eq_getElem hi) (List.getElem?_eq_getElem hj) (congrArg Prod.fst e) (congrArg Prod.snd e)
  omega
theorem keysX (base q ga kA m N t n fc : Nat) (Φ : En → List Value → Prop) (fa : Option Addr) (es : List En) (w : World) (H : Cx base q ga kA m N t Φ fa n fc es w) (hn : n ≤ 65536) :
    Calls Try.prog 16 #[.pointer (some ⟨q, 0, none⟩)] w fun e w' => ∃ v l', e = .returned v ∧ l'.Perm (es.map pr) ∧ Rise l' ∧ w'.ownsRow w.heap.size 24 2 v n (pk l') ∧ Below w.heap.size w w' := by
  have hd := H.nodup
  obtain ⟨k, A, cnt, ca, -⟩ := H
  exact keys_any base q ga kA m k N n fc fa A es cnt w ca hn hd
end Go.Proofs.Ytpnalcbpdejpjaa
