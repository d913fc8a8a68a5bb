/-
  Put, over the entries.
-/
import Derived.Test.YtpnalcbpdejpjaaXcTwo
set_option linter.unusedSimpArgs false
set_option linter.unusedVariables false
namespace Go.Proofs.Ytpnalcbpdejpjaa
open Go.RowKit Classical
/-- An entry with this Tag and no list, near the beginning. -/
structure Eok (N : Nat) (tag : Int) (e : En) : Prop where
  sl : slotV e.pc tag N = ((e.slot : Nat) : Int)
  tag : e.tag = tag
  p0 : 0 ≤ e.pc
  p1 : e.pc ≤ 65535
  oa : e.oa = none
  on : e.on = 0
  oc : e.oc = 0
  f0 : 0 ≤ e.f
  f1 : e.f ≤ 1000000
  s0 : 0 ≤ e.sz
  s1 : e.sz ≤ 2
theorem pg_near {f sz : Int} (f0 : 0 ≤ f) (s0 : 0 ≤ sz) (s1 : sz ≤ 2) : 0 ≤ pg1 f sz - pg0 f sz ∧ pg1 f sz - pg0 f sz ≤ 2 := by
  unfold pg0 pg1
  split <;> omega
theorem addP_near (cnt : Int → Int) (a b d t : Int) (hd : d = 1 ∨ d = -1) (h : ∀ p, -t ≤ cnt p ∧ cnt p ≤ t) (p : Int) : -(t + 1) ≤ addP cnt a b d p ∧ addP cnt a b d p ≤ t + 1 := by
  have := h p
  unfold addP
  split <;> omega
/-- A cache of such entries. -/
def Cm (base q ga kA m N : Nat) (tag : Int) (t : Nat) (fa : Option Addr) (n fc : Nat) (es : List En) (w : World) : Prop :=
  ∃ (k : Nat) (A : List Nat) (cnt : Int → Int), Ca base q ga kA m k N (.slice fa n fc) A es cnt w ∧ k ≤ 4 * t ∧ (∀ p, -(t : Int) ≤ cnt p ∧ cnt p ≤ (t : Int)) ∧ ∀ e ∈ es, Eok N tag e
/-- What Put does to the entries, and what it answers. -/
def PutRel (es : List En) (x : En) (es' : List En) (rr : Bool) (RK : Array Value) : Prop :=
  ((∀ e ∈ es, e.slot ≠ x.slot) ∧ rr = false ∧ RK = #[.int .u16 0, .int .i64 0] ∧ es' = es ++ [x]) ∨
  ∃ (i p : Nat) (y l : En), es[i]? = some y ∧ y.slot = x.slot ∧ es.length = p + 1 ∧ es[p]? = some l ∧ es' = (es.set i l).take p ++ [x] ∧ ((rr = false ∧ RK = #[.int .u16 0, .int .i64 0] ∧ y.pc = x.pc) ∨ (rr = true ∧ RK = #[.int .u16 y.pc, .int .i64 y.tag] ∧ y.pc ≠ x.pc))
set_option maxRecDepth 100000 in
set_option maxHeartbeats 4000000 in
theorem putM (base q ga kA m N t sl n fc : Nat) (tag : Int) (fa : Option Addr) (es : List En) (pc : Int) (s : ByteArray) (ni lo hi place : Int) (w : World) (H : Cm base q ga kA m N tag t fa n fc es w) (p0 : 0 ≤ pc) (p1 : pc ≤ 65535) (l0 : 0 ≤ place) (l1 : place ≤ 1000) (hs : s.size = 2) (hN0 : 1 ≤ N) (hN : N ≤ 65536) (hn : n ≤ 1000) (ht : t ≤ 10000) (hbw : base ≤ w.heap.size) (hsl : slotV pc tag N = ((sl : Nat) : Int)) (hslN : sl < N) :
    Calls Try.prog 12 #[.pointer (some ⟨q, 0, none⟩), .agg #[.int .u16 pc, .int .i64 tag, .string s, .int .i64 ni, .slice none 0 0, .int .i64 lo, .int .i64 hi], .int .i64 place] w fun e w' => ∃ es' rr RK, e = .returned (.tuple #[.agg RK, .bool rr]) ∧ PutRel es (⟨sl, pc, tag, s, ni, none, 0, 0, lo, hi, spF place, spN place (s.size : Nat)⟩ : En) es' rr RK ∧ (∃ fa' n' fc', Cm base q ga kA m N tag (t + 2) fa' n' fc' es' w' ∧ ((Value.slice fa' n' fc').ownBlock = (Value.slice fa n fc).ownBlock ∨ ∃ b, w.heap.size ≤ b ∧ (Value.slice fa' n' fc').ownBlock = some b)) ∧ Fr (CaS q ga m (.slice fa n fc)) w w' := by
  obtain ⟨k, A, cnt, ca, hk, hc, he⟩ := H
  obtain ⟨hne, hf, ho⟩ := ca.row
  have hfar : farB place = false := by unfold farB; simp; omega
  have eF : spF place = place := by unfold spF; rw [hfar]; rfl
  have eN : spN place (s.size : Nat) = 2 := by unfold spN; rw [hfar, hs]; rfl
  have hpg := pg_near (f := place) (sz := 2) l0 (by omega) (by omega)
  have hx : Eok N tag (⟨sl, pc, tag, s, ni, none, 0, 0, lo, hi, spF place, spN place (s.size : Nat)⟩ : En) := ⟨hsl, rfl, p0, p1, rfl, rfl, rfl, by show 0 ≤ spF place; omega, by show spF place ≤ 1000000; omega, by show 0 ≤ spN place (s.size : Nat); omega, by show spN place (s.size : Nat) ≤ 2; omega⟩
  have hfw : ∀ b, fa = some ⟨b, 0, none⟩ → b < w.heap.size := fun b e => by rw [e] at hf; exact (orow_base hf).2.1
  have hl4 : q < w.heap.size ∧ ga < w.heap.size ∧ m < w.heap.size ∧ ∀ b, fa = some ⟨b, 0, none⟩ → b < w.heap.size := ⟨ca.b.lt, (orow_base ca.a).2.1, ca.mr.lt, hfw⟩
  obtain ⟨u, hu⟩ : ∃ u, A[sl]? = some u := ⟨_, List.getElem?_eq_getElem (by rw [ca.v.len]; exact hslN)⟩
  rcases ca.v.a sl u hu with rfl | ⟨y, hy, hys, hu1⟩
  · refine (putC_of base q ga kA m k N n fc sl fa (.slice fa n fc) A A es es cnt cnt pc tag s ni lo hi place 0 0 false false #[.int .u16 0, .int .i64 0] k w (.inl ⟨rfl, rfl, rfl⟩) ca hN0 hN (by omega) p0 p1 hsl hu (by omega) (by omega) (by omega) (by omega) (by rw [eF, eN]; omega) (fun p => by have := hc p; omega) hbw hl4 (fun V hV _ => drop_none base q ga kA m k N sl n fc fa A es cnt V hV hu hN (by omega) (by omega) (fun p => by have := hc p; omega))).mono ?_
    rintro e w' ⟨rfl, ⟨fa', fc', k2, hk2, ca2, hw2⟩, fr⟩
    rw [eF, eN] at hk2
    refine ⟨_, _, _, rfl, .inl ⟨fun e hm => ?_, rfl, rfl, rfl⟩, ⟨fa', n + 1, fc', ⟨k2, _, _, ca2, by omega, fun p => ?_, fun e hm => ?_⟩, hw2⟩, fr⟩
    · obtain ⟨i, hi⟩ := List.mem_iff_getElem?.1 hm
      have := (ca.v.e i e hi).2
      intro e1
      rw [show e.slot = sl from e1, hu] at this
      cases this
    · have := addP_near cnt (pg0 (spF place) (spN place (s.size : Nat))) (pg1 (spF place) (spN place (s.size : Nat))) 1 t (.inl rfl) hc p
      omega
    · rcases List.mem_append.1 hm with h | h
      · exact he e h
      · rw [List.mem_singleton.1 h]; exact hx
  · obtain ⟨i, rfl⟩ : ∃ i, u = i + 1 := ⟨u - 1, by omega⟩
    rw [Nat.add_sub_cancel] at hy
    obtain ⟨p, hp⟩ : ∃ p, es.length = p + 1 := ⟨es.length - 1, by have := (List.getElem?_eq_some_iff.1 hy).1; omega⟩
    obtain ⟨l, hl⟩ : ∃ l, es[p]? = some l := ⟨_, List.getElem?_eq_getElem (by omega)⟩
    obtain rfl : n = p + 1 := by omega
    obtain ⟨fg, rfl⟩ : ∃ fg, fa = some ⟨fg, 0, none⟩ := by
      cases fa with
      | none => have := (orow_none hf).1; omega
      | some ad => obtain ⟨g, rfl⟩ := orow_where hf; exact ⟨g, rfl⟩
    have hey := he y (List.mem_of_getElem? hy)
    have hpy := pg_near hey.f0 hey.s0 hey.s1
    obtain ⟨rr, RK, hR, hR2⟩ : ∃ (rr : Bool) (RK : Array Value), ((rr = false ∧ RK = #[.int .u16 0, .int .i64 0] ∧ true = false) ∨ (rr = false ∧ RK = #[.int .u16 0, .int .i64 0] ∧ true = true ∧ ((y.pc == pc) && (y.tag == tag)) = true) ∨ (rr = true ∧ RK = #[.int .u16 y.pc, .int .i64 y.tag] ∧ true = true ∧ ((y.pc == pc) && (y.tag == tag)) = false)) ∧ ((rr = false ∧ RK = #[.int .u16 0, .int .i64 0] ∧ y.pc = pc) ∨ (rr = true ∧ RK = #[.int .u16 y.pc, .int .i64 y.tag] ∧ y.pc ≠ pc)) := by
      by_cases e : y.pc = pc
      · exact ⟨false, _, .inr (.inl ⟨rfl, rfl, rfl, by simp [e, hey.tag]⟩), .inl ⟨rfl, rfl, e⟩⟩
      · exact ⟨true, _, .inr (.inr ⟨rfl, rfl, rfl, by simp [e]⟩), .inr ⟨rfl, rfl, e⟩⟩
    obtain ⟨kn, hkn⟩ : ∃ kn : Nat, (kn : Int) = k + (pg1 y.f y.sz - pg0 y.f y.sz) := ⟨(k + (pg1 y.f y.sz - pg0 y.f y.sz)).toNat, by omega⟩
    have hA0 : ((A.set l.slot (i + 1)).set sl 0)[sl]? = some 0 := by
      rw [List.getElem?_set_self (by rw [List.length_set, ca.v.len]; exact hslN)]
    have hc1 := addP_near cnt (pg0 y.f y.sz) (pg1 y.f y.sz) (-1) t (.inr rfl) hc
    refine (putC_of base q ga kA m k N p fc sl (some ⟨fg, 0, none⟩) (.slice (some ⟨fg, 0, none⟩) (p + 1) fc) A ((A.set l.slot (i + 1)).set sl 0) es ((es.set i l).take p) cnt (addP cnt (pg0 y.f y.sz) (pg1 y.f y.sz) (-1)) pc tag s ni lo hi place y.pc y.tag true rr RK kn w hR ca hN0 hN (by omega) p0 p1 hsl hA0 (by omega) (by omega) (by omega) (by omega) (by rw [eF, eN]; omega) (fun x => by have := hc1 x; omega) hbw hl4 (fun V hV _ => (drop_some base q ga kA m k N sl i p fg fc A es cnt y l V hV hu hy hl hN hp (by omega) hey.f0 (by have := hey.f1; omega) hey.s0 (by have := hey.s1; omega) (by omega) (fun x => by have := hc x; omega)).mono ?_)).mono ?_
    · rintro e w' ⟨rfl, ⟨k3, hk3, ca3⟩, fr⟩
      obtain rfl : k3 = kn := by omega
      exact ⟨rfl, ca3, fr⟩
    · rintro e w' ⟨rfl, ⟨fa', fc', k2, hk2, ca2, hw2⟩, fr⟩
      rw [eF, eN] at hk2
      refine ⟨_, _, _, rfl, .inr ⟨i, p, y, l, hy, hys, hp, hl, rfl, hR2⟩, ⟨fa', p + 1, fc', ⟨k2, _, _, ca2, by omega, fun x => ?_, fun e hm => ?_⟩, hw2⟩, fr⟩
      · have := addP_near _ (pg0 (spF place) (spN place (s.size : Nat))) (pg1 (spF place) (spN place (s.size : Nat))) 1 (t + 1) (.inl rfl) hc1 x
        omega
      · rcases List.mem_append.1 hm with h | h
        · have h2 := List.mem_of_mem_take h
          rcases List.mem_or_eq_of_mem_set h2 with h3 | h3
          · exact he e h3
          · rw [h3]; exact he l (List.mem_of_getElem? hl)
        · rw [List.mem_singleton.1 h]; exact hx
end Go.Proofs.Ytpnalcbpdejpjaa
