/-
  The two caches of CacheOne, step by step.
-/
import Derived.Test.YtpnalcbpdejpjaaXcNewM
set_option linter.unusedSimpArgs false
set_option linter.unusedVariables false
namespace Go.Proofs.Ytpnalcbpdejpjaa
open Go.RowKit Classical
theorem Cm.low {base q ga kA m N t n fc : Nat} {tag : Int} {fa : Option Addr} {es : List En} {w : World} (H : Cm base q ga kA m N tag t fa n fc es w) (k : Nat) (h : CaS q ga m (.slice fa n fc) k) : base ≤ k := by
  obtain ⟨k', A, cnt, ca, -⟩ := H
  obtain ⟨-, hf, ho⟩ := ca.row
  rcases h with rfl | rfl | rfl | h
  · exact ca.hq
  · exact (orow_base ca.a).1
  · exact ca.hm
  · have e := ho _ h
    rw [e] at hf
    exact (orow_base hf).1
/-- Blocks of other types stay when a cache is put into. -/
theorem Cm.blk {base q ga kA m N t n fc b : Nat} {tag : Int} {fa : Option Addr} {es : List En} {w v : World} {cs : Array Value} {T : TypeId} (H : Cm base q ga kA m N tag t fa n fc es w) (g : Fr (CaS q ga m (.slice fa n fc)) w v) (z : Blk w b cs T) (h1 : 88 ≠ T) (h2 : 3 ≠ T) (h3 : 113 ≠ T) : Blk v b cs T := by
  obtain ⟨k', A, cnt, ca, -⟩ := H
  obtain ⟨-, hf, ho⟩ := ca.row
  refine g.blk z ?_
  rintro (rfl | rfl | rfl | e)
  · have h := ca.b
    unfold Blk at h z
    rw [z] at h
    simp at h
    exact h1 h.2.symm
  · exact orow_blk ca.a z h2 rfl
  · exact ca.mr.apart z rfl
  · exact orow_type hf z h3 e
theorem Cm.length {base q ga kA m N t n fc : Nat} {tag : Int} {fa : Option Addr} {es : List En} {w : World} (H : Cm base q ga kA m N tag t fa n fc es w) : n = es.length := by
  obtain ⟨k', A, cnt, ca, -⟩ := H
  exact ca.row.1
theorem Cm.ok {base q ga kA m N t n fc : Nat} {tag : Int} {fa : Option Addr} {es : List En} {w : World} (H : Cm base q ga kA m N tag t fa n fc es w) : ∀ e ∈ es, Eok N tag e := by
  obtain ⟨k', A, cnt, ca, -, -, h⟩ := H
  exact h
theorem Cm.grow {base q ga kA m N t n fc q' ga' m' n' fc' n2 fc2 : Nat} {tag : Int} {fa fa' fa2 : Option Addr} {es es' : List En} {w : World} {base' kA' N' t' : Nat} {tag' : Int} (H : Cm base q ga kA m N tag t fa n fc es w) (H' : Cm base' q' ga' kA' m' N' tag' t' fa' n' fc' es' w) (ap : Ap q ga m fa q' ga' m' fa')
    (hg : (Value.slice fa2 n2 fc2).ownBlock = (Value.slice fa' n' fc').ownBlock ∨ ∃ b, w.heap.size ≤ b ∧ (Value.slice fa2 n2 fc2).ownBlock = some b) : Ap q ga m fa q' ga' m' fa2 := by
  obtain ⟨k', A, cnt, ca, -⟩ := H
  obtain ⟨k'', A', cnt', ca', -⟩ := H'
  exact Ap.grow ca ap ca'.row.2.2 hg
/-- The one slot: the last block that was put. -/
def Las (pcs : List Int) (p : Nat) (es : List En) : Prop := (p = 0 ∧ es = []) ∨ ∃ p' x, p = p' + 1 ∧ es = [x] ∧ x.pc = pcs.getD p' 0 ∧ x.ni = ((p' : Nat) : Int)
/-- Both caches, when p1 blocks were put into the one and p2 into the other. -/
structure Oi (B1 q1 g1 k1 m1 B2 q2 g2 k2 m2 : Nat) (tag : Int) (w : World) (pcs : List Int) (p1 p2 : Nat) (v : World) : Prop where
  x : ∃ fa1 n1 fc1 es1 fa2 n2 fc2 es2, Cm B1 q1 g1 k1 m1 1 tag (2 * p1) fa1 n1 fc1 es1 v ∧ Cm B2 q2 g2 k2 m2 65536 tag (2 * p2) fa2 n2 fc2 es2 v ∧ Ap q1 g1 m1 fa1 q2 g2 m2 fa2 ∧ Las pcs p1 es1 ∧ es2.length ≤ p2 ∧ ∀ j, j < p2 → ∃ e ∈ es2, e.pc = pcs.getD j 0
  b : Below w.heap.size w v
  s1 : w.heap.size ≤ B1
  s2 : w.heap.size ≤ B2
  z1 : B1 ≤ v.heap.size
  z2 : B2 ≤ v.heap.size
theorem Oi.on {B1 q1 g1 k1 m1 B2 q2 g2 k2 m2 p1 p2 : Nat} {tag : Int} {pcs : List Int} {w v v' : World} (h : Oi B1 q1 g1 k1 m1 B2 q2 g2 k2 m2 tag w pcs p1 p2 v) (hb : Below v.heap.size v v') : Oi B1 q1 g1 k1 m1 B2 q2 g2 k2 m2 tag w pcs p1 p2 v' := by
  obtain ⟨⟨fa1, n1, fc1, es1, fa2, n2, fc2, es2, h1, h2, h3⟩, b, s1, s2, z1, z2⟩ := h
  have := hb.size
  exact ⟨⟨fa1, n1, fc1, es1, fa2, n2, fc2, es2, h1.on hb, h2.on hb, h3⟩, b.trans (hb.mono b.size), s1, s2, by omega, by omega⟩
/-- Boxes of keys and blocks stay. -/
def Kp (v v' : World) : Prop := (∀ b cs, Blk v b cs 24 → Blk v' b cs 24) ∧ ∀ b cs, Blk v b cs 34 → Blk v' b cs 34
theorem Cm.kp {base q ga kA m N t n fc : Nat} {tag : Int} {fa : Option Addr} {es : List En} {w v : World} (H : Cm base q ga kA m N tag t fa n fc es w) (g : Fr (CaS q ga m (.slice fa n fc)) w v) : Kp w v := ⟨fun _ _ z => H.blk g z (by decide) (by decide) (by decide), fun _ _ z => H.blk g z (by decide) (by decide) (by decide)⟩
theorem slot1 (pc tag : Int) : slotV pc tag ((1 : Nat) : Int) = ((0 : Nat) : Int) := by
  unfold slotV
  rw [if_neg (by omega)]
  omega
theorem slot2 (pc tag : Int) : ∃ sl : Nat, slotV pc tag ((65536 : Nat) : Int) = (sl : Int) ∧ sl < 65536 := by
  unfold slotV
  rw [if_neg (by omega)]
  exact ⟨((pc + 40503 * (tag % 65536)) % ((65536 : Nat) : Int)).toNat, by omega, by omega⟩
theorem slot_inj {a b tag : Int} (a0 : 0 ≤ a) (a1 : a ≤ 65535) (b0 : 0 ≤ b) (b1 : b ≤ 65535) (h : slotV a tag ((65536 : Nat) : Int) = slotV b tag ((65536 : Nat) : Int)) : a = b := by
  unfold slotV at h
  rw [if_neg (by omega), if_neg (by omega)] at h
  omega
set_option maxRecDepth 100000 in
set_option maxHeartbeats 4000000 in
theorem one_put (B1 q1 g1 k1 m1 B2 q2 g2 k2 m2 : Nat) (tag : Int) (pcs : List Int) (w : World) (p : Nat) (v : World) (H : Oi B1 q1 g1 k1 m1 B2 q2 g2 k2 m2 tag w pcs p p v) (hp : p < 100) (hr : ∀ j, 0 ≤ pcs.getD j 0 ∧ pcs.getD j 0 ≤ 65535) :
    Calls Try.prog 12 #[.pointer (some ⟨q1, 0, none⟩), .agg #[.int .u16 (pcs.getD p 0), .int .i64 tag, .string ⟨#[120, 121]⟩, .int .i64 ((p : Nat) : Int), .slice none 0 0, .int .i64 0, .int .i64 0], .int .i64 (10 * ((p : Nat) : Int))] v fun e v' => ∃ a b rr, e = .returned (.tuple #[.agg #[.int .u16 a, .int .i64 b], .bool rr]) ∧ ((p = 0 ∧ rr = false) ∨ ∃ p', p = p' + 1 ∧ ((pcs.getD p 0 = pcs.getD p' 0 ∧ rr = false) ∨ (pcs.getD p 0 ≠ pcs.getD p' 0 ∧ rr = true ∧ a = pcs.getD p' 0 ∧ b = tag))) ∧ Oi B1 q1 g1 k1 m1 B2 q2 g2 k2 m2 tag w pcs (p + 1) p v' ∧ Kp v v' := by
  obtain ⟨⟨fa1, n1, fc1, es1, fa2, n2, fc2, es2, h1, h2, ap, hL, hx⟩, hb, s1, s2, z1, z2⟩ := H
  have hn1 : n1 ≤ 1 := by
    rw [h1.length]
    rcases hL with ⟨_, rfl⟩ | ⟨_, _, _, rfl, _⟩ <;> simp
  refine (putM B1 q1 g1 k1 m1 1 (2 * p) 0 n1 fc1 tag fa1 es1 (pcs.getD p 0) ⟨#[120, 121]⟩ p 0 0 (10 * ((p : Nat) : Int)) v h1 (hr p).1 (hr p).2 (by omega) (by omega) rfl (by omega) (by omega) (by omega) (by omega) z1 (slot1 _ _) (by omega)).mono ?_
  rintro e v' ⟨es', rr, RK, rfl, hR, ⟨fa', n', fc', h1', hg⟩, fr⟩
  have hbl : Below v.heap.size v v' ∨ True := .inr trivial
  have hsz := fr.size
  have ho : Oi B1 q1 g1 k1 m1 B2 q2 g2 k2 m2 tag w pcs (p + 1) p v' ∨ Las pcs (p + 1) es' → Las pcs (p + 1) es' → Oi B1 q1 g1 k1 m1 B2 q2 g2 k2 m2 tag w pcs (p + 1) p v' := fun _ hl => ⟨⟨fa', n', fc', es', fa2, n2, fc2, es2, by rw [show 2 * (p + 1) = 2 * p + 2 by omega]; exact h1', h2.other h1 ap.symm fr, (h2.grow h1 ap.symm hg).symm, hl, hx⟩, hb.trans (fr.below (fun k hk => by have := h1.low k hk; omega) hb.size), s1, s2, by omega, by omega⟩
  have hkp := h1.kp fr
  have hok := h1.ok
  rcases hR with ⟨hne, rfl, rfl, rfl⟩ | ⟨i, j, y, l, hi, hs, hj, hl, rfl, hR⟩
  · rcases hL with ⟨rfl, rfl⟩ | ⟨p', x, rfl, rfl, hxp, _⟩
    · refine ⟨0, 0, false, rfl, .inl ⟨rfl, rfl⟩, ho (.inr ?_) ?_, hkp⟩ <;> exact .inr ⟨0, _, rfl, rfl, rfl, rfl⟩
    · exfalso
      have h3 := hne x (by simp)
      have h4 := (hok x (by simp)).sl
      rw [slot1] at h4
      exact h3 (by show x.slot = 0; omega)
  · rcases hL with ⟨rfl, rfl⟩ | ⟨p', x, rfl, rfl, hxp, _⟩
    · simp at hi
    · obtain rfl : j = 0 := by simp at hj; omega
      obtain rfl : i = 0 := by
        have := (List.getElem?_eq_some_iff.1 hi).1
        simp at this; omega
      simp at hi
      subst hi
      have hty := (hok x (by simp)).tag
      rcases hR with ⟨rfl, rfl, e⟩ | ⟨rfl, rfl, e⟩
      · refine ⟨0, 0, false, rfl, .inr ⟨p', rfl, .inl ⟨e.symm.trans hxp, rfl⟩⟩, ho (.inr ?_) ?_, hkp⟩ <;> exact .inr ⟨p' + 1, _, rfl, rfl, rfl, rfl⟩
      · refine ⟨x.pc, x.tag, true, rfl, .inr ⟨p', rfl, .inr ⟨fun e2 => e (hxp.trans e2.symm), rfl, hxp, hty⟩⟩, ho (.inr ?_) ?_, hkp⟩ <;> exact .inr ⟨p' + 1, _, rfl, rfl, rfl, rfl⟩
set_option maxRecDepth 100000 in
set_option maxHeartbeats 4000000 in
theorem one_get (B1 q1 g1 k1 m1 B2 q2 g2 k2 m2 : Nat) (tag : Int) (pcs : List Int) (w : World) (p : Nat) (v : World) (H : Oi B1 q1 g1 k1 m1 B2 q2 g2 k2 m2 tag w pcs (p + 1) p v) :
    Calls Try.prog 13 #[.pointer (some ⟨q1, 0, none⟩), .agg #[.int .u16 (pcs.getD p 0), .int .i64 tag]] v fun e v' => ∃ s lo hi, e = .returned (.tuple #[.agg #[.int .u16 (pcs.getD p 0), .int .i64 tag, .string s, .int .i64 ((p : Nat) : Int), .slice none 0 0, .int .i64 lo, .int .i64 hi], .bool true]) ∧ Below v.heap.size v v' := by
  obtain ⟨⟨fa1, n1, fc1, es1, fa2, n2, fc2, es2, h1, h2, ap, hL, hx⟩, hb, s1, s2, z1, z2⟩ := H
  rcases hL with ⟨e, _⟩ | ⟨p', x, e, rfl, hxp, hxn⟩
  · omega
  · obtain rfl : p' = p := by omega
    have hn1 : n1 ≤ 1 := by rw [h1.length]; simp
    have h9 := getM B1 q1 g1 k1 m1 1 _ n1 fc1 tag fa1 [x] x v h1 (by simp) (by omega) (by omega) (by omega)
    rw [hxp, hxn] at h9
    refine h9.mono ?_
    rintro e v' ⟨rfl, hb'⟩
    exact ⟨_, _, _, rfl, hb'⟩
set_option maxRecDepth 100000 in
set_option maxHeartbeats 4000000 in
theorem one_len (B1 q1 g1 k1 m1 B2 q2 g2 k2 m2 : Nat) (tag : Int) (pcs : List Int) (w : World) (p : Nat) (v : World) (H : Oi B1 q1 g1 k1 m1 B2 q2 g2 k2 m2 tag w pcs (p + 1) p v) :
    Calls Try.prog 15 #[.pointer (some ⟨q1, 0, none⟩)] v fun e v' => e = .returned (.int .i64 1) ∧ v' = v := by
  obtain ⟨⟨fa1, n1, fc1, es1, fa2, n2, fc2, es2, h1, h2, ap, hL, hx⟩, hb, s1, s2, z1, z2⟩ := H
  rcases hL with ⟨e, _⟩ | ⟨p', x, e, rfl, hxp, hxn⟩
  · omega
  · exact lenM B1 q1 g1 k1 m1 1 _ n1 fc1 tag fa1 [x] v h1
set_option maxRecDepth 100000 in
set_option maxHeartbeats 4000000 in
theorem all_put (B1 q1 g1 k1 m1 B2 q2 g2 k2 m2 : Nat) (tag : Int) (pcs : List Int) (w : World) (p : Nat) (v : World) (H : Oi B1 q1 g1 k1 m1 B2 q2 g2 k2 m2 tag w pcs (p + 1) p v) (hp : p < 100) (hr : ∀ j, 0 ≤ pcs.getD j 0 ∧ pcs.getD j 0 ≤ 65535) :
    Calls Try.prog 12 #[.pointer (some ⟨q2, 0, none⟩), .agg #[.int .u16 (pcs.getD p 0), .int .i64 tag, .string ⟨#[120, 121]⟩, .int .i64 ((p : Nat) : Int), .slice none 0 0, .int .i64 0, .int .i64 0], .int .i64 (10 * ((p : Nat) : Int))] v fun e v' => ∃ a b, e = .returned (.tuple #[.agg #[.int .u16 a, .int .i64 b], .bool false]) ∧ Oi B1 q1 g1 k1 m1 B2 q2 g2 k2 m2 tag w pcs (p + 1) (p + 1) v' ∧ Kp v v' := by
  obtain ⟨⟨fa1, n1, fc1, es1, fa2, n2, fc2, es2, h1, h2, ap, hL, hx, hall⟩, hb, s1, s2, z1, z2⟩ := H
  have hn2 := h2.length
  obtain ⟨sl, hsl, hsl2⟩ := slot2 (pcs.getD p 0) tag
  refine (putM B2 q2 g2 k2 m2 65536 (2 * p) sl n2 fc2 tag fa2 es2 (pcs.getD p 0) ⟨#[120, 121]⟩ p 0 0 (10 * ((p : Nat) : Int)) v h2 (hr p).1 (hr p).2 (by omega) (by omega) rfl (by omega) (by omega) (by omega) (by omega) z2 hsl hsl2).mono ?_
  rintro e v' ⟨es', rr, RK, rfl, hR, ⟨fa', n', fc', h2', hg⟩, fr⟩
  have hsz := fr.size
  have hok := h2.ok
  have hcase : (rr = false ∧ RK = #[.int .u16 0, .int .i64 0]) ∧ es'.length ≤ p + 1 ∧ (∃ e ∈ es', e.pc = pcs.getD p 0) ∧ ∀ e ∈ es2, ∃ e' ∈ es', e'.pc = e.pc := by
    rcases hR with ⟨hne, rfl, rfl, rfl⟩ | ⟨i, j, y, l, hi, hs, hj, hl, rfl, hR⟩
    · refine ⟨⟨rfl, rfl⟩, by simp; omega, ⟨_, by simp; exact .inr rfl, rfl⟩, fun e he => ⟨e, by simp [he], rfl⟩⟩
    · have hy := hok y (List.mem_of_getElem? hi)
      have hyp : y.pc = pcs.getD p 0 := slot_inj hy.p0 hy.p1 (hr p).1 (hr p).2 (hy.sl.trans (by rw [hs]; exact hsl.symm))
      refine ⟨?_, ?_, ⟨_, by simp; exact .inr rfl, rfl⟩, ?_⟩
      · rcases hR with ⟨rfl, rfl, _⟩ | ⟨_, _, e⟩
        · exact ⟨rfl, rfl⟩
        · exact absurd hyp e
      · simp; omega
      · intro e he
        obtain ⟨k, hk⟩ := List.mem_iff_getElem?.1 he
        have hkl := (List.getElem?_eq_some_iff.1 hk).1
        have hil := (List.getElem?_eq_some_iff.1 hi).1
        by_cases hki : k = i
        · subst hki
          rw [hi] at hk
          cases hk
          exact ⟨_, List.mem_append.2 (.inr (List.mem_singleton.2 rfl)), hyp.symm⟩
        · by_cases hkj : k = j
          · subst hkj
            rw [hl] at hk
            cases hk
            refine ⟨l, List.mem_append.2 (.inl ?_), rfl⟩
            refine List.mem_iff_getElem?.2 ⟨i, ?_⟩
            rw [List.getElem?_take_of_lt (by omega), List.getElem?_set_self hil]
          · refine ⟨e, List.mem_append.2 (.inl ?_), rfl⟩
            refine List.mem_iff_getElem?.2 ⟨k, ?_⟩
            rw [List.getElem?_take_of_lt (by omega), List.getElem?_set_ne (fun h => hki h.symm)]
            exact hk
  obtain ⟨⟨rfl, rfl⟩, hlen, ⟨e0, he0, hp0⟩, hold⟩ := hcase
  refine ⟨0, 0, rfl, ⟨⟨fa1, n1, fc1, es1, fa', n', fc', es', h1.other h2 ap fr, by rw [show 2 * (p + 1) = 2 * p + 2 by omega]; exact h2', h1.grow h2 ap hg, hL, hlen, fun j hj => ?_⟩, hb.trans (fr.below (fun k hk => by have := h2.low k hk; omega) hb.size), s1, s2, by omega, by omega⟩, h2.kp fr⟩
  by_cases e : j = p
  · subst e
    exact ⟨e0, he0, hp0⟩
  · obtain ⟨e1, he1, hp1⟩ := hall j (by omega)
    obtain ⟨e2, he2, hp2⟩ := hold e1 he1
    exact ⟨e2, he2, hp2.trans hp1⟩
set_option maxRecDepth 100000 in
set_option maxHeartbeats 4000000 in
theorem all_get (B1 q1 g1 k1 m1 B2 q2 g2 k2 m2 : Nat) (tag : Int) (pcs : List Int) (w : World) (p j : Nat) (v : World) (H : Oi B1 q1 g1 k1 m1 B2 q2 g2 k2 m2 tag w pcs p p v) (hp : p ≤ 100) (hj : j < p) :
    Calls Try.prog 13 #[.pointer (some ⟨q2, 0, none⟩), .agg #[.int .u16 (pcs.getD j 0), .int .i64 tag]] v fun e v' => ∃ s ni lo hi, e = .returned (.tuple #[.agg #[.int .u16 (pcs.getD j 0), .int .i64 tag, .string s, .int .i64 ni, .slice none 0 0, .int .i64 lo, .int .i64 hi], .bool true]) ∧ Below v.heap.size v v' := by
  obtain ⟨⟨fa1, n1, fc1, es1, fa2, n2, fc2, es2, h1, h2, ap, hL, hx, hall⟩, hb, s1, s2, z1, z2⟩ := H
  obtain ⟨e, he, hpc⟩ := hall j hj
  have hn2 := h2.length
  rw [← hpc]
  refine (getM B2 q2 g2 k2 m2 65536 _ n2 fc2 tag fa2 es2 e v h2 he (by omega) (by omega) (by omega)).mono ?_
  rintro e' v' ⟨rfl, hb'⟩
  exact ⟨_, _, _, _, rfl, hb'⟩
end Go.Proofs.Ytpnalcbpdejpjaa
