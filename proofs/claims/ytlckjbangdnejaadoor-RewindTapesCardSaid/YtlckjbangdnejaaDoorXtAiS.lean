/-
  Two tapes and two lists, apart.
-/
import Derived.Test.YtlckjbangdnejaaDoorXtDrain
import Derived.Test.YtlckjbangdnejaaDoorXtArgS
set_option linter.unusedSimpArgs false
set_option linter.unusedVariables false
namespace Go.Proofs.YtlckjbangdnejaaDoor
open Go.RowKit Classical
/-- Two tapes and their lists: what lies in memory. -/
structure Ai (w0 : World) (t A : Nat) (u B : Nat) (E : Nat → Option Addr) (C : Nat → Nat) (L : Nat → List Nat) (len : Nat) (FT FU : Nat → Prop) (vx vy : Value) (kx ky : List Nat) (W : World) : Prop where
  t1 : Tp FT t A ((kx.map L).reverse) W
  t2 : Tp FU u B ((ky.map L).reverse) W
  r1 : Rl W E C L vx kx
  r2 : Rl W E C L vy ky
  l1 : kx.length ≤ A + 1
  l2 : ky.length ≤ B + 1
  f1 : ∀ k, FT k → w0.heap.size ≤ k ∧ k < W.heap.size
  f2 : ∀ k, FU k → w0.heap.size ≤ k ∧ k < W.heap.size
  ap : ∀ k, FT k → ¬ FU k
  o1 : ∀ k, vx.ownBlock = some k → k < W.heap.size ∧ ¬ FT k ∧ ¬ FU k
  o2 : ∀ k, vy.ownBlock = some k → k < W.heap.size ∧ ¬ FT k ∧ ¬ FU k
  g1 : ∀ i ∈ kx, i < len ∧ (L i).length ≤ 4096
  g2 : ∀ i ∈ ky, i < len ∧ (L i).length ≤ 4096
  b : Below w0.heap.size w0 W
theorem Ai.swap {w0 : World} {t A u B : Nat} {E : Nat → Option Addr} {C : Nat → Nat} {L : Nat → List Nat} {len : Nat} {FT FU : Nat → Prop} {vx vy : Value} {kx ky : List Nat} {W : World} (h : Ai w0 t A u B E C L len FT FU vx vy kx ky W) : Ai w0 u B t A E C L len FU FT vy vx ky kx W :=
  ⟨h.t2, h.t1, h.r2, h.r1, h.l2, h.l1, h.f2, h.f1, fun k h2 h1 => h.ap k h1 h2, fun k hk => ⟨(h.o2 k hk).1, (h.o2 k hk).2.2, (h.o2 k hk).2.1⟩, fun k hk => ⟨(h.o1 k hk).1, (h.o1 k hk).2.2, (h.o1 k hk).2.1⟩, h.g2, h.g1, h.b⟩
theorem Ai.on {w0 : World} {t A u B : Nat} {E : Nat → Option Addr} {C : Nat → Nat} {L : Nat → List Nat} {len : Nat} {FT FU : Nat → Prop} {vx vy : Value} {kx ky : List Nat} {W W' : World} (h : Ai w0 t A u B E C L len FT FU vx vy kx ky W) (hb : Below W.heap.size W W') : Ai w0 t A u B E C L len FT FU vx vy kx ky W' :=
  ⟨h.t1.below (fun k hk => (h.f1 k hk).2) hb, h.t2.below (fun k hk => (h.f2 k hk).2) hb, h.r1.on fun k hk => hb.block k (h.o1 k hk).1, h.r2.on fun k hk => hb.block k (h.o2 k hk).1, h.l1, h.l2,
    fun k hk => ⟨(h.f1 k hk).1, Nat.lt_of_lt_of_le (h.f1 k hk).2 hb.size⟩, fun k hk => ⟨(h.f2 k hk).1, Nat.lt_of_lt_of_le (h.f2 k hk).2 hb.size⟩, h.ap, fun k hk => ⟨Nat.lt_of_lt_of_le (h.o1 k hk).1 hb.size, (h.o1 k hk).2⟩, fun k hk => ⟨Nat.lt_of_lt_of_le (h.o2 k hk).1 hb.size, (h.o2 k hk).2⟩, h.g1, h.g2, h.b.trans (hb.mono h.b.size)⟩
theorem Ai.step {w0 : World} {t A u B : Nat} {E : Nat → Option Addr} {C : Nat → Nat} {L : Nat → List Nat} {len : Nat} {FT FU : Nat → Prop} {vx vy : Value} {kx ky kz : List Nat} {W W' : World} {e : Ending} (h : Ai w0 t A u B E C L len FT FU vx vy kx ky W) (hs : TnOk FT t A E C L vx kz W e W') (hl : kz.length ≤ A + 1) (hg : ∀ i ∈ kz, i < len ∧ (L i).length ≤ 4096) :
    ∃ v' FT', e = .returned v' ∧ Ai w0 t A u B E C L len FT' FU v' vy kz ky W' := by
  obtain ⟨v', FQ, rfl, hR, hT, hK, hF, hv⟩ := hs
  have hsz := hK.size
  have hnew : ∀ k, k < W.heap.size → ¬ FT k → ¬ FQ k := fun k hk hn hq => by
    rcases (hF k hq).1 with h1 | h1
    · exact hn h1
    · omega
  refine ⟨v', FQ, rfl, hT, h.t2.on fun k hk => hK.block k (h.f2 k hk).2 fun h1 => h.ap k h1 hk, hR, h.r2.on fun k hk => hK.block k (h.o2 k hk).1 (h.o2 k hk).2.1, hl, h.l2, fun k hk => ?_, fun k hk => ⟨(h.f2 k hk).1, Nat.lt_of_lt_of_le (h.f2 k hk).2 hsz⟩, fun k hk hu => ?_, fun k hk => ?_, fun k hk => ?_, hg, h.g2, h.b.trans (hK.below h.b.size fun k hk => (h.f1 k hk).1)⟩
  · obtain ⟨h1, h2⟩ := hF k hk
    rcases h1 with h1 | h1
    · exact ⟨(h.f1 k h1).1, h2⟩
    · exact ⟨Nat.le_trans h.b.size h1, h2⟩
  · rcases (hF k hk).1 with h1 | h1
    · exact h.ap k h1 hu
    · have := (h.f2 k hu).2; omega
  · obtain ⟨h1, h2, h3⟩ := hv k hk
    refine ⟨h2, h3, fun hu => ?_⟩
    rcases h1 with h1 | h1
    · exact (h.o1 k h1).2.2 hu
    · have := (h.f2 k hu).2; omega
  · obtain ⟨h1, h2, h3⟩ := h.o2 k hk
    exact ⟨Nat.lt_of_lt_of_le h1 hsz, hnew k h1 h2, h3⟩
theorem Ai.begin (w0 w1 w2 : World) (t A u B : Nat) (E : Nat → Option Addr) (C : Nat → Nat) (L : Nat → List Nat) (len : Nat) (h1 : Tp (Fp w0 w1) t A [] w1) (b1 : Below w0.heap.size w0 w1) (h2 : Tp (Fp w1 w2) u B [] w2) (b2 : Below w1.heap.size w1 w2) :
    Ai w0 t A u B E C L len (Fp w0 w1) (Fp w1 w2) (.slice none 0 0) (.slice none 0 0) [] [] w2 :=
  ⟨h1.below (fun k hk => hk.2) b2, h2, Rl.nil _ _ _ _, Rl.nil _ _ _ _, by simp, by simp, fun k hk => ⟨hk.1, Nat.lt_of_lt_of_le hk.2 b2.size⟩, fun k hk => ⟨Nat.le_trans b1.size hk.1, hk.2⟩, fun k hk h => (by have := hk.2; have := h.1; omega), fun k hk => (by cases hk), fun k hk => (by cases hk), fun i hi => (by cases hi), fun i hi => (by cases hi), b1.trans (b2.mono b1.size)⟩
/-- What turn does on the first of the two. -/
theorem Ai.turn {w0 : World} {t A u B : Nat} {K N : Nat → Int} {E : Nat → Option Addr} {C : Nat → Nat} {L : Nat → List Nat} {len : Nat} {FT FU : Nat → Prop} {vx vy : Value} {kx ky : List Nat} {W : World} {a : Option Addr} {b o : Nat} (hA : A ≤ 20) (h : Ai w0 t A u B E C L len FT FU vx vy kx ky W) (HS : Sts w0 a len K N E C L b o) (tab : Tab w0) (j : Nat) (hj : j < len) (hy : (L j).length ≤ 4096) (y : Nat) (hyy : (L j).length = y) :
    Calls Tryd.prog 16 #[.pointer (some ⟨t, 0, none⟩), vx, .int .i64 (A + 1 : Nat), .agg #[.int .i64 (K j), .int .i64 (N j), .slice (E j) y (C j)]] W fun e W' => ∃ v' FT' kz, e = .returned v' ∧ Ai w0 t A u B E C L len FT' FU v' vy kz ky W' := by
  have hrow := (HS.rows j hj).1
  by_cases hz : (K j).tmod 3 = 0
  · refine (turn_take FT t A E C L vx kx (K j) (N j) (.slice (E j) y (C j)) W hz h.t1 h.r1 (fun k hk => (h.f1 k hk).2) (fun k hk => ⟨(h.o1 k hk).1, (h.o1 k hk).2.1⟩) rfl _ (by have := h.l1; omega)).mono ?_
    intro e W' hh
    obtain ⟨v', FT', he, hA⟩ := h.step hh (by have := h.l1; rw [List.length_dropLast]; omega) (fun i hi => h.g1 i (List.dropLast_subset _ hi))
    exact ⟨v', FT', _, he, hA⟩
  · have := turn_put FT t A E C L vx kx j (K j) (N j) W hz h.t1 h.r1 h.l1 hA (hrow.below h.b) ⟨(HS.rows j hj).2.1, by omega⟩ (fun p hp hne hf => by
      have h1 := hrow.lt p hp hne
      have h2 := (h.f1 _ hf).1
      omega) (tab.below tab.lt h.b) (fun k hk => (h.f1 k hk).2) (fun k hk => ⟨(h.o1 k hk).1, (h.o1 k hk).2.1⟩)
    rw [hyy] at this
    refine this.mono ?_
    intro e W' hh
    obtain ⟨v', FT', he, hA⟩ := h.step hh (stp_len _ _ _ _ h.l1) (fun i hi => by
      rcases stp_mem _ _ _ _ i hi with h1 | ⟨-, rfl⟩
      · exact h.g1 i h1
      · exact ⟨hj, hy⟩)
    exact ⟨v', FT', _, he, hA⟩
end Go.Proofs.YtlckjbangdnejaaDoor
