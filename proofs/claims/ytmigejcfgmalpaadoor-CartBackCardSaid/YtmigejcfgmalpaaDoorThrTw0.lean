/-
  What twin and Convert answer of a cartridge that can be told in the other format; conditions: its lists lie in memory, the tables in their variables.
-/
import Derived.Test.YtmigejcfgmalpaaDoorThrSpec
import Derived.Test.YtmigejcfgmalpaaDoorThrTwin
import Derived.Test.YtmigejcfgmalpaaDoorCnvCode
set_option linter.unusedSimpArgs false
set_option linter.unusedVariables false
namespace Go.Proofs.YtmigejcfgmalpaaDoor
open Go.RowKit Classical
theorem Th.bounds {d : CF} (h : Th d) : (-9223372036854775808 ≤ d.pr ∧ d.pr ≤ 9223372036854775807) ∧ (-9223372036854775808 ≤ d.pn ∧ d.pn ≤ 9223372036854775807) := by
  obtain ⟨k, hk, -, hr, hn⟩ := h.work
  have hp : ∀ k : Nat, k ≤ 7 → (1 : Int) ≤ 2 ^ k ∧ (2 : Int) ^ k ≤ 128 := by decide
  have := hp k hk
  rw [hr, hn]
  cases d.bat <;> simp <;> omega
/-- What the law knows of a cartridge. -/
structure Ct (W : World) (cs : Array Value) (d : CF) (T P Q R : List Nat) : Prop where
  x : Cl W cs d T P Q R
  bt : Bytes T
  bp : Bytes P
  bq : Bytes Q
  br : Bytes R
theorem Ct.below {W W' : World} {cs : Array Value} {d : CF} {T P Q R : List Nat} (h : Ct W cs d T P Q R) (hb : Below W.heap.size W W') : Ct W' cs d T P Q R := ⟨h.x.below hb, h.bt, h.bp, h.bq, h.br⟩
theorem twin_ct (cs : Array Value) (d : CF) (T P Q R : List Nat) (w : World) (X : Ct w cs d T P Q R) :
    Calls Tryd.prog 14 #[.agg cs] w fun e w' => ∃ xs, e = .returned (.agg xs) ∧ Cl w' xs d T P Q R ∧ Below w.heap.size w w' := by
  obtain ⟨a1, k1, e1, r1⟩ := X.x.rt
  obtain ⟨a2, k2, e2, r2⟩ := X.x.rp
  obtain ⟨a3, k3, e3, r3⟩ := X.x.rq
  obtain ⟨a4, k4, e4, r4⟩ := X.x.rr
  have C : CartAt w cs T P Q R a1 a2 a3 a4 d.nt d.np d.nq d.nr k1 k2 k3 k4 := ⟨X.x.c.size, X.x.c.one, X.x.lt, X.x.lp, X.x.lq, X.x.lr, X.bt, X.bp, X.bq, X.br, X.x.c.mt, X.x.c.mp, X.x.c.mq, X.x.c.mr, e1, e2, e3, e4, r1, r2, r3, r4⟩
  refine (twin_any cs T P Q R a1 a2 a3 a4 d.nt d.np d.nq d.nr k1 k2 k3 k4 w C).mono ?_
  rintro e w' ⟨gt, gp, gq, gr, rfl, -, -, -, -, ot, op, oq, or, hb⟩
  exact ⟨_, rfl, cl_lists X.x.c X.x.lt X.x.lp X.x.lq X.x.lr _ _ _ _ _ _ _ _ ot.row op.row oq.row or.row, hb⟩
theorem convert_good (cs : Array Value) (c : CF) (f : Int) (T P Q R : List Nat) (w : World) (X : Cl w cs c T P Q R) (hpr : -9223372036854775808 ≤ c.pr ∧ c.pr ≤ 9223372036854775807) (hpn : -9223372036854775808 ≤ c.pn ∧ c.pn ≤ 9223372036854775807) (B : Bnd w) (Tt : Tz w) (hk : cvK c f = 3) :
    Calls Tryd.prog 7 #[.agg cs, .int .i64 f] w fun e w' => ∃ xs, e = .returned (.tuple #[.agg xs, .int .i64 0, .int .i64 0]) ∧ Cl w' xs (cvD c f) T P Q R ∧ Below w.heap.size w w' := by
  refine (convert_any cs c f T P Q R w X hpr hpn B Tt).mono ?_
  rintro e w' ⟨xs, rfl, XL, hb⟩
  refine ⟨xs, by unfold cvE cvN; rw [hk]; rfl, ?_, hb⟩
  unfold cvC cvT at XL
  rwa [if_pos hk, if_pos hk, if_pos hk, if_pos hk, if_pos hk] at XL
end Go.Proofs.YtmigejcfgmalpaaDoor
