/-
  A cycle that only moves along its line; the ports' rasters; no condition.
-/
import Derived.Test.YtlnpcbofebppcabQBase
set_option linter.unusedSimpArgs false
set_option linter.unusedVariables false
namespace Go.Proofs.Ytlnpcbofebppcab
open Go.RowKit Classical
/-- What the next cycle is like where it only moves along its line. -/
def qt (d : Int) : Bool := (decide (1 ≤ d) && decide (d + 3 < 260)) || (decide (260 ≤ d) && decide (d + 3 < 340))
theorem Rs.d1_plain {r : Rs} (h1 : 1 ≤ r.dot) (h2 : r.dot < 339) : r.d1 = { r with dot := r.dot + 1 } := by
  have e1 : r.nl = r.line := by unfold Rs.nl; rw [if_neg (by omega), if_pos (by omega)]
  have e2 : r.nd = r.dot + 1 := by unfold Rs.nd; rw [if_neg (by omega), if_pos (by omega)]
  unfold Rs.d1
  rw [e1, e2, if_neg (by omega), if_neg (by omega), if_neg (by omega), if_neg (by omega)]
theorem Rs.clk_plain {r : Rs} (h : r.dot ≠ 260) : r.clk = false := by
  unfold Rs.clk
  rw [decide_eq_false h]
  simp
theorem Rs.quiet_dn {r : Rs} (h : qt r.dot = true) : r.dn 3 = { r with dot := r.dot + 3 } ∧ r.ck 3 = 0 := by
  have hq : (1 ≤ r.dot ∧ r.dot + 3 < 260) ∨ (260 ≤ r.dot ∧ r.dot + 3 < 340) := by
    unfold qt at h
    simpa only [Bool.or_eq_true, Bool.and_eq_true, decide_eq_true_eq] using h
  obtain ⟨line, dot, odd, vbl, nmi, draw, hold⟩ := r
  simp only at hq
  have s1 : (Rs.mk line dot odd vbl nmi draw hold).d1 = ⟨line, dot + 1, odd, vbl, nmi, draw, hold⟩ := Rs.d1_plain (show 1 ≤ dot by omega) (show dot < 339 by omega)
  have s2 : (Rs.mk line (dot + 1) odd vbl nmi draw hold).d1 = ⟨line, dot + 1 + 1, odd, vbl, nmi, draw, hold⟩ := Rs.d1_plain (show 1 ≤ dot + 1 by omega) (show dot + 1 < 339 by omega)
  have s3 : (Rs.mk line (dot + 1 + 1) odd vbl nmi draw hold).d1 = ⟨line, dot + 1 + 1 + 1, odd, vbl, nmi, draw, hold⟩ := Rs.d1_plain (show 1 ≤ dot + 1 + 1 by omega) (show dot + 1 + 1 < 339 by omega)
  have e3 : dot + 1 + 1 + 1 = dot + 3 := by omega
  have c1 : (Rs.mk line (dot + 1) odd vbl nmi draw hold).clk = false := Rs.clk_plain (show dot + 1 ≠ 260 by omega)
  have c2 : (Rs.mk line (dot + 1 + 1) odd vbl nmi draw hold).clk = false := Rs.clk_plain (show dot + 1 + 1 ≠ 260 by omega)
  have c3 : (Rs.mk line (dot + 1 + 1 + 1) odd vbl nmi draw hold).clk = false := Rs.clk_plain (show dot + 1 + 1 + 1 ≠ 260 by omega)
  refine ⟨?_, ?_⟩
  · show (((Rs.mk line dot odd vbl nmi draw hold).d1).d1).d1 = _
    rw [s1, s2, s3, e3]
  · show ((0 + (if ((Rs.mk line dot odd vbl nmi draw hold).d1).clk = true then 1 else 0)) + (if (((Rs.mk line dot odd vbl nmi draw hold).d1).d1).clk = true then 1 else 0)) + (if ((((Rs.mk line dot odd vbl nmi draw hold).d1).d1).d1).clk = true then 1 else 0) = (0 : Int)
    rw [s1, s2, s3, c1, c2, c3]
    rfl
def Rs.ctrl (r : Rs) (v : Int) : Rs := if r.valid = true then { r with nmi := decide (128 ≤ v) } else r
def dw (v : Int) : Bool := decide (v / 8 % 2 = 1) || decide (v / 16 % 2 = 1)
def Rs.mask (r : Rs) (v : Int) : Rs := if r.valid = true then { r with draw := dw v } else r
def Rs.stat (r : Rs) : Rs := if r.valid = true then { r with vbl := false, hold := r.hold || decide (r.line * 341 + r.dot = 82181) } else r
def Rs.statV (r : Rs) : Int := if r.valid = true then (if r.vbl = true then 128 else 0) else 0
def Rs.nmiL (r : Rs) : Bool := r.valid && (r.vbl && r.nmi)
/-- One dot, one cycle, n cycles of any raster. -/
def Rs.dotV (r : Rs) : Rs := if r.valid = true then r.d1 else r
def Rs.dotC (r : Rs) : Bool := r.valid && r.d1.clk
def Rs.adv (r : Rs) (n : Int) : Rs := if r.valid = true then r.dn (3 * n.toNat) else r
def Rs.advK (r : Rs) (n : Int) : Int := if r.valid = true then r.ck (3 * n.toNat) else 0
end Go.Proofs.Ytlnpcbofebppcab
