/-
  Marked.
-/
import Derived.Test.YtpnalcbpdejpjaaXcMarks
import Derived.Test.YtpnalcbpdejpjaaXcLeaf
import Derived.BigFrame
set_option linter.unusedSimpArgs false
set_option linter.unusedVariables false
namespace Go.Proofs.Ytpnalcbpdejpjaa
open Go.RowKit Classical
open Go.Maps
theorem wpList_lookupW {H : Type} {P : Program} (w : World) {ops : Array Oper} {rest : List Oper} {o : Oper} {a : Act} {Q : Exit → Act → World → Prop}
    (hg : Region.wanted o (yielded ops a.tmps) = true) (m x : Operand) (t : TypeId) (hop : o.op = Op.lookup t m x false)
    (k e : TypeId) (q : IntKind) (K : Keyed P k) (ht : P.underlying t = some (.map k e)) (he : P.underlying e = some (.int q)) (hz : (zeroValue e).run P w = .ok (.int q 0) w) (b n : Nat) (D : DataW H)
    (hm : a.eval m = .map (some b)) (hown : w.ownsMap P k (plainElem P e) b n D) (key : Value) (kl : Lit) (hx : a.eval x = key) (hkey : keyOf P k key = some kl)
    (hK : ∀ c : Int, D.atKey kl (.lit (.int q 0)) = .lit (.int q c) → (Lit.int q c).wf = true → wpList P ops Q rest (a.put o.dst (.int q c)) w) :
    wpList P ops Q (o :: rest) a w := by
  refine BigFrame.wpList_want hg fun K' hK' => ?_
  obtain ⟨c, hrun, hat, hwc⟩ := hown.lookup_int K ht he hz hkey
  unfold Oper.wp
  simp [execOp, hop, hm, hx, hrun, Result.andThen]
  exact hK' _ _ (hK c hat hwc)
set_option maxRecDepth 100000 in
set_option maxHeartbeats 4000000 in
theorem mark_any (q m k : Nat) (cnt : Int → Int) (p : Int) (w : World) (c2 : w.cell? ⟨q, 2, none⟩ = some (.map (some m))) (H : Mk w m k cnt) (p0 : -9223372036854775808 ≤ p) (p1 : p ≤ 9223372036854775807) :
    Calls Try.prog 20 #[.pointer (some ⟨q, 0, none⟩), .int .i64 p] w fun e w' => e = .returned (.bool (decide (0 < cnt p))) ∧ w' = w := by
  obtain ⟨D, hown, hD⟩ := H
  have hkl : keyOf Try.prog 3 (.int .i64 p) = some (.int .i64 p) := keyOf_int_mk Try.underlying3 (wf_of p0 p1)
  have HDp : Hid (D.atKey (.int .i64 p) (.lit (.int .i64 0)) = .lit (.int .i64 (cnt p))) := hD p
  clear hD
  generalize cnt p = c0 at *
  go_enter Try.func20, Try.ntmps20
  go_wp2_with (at_lookup; refine wpList_lookupW _ (by kernel_rfl) _ _ 86 rfl 3 3 .i64 lawI Try.underlying86 Try.underlying3 (zeroI _) m k _ rfl hown _ _ rfl hkl ?_; intro c hat hwc; obtain rfl := lit_inj (hat.symm.trans HDp.out); clear hat hwc)
  go_ret
  exact ⟨rfl, rfl⟩
end Go.Proofs.Ytpnalcbpdejpjaa
