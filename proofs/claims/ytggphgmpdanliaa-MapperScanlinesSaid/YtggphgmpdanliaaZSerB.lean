/-
  What the law MapperSerial wants, as plain facts.
-/
import Derived.Test.YtggphgmpdanliaaZSer
set_option linter.unusedSimpArgs false
set_option linter.unusedVariables false
namespace Go.Proofs.Ytggphgmpdanliaa
open Go.RowKit Classical
theorem G.cellG {w v : World} {l : List (Nat × Array Value × TypeId)} {n : Nat} {cs ds : Array Value} {t : TypeId} (h : G w ((n, cs, t) :: l) v) (hle : w.heap.size ≤ n) (hn : ∀ p ∈ l, p.1 ≠ n) (k : Nat) (x : Value) (e : cs.setIfInBounds k x = ds) : G w ((n, ds, t) :: l) (v.setCell ⟨n, k, none⟩ x) :=
  G.put h hn (e ▸ (h.blk n cs t (List.mem_cons_self ..)).set k x) (Below.setCell (p := ⟨n, k, none⟩) h.2 hle _) (fun b' cs' t' hb hB => hB.other hb k _)
/-- What the law wants of the register. -/
def wantR (b : Bd) (a n : Int) : Bd :=
  if a / 8192 % 4 = 0 then { b with ctrl := n }
  else if a / 8192 % 4 = 1 then { b with ctrl := bits .or .u8 b.ctrl 12, chrA := n }
  else if a / 8192 % 4 = 2 then { b with ctrl := bits .or .u8 b.ctrl 12, chrB := n }
  else { b with ctrl := bits .or .u8 b.ctrl 12, prgR := n }
theorem wantR_len (b : Bd) (a n : Int) : (wantR b a n).r = b.r := by
  unfold wantR
  (repeat' split) <;> rfl
theorem want_is {b : Bd} (o : b.Ok) (hk : b.kind = 1) (hl : b.last ≤ 16777215) {a n gap : Int} (ha : 32768 ≤ a) (n0 : 0 ≤ n) (n1 : n ≤ 31) (g0 : 2 ≤ gap) (g1 : gap ≤ 131072) :
    ldB b a n 33554432 gap 5 = { wantR b a n with shift := 16, last := 33554432 + 5 * gap, epoch := (ldB b a n 33554432 gap 5).epoch } := by
  have h := ser_five o hk hl ha n0 n1 g0 g1
  generalize ldB b a n 33554432 gap 5 = x at *
  have e : noE x = noE ({ wantR b a n with shift := 16, last := 33554432 + 5 * gap } : Bd) := by
    rw [h]
    unfold serR wantR
    (repeat' split) <;> rfl
  exact noE_back e
theorem lost_is {b : Bd} (o : b.Ok) (hk : b.kind = 1) (hl : b.last ≤ 16777215) {a n : Int} (ha : 32768 ≤ a) :
    (ldB b a n 33554432 1 5).shift = 16 ∧ (ldB b a n 33554432 1 5).prgR = b.prgR ∧ (ldB b a n 33554432 1 5).chrA = b.chrA ∧ (ldB b a n 33554432 1 5).chrB = b.chrB ∧ (ldB b a n 33554432 1 5).ctrl = bits .or .u8 b.ctrl 12 ∧ (ldB b a n 33554432 1 5).last = 33554437 := by
  have h := ser_lost o hk hl (n := n) ha
  generalize ldB b a n 33554432 1 5 = x at *
  exact ⟨(congrArg Bd.shift h :), (congrArg Bd.prgR h :), (congrArg Bd.chrA h :), (congrArg Bd.chrB h :), (congrArg Bd.ctrl h :), (congrArg Bd.last h :)⟩
theorem Sp.masked {s : Sp} (o : s.Ok) {c : Int} (c0 : 0 ≤ c) (c1 : c ≤ 16777215) : ({ s with k := 0, c := c } : Sp).Ok ∧ ({ s with c := c } : Sp).Ok :=
  ⟨⟨⟨by show (-9223372036854775808 : Int) ≤ 0; decide, by show (0 : Int) ≤ 9223372036854775807; decide⟩, o.a, o.v, o.u, ⟨by show -9223372036854775808 ≤ c; omega, by show c ≤ 9223372036854775807; omega⟩, o.n⟩, ⟨o.k, o.a, o.v, o.u, ⟨by show -9223372036854775808 ≤ c; omega, by show c ≤ 9223372036854775807; omega⟩, o.n⟩⟩
end Go.Proofs.Ytggphgmpdanliaa
