/-
  Helpers for the laws without the document's answer.
-/
import Derived.Test.YtggphgmpdanliaaZMade
import Derived.Test.YtggphgmpdanliaaZDone
set_option linter.unusedSimpArgs false
set_option linter.unusedVariables false
namespace Go.Proofs.Ytggphgmpdanliaa
open Go.RowKit Classical
theorem and255i (n : Int) : bits .and .i64 n 255 = n % 256 := by
  have h : (BitVec.ofInt 64 255).toNat = 2 ^ 8 - 1 := by decide
  have key : (BitVec.ofInt 64 n &&& BitVec.ofInt 64 255).toNat = (n % ((2 ^ 64 : Nat) : Int)).toNat % 2 ^ 8 := by
    rw [BitVec.toNat_and, BitVec.toNat_ofInt, h, Nat.and_two_pow_sub_one_eq_mod]
  show IntKind.i64.wrap ((BitVec.ofInt 64 n &&& BitVec.ofInt 64 255).toNat : Nat) = n % 256
  rw [key, IntKind.wrap_i64]
  omega
theorem and24i (n : Int) : bits .and .i64 n 16777215 = n % 16777216 := by
  have h : (BitVec.ofInt 64 16777215).toNat = 2 ^ 24 - 1 := by decide
  have key : (BitVec.ofInt 64 n &&& BitVec.ofInt 64 16777215).toNat = (n % ((2 ^ 64 : Nat) : Int)).toNat % 2 ^ 24 := by
    rw [BitVec.toNat_and, BitVec.toNat_ofInt, h, Nat.and_two_pow_sub_one_eq_mod]
  show IntKind.i64.wrap ((BitVec.ofInt 64 n &&& BitVec.ofInt 64 16777215).toNat : Nat) = n % 16777216
  rw [key, IntKind.wrap_i64]
  omega
theorem and16i (n : Int) : bits .and .i64 n 65535 = n % 65536 := by
  have h : (BitVec.ofInt 64 65535).toNat = 2 ^ 16 - 1 := by decide
  have key : (BitVec.ofInt 64 n &&& BitVec.ofInt 64 65535).toNat = (n % ((2 ^ 64 : Nat) : Int)).toNat % 2 ^ 16 := by
    rw [BitVec.toNat_and, BitVec.toNat_ofInt, h, Nat.and_two_pow_sub_one_eq_mod]
  show IntKind.i64.wrap ((BitVec.ofInt 64 n &&& BitVec.ofInt 64 65535).toNat : Nat) = n % 65536
  rw [key, IntKind.wrap_i64]
  omega
theorem and5i (n : Int) : bits .and .i64 n 31 = n % 32 := by
  have h : (BitVec.ofInt 64 31).toNat = 2 ^ 5 - 1 := by decide
  have key : (BitVec.ofInt 64 n &&& BitVec.ofInt 64 31).toNat = (n % ((2 ^ 64 : Nat) : Int)).toNat % 2 ^ 5 := by
    rw [BitVec.toNat_and, BitVec.toNat_ofInt, h, Nat.and_two_pow_sub_one_eq_mod]
  show IntKind.i64.wrap ((BitVec.ofInt 64 n &&& BitVec.ofInt 64 31).toNat : Nat) = n % 32
  rw [key, IntKind.wrap_i64]
  omega
theorem and61i (n : Int) : bits .and .i64 n 2305843009213693951 = n % 2305843009213693952 := by
  have h : (BitVec.ofInt 64 2305843009213693951).toNat = 2 ^ 61 - 1 := by decide
  have key : (BitVec.ofInt 64 n &&& BitVec.ofInt 64 2305843009213693951).toNat = (n % ((2 ^ 64 : Nat) : Int)).toNat % 2 ^ 61 := by
    rw [BitVec.toNat_and, BitVec.toNat_ofInt, h, Nat.and_two_pow_sub_one_eq_mod]
  show IntKind.i64.wrap ((BitVec.ofInt 64 n &&& BitVec.ofInt 64 2305843009213693951).toNat : Nat) = n % 2305843009213693952
  rw [key, IntKind.wrap_i64]
  omega
theorem and3i (n : Int) : bits .and .i64 n 7 = n % 8 := by
  have h : (BitVec.ofInt 64 7).toNat = 2 ^ 3 - 1 := by decide
  have key : (BitVec.ofInt 64 n &&& BitVec.ofInt 64 7).toNat = (n % ((2 ^ 64 : Nat) : Int)).toNat % 2 ^ 3 := by
    rw [BitVec.toNat_and, BitVec.toNat_ofInt, h, Nat.and_two_pow_sub_one_eq_mod]
  show IntKind.i64.wrap ((BitVec.ofInt 64 n &&& BitVec.ofInt 64 7).toNat : Nat) = n % 8
  rw [key, IntKind.wrap_i64]
  omega
theorem newD_car {mp sub : Int} (ram nv : Int) (vert four : Bool) {p c : Nat} (h : carB mp sub p c = true) : (newD mp sub ram nv vert four p c).Ok ∧ IsNew (newD mp sub ram nv vert four p c) mp sub ram nv vert four p c := by
  have e : newD mp sub ram nv vert four p c = newK mp sub ram nv vert four p c := if_pos h
  rw [e]
  exact ⟨newK_ok ram nv vert four h, newK_is ..⟩
theorem orHigh {a : Int} (h0 : 0 ≤ a) (h1 : a ≤ 65535) : 32768 ≤ bits .or .u16 a 32768 ∧ bits .or .u16 a 32768 ≤ 65535 := by
  rw [u16_or a 32768 h0 (by omega) (by decide) (by decide)]
  have h2 := Nat.or_lt_two_pow (n := 16) (x := a.toNat) (y := (32768 : Int).toNat) (by omega) (by decide)
  have h3 : (32768 : Int).toNat ≤ a.toNat ||| (32768 : Int).toNat := Nat.right_le_or
  have h4 : (32768 : Int).toNat = 32768 := rfl
  omega
theorem alikeB_refl (b : Bd) : alikeB b b = true := by simp [alikeB]
theorem alikeB_last (b : Bd) (x : Int) : alikeB b { b with last := x } = true := alikeB_refl b
theorem wrA_in {b : Bd} (o : b.Ok) {a c : Int} (v u : Int) (ha : 32768 ≤ a) (hc : 0 ≤ c) : wrA b a v u c = wrB b a v u c := if_pos ⟨o.val, ha, hc⟩
theorem wrB_0 {b : Bd} (hk : b.kind = 0) (a v u c : Int) : wrB b a v u c = b := by
  have e : wrK b a v u c = b := by simp [wrK, hk]
  unfold wrB
  rw [e, alikeB_refl, if_pos rfl]
theorem wrB_last {b : Bd} (hk : b.kind = 1) (a v u c : Int) : (wrB b a v u c).last = c := by
  have e : (wrK b a v u c).last = c := by
    simp only [wrK, hk, if_true, wr1, pushB]
    (repeat' split) <;> rfl
  unfold wrB
  split
  · exact e
  · exact e
theorem wrB_deaf {b : Bd} (hk : b.kind = 1) (a v u c : Int) (h : c - 1 = b.last) : wrB b a v u c = { b with last := c } := by
  have e : wrK b a v u c = { b with last := c } := by simp only [wrK, hk, if_true, wr1, h]
  unfold wrB
  rw [e, alikeB_last, if_pos rfl]
theorem wrB_latch {b : Bd} (hk : b.kind = 2 ∨ b.kind = 3 ∨ b.kind = 7) (a v u c : Int) : (wrB b a v u c).latch = if b.sub = 2 then bits .and .u8 v u else v := by
  have e : wrK b a v u c = wrL b v u := by unfold wrK; rw [if_neg (by omega), if_neg (by omega), if_neg (by omega)]
  unfold wrB
  rw [e]
  split <;> rfl
theorem G.step {w v : World} {l : List (Nat × Array Value × TypeId)} {n : Nat} {s : Sp} (h : G w ((n, s.cells, 34) :: l) v) (hle : w.heap.size ≤ n) (hn : ∀ p ∈ l, p.1 ≠ n) (A : Int) : G w ((n, ({ s with a := A } : Sp).cells, 34) :: l) (v.setCell ⟨n, 1, none⟩ (.int .u16 A)) :=
  G.put h hn ((h.blk n s.cells 34 (List.mem_cons_self ..)).set 1 (.int .u16 A)) (Below.setCell (p := ⟨n, 1, none⟩) h.2 hle _) (fun b' cs' t' hb hB => hB.other hb 1 _)
theorem G.cellB {w v : World} {l : List (Nat × Array Value × TypeId)} {n : Nat} {c d : Bd} (h : G w ((n, c.cells, 28) :: l) v) (hle : w.heap.size ≤ n) (hn : ∀ p ∈ l, p.1 ≠ n) (k : Nat) (x : Value) (e : c.cells.setIfInBounds k x = d.cells) : G w ((n, d.cells, 28) :: l) (v.setCell ⟨n, k, none⟩ x) :=
  G.put h hn (e ▸ (h.blk n c.cells 28 (List.mem_cons_self ..)).set k x) (Below.setCell (p := ⟨n, k, none⟩) h.2 hle _) (fun b' cs' t' hb hB => hB.other hb k _)
end Go.Proofs.Ytggphgmpdanliaa
