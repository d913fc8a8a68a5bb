/-
  What a read answers, as plain functions; conditions: the table of the dividers lies in its variable, the numbers fit their kinds.
-/
import Derived.Test.YtobiiogoofkmaaaDoorTValid
import Derived.Test.YtobiiogoofkmaaaDoorTAck
import Derived.Deep.RegionWith
set_option linter.unusedSimpArgs false
set_option linter.unusedVariables false
namespace Go.Proofs.YtobiiogoofkmaaaDoor
open Go.RowKit Classical
def fl (b : Bool) (k : Int) : Int := if b = true then k else 0
/-- What a read answers, the bits that it drives, the clock behind it. -/
def Ck.rV (c : Ck) (a : Int) : Int := if c.valid = false then 0 else if a = 16405 then fl c.flag 128 + fl c.frame 64 else if a = 16408 then c.count % 256 else if a = 16409 then c.hold else if a = 16410 then c.ctl + fl c.flag 128 else if a = 16411 then fl c.flag 128 + fl c.over 64 + c.beats else 0
def Ck.rM (c : Ck) (a : Int) : Int := if c.valid = false then 0 else if a = 16405 then 192 else if a = 16408 then 255 else if a = 16409 then 255 else if a = 16410 then 159 else if a = 16411 then 255 else 0
def Ck.rC (c : Ck) (a : Int) : Ck := if c.valid = false then c else if a = 16405 then { c with frame := false } else if a = 16408 then { c with hold := c.count / 256 } else if a = 16411 then c.ack else c
theorem bitsN_or (a b : Nat) (ha : a < 256) (hb : b < 256) : bits .or .u8 (a : Int) (b : Int) = ((a ||| b : Nat) : Int) := u8_or_nat a b ha hb
theorem nat_orb (k : Nat) (hk : k = 0 ∨ k = 64 ∨ k = 128 ∨ k = 192) : ∀ x : Nat, x < 64 → k ||| x = k + x := by rcases hk with rfl | rfl | rfl | rfl <;> decide +kernel
theorem orb (k : Nat) (x : Int) (hk : k = 0 ∨ k = 64 ∨ k = 128 ∨ k = 192) (h0 : 0 ≤ x) (h1 : x ≤ 63) : bits .or .u8 (k : Int) x = k + x := by
  obtain ⟨m, rfl⟩ := Int.eq_ofNat_of_zero_le h0
  have := bitsN_or k m (by omega) (by omega)
  rw [nat_orb k hk m (by omega)] at this
  exact this.trans (by omega)
theorem nat_orc (k : Nat) (hk : k = 0 ∨ k = 128) : ∀ x : Nat, x < 32 → x ||| k = x + k := by rcases hk with rfl | rfl <;> decide +kernel
theorem orc (k : Nat) (x : Int) (hk : k = 0 ∨ k = 128) (h0 : 0 ≤ x) (h1 : x ≤ 31) : bits .or .u8 x (k : Int) = x + k := by
  obtain ⟨m, rfl⟩ := Int.eq_ofNat_of_zero_le h0
  have := bitsN_or m k (by omega) (by omega)
  rw [nat_orc k hk m (by omega)] at this
  exact this.trans (by omega)
theorem below_set13 {B b : Nat} {a w : World} (hB : B ≤ b) (v0 v1 v2 v3 v4 v5 v6 v7 v8 v9 v10 v11 v12 : Value) (h : Below B a w) :
    Below B a (((((((((((((w.setCell ⟨b, 0, none⟩ v0).setCell ⟨b, 1, none⟩ v1).setCell ⟨b, 2, none⟩ v2).setCell ⟨b, 3, none⟩ v3).setCell ⟨b, 4, none⟩ v4).setCell ⟨b, 5, none⟩ v5).setCell ⟨b, 6, none⟩ v6).setCell ⟨b, 7, none⟩ v7).setCell ⟨b, 8, none⟩ v8).setCell ⟨b, 9, none⟩ v9).setCell ⟨b, 10, none⟩ v10).setCell ⟨b, 11, none⟩ v11).setCell ⟨b, 12, none⟩ v12) :=
  (((((((((((((h.setCell (p := ⟨b, 0, none⟩) hB _).setCell (p := ⟨b, 1, none⟩) hB _).setCell (p := ⟨b, 2, none⟩) hB _).setCell (p := ⟨b, 3, none⟩) hB _).setCell (p := ⟨b, 4, none⟩) hB _).setCell (p := ⟨b, 5, none⟩) hB _).setCell (p := ⟨b, 6, none⟩) hB _).setCell (p := ⟨b, 7, none⟩) hB _).setCell (p := ⟨b, 8, none⟩) hB _).setCell (p := ⟨b, 9, none⟩) hB _).setCell (p := ⟨b, 10, none⟩) hB _).setCell (p := ⟨b, 11, none⟩) hB _).setCell (p := ⟨b, 12, none⟩) hB _)
theorem below_a2 (w : World) (o1 o2 : Obj) : Below w.heap.size w ((w.alloc o1).alloc o2) := ((Below.refl _ _).alloc (Nat.le_refl _) _).alloc (by simp) _
theorem below_a3 (w : World) (o1 o2 o3 : Obj) : Below w.heap.size w (((w.alloc o1).alloc o2).alloc o3) := (below_a2 w o1 o2).alloc (by simp; omega) _
theorem below_a5 (w : World) (o1 o2 o3 o4 o5 : Obj) (n : Nat) : Below w.heap.size w ((((((w.alloc o1).alloc o2).alloc o3).drewN n).alloc o4).alloc o5) := ((below_draws (below_a3 w o1 o2 o3) n).alloc (by simp; omega) _).alloc (by simp; omega) _
theorem drewN_alloc (w : World) (o : Obj) (n : Nat) : (w.alloc o).drewN n = (w.drewN n).alloc o := by
  induction n with
  | zero => rfl
  | succ n ih => rfl
theorem drewN_size (w : World) (n : Nat) : w.heap.size = (w.drewN n).heap.size := rfl
theorem below_c3 {B : Nat} {a w : World} (h : Below B a w) (hB : B ≤ w.heap.size) (o1 o2 o3 : Obj) : Below B a (((w.alloc o1).alloc o2).alloc o3) := ((h.alloc hB _).alloc (by simp; omega) _).alloc (by simp; omega) _
theorem below_c5 {B : Nat} {a w : World} (h : Below B a w) (hB : B ≤ w.heap.size) (o1 o2 o3 o4 o5 : Obj) : Below B a (((((w.alloc o1).alloc o2).alloc o3).alloc o4).alloc o5) := ((below_c3 h hB o1 o2 o3).alloc (by simp; omega) _).alloc (by simp; omega) _
end Go.Proofs.YtobiiogoofkmaaaDoor
