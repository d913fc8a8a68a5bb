/-
  Facts that the laws of the timer lean on: what a cycle keeps.
-/
import Derived.Test.YtjacadiaafcckabDoorTLawF
set_option linter.unusedSimpArgs false
set_option linter.unusedVariables false
namespace Go.Proofs.YtjacadiaafcckabDoor
open Go.RowKit Classical
theorem St.more {w v v' : World} {l : List (Nat × Ck)} {z : Obj} {d : Ck} (h : St w l v) (h1 : Blk v' v.heap.size d.cells 25) (h2 : Below w.heap.size w v') (ho : ∀ b' cs' t', b' ≠ v.heap.size → Blk (v.alloc z) b' cs' t' → Blk v' b' cs' t') : St w ((v.heap.size, d) :: l) v' :=
  ⟨fun p hp => by
    rcases List.mem_cons.1 hp with rfl | hp
    · exact h1
    · exact ho _ _ _ (Nat.ne_of_lt (h.1 p hp).lt) ((h.1 p hp).old z), h2⟩
theorem Ck.tick_hold (c : Ck) : c.tick.hold = c.hold ∧ c.tick.latch = c.latch := by
  have h : c.tickT.hold = c.hold ∧ c.tickT.latch = c.latch := by
    unfold Ck.tickT
    split
    · exact ⟨rfl, rfl⟩
    split
    · exact ⟨rfl, rfl⟩
    split <;> exact ⟨rfl, rfl⟩
  unfold Ck.tick
  split
  · exact h
  · exact ⟨rfl, rfl⟩
theorem Ck.it_hold (c : Ck) : ∀ n, (c.it n).hold = c.hold
  | 0 => rfl
  | n + 1 => (Ck.tick_hold _).1.trans (Ck.it_hold c n)
theorem Ck.adv_hold {c : Ck} (o : c.Ok) (n : Int) : (c.adv n).hold = c.hold := by
  by_cases h : 0 < n
  · obtain ⟨k, rfl⟩ := Int.eq_ofNat_of_zero_le (Int.le_of_lt h)
    rw [Ck.adv_it o]; exact Ck.it_hold c k
  · rw [Ck.adv_none (by omega)]
end Go.Proofs.YtjacadiaafcckabDoor
