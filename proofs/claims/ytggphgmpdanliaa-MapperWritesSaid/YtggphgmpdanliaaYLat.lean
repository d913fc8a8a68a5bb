/-
  What the methods of the boards with one register answer; conditions: the cells that they read hold the board's numbers.
-/
import Derived.Test.YtggphgmpdanliaaYLeaf
import Derived.Test.YtggphgmpdanliaaYBits
import Derived.Test.YtggphgmpdanliaaMKindOf
import Derived.StillTailTactics
set_option linter.unusedSimpArgs false
set_option linter.unusedVariables false
namespace Go.Proofs.Ytggphgmpdanliaa
open Go.RowKit
theorem Sh.drew {w : World} {m : Nat} {b : Bd} (S : Sh w m b) : Sh w.drew m b := ⟨S.c0, S.c1, S.c2, S.c3, S.c4, S.c5, S.c6⟩
theorem Sh.drewN {w : World} {m : Nat} {b : Bd} (S : Sh w m b) (n : Nat) : Sh (w.drewN n) m b := ⟨S.c0, S.c1, S.c2, S.c3, S.c4, S.c5, S.c6⟩
set_option maxRecDepth 100000 in
theorem bank2_any (w : World) (m : Nat) (b : Bd) (x : Int) (S : Sh w m b) (c7 : w.cell? ⟨m, 7, none⟩ = some (.int .u8 b.latch)) (l0 : 0 ≤ b.latch) (l1 : b.latch ≤ 255) (p0 : 2 ≤ b.prg) (p1 : b.prg ≤ 128) (n0 : 0 ≤ x) (n1 : x ≤ 3) (hk : b.kind = 2) (hp : 0 ≤ b.prg - 4 + x ∨ x < 2) :
    Calls Try.prog 106 #[.pointer (some ⟨m, 0, none⟩), .int .i64 x] w fun e w' => e = .returned (.int .i64 (bankB b x)) ∧ ∃ n, w' = w.drewN n := by
  have E : bankB b x = (if x < 2 then 2 * b.latch + x else b.prg - 4 + x) % b.prg := by simp [bankB, bankN, hk]
  rw [E]
  by_cases h : x < 2
  · rw [if_pos h]
    have H : Hid _ := inPrg_any w.drew m b (2 * b.latch + x) S.drew p0 p1 (by omega) (by omega)
    have hx : decide (x < 2) = true := decide_eq_true h
    clear S p0 p1 hk hp E h
    go_enter Try.func106, Try.ntmps106
    go_upto_region 2 with fail
    go_still_tail 13, (by kernel_rfl)
    go_wp2_with fail
    refine Calls.mono H.out ?_
    rintro e W ⟨rfl, rfl⟩
    go_wp2
    go_ret
    exact ⟨rfl, 1, rfl⟩
  · rw [if_neg h]
    have H : Hid _ := inPrg_any w.drew m b (b.prg - 4 + x) S.drew p0 p1 (by omega) (by omega)
    have c4 := S.c4
    have hx : decide (x < 2) = false := decide_eq_false h
    clear S hk hp E h c7 l0 l1
    go_enter Try.func106, Try.ntmps106
    go_upto_region 3 with fail
    go_still_tail 13, (by kernel_rfl)
    go_wp2_with fail
    refine Calls.mono H.out ?_
    rintro e W ⟨rfl, rfl⟩
    go_wp2
    go_ret
    exact ⟨rfl, 1, rfl⟩
set_option maxRecDepth 100000 in
theorem chr3_any (w : World) (m : Nat) (b : Bd) (x : Int) (S : Sh w m b) (c7 : w.cell? ⟨m, 7, none⟩ = some (.int .u8 b.latch)) (l0 : 0 ≤ b.latch) (l1 : b.latch ≤ 255) (p0 : 8 ≤ b.chr) (p1 : b.chr ≤ 512) (n0 : 0 ≤ x) (n1 : x ≤ 7) (hk : b.kind = 3) :
    Calls Try.prog 108 #[.pointer (some ⟨m, 0, none⟩), .int .i64 x] w fun e w' => e = .returned (.int .i64 (chrB b x)) ∧ ∃ n, w' = w.drewN n := by
  have E : chrB b x = (8 * b.latch + x) % b.chr := by simp [chrB, chrN, hk]
  rw [E]
  have H : Hid _ := inChr_any w.drew m b (8 * b.latch + x) S.drew p0 p1 (by omega) (by omega)
  clear S p0 p1 hk E
  go_enter Try.func108, Try.ntmps108
  go_upto_region 1 with fail
  go_still_tail 13, (by kernel_rfl)
  go_wp2_with fail
  refine Calls.mono H.out ?_
  rintro e W ⟨rfl, rfl⟩
  go_wp2
  go_ret
  exact ⟨rfl, 1, rfl⟩
set_option maxRecDepth 100000 in
theorem bank7_any (w : World) (m : Nat) (b : Bd) (x : Int) (S : Sh w m b) (c7 : w.cell? ⟨m, 7, none⟩ = some (.int .u8 b.latch)) (l0 : 0 ≤ b.latch) (l1 : b.latch ≤ 255) (p0 : 2 ≤ b.prg) (p1 : b.prg ≤ 128) (n0 : 0 ≤ x) (n1 : x ≤ 3) (hk : b.kind = 7) :
    Calls Try.prog 121 #[.pointer (some ⟨m, 0, none⟩), .int .i64 x] w fun e w' => e = .returned (.int .i64 (bankB b x)) ∧ ∃ n, w' = w.drewN n := by
  have E : bankB b x = (4 * (b.latch % 16) + x) % b.prg := by simp [bankB, bankN, hk]
  rw [E]
  have e15 := and15 l0 l1
  have H : Hid _ := inPrg_any w.drew m b (4 * (b.latch % 16) + x) S.drew p0 p1 (by omega) (by omega)
  have y0 : 0 ≤ b.latch % 16 := by omega
  have y1 : b.latch % 16 ≤ 15 := by omega
  generalize b.latch % 16 = y at *
  clear S p0 p1 hk E
  go_enter Try.func121, Try.ntmps121
  go_upto_region 1 with fail
  go_still_tail 14, (by kernel_rfl)
  go_wp2_with fail
  refine Calls.mono H.out ?_
  rintro e W ⟨rfl, rfl⟩
  go_wp2
  go_ret
  exact ⟨rfl, 1, rfl⟩
set_option maxRecDepth 100000 in
theorem mirror7_any (w : World) (m : Nat) (b : Bd) (S : Sh w m b) (c7 : w.cell? ⟨m, 7, none⟩ = some (.int .u8 b.latch)) (l0 : 0 ≤ b.latch) (l1 : b.latch ≤ 255) (hk : b.kind = 7) :
    Calls Try.prog 122 #[.pointer (some ⟨m, 0, none⟩)] w fun e w' => e = .returned (.int .u8 (mirB b)) ∧ ∃ n, w' = w.drewN n := by
  have E : mirB b = wiredV b (if b.latch / 16 % 2 = 0 then 2 else 3) := by simp [mirB, hk, wiredV]
  rw [E]
  have e16 := bit16 l0 l1
  by_cases h : b.latch / 16 % 2 = 0
  · have H : Hid _ := wired_if w m b 2 S
    rw [if_pos h]
    rw [h] at e16
    clear S hk E h
    go_enter Try.func122, Try.ntmps122
    go_wp2_with fail
    refine Calls.mono H.out ?_
    rintro e W ⟨rfl, rfl⟩
    go_wp2
    go_ret
    exact ⟨rfl, 0, rfl⟩
  · have H : Hid _ := wired_if w m b 3 S
    rw [if_neg h]
    rw [show b.latch / 16 % 2 = 1 by omega] at e16
    clear S hk E h
    go_enter Try.func122, Try.ntmps122
    go_wp2_with fail
    refine Calls.mono H.out ?_
    rintro e W ⟨rfl, rfl⟩
    go_wp2
    go_ret
    exact ⟨rfl, 0, rfl⟩
/-- Only the block m has changed. -/
structure Only (m : Nat) (W w' : World) : Prop where
  below : Below m W w'
  other : ∀ p cs t, p ≠ m → Blk W p cs t → Blk w' p cs t
theorem Only.refl (m : Nat) (w : World) : Only m w w := ⟨Below.refl _ _, fun _ _ _ _ h => h⟩
theorem Only.one {w : World} {m : Nat} (i : Nat) (v : Value) {w' : World} (h : Only m w w') : Only m w (w'.setCell ⟨m, i, none⟩ v) := ⟨Below.setCell (p := ⟨m, i, none⟩) h.below (Nat.le_refl m) _, fun p cs t hp hb => (h.other p cs t hp hb).other hp i v⟩
theorem Only.drew {m : Nat} {w w' : World} (h : Only m w w') : Only m w w'.drew := ⟨h.below.drew, fun p cs t hp hb => (h.other p cs t hp hb).drew⟩
theorem Only.trans {m : Nat} {w w' w'' : World} (h : Only m w w') (h' : Only m w' w'') : Only m w w'' := ⟨h.below.trans h'.below, fun p cs t hp hb => h'.other p cs t hp (h.other p cs t hp hb)⟩
theorem writeL_any (w : World) (m : Nat) (b : Bd) (t : TypeId) (a v u c : Int) (hv : 0 ≤ v ∧ v ≤ 255) (hu : 0 ≤ u ∧ u ≤ 255) (K : Blk w m (kLc b) t) :
    Calls Try.prog 107 #[.pointer (some ⟨m, 0, none⟩), .int .u16 a, .int .u8 v, .int .u8 u, .int .i64 c] w fun e w' => e = .returned (.tuple #[]) ∧ Only m w w' ∧ Blk w' m (kLc (wrL b v u)) t := by
  have c0 : w.cell? ⟨m, 0, none⟩ = some (.int .i64 b.sub) := (K.cell 0).trans rfl
  have c7 : w.cell? ⟨m, 7, none⟩ = some (.int .u8 b.latch) := (K.cell 7).trans rfl
  have f7 := K.free 7
  by_cases h : b.sub = 2
  · have KH : Hid _ := K.set 7 (.int .u8 (bits .and .u8 v u))
    have E : wrL b v u = { b with latch := bits .and .u8 v u } := by simp [wrL, h]
    rw [E]
    rw [h] at c0
    clear K E h
    go_enter Try.func107, Try.ntmps107
    go_wp2
    go_end0
    exact ⟨rfl, Only.one 7 _ (Only.refl m w), KH.out⟩
  · have KH : Hid _ := K.set 7 (.int .u8 v)
    have E : wrL b v u = { b with latch := v } := by simp [wrL, h]
    have hb : (b.sub == 2) = false := by simpa using h
    rw [E]
    clear K E h
    go_enter Try.func107, Try.ntmps107
    go_wp2
    go_end0
    exact ⟨rfl, Only.one 7 _ (Only.refl m w), KH.out⟩
end Go.Proofs.Ytggphgmpdanliaa
