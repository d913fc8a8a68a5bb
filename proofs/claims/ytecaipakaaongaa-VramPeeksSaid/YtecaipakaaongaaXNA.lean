/-
  What the methods that all boards share answer; conditions: the cells that they read hold the board's numbers.
  Bits of bytes as quotients and remainders.
  What the methods of the boards with one register answer; conditions: the cells that they read hold the board's numbers.
-/
import Derived.Test.YtecaipakaaongaaYDef
import Derived.Test.YtecaipakaaongaaMK
import Derived.StillTailTactics
set_option linter.unusedSimpArgs false
set_option linter.unusedVariables false
namespace Go.Proofs.Ytecaipakaaongaa
open Go.RowKit Classical
theorem mod_in (n m : Int) (h0 : 0 ≤ n) (hm : 0 < m) : n.tmod m = n % m ∧ 0 ≤ n % m ∧ n % m < m := ⟨Int.tmod_eq_emod_of_nonneg h0, Int.emod_nonneg _ (by omega), Int.emod_lt_of_pos _ hm⟩
theorem inChr_any (w : World) (m : Nat) (b : Bd) (n : Int) (S : Sh w m b) (p0 : 8 ≤ b.chr) (p1 : b.chr ≤ 512) (n0 : 0 ≤ n) (n1 : n ≤ 9223372036854775807) :
    Calls Try.prog 87 #[.pointer (some ⟨m, 0, none⟩), .int .i64 n] w fun e w' => e = .returned (.int .i64 (n % b.chr)) ∧ w' = w := by
  obtain ⟨-, -, -, -, -, c5, -⟩ := S
  obtain ⟨e, q0, q1⟩ := mod_in n b.chr n0 (by omega)
  have hz : ¬ b.chr = 0 := by omega
  generalize b.chr = p at *
  generalize hr : n % p = r at *
  have HR : Hid _ := hr
  clear hr
  have q2 : r ≤ 512 := by omega
  clear p0 p1 q1 n0 n1
  go_enter Try.func87, Try.ntmps87
  go_wp2
  go_ret
  exact ⟨rfl, rfl⟩
/-- A mirroring that the board chooses. -/
def wiredV (b : Bd) (x : Int) : Int := if b.hard = 4 then 4 else x
theorem wired_if (w : World) (m : Nat) (b : Bd) (x : Int) (S : Sh w m b) :
    Calls Try.prog 88 #[.pointer (some ⟨m, 0, none⟩), .int .u8 x] w fun e w' => e = .returned (.int .u8 (wiredV b x)) ∧ w' = w := by
  obtain ⟨-, c1, -, -, -, -, -⟩ := S
  unfold wiredV
  by_cases h : b.hard = 4
  · rw [if_pos h]
    rw [h] at c1
    clear h
    go_enter Try.func88, Try.ntmps88
    go_wp2
    go_ret
    exact ⟨rfl, rfl⟩
  · rw [if_neg h]
    have hb : (b.hard == 4) = false := by simpa using h
    clear h
    go_enter Try.func88, Try.ntmps88
    go_wp2
    go_ret
    exact ⟨rfl, rfl⟩
theorem mirror0_any (w : World) (m : Nat) (b : Bd) (S : Sh w m b) :
    Calls Try.prog 91 #[.pointer (some ⟨m, 0, none⟩)] w fun e w' => e = .returned (.int .u8 b.hard) ∧ w' = w := by
  obtain ⟨-, c1, -, -, -, -, -⟩ := S
  go_enter Try.func91, Try.ntmps91
  go_wp2
  go_ret
  exact ⟨rfl, rfl⟩
theorem chrBank0_any (w : World) (m : Nat) (b : Bd) (x : Int) (S : Sh w m b) (p0 : 8 ≤ b.chr) (p1 : b.chr ≤ 512) (n0 : 0 ≤ x) (n1 : x ≤ 7) :
    Calls Try.prog 90 #[.pointer (some ⟨m, 0, none⟩), .int .i64 x] w fun e w' => e = .returned (.int .i64 (x % b.chr)) ∧ w' = w := by
  have H : Hid _ := inChr_any w m b x S p0 p1 n0 (by omega)
  clear S p0 p1 n0 n1
  go_enter Try.func90, Try.ntmps90
  go_wp2_with fail
  refine Calls.mono H.out ?_
  rintro e W ⟨rfl, rfl⟩
  go_wp2
  go_ret
  exact ⟨rfl, rfl⟩
end Go.Proofs.Ytecaipakaaongaa
namespace Go.Proofs.Ytecaipakaaongaa
open Go.RowKit Classical
theorem byteN {x : Int} (h0 : 0 ≤ x) (h1 : x ≤ 255) : ∃ k : Nat, k < 256 ∧ x = k := ⟨x.toNat, by omega, by omega⟩
theorem and15N : ∀ k : Nat, k < 256 → bits .and .u8 (k : Int) 15 = (k : Int) % 16 := by decide +kernel
theorem and15 {x : Int} (h0 : 0 ≤ x) (h1 : x ≤ 255) : bits .and .u8 x 15 = x % 16 := by
  obtain ⟨k, hk, rfl⟩ := byteN h0 h1; exact and15N k hk
theorem and3N : ∀ k : Nat, k < 256 → bits .and .u8 (k : Int) 3 = (k : Int) % 4 := by decide +kernel
theorem and3 {x : Int} (h0 : 0 ≤ x) (h1 : x ≤ 255) : bits .and .u8 x 3 = x % 4 := by
  obtain ⟨k, hk, rfl⟩ := byteN h0 h1; exact and3N k hk
theorem and3w : ∀ k : Nat, k < 8 → bits .and .u16 (k : Int) 3 = (k : Int) % 4 := by decide +kernel
theorem and1N : ∀ k : Nat, k < 256 → bits .and .u8 (k : Int) 1 = (k : Int) % 2 := by decide +kernel
theorem and1 {x : Int} (h0 : 0 ≤ x) (h1 : x ≤ 255) : bits .and .u8 x 1 = x % 2 := by
  obtain ⟨k, hk, rfl⟩ := byteN h0 h1; exact and1N k hk
theorem and7N : ∀ k : Nat, k < 256 → bits .and .u8 (k : Int) 7 = (k : Int) % 8 := by decide +kernel
theorem and7 {x : Int} (h0 : 0 ≤ x) (h1 : x ≤ 255) : bits .and .u8 x 7 = x % 8 := by
  obtain ⟨k, hk, rfl⟩ := byteN h0 h1; exact and7N k hk
theorem and254N : ∀ k : Nat, k < 256 → bits .and .u8 (k : Int) 254 = (k : Int) - (k : Int) % 2 := by decide +kernel
theorem and254 {x : Int} (h0 : 0 ≤ x) (h1 : x ≤ 255) : bits .and .u8 x 254 = x - x % 2 := by
  obtain ⟨k, hk, rfl⟩ := byteN h0 h1; exact and254N k hk
theorem even8N : ∀ k : Nat, k < 256 → bits .andNot .u8 (k : Int) 1 = (k : Int) - (k : Int) % 2 := by decide +kernel
theorem even8 {x : Int} (h0 : 0 ≤ x) (h1 : x ≤ 255) : bits .andNot .u8 x 1 = x - x % 2 := by
  obtain ⟨k, hk, rfl⟩ := byteN h0 h1; exact even8N k hk
theorem even64N : ∀ k : Nat, k < 256 → bits .andNot .i64 (k : Int) 1 = (k : Int) - (k : Int) % 2 := by decide +kernel
theorem even64 {x : Int} (h0 : 0 ≤ x) (h1 : x ≤ 255) : bits .andNot .i64 x 1 = x - x % 2 := by
  obtain ⟨k, hk, rfl⟩ := byteN h0 h1; exact even64N k hk
theorem bit16N : ∀ k : Nat, k < 256 → bits .and .u8 (k : Int) 16 = (k : Int) / 16 % 2 * 16 := by decide +kernel
theorem bit16 {x : Int} (h0 : 0 ≤ x) (h1 : x ≤ 255) : bits .and .u8 x 16 = x / 16 % 2 * 16 := by
  obtain ⟨k, hk, rfl⟩ := byteN h0 h1; exact bit16N k hk
theorem bit64N : ∀ k : Nat, k < 256 → bits .and .u8 (k : Int) 64 = (k : Int) / 64 % 2 * 64 := by decide +kernel
theorem bit64 {x : Int} (h0 : 0 ≤ x) (h1 : x ≤ 255) : bits .and .u8 x 64 = x / 64 % 2 * 64 := by
  obtain ⟨k, hk, rfl⟩ := byteN h0 h1; exact bit64N k hk
theorem bit128N : ∀ k : Nat, k < 256 → bits .and .u8 (k : Int) 128 = (k : Int) / 128 % 2 * 128 := by decide +kernel
theorem bit128 {x : Int} (h0 : 0 ≤ x) (h1 : x ≤ 255) : bits .and .u8 x 128 = x / 128 % 2 * 128 := by
  obtain ⟨k, hk, rfl⟩ := byteN h0 h1; exact bit128N k hk
theorem orPushN : ∀ k : Nat, k < 16 → ∀ v : Nat, v < 2 → bits .or .u8 (k : Int) ((v : Int) * 16) = (k : Int) + (v : Int) * 16 := by decide +kernel
theorem orPush {x y : Int} (h0 : 0 ≤ x) (h1 : x < 16) (v0 : 0 ≤ y) (v1 : y < 2) : bits .or .u8 x (y * 16) = x + y * 16 := by
  have := orPushN x.toNat (by omega) y.toNat (by omega)
  rwa [show ((x.toNat : Nat) : Int) = x by omega, show ((y.toNat : Nat) : Int) = y by omega] at this
theorem or12N : ∀ k : Nat, k < 256 → 0 ≤ bits .or .u8 (k : Int) 12 ∧ bits .or .u8 (k : Int) 12 ≤ 255 ∧ (k < 32 → bits .or .u8 (k : Int) 12 ≤ 31) := by decide +kernel
theorem or12 {x : Int} (h0 : 0 ≤ x) (h1 : x ≤ 255) : 0 ≤ bits .or .u8 x 12 ∧ bits .or .u8 x 12 ≤ 255 ∧ (x ≤ 31 → bits .or .u8 x 12 ≤ 31) := by
  obtain ⟨k, hk, rfl⟩ := byteN h0 h1
  obtain ⟨a, b, c⟩ := or12N k hk
  exact ⟨a, b, fun h => c (by omega)⟩
theorem and199N : ∀ k : Nat, k < 256 → 0 ≤ bits .and .u8 (k : Int) 199 ∧ bits .and .u8 (k : Int) 199 ≤ 255 ∧ bits .andNot .u8 (bits .and .u8 (k : Int) 199) 199 = 0 := by decide +kernel
theorem and199 {x : Int} (h0 : 0 ≤ x) (h1 : x ≤ 255) : 0 ≤ bits .and .u8 x 199 ∧ bits .and .u8 x 199 ≤ 255 ∧ bits .andNot .u8 (bits .and .u8 x 199) 199 = 0 := by
  obtain ⟨k, hk, rfl⟩ := byteN h0 h1; exact and199N k hk
theorem and192N : ∀ k : Nat, k < 256 → 0 ≤ bits .and .u8 (k : Int) 192 ∧ bits .and .u8 (k : Int) 192 ≤ 255 ∧ bits .andNot .u8 (bits .and .u8 (k : Int) 192) 192 = 0 := by decide +kernel
theorem and192 {x : Int} (h0 : 0 ≤ x) (h1 : x ≤ 255) : 0 ≤ bits .and .u8 x 192 ∧ bits .and .u8 x 192 ≤ 255 ∧ bits .andNot .u8 (bits .and .u8 x 192) 192 = 0 := by
  obtain ⟨k, hk, rfl⟩ := byteN h0 h1; exact and192N k hk
theorem guardN : ∀ k : Nat, k < 256 → bits .andNot .u8 (k : Int) 192 = 0 → (k = 0 ∨ k = 64 ∨ k = 128 ∨ k = 192) := by decide +kernel
theorem guard4 {x : Int} (h0 : 0 ≤ x) (h1 : x ≤ 255) (h : bits .andNot .u8 x 192 = 0) : x = 0 ∨ x = 64 ∨ x = 128 ∨ x = 192 := by
  obtain ⟨k, hk, rfl⟩ := byteN h0 h1
  have := guardN k hk h
  omega
end Go.Proofs.Ytecaipakaaongaa
namespace Go.Proofs.Ytecaipakaaongaa
open Go.RowKit Classical
theorem Sh.drew {w : World} {m : Nat} {b : Bd} (S : Sh w m b) : Sh w.drew m b := ⟨S.c0, S.c1, S.c2, S.c3, S.c4, S.c5, S.c6⟩
theorem Sh.drewN {w : World} {m : Nat} {b : Bd} (S : Sh w m b) (n : Nat) : Sh (w.drewN n) m b := ⟨S.c0, S.c1, S.c2, S.c3, S.c4, S.c5, S.c6⟩
set_option maxRecDepth 100000 in
theorem chr3_any (w : World) (m : Nat) (b : Bd) (x : Int) (S : Sh w m b) (c7 : w.cell? ⟨m, 7, none⟩ = some (.int .u8 b.latch)) (l0 : 0 ≤ b.latch) (l1 : b.latch ≤ 255) (p0 : 8 ≤ b.chr) (p1 : b.chr ≤ 512) (n0 : 0 ≤ x) (n1 : x ≤ 7) (hk : b.kind = 3) :
    Calls Try.prog 97 #[.pointer (some ⟨m, 0, none⟩), .int .i64 x] w fun e w' => e = .returned (.int .i64 (chrB b x)) ∧ ∃ n, w' = w.drewN n := by
  have E : chrB b x = (8 * b.latch + x) % b.chr := by simp [chrB, chrN, hk]
  rw [E]
  have H : Hid _ := inChr_any w.drew m b (8 * b.latch + x) S.drew p0 p1 (by omega) (by omega)
  clear S p0 p1 hk E
  go_enter Try.func97, Try.ntmps97
  go_upto_region 1 with fail
  go_still_tail 13, (by kernel_rfl)
  go_wp2_with fail
  refine Calls.mono H.out ?_
  rintro e W ⟨rfl, rfl⟩
  go_wp2
  go_ret
  exact ⟨rfl, 1, rfl⟩
set_option maxRecDepth 100000 in
theorem mirror7_any (w : World) (m : Nat) (b : Bd) (S : Sh w m b) (c7 : w.cell? ⟨m, 7, none⟩ = some (.int .u8 b.latch)) (l0 : 0 ≤ b.latch) (l1 : b.latch ≤ 255) (hk : b.kind = 7) :
    Calls Try.prog 109 #[.pointer (some ⟨m, 0, none⟩)] w fun e w' => e = .returned (.int .u8 (mirB b)) ∧ ∃ n, w' = w.drewN n := by
  have E : mirB b = wiredV b (if b.latch / 16 % 2 = 0 then 2 else 3) := by simp [mirB, hk, wiredV]
  rw [E]
  have e16 := bit16 l0 l1
  by_cases h : b.latch / 16 % 2 = 0
  · have H : Hid _ := wired_if w m b 2 S
    rw [if_pos h]
    rw [h] at e16
    clear S hk E h
    go_enter Try.func109, Try.ntmps109
    go_wp2_with fail
    refine Calls.mono H.out ?_
    rintro e W ⟨rfl, rfl⟩
    go_wp2
    go_ret
    exact ⟨rfl, 0, rfl⟩
  · have H : Hid _ := wired_if w m b 3 S
    rw [if_neg h]
    rw [show b.latch / 16 % 2 = 1 by omega] at e16
    clear S hk E h
    go_enter Try.func109, Try.ntmps109
    go_wp2_with fail
    refine Calls.mono H.out ?_
    rintro e W ⟨rfl, rfl⟩
    go_wp2
    go_ret
    exact ⟨rfl, 0, rfl⟩
/-- Only the block m has changed. -/
structure Only (m : Nat) (W w' : World) : Prop where
  below : Below m W w'
  other : ∀ p cs t, p ≠ m → Blk W p cs t → Blk w' p cs t
theorem Only.refl (m : Nat) (w : World) : Only m w w := ⟨Below.refl _ _, fun _ _ _ _ h => h⟩
theorem Only.one {w : World} {m : Nat} (i : Nat) (v : Value) {w' : World} (h : Only m w w') : Only m w (w'.setCell ⟨m, i, none⟩ v) := ⟨Below.setCell (p := ⟨m, i, none⟩) h.below (Nat.le_refl m) _, fun p cs t hp hb => (h.other p cs t hp hb).other hp i v⟩
theorem Only.drew {m : Nat} {w w' : World} (h : Only m w w') : Only m w w'.drew := ⟨h.below.drew, fun p cs t hp hb => (h.other p cs t hp hb).drew⟩
theorem Only.trans {m : Nat} {w w' w'' : World} (h : Only m w w') (h' : Only m w' w'') : Only m w w'' := ⟨h.below.trans h'.below, fun p cs t hp hb => h'.other p cs t hp (h.other p cs t hp hb)⟩
end Go.Proofs.Ytecaipakaaongaa
