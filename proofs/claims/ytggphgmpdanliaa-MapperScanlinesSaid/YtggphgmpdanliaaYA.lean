/-
  What the boards show, and what a write does to them, as plain functions of a board.
  Bits of bytes as quotients and remainders.
  What the methods that all boards share answer; conditions: the cells that they read hold the board's numbers.
  What the methods of the boards with one register answer; conditions: the cells that they read hold the board's numbers.
-/
import Derived.Test.YtggphgmpdanliaaMRegs
import Derived.Test.YtggphgmpdanliaaMKindOf
import Derived.StillTailTactics
set_option linter.unusedSimpArgs false
set_option linter.unusedVariables false
namespace Go.Proofs.Ytggphgmpdanliaa
open Go.RowKit Classical
/-- Where the 256 KiB begin that PrgR reaches, and how far behind that their last 16 KiB lie. -/
def outerB (b : Bd) : Int := if b.prg ≤ 32 then 0 else if b.chrA / 16 % 2 = 1 then 32 else 0
def lastB (b : Bd) : Int := if b.prg ≤ 32 then b.prg - 2 else 30
/-- The bank, not reduced, of a window of an MMC1. -/
def serialB (b : Bd) (x : Int) : Int :=
  if b.ctrl / 4 % 4 < 2 then outerB b + 2 * (b.prgR % 16 - b.prgR % 2) + x
  else if b.ctrl / 4 % 4 = 2 then (if x < 2 then outerB b + x else outerB b + 2 * (b.prgR % 16) + x - 2)
  else if x < 2 then outerB b + 2 * (b.prgR % 16) + x else outerB b + lastB b + x - 2
/-- The bank, not reduced, of a window of an MMC3. -/
def scanB (b : Bd) (x : Int) : Int :=
  if x = 1 then b.r.getD 7 0 % 64 else if x = 3 then b.prg - 1
  else if (x = 0 ∧ b.sel / 64 % 2 = 0) ∨ (x = 2 ∧ b.sel / 64 % 2 = 1) then b.r.getD 6 0 % 64 else b.prg - 2
def bankN (b : Bd) (x : Int) : Int :=
  if b.kind = 1 then (if b.sub = 5 then x else serialB b x)
  else if b.kind = 2 then (if x < 2 then 2 * b.latch + x else b.prg - 4 + x)
  else if b.kind = 4 then scanB b x
  else if b.kind = 7 then 4 * (b.latch % 16) + x else x
/-- The bank of PRG that window x shows. -/
def bankB (b : Bd) (x : Int) : Int := bankN b x % b.prg
def chrN (b : Bd) (s : Int) : Int :=
  if b.kind = 1 then (if b.ctrl / 16 % 2 = 0 then 4 * (b.chrA - b.chrA % 2) + s else if s < 4 then 4 * b.chrA + s else 4 * b.chrB + s - 4)
  else if b.kind = 3 then 8 * b.latch + s
  else if b.kind = 4 then
    (let t := if b.sel / 128 % 2 = 1 then (s + 4) % 8 else s
     if t < 2 then b.r.getD 0 0 - b.r.getD 0 0 % 2 + t else if t < 4 then b.r.getD 1 0 - b.r.getD 1 0 % 2 + (t - 2) else b.r.getD (t - 2).toNat 0)
  else s
/-- The bank of CHR that slot s shows. -/
def chrB (b : Bd) (s : Int) : Int := chrN b s % b.chr
/-- The mirroring now. -/
def mirB (b : Bd) : Int :=
  if b.hard = 4 then 4
  else if b.kind = 1 then (if b.ctrl % 4 = 0 then 2 else if b.ctrl % 4 = 1 then 3 else if b.ctrl % 4 = 2 then 1 else 0)
  else if b.kind = 4 then (if b.turn = 0 then 1 else 0)
  else if b.kind = 7 then (if b.latch / 16 % 2 = 0 then 2 else 3) else b.hard
/-- The page of a video address. -/
def pageB (b : Bd) (a : Int) : Int :=
  if mirB b = 0 then a / 1024 % 4 / 2 else if mirB b = 1 then a / 1024 % 2 else if mirB b = 2 then 0 else if mirB b = 3 then 1 else a / 1024 % 4
/-- What work RAM lets, whether there is any or not. -/
def modeB (b : Bd) : Int :=
  if b.kind = 1 then (if b.prgR / 16 % 2 = 1 then 0 else 2)
  else if b.kind = 4 then (if b.guard < 128 then 0 else if b.guard / 64 % 2 = 1 then 1 else 2) else 2
def ramB (b : Bd) : Int := if b.work then modeB b else 0
/-- One more bit for an MMC1. -/
def pushB (b : Bd) (a v : Int) : Bd :=
  if b.shift % 2 = 0 then { b with shift := b.shift / 2 + v % 2 * 16 }
  else if a / 8192 % 4 = 0 then { b with shift := 16, ctrl := b.shift / 2 + v % 2 * 16 }
  else if a / 8192 % 4 = 1 then { b with shift := 16, chrA := b.shift / 2 + v % 2 * 16 }
  else if a / 8192 % 4 = 2 then { b with shift := 16, chrB := b.shift / 2 + v % 2 * 16 }
  else { b with shift := 16, prgR := b.shift / 2 + v % 2 * 16 }
def wr1 (b : Bd) (a v c : Int) : Bd :=
  if c - 1 = b.last then { b with last := c }
  else if 128 ≤ v then { b with last := c, shift := 16, ctrl := bits .or .u8 b.ctrl 12 }
  else pushB { b with last := c } a v
def wrL (b : Bd) (v u : Int) : Bd := { b with latch := if b.sub = 2 then bits .and .u8 v u else v }
def wr4 (b : Bd) (a v : Int) : Bd :=
  if a / 8192 % 4 = 0 then (if a % 2 = 0 then { b with sel := bits .and .u8 v 199 } else { b with r := b.r.set (b.sel % 8).toNat v })
  else if a / 8192 % 4 = 1 then (if a % 2 = 0 then { b with turn := v % 2 } else { b with guard := bits .and .u8 v 192 })
  else if a / 8192 % 4 = 2 then (if a % 2 = 0 then { b with iLatch := v } else { b with iCount := 0, iLoad := true })
  else if a % 2 = 0 then { b with iOn := false, irq := false } else { b with iOn := true }
/-- What a write does to the registers. -/
def wrK (b : Bd) (a v u c : Int) : Bd :=
  if b.kind = 1 then wr1 b a v c else if b.kind = 4 then wr4 b a v else if b.kind = 0 then b else wrL b v u
/-- Do the CPU's windows and the work RAM look alike? -/
def alikeB (a b : Bd) : Bool := (ramB a == ramB b) && ((bankB a 0 == bankB b 0) && ((bankB a 1 == bankB b 1) && ((bankB a 2 == bankB b 2) && (bankB a 3 == bankB b 3))))
def upB (e : Int) : Int := if e < 4611686018427387904 then e + 1 else e
/-- A write to a valid board. -/
def wrB (b : Bd) (a v u c : Int) : Bd :=
  if alikeB b (wrK b a v u c) then wrK b a v u c else { wrK b a v u c with epoch := upB b.epoch }
end Go.Proofs.Ytggphgmpdanliaa
namespace Go.Proofs.Ytggphgmpdanliaa
open Go.RowKit Classical
theorem byteN {x : Int} (h0 : 0 ≤ x) (h1 : x ≤ 255) : ∃ k : Nat, k < 256 ∧ x = k := ⟨x.toNat, by omega, by omega⟩
theorem and15N : ∀ k : Nat, k < 256 → bits .and .u8 (k : Int) 15 = (k : Int) % 16 := by decide +kernel
theorem and15 {x : Int} (h0 : 0 ≤ x) (h1 : x ≤ 255) : bits .and .u8 x 15 = x % 16 := by
  obtain ⟨k, hk, rfl⟩ := byteN h0 h1; exact and15N k hk
theorem and3N : ∀ k : Nat, k < 256 → bits .and .u8 (k : Int) 3 = (k : Int) % 4 := by decide +kernel
theorem and3 {x : Int} (h0 : 0 ≤ x) (h1 : x ≤ 255) : bits .and .u8 x 3 = x % 4 := by
  obtain ⟨k, hk, rfl⟩ := byteN h0 h1; exact and3N k hk
theorem and3w : ∀ k : Nat, k < 8 → bits .and .u16 (k : Int) 3 = (k : Int) % 4 := by decide +kernel
theorem and1N : ∀ k : Nat, k < 256 → bits .and .u8 (k : Int) 1 = (k : Int) % 2 := by decide +kernel
theorem and1 {x : Int} (h0 : 0 ≤ x) (h1 : x ≤ 255) : bits .and .u8 x 1 = x % 2 := by
  obtain ⟨k, hk, rfl⟩ := byteN h0 h1; exact and1N k hk
theorem and7N : ∀ k : Nat, k < 256 → bits .and .u8 (k : Int) 7 = (k : Int) % 8 := by decide +kernel
theorem and7 {x : Int} (h0 : 0 ≤ x) (h1 : x ≤ 255) : bits .and .u8 x 7 = x % 8 := by
  obtain ⟨k, hk, rfl⟩ := byteN h0 h1; exact and7N k hk
theorem and254N : ∀ k : Nat, k < 256 → bits .and .u8 (k : Int) 254 = (k : Int) - (k : Int) % 2 := by decide +kernel
theorem and254 {x : Int} (h0 : 0 ≤ x) (h1 : x ≤ 255) : bits .and .u8 x 254 = x - x % 2 := by
  obtain ⟨k, hk, rfl⟩ := byteN h0 h1; exact and254N k hk
theorem even8N : ∀ k : Nat, k < 256 → bits .andNot .u8 (k : Int) 1 = (k : Int) - (k : Int) % 2 := by decide +kernel
theorem even8 {x : Int} (h0 : 0 ≤ x) (h1 : x ≤ 255) : bits .andNot .u8 x 1 = x - x % 2 := by
  obtain ⟨k, hk, rfl⟩ := byteN h0 h1; exact even8N k hk
theorem even64N : ∀ k : Nat, k < 256 → bits .andNot .i64 (k : Int) 1 = (k : Int) - (k : Int) % 2 := by decide +kernel
theorem even64 {x : Int} (h0 : 0 ≤ x) (h1 : x ≤ 255) : bits .andNot .i64 x 1 = x - x % 2 := by
  obtain ⟨k, hk, rfl⟩ := byteN h0 h1; exact even64N k hk
theorem bit16N : ∀ k : Nat, k < 256 → bits .and .u8 (k : Int) 16 = (k : Int) / 16 % 2 * 16 := by decide +kernel
theorem bit16 {x : Int} (h0 : 0 ≤ x) (h1 : x ≤ 255) : bits .and .u8 x 16 = x / 16 % 2 * 16 := by
  obtain ⟨k, hk, rfl⟩ := byteN h0 h1; exact bit16N k hk
theorem bit64N : ∀ k : Nat, k < 256 → bits .and .u8 (k : Int) 64 = (k : Int) / 64 % 2 * 64 := by decide +kernel
theorem bit64 {x : Int} (h0 : 0 ≤ x) (h1 : x ≤ 255) : bits .and .u8 x 64 = x / 64 % 2 * 64 := by
  obtain ⟨k, hk, rfl⟩ := byteN h0 h1; exact bit64N k hk
theorem bit128N : ∀ k : Nat, k < 256 → bits .and .u8 (k : Int) 128 = (k : Int) / 128 % 2 * 128 := by decide +kernel
theorem bit128 {x : Int} (h0 : 0 ≤ x) (h1 : x ≤ 255) : bits .and .u8 x 128 = x / 128 % 2 * 128 := by
  obtain ⟨k, hk, rfl⟩ := byteN h0 h1; exact bit128N k hk
theorem orPushN : ∀ k : Nat, k < 16 → ∀ v : Nat, v < 2 → bits .or .u8 (k : Int) ((v : Int) * 16) = (k : Int) + (v : Int) * 16 := by decide +kernel
theorem orPush {x y : Int} (h0 : 0 ≤ x) (h1 : x < 16) (v0 : 0 ≤ y) (v1 : y < 2) : bits .or .u8 x (y * 16) = x + y * 16 := by
  have := orPushN x.toNat (by omega) y.toNat (by omega)
  rwa [show ((x.toNat : Nat) : Int) = x by omega, show ((y.toNat : Nat) : Int) = y by omega] at this
theorem or12N : ∀ k : Nat, k < 256 → 0 ≤ bits .or .u8 (k : Int) 12 ∧ bits .or .u8 (k : Int) 12 ≤ 255 ∧ (k < 32 → bits .or .u8 (k : Int) 12 ≤ 31) := by decide +kernel
theorem or12 {x : Int} (h0 : 0 ≤ x) (h1 : x ≤ 255) : 0 ≤ bits .or .u8 x 12 ∧ bits .or .u8 x 12 ≤ 255 ∧ (x ≤ 31 → bits .or .u8 x 12 ≤ 31) := by
  obtain ⟨k, hk, rfl⟩ := byteN h0 h1
  obtain ⟨a, b, c⟩ := or12N k hk
  exact ⟨a, b, fun h => c (by omega)⟩
theorem and199N : ∀ k : Nat, k < 256 → 0 ≤ bits .and .u8 (k : Int) 199 ∧ bits .and .u8 (k : Int) 199 ≤ 255 ∧ bits .andNot .u8 (bits .and .u8 (k : Int) 199) 199 = 0 := by decide +kernel
theorem and199 {x : Int} (h0 : 0 ≤ x) (h1 : x ≤ 255) : 0 ≤ bits .and .u8 x 199 ∧ bits .and .u8 x 199 ≤ 255 ∧ bits .andNot .u8 (bits .and .u8 x 199) 199 = 0 := by
  obtain ⟨k, hk, rfl⟩ := byteN h0 h1; exact and199N k hk
theorem and192N : ∀ k : Nat, k < 256 → 0 ≤ bits .and .u8 (k : Int) 192 ∧ bits .and .u8 (k : Int) 192 ≤ 255 ∧ bits .andNot .u8 (bits .and .u8 (k : Int) 192) 192 = 0 := by decide +kernel
theorem and192 {x : Int} (h0 : 0 ≤ x) (h1 : x ≤ 255) : 0 ≤ bits .and .u8 x 192 ∧ bits .and .u8 x 192 ≤ 255 ∧ bits .andNot .u8 (bits .and .u8 x 192) 192 = 0 := by
  obtain ⟨k, hk, rfl⟩ := byteN h0 h1; exact and192N k hk
theorem guardN : ∀ k : Nat, k < 256 → bits .andNot .u8 (k : Int) 192 = 0 → (k = 0 ∨ k = 64 ∨ k = 128 ∨ k = 192) := by decide +kernel
theorem guard4 {x : Int} (h0 : 0 ≤ x) (h1 : x ≤ 255) (h : bits .andNot .u8 x 192 = 0) : x = 0 ∨ x = 64 ∨ x = 128 ∨ x = 192 := by
  obtain ⟨k, hk, rfl⟩ := byteN h0 h1
  have := guardN k hk h
  omega
end Go.Proofs.Ytggphgmpdanliaa
namespace Go.Proofs.Ytggphgmpdanliaa
open Go.RowKit Classical
theorem mod_in (n m : Int) (h0 : 0 ≤ n) (hm : 0 < m) : n.tmod m = n % m ∧ 0 ≤ n % m ∧ n % m < m := ⟨Int.tmod_eq_emod_of_nonneg h0, Int.emod_nonneg _ (by omega), Int.emod_lt_of_pos _ hm⟩
theorem inPrg_any (w : World) (m : Nat) (b : Bd) (n : Int) (S : Sh w m b) (p0 : 2 ≤ b.prg) (p1 : b.prg ≤ 128) (n0 : 0 ≤ n) (n1 : n ≤ 9223372036854775807) :
    Calls Try.prog 94 #[.pointer (some ⟨m, 0, none⟩), .int .i64 n] w fun e w' => e = .returned (.int .i64 (n % b.prg)) ∧ w' = w := by
  obtain ⟨-, -, -, -, c4, -, -⟩ := S
  obtain ⟨e, q0, q1⟩ := mod_in n b.prg n0 (by omega)
  have hz : ¬ b.prg = 0 := by omega
  generalize b.prg = p at *
  generalize hr : n % p = r at *
  have HR : Hid _ := hr
  clear hr
  have q2 : r ≤ 128 := by omega
  clear p0 p1 q1 n0 n1
  go_enter Try.func94, Try.ntmps94
  go_wp2
  go_ret
  exact ⟨rfl, rfl⟩
theorem inChr_any (w : World) (m : Nat) (b : Bd) (n : Int) (S : Sh w m b) (p0 : 8 ≤ b.chr) (p1 : b.chr ≤ 512) (n0 : 0 ≤ n) (n1 : n ≤ 9223372036854775807) :
    Calls Try.prog 95 #[.pointer (some ⟨m, 0, none⟩), .int .i64 n] w fun e w' => e = .returned (.int .i64 (n % b.chr)) ∧ w' = w := by
  obtain ⟨-, -, -, -, -, c5, -⟩ := S
  obtain ⟨e, q0, q1⟩ := mod_in n b.chr n0 (by omega)
  have hz : ¬ b.chr = 0 := by omega
  generalize b.chr = p at *
  generalize hr : n % p = r at *
  have HR : Hid _ := hr
  clear hr
  have q2 : r ≤ 512 := by omega
  clear p0 p1 q1 n0 n1
  go_enter Try.func95, Try.ntmps95
  go_wp2
  go_ret
  exact ⟨rfl, rfl⟩
theorem hasWork_any (w : World) (m : Nat) (b : Bd) (S : Sh w m b) :
    Calls Try.prog 85 #[.pointer (some ⟨m, 0, none⟩)] w fun e w' => e = .returned (.bool b.work) ∧ w' = w := by
  obtain ⟨-, -, c2, -, -, -, -⟩ := S
  go_enter Try.func85, Try.ntmps85
  go_wp2
  go_ret
  exact ⟨rfl, rfl⟩
/-- A mirroring that the board chooses. -/
def wiredV (b : Bd) (x : Int) : Int := if b.hard = 4 then 4 else x
theorem wired_if (w : World) (m : Nat) (b : Bd) (x : Int) (S : Sh w m b) :
    Calls Try.prog 104 #[.pointer (some ⟨m, 0, none⟩), .int .u8 x] w fun e w' => e = .returned (.int .u8 (wiredV b x)) ∧ w' = w := by
  obtain ⟨-, c1, -, -, -, -, -⟩ := S
  unfold wiredV
  by_cases h : b.hard = 4
  · rw [if_pos h]
    rw [h] at c1
    clear h
    go_enter Try.func104, Try.ntmps104
    go_wp2
    go_ret
    exact ⟨rfl, rfl⟩
  · rw [if_neg h]
    have hb : (b.hard == 4) = false := by simpa using h
    clear h
    go_enter Try.func104, Try.ntmps104
    go_wp2
    go_ret
    exact ⟨rfl, rfl⟩
theorem mirror0_any (w : World) (m : Nat) (b : Bd) (S : Sh w m b) :
    Calls Try.prog 86 #[.pointer (some ⟨m, 0, none⟩)] w fun e w' => e = .returned (.int .u8 b.hard) ∧ w' = w := by
  obtain ⟨-, c1, -, -, -, -, -⟩ := S
  go_enter Try.func86, Try.ntmps86
  go_wp2
  go_ret
  exact ⟨rfl, rfl⟩
theorem mode0_any (w : World) (m : Nat) :
    Calls Try.prog 92 #[.pointer (some ⟨m, 0, none⟩)] w fun e w' => e = .returned (.int .i64 2) ∧ w' = w := by
  go_enter Try.func92, Try.ntmps92
  go_wp2
  go_ret
  exact ⟨rfl, rfl⟩
theorem write0_any (w : World) (m : Nat) (a v u c : Int) :
    Calls Try.prog 93 #[.pointer (some ⟨m, 0, none⟩), .int .u16 a, .int .u8 v, .int .u8 u, .int .i64 c] w fun e w' => e = .returned (.tuple #[]) ∧ w' = w := by
  go_enter Try.func93, Try.ntmps93
  go_wp2
  go_end0
  exact ⟨rfl, rfl⟩
theorem bank0_any (w : World) (m : Nat) (b : Bd) (x : Int) (S : Sh w m b) (p0 : 2 ≤ b.prg) (p1 : b.prg ≤ 128) (n0 : 0 ≤ x) (n1 : x ≤ 3) :
    Calls Try.prog 82 #[.pointer (some ⟨m, 0, none⟩), .int .i64 x] w fun e w' => e = .returned (.int .i64 (x % b.prg)) ∧ w' = w := by
  have H : Hid _ := inPrg_any w m b x S p0 p1 n0 (by omega)
  clear S p0 p1 n0 n1
  go_enter Try.func82, Try.ntmps82
  go_wp2_with fail
  refine Calls.mono H.out ?_
  rintro e W ⟨rfl, rfl⟩
  go_wp2
  go_ret
  exact ⟨rfl, rfl⟩
theorem chrBank0_any (w : World) (m : Nat) (b : Bd) (x : Int) (S : Sh w m b) (p0 : 8 ≤ b.chr) (p1 : b.chr ≤ 512) (n0 : 0 ≤ x) (n1 : x ≤ 7) :
    Calls Try.prog 83 #[.pointer (some ⟨m, 0, none⟩), .int .i64 x] w fun e w' => e = .returned (.int .i64 (x % b.chr)) ∧ w' = w := by
  have H : Hid _ := inChr_any w m b x S p0 p1 n0 (by omega)
  clear S p0 p1 n0 n1
  go_enter Try.func83, Try.ntmps83
  go_wp2_with fail
  refine Calls.mono H.out ?_
  rintro e W ⟨rfl, rfl⟩
  go_wp2
  go_ret
  exact ⟨rfl, rfl⟩
end Go.Proofs.Ytggphgmpdanliaa
namespace Go.Proofs.Ytggphgmpdanliaa
open Go.RowKit Classical
theorem Sh.drew {w : World} {m : Nat} {b : Bd} (S : Sh w m b) : Sh w.drew m b := ⟨S.c0, S.c1, S.c2, S.c3, S.c4, S.c5, S.c6⟩
theorem Sh.drewN {w : World} {m : Nat} {b : Bd} (S : Sh w m b) (n : Nat) : Sh (w.drewN n) m b := ⟨S.c0, S.c1, S.c2, S.c3, S.c4, S.c5, S.c6⟩
set_option maxRecDepth 100000 in
theorem bank2_any (w : World) (m : Nat) (b : Bd) (x : Int) (S : Sh w m b) (c7 : w.cell? ⟨m, 7, none⟩ = some (.int .u8 b.latch)) (l0 : 0 ≤ b.latch) (l1 : b.latch ≤ 255) (p0 : 2 ≤ b.prg) (p1 : b.prg ≤ 128) (n0 : 0 ≤ x) (n1 : x ≤ 3) (hk : b.kind = 2) (hp : 0 ≤ b.prg - 4 + x ∨ x < 2) :
    Calls Try.prog 106 #[.pointer (some ⟨m, 0, none⟩), .int .i64 x] w fun e w' => e = .returned (.int .i64 (bankB b x)) ∧ ∃ n, w' = w.drewN n := by
  have E : bankB b x = (if x < 2 then 2 * b.latch + x else b.prg - 4 + x) % b.prg := by simp [bankB, bankN, hk]
  rw [E]
  by_cases h : x < 2
  · rw [if_pos h]
    have H : Hid _ := inPrg_any w.drew m b (2 * b.latch + x) S.drew p0 p1 (by omega) (by omega)
    have hx : decide (x < 2) = true := decide_eq_true h
    clear S p0 p1 hk hp E h
    go_enter Try.func106, Try.ntmps106
    go_upto_region 2 with fail
    go_still_tail 13, (by kernel_rfl)
    go_wp2_with fail
    refine Calls.mono H.out ?_
    rintro e W ⟨rfl, rfl⟩
    go_wp2
    go_ret
    exact ⟨rfl, 1, rfl⟩
  · rw [if_neg h]
    have H : Hid _ := inPrg_any w.drew m b (b.prg - 4 + x) S.drew p0 p1 (by omega) (by omega)
    have c4 := S.c4
    have hx : decide (x < 2) = false := decide_eq_false h
    clear S hk hp E h c7 l0 l1
    go_enter Try.func106, Try.ntmps106
    go_upto_region 3 with fail
    go_still_tail 13, (by kernel_rfl)
    go_wp2_with fail
    refine Calls.mono H.out ?_
    rintro e W ⟨rfl, rfl⟩
    go_wp2
    go_ret
    exact ⟨rfl, 1, rfl⟩
set_option maxRecDepth 100000 in
theorem chr3_any (w : World) (m : Nat) (b : Bd) (x : Int) (S : Sh w m b) (c7 : w.cell? ⟨m, 7, none⟩ = some (.int .u8 b.latch)) (l0 : 0 ≤ b.latch) (l1 : b.latch ≤ 255) (p0 : 8 ≤ b.chr) (p1 : b.chr ≤ 512) (n0 : 0 ≤ x) (n1 : x ≤ 7) (hk : b.kind = 3) :
    Calls Try.prog 108 #[.pointer (some ⟨m, 0, none⟩), .int .i64 x] w fun e w' => e = .returned (.int .i64 (chrB b x)) ∧ ∃ n, w' = w.drewN n := by
  have E : chrB b x = (8 * b.latch + x) % b.chr := by simp [chrB, chrN, hk]
  rw [E]
  have H : Hid _ := inChr_any w.drew m b (8 * b.latch + x) S.drew p0 p1 (by omega) (by omega)
  clear S p0 p1 hk E
  go_enter Try.func108, Try.ntmps108
  go_upto_region 1 with fail
  go_still_tail 13, (by kernel_rfl)
  go_wp2_with fail
  refine Calls.mono H.out ?_
  rintro e W ⟨rfl, rfl⟩
  go_wp2
  go_ret
  exact ⟨rfl, 1, rfl⟩
set_option maxRecDepth 100000 in
theorem bank7_any (w : World) (m : Nat) (b : Bd) (x : Int) (S : Sh w m b) (c7 : w.cell? ⟨m, 7, none⟩ = some (.int .u8 b.latch)) (l0 : 0 ≤ b.latch) (l1 : b.latch ≤ 255) (p0 : 2 ≤ b.prg) (p1 : b.prg ≤ 128) (n0 : 0 ≤ x) (n1 : x ≤ 3) (hk : b.kind = 7) :
    Calls Try.prog 121 #[.pointer (some ⟨m, 0, none⟩), .int .i64 x] w fun e w' => e = .returned (.int .i64 (bankB b x)) ∧ ∃ n, w' = w.drewN n := by
  have E : bankB b x = (4 * (b.latch % 16) + x) % b.prg := by simp [bankB, bankN, hk]
  rw [E]
  have e15 := and15 l0 l1
  have H : Hid _ := inPrg_any w.drew m b (4 * (b.latch % 16) + x) S.drew p0 p1 (by omega) (by omega)
  have y0 : 0 ≤ b.latch % 16 := by omega
  have y1 : b.latch % 16 ≤ 15 := by omega
  generalize b.latch % 16 = y at *
  clear S p0 p1 hk E
  go_enter Try.func121, Try.ntmps121
  go_upto_region 1 with fail
  go_still_tail 14, (by kernel_rfl)
  go_wp2_with fail
  refine Calls.mono H.out ?_
  rintro e W ⟨rfl, rfl⟩
  go_wp2
  go_ret
  exact ⟨rfl, 1, rfl⟩
set_option maxRecDepth 100000 in
theorem mirror7_any (w : World) (m : Nat) (b : Bd) (S : Sh w m b) (c7 : w.cell? ⟨m, 7, none⟩ = some (.int .u8 b.latch)) (l0 : 0 ≤ b.latch) (l1 : b.latch ≤ 255) (hk : b.kind = 7) :
    Calls Try.prog 122 #[.pointer (some ⟨m, 0, none⟩)] w fun e w' => e = .returned (.int .u8 (mirB b)) ∧ ∃ n, w' = w.drewN n := by
  have E : mirB b = wiredV b (if b.latch / 16 % 2 = 0 then 2 else 3) := by simp [mirB, hk, wiredV]
  rw [E]
  have e16 := bit16 l0 l1
  by_cases h : b.latch / 16 % 2 = 0
  · have H : Hid _ := wired_if w m b 2 S
    rw [if_pos h]
    rw [h] at e16
    clear S hk E h
    go_enter Try.func122, Try.ntmps122
    go_wp2_with fail
    refine Calls.mono H.out ?_
    rintro e W ⟨rfl, rfl⟩
    go_wp2
    go_ret
    exact ⟨rfl, 0, rfl⟩
  · have H : Hid _ := wired_if w m b 3 S
    rw [if_neg h]
    rw [show b.latch / 16 % 2 = 1 by omega] at e16
    clear S hk E h
    go_enter Try.func122, Try.ntmps122
    go_wp2_with fail
    refine Calls.mono H.out ?_
    rintro e W ⟨rfl, rfl⟩
    go_wp2
    go_ret
    exact ⟨rfl, 0, rfl⟩
/-- Only the block m has changed. -/
structure Only (m : Nat) (W w' : World) : Prop where
  below : Below m W w'
  other : ∀ p cs t, p ≠ m → Blk W p cs t → Blk w' p cs t
theorem Only.refl (m : Nat) (w : World) : Only m w w := ⟨Below.refl _ _, fun _ _ _ _ h => h⟩
theorem Only.one {w : World} {m : Nat} (i : Nat) (v : Value) {w' : World} (h : Only m w w') : Only m w (w'.setCell ⟨m, i, none⟩ v) := ⟨Below.setCell (p := ⟨m, i, none⟩) h.below (Nat.le_refl m) _, fun p cs t hp hb => (h.other p cs t hp hb).other hp i v⟩
theorem Only.drew {m : Nat} {w w' : World} (h : Only m w w') : Only m w w'.drew := ⟨h.below.drew, fun p cs t hp hb => (h.other p cs t hp hb).drew⟩
theorem Only.trans {m : Nat} {w w' w'' : World} (h : Only m w w') (h' : Only m w' w'') : Only m w w'' := ⟨h.below.trans h'.below, fun p cs t hp hb => h'.other p cs t hp (h.other p cs t hp hb)⟩
theorem writeL_any (w : World) (m : Nat) (b : Bd) (t : TypeId) (a v u c : Int) (hv : 0 ≤ v ∧ v ≤ 255) (hu : 0 ≤ u ∧ u ≤ 255) (K : Blk w m (kLc b) t) :
    Calls Try.prog 107 #[.pointer (some ⟨m, 0, none⟩), .int .u16 a, .int .u8 v, .int .u8 u, .int .i64 c] w fun e w' => e = .returned (.tuple #[]) ∧ Only m w w' ∧ Blk w' m (kLc (wrL b v u)) t := by
  have c0 : w.cell? ⟨m, 0, none⟩ = some (.int .i64 b.sub) := (K.cell 0).trans rfl
  have c7 : w.cell? ⟨m, 7, none⟩ = some (.int .u8 b.latch) := (K.cell 7).trans rfl
  have f7 := K.free 7
  by_cases h : b.sub = 2
  · have KH : Hid _ := K.set 7 (.int .u8 (bits .and .u8 v u))
    have E : wrL b v u = { b with latch := bits .and .u8 v u } := by simp [wrL, h]
    rw [E]
    rw [h] at c0
    clear K E h
    go_enter Try.func107, Try.ntmps107
    go_wp2
    go_end0
    exact ⟨rfl, Only.one 7 _ (Only.refl m w), KH.out⟩
  · have KH : Hid _ := K.set 7 (.int .u8 v)
    have E : wrL b v u = { b with latch := v } := by simp [wrL, h]
    have hb : (b.sub == 2) = false := by simpa using h
    rw [E]
    clear K E h
    go_enter Try.func107, Try.ntmps107
    go_wp2
    go_end0
    exact ⟨rfl, Only.one 7 _ (Only.refl m w), KH.out⟩
end Go.Proofs.Ytggphgmpdanliaa
