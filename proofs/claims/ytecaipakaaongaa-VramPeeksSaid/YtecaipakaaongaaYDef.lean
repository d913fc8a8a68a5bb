/-
  What the boards show, and what a write does to them, as plain functions of a board.
-/
import Derived.Test.YtecaipakaaongaaMRegs
set_option linter.unusedSimpArgs false
set_option linter.unusedVariables false
namespace Go.Proofs.Ytecaipakaaongaa
open Go.RowKit Classical
/-- Where the 256 KiB begin that PrgR reaches, and how far behind that their last 16 KiB lie. -/
def outerB (b : Bd) : Int := if b.prg ≤ 32 then 0 else if b.chrA / 16 % 2 = 1 then 32 else 0
def lastB (b : Bd) : Int := if b.prg ≤ 32 then b.prg - 2 else 30
/-- The bank, not reduced, of a window of an MMC1. -/
def serialB (b : Bd) (x : Int) : Int :=
  if b.ctrl / 4 % 4 < 2 then outerB b + 2 * (b.prgR % 16 - b.prgR % 2) + x
  else if b.ctrl / 4 % 4 = 2 then (if x < 2 then outerB b + x else outerB b + 2 * (b.prgR % 16) + x - 2)
  else if x < 2 then outerB b + 2 * (b.prgR % 16) + x else outerB b + lastB b + x - 2
/-- The bank, not reduced, of a window of an MMC3. -/
def scanB (b : Bd) (x : Int) : Int :=
  if x = 1 then b.r.getD 7 0 % 64 else if x = 3 then b.prg - 1
  else if (x = 0 ∧ b.sel / 64 % 2 = 0) ∨ (x = 2 ∧ b.sel / 64 % 2 = 1) then b.r.getD 6 0 % 64 else b.prg - 2
def bankN (b : Bd) (x : Int) : Int :=
  if b.kind = 1 then (if b.sub = 5 then x else serialB b x)
  else if b.kind = 2 then (if x < 2 then 2 * b.latch + x else b.prg - 4 + x)
  else if b.kind = 4 then scanB b x
  else if b.kind = 7 then 4 * (b.latch % 16) + x else x
/-- The bank of PRG that window x shows. -/
def bankB (b : Bd) (x : Int) : Int := bankN b x % b.prg
def chrN (b : Bd) (s : Int) : Int :=
  if b.kind = 1 then (if b.ctrl / 16 % 2 = 0 then 4 * (b.chrA - b.chrA % 2) + s else if s < 4 then 4 * b.chrA + s else 4 * b.chrB + s - 4)
  else if b.kind = 3 then 8 * b.latch + s
  else if b.kind = 4 then
    (let t := if b.sel / 128 % 2 = 1 then (s + 4) % 8 else s
     if t < 2 then b.r.getD 0 0 - b.r.getD 0 0 % 2 + t else if t < 4 then b.r.getD 1 0 - b.r.getD 1 0 % 2 + (t - 2) else b.r.getD (t - 2).toNat 0)
  else s
/-- The bank of CHR that slot s shows. -/
def chrB (b : Bd) (s : Int) : Int := chrN b s % b.chr
/-- The mirroring now. -/
def mirB (b : Bd) : Int :=
  if b.hard = 4 then 4
  else if b.kind = 1 then (if b.ctrl % 4 = 0 then 2 else if b.ctrl % 4 = 1 then 3 else if b.ctrl % 4 = 2 then 1 else 0)
  else if b.kind = 4 then (if b.turn = 0 then 1 else 0)
  else if b.kind = 7 then (if b.latch / 16 % 2 = 0 then 2 else 3) else b.hard
/-- The page of a video address. -/
def pageB (b : Bd) (a : Int) : Int :=
  if mirB b = 0 then a / 1024 % 4 / 2 else if mirB b = 1 then a / 1024 % 2 else if mirB b = 2 then 0 else if mirB b = 3 then 1 else a / 1024 % 4
/-- What work RAM lets, whether there is any or not. -/
def modeB (b : Bd) : Int :=
  if b.kind = 1 then (if b.prgR / 16 % 2 = 1 then 0 else 2)
  else if b.kind = 4 then (if b.guard < 128 then 0 else if b.guard / 64 % 2 = 1 then 1 else 2) else 2
def ramB (b : Bd) : Int := if b.work then modeB b else 0
/-- One more bit for an MMC1. -/
def pushB (b : Bd) (a v : Int) : Bd :=
  if b.shift % 2 = 0 then { b with shift := b.shift / 2 + v % 2 * 16 }
  else if a / 8192 % 4 = 0 then { b with shift := 16, ctrl := b.shift / 2 + v % 2 * 16 }
  else if a / 8192 % 4 = 1 then { b with shift := 16, chrA := b.shift / 2 + v % 2 * 16 }
  else if a / 8192 % 4 = 2 then { b with shift := 16, chrB := b.shift / 2 + v % 2 * 16 }
  else { b with shift := 16, prgR := b.shift / 2 + v % 2 * 16 }
def wr1 (b : Bd) (a v c : Int) : Bd :=
  if c - 1 = b.last then { b with last := c }
  else if 128 ≤ v then { b with last := c, shift := 16, ctrl := bits .or .u8 b.ctrl 12 }
  else pushB { b with last := c } a v
def wrL (b : Bd) (v u : Int) : Bd := { b with latch := if b.sub = 2 then bits .and .u8 v u else v }
def wr4 (b : Bd) (a v : Int) : Bd :=
  if a / 8192 % 4 = 0 then (if a % 2 = 0 then { b with sel := bits .and .u8 v 199 } else { b with r := b.r.set (b.sel % 8).toNat v })
  else if a / 8192 % 4 = 1 then (if a % 2 = 0 then { b with turn := v % 2 } else { b with guard := bits .and .u8 v 192 })
  else if a / 8192 % 4 = 2 then (if a % 2 = 0 then { b with iLatch := v } else { b with iCount := 0, iLoad := true })
  else if a % 2 = 0 then { b with iOn := false, irq := false } else { b with iOn := true }
/-- What a write does to the registers. -/
def wrK (b : Bd) (a v u c : Int) : Bd :=
  if b.kind = 1 then wr1 b a v c else if b.kind = 4 then wr4 b a v else if b.kind = 0 then b else wrL b v u
/-- Do the CPU's windows and the work RAM look alike? -/
def alikeB (a b : Bd) : Bool := (ramB a == ramB b) && ((bankB a 0 == bankB b 0) && ((bankB a 1 == bankB b 1) && ((bankB a 2 == bankB b 2) && (bankB a 3 == bankB b 3))))
def upB (e : Int) : Int := if e < 4611686018427387904 then e + 1 else e
/-- A write to a valid board. -/
def wrB (b : Bd) (a v u c : Int) : Bd :=
  if alikeB b (wrK b a v u c) then wrK b a v u c else { wrK b a v u c with epoch := upB b.epoch }
end Go.Proofs.Ytecaipakaaongaa
