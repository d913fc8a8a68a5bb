/-
  What may stand in a cartridge's fields, as plain functions of its numbers and its lists' lengths; no Go in it, no conditions.
-/
set_option linter.unusedSimpArgs false
set_option linter.unusedVariables false
namespace Go.Proofs.YtpdbndkckioamaaDoor
/-- A cartridge's numbers and its lists' lengths. -/
structure CF where
  fmt : Int
  map : Int
  sub : Int
  con : Int
  kind : Int
  tim : Int
  dev : Int
  misc : Int
  pr : Int
  pn : Int
  cr : Int
  cn : Int
  vert : Bool
  four : Bool
  bat : Bool
  nt : Nat
  np : Nat
  nq : Nat
  nr : Nat
namespace Chk
def within (n hi : Int) : Bool := decide (0 ≤ n) && decide (n ≤ hi)
/-- The bounds of mapper, sub, console, timing, device, misc, work by the format. -/
def row (f : Int) : List Int := if f = 0 then [15, 0, 0, 0, 0, 0, 1] else if f = 1 then [255, 0, 2, 1, 0, 0, 255] else [4095, 15, 3, 3, 63, 3, 0]
def kindTop (con : Int) : Int := if con = 1 then 255 else if con = 3 then 15 else 0
def kindOk (c : CF) : Bool := if c.fmt = 2 then within c.kind (kindTop c.con) else decide (c.kind = 0)
def ramOk (n : Int) : Bool := (List.range 16).any fun k => decide (n = if k = 0 then 0 else 64 * 2 ^ k)
def workOk (c : CF) (size : Int) (named : Bool) : Bool :=
  if c.fmt = 2 then ramOk size else if named then decide (0 < size) && decide (size.tmod 8192 = 0) && decide (size.tdiv 8192 ≤ (row c.fmt).getD 6 0) else decide (size = 0)
def implied (c : CF) : Int := if c.nq = 0 then 8192 else 0
def chrOk (c : CF) (size imp : Int) : Bool := if c.fmt = 2 then ramOk size else decide (size = imp)
/-- What is left of a number above 0 when its powers of two are taken away, with fuel. -/
def oddPart : Nat → Nat → Nat
  | 0, n => n
  | f + 1, n => if n % 2 = 0 then oddPart f (n / 2) else n
def romOk (c : CF) (n unit most : Nat) : Bool := decide (n ≤ most) && (decide (n % unit = 0) || (decide (c.fmt = 2) && decide (oddPart 64 n ≤ 7)))
def restOk (c : CF) : Bool :=
  if c.fmt = 2 ∧ c.misc = 0 then decide (c.nr = 0) else decide ((if c.fmt = 1 ∧ c.con = 2 then 8192 else if c.fmt = 2 then c.misc else 0) ≤ (c.nr : Int))
/-- Each field's own word. -/
def may (c : CF) : List Bool := [true, within c.map ((row c.fmt).getD 0 0), within c.sub ((row c.fmt).getD 1 0), true, true, true, within c.con ((row c.fmt).getD 2 0), kindOk c,
  within c.tim ((row c.fmt).getD 3 0), within c.dev ((row c.fmt).getD 4 0), within c.misc ((row c.fmt).getD 5 0), workOk c c.pr (!c.bat), workOk c c.pn c.bat, chrOk c c.cr (implied c), chrOk c c.cn 0,
  (decide (c.nt = 0) || decide (c.nt = 512)), (decide (0 < c.np) && romOk c c.np 16384 1048576), romOk c c.nq 8192 524288, restOk c]
/-- The place of the first no, -1 if there is none. -/
def firstNo : Int → List Bool → Int
  | _, [] => -1
  | i, b :: l => if b then firstNo (i + 1) l else i
def wrong (c : CF) : Int := if within c.fmt 2 then firstNo 0 (may c) else 0
def imageLen (c : CF) : Nat := 16 + c.nt + c.np + c.nq + c.nr
end Chk
end Go.Proofs.YtpdbndkckioamaaDoor
