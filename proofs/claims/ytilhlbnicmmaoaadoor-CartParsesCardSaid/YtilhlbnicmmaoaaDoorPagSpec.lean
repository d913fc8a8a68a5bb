/-
  What an image says: its header, its error and the place, its cartridge; plain facts, no conditions.
-/
import Derived.Test.YtilhlbnicmmaoaaDoorPagB
set_option linter.unusedSimpArgs false
set_option linter.unusedVariables false
namespace Go.Proofs.YtilhlbnicmmaoaaDoor
open Go.RowKit
/-- The sixteen bytes of a header. -/
structure Hq where
  b0 : Nat
  b1 : Nat
  b2 : Nat
  b3 : Nat
  b4 : Nat
  b5 : Nat
  b6 : Nat
  b7 : Nat
  b8 : Nat
  b9 : Nat
  b10 : Nat
  b11 : Nat
  b12 : Nat
  b13 : Nat
  b14 : Nat
  b15 : Nat
namespace Hq
def l (h : Hq) : List Nat := [h.b0, h.b1, h.b2, h.b3, h.b4, h.b5, h.b6, h.b7, h.b8, h.b9, h.b10, h.b11, h.b12, h.b13, h.b14, h.b15]
/-- Every one is a byte. -/
structure Ok (h : Hq) : Prop where
  k0 : h.b0 < 256
  k1 : h.b1 < 256
  k2 : h.b2 < 256
  k3 : h.b3 < 256
  k4 : h.b4 < 256
  k5 : h.b5 < 256
  k6 : h.b6 < 256
  k7 : h.b7 < 256
  k8 : h.b8 < 256
  k9 : h.b9 < 256
  k10 : h.b10 < 256
  k11 : h.b11 < 256
  k12 : h.b12 < 256
  k13 : h.b13 < 256
  k14 : h.b14 < 256
  k15 : h.b15 < 256
/-- The format. -/
def f (h : Hq) : Nat := if h.b7 / 4 % 4 = 2 then 2 else if h.b7 / 4 % 4 = 0 ∧ h.b12 = 0 ∧ h.b13 = 0 ∧ h.b14 = 0 ∧ h.b15 = 0 then 1 else 0
def kdM (k : Nat) : Nat := if k = 1 then 0 else if k = 3 then 240 else 255
/-- The bits that must be clear. -/
def rs (h : Hq) : List Nat :=
  if h.f = 1 then [0, 0, 0, 0, 0, 0, 0, if h.b7 % 4 = 3 then 3 else 0, 0, 254, 255, 255, 0, 0, 0, 0]
  else if h.f = 2 then [0, 0, 0, 0, 0, 0, 0, 0, 0, 0, 0, 0, 252, kdM (h.b7 % 4), 252, 192]
  else [0, 0, 0, 0, 0, 0, 0, 0, 0, 0, 0, 0, 0, 0, 0, 0]
/-- The first place, from i on, with a barred bit; 0: none. -/
def fb (h : Hq) : Nat → Nat → Nat
  | 0, _ => 0
  | k + 1, i => if bits BinOp.and IntKind.u8 ((h.l.getD i 0 : Nat) : Int) ((h.rs.getD i 0 : Nat) : Int) = 0 then fb h k (i + 1) else i
def bad (h : Hq) : Nat := fb h 16 0
/-- A number of bytes. -/
def sz (low high unit : Nat) : Nat := if high = 15 then (2 * (low % 4) + 1) * 2 ^ (min (low / 4) 32) else (high * 256 + low) * unit
def prg (h : Hq) : Nat := sz h.b4 (if h.f = 2 then h.b9 % 16 else 0) 16384
def chr (h : Hq) : Nat := sz h.b5 (if h.f = 2 then h.b9 / 16 else 0) 8192
def tr (h : Hq) : Nat := if h.b6 / 4 % 2 = 1 then 512 else 0
def wu (h : Hq) : Nat := if h.f = 1 then max h.b8 1 else 1
def bat (h : Hq) : Bool := decide (h.b6 / 2 % 2 = 1)
/-- The cartridge that the header tells. -/
def cf (h : Hq) (cr : Int) (nt np nq nr : Nat) : CF :=
  ⟨(h.f : Int), ((if h.f = 2 then h.b6 / 16 + h.b7 / 16 * 16 + h.b8 % 16 * 256 else if h.f = 1 then h.b6 / 16 + h.b7 / 16 * 16 else h.b6 / 16 : Nat) : Int), ((if h.f = 2 then h.b8 / 16 else 0 : Nat) : Int),
   ((if h.f = 0 then 0 else h.b7 % 4 : Nat) : Int), ((if h.f = 2 then h.b13 else 0 : Nat) : Int), ((if h.f = 2 then h.b12 % 4 else if h.f = 1 then h.b9 % 2 else 0 : Nat) : Int), ((if h.f = 2 then h.b15 % 64 else 0 : Nat) : Int), ((if h.f = 2 then h.b14 % 4 else 0 : Nat) : Int),
   ((if h.f = 2 then rz (h.b10 % 16) else if h.bat then 0 else h.wu * 8192 : Nat) : Int), ((if h.f = 2 then rz (h.b10 / 16) else if h.bat then h.wu * 8192 else 0 : Nat) : Int), cr, ((if h.f = 2 then rz (h.b11 / 16) else 0 : Nat) : Int),
   decide (h.b6 % 2 = 1), decide (h.b6 / 8 % 2 = 1), h.bat, nt, np, nq, nr⟩
def cr0 (h : Hq) : Int := ((if h.f = 2 then rz (h.b11 % 16) else 0 : Nat) : Int)
def cr (h : Hq) : Int := if h.f = 2 then ((rz (h.b11 % 16) : Nat) : Int) else if h.chr = 0 then 8192 else 0
def fin (h : Hq) : Nat := 16 + h.tr + h.prg + h.chr
def least (h : Hq) : Nat := if h.f = 1 ∧ h.b7 % 4 = 2 then 8192 else if h.f = 2 then h.b14 % 4 else 0
/-- What is wrong behind the header's beginning: the error (0: none) and its place. -/
def e (h : Hq) (n : Nat) : Nat × Nat :=
  if h.bad ≠ 0 then (12, h.bad)
  else if h.prg = 0 ∨ 1048576 < h.prg then (13, 4)
  else if 524288 < h.chr then (14, 5)
  else if n < h.fin then (11, n)
  else if h.f = 2 ∧ h.b14 % 4 = 0 ∧ h.fin < n then (15, h.fin)
  else if n - h.fin < h.least then (11, n)
  else (0, 0)
end Hq
/-- What is wrong with the first bytes. -/
def frontE (L : List Nat) (n : Nat) : Nat × Nat :=
  if n ≤ 0 then (11, n) else if L.getD 0 0 ≠ 78 then (10, 0)
  else if n ≤ 1 then (11, n) else if L.getD 1 0 ≠ 69 then (10, 1)
  else if n ≤ 2 then (11, n) else if L.getD 2 0 ≠ 83 then (10, 2)
  else if n ≤ 3 then (11, n) else if L.getD 3 0 ≠ 26 then (10, 3)
  else if n < 16 then (11, n) else (0, 0)
def hdOf (L : List Nat) : Hq := ⟨L.getD 0 0, L.getD 1 0, L.getD 2 0, L.getD 3 0, L.getD 4 0, L.getD 5 0, L.getD 6 0, L.getD 7 0, L.getD 8 0, L.getD 9 0, L.getD 10 0, L.getD 11 0, L.getD 12 0, L.getD 13 0, L.getD 14 0, L.getD 15 0⟩
/-- The error of an image (0: none) and its place. -/
def pz (L : List Nat) : Nat × Nat := if 2097152 < L.length then (1, 0) else if (frontE L L.length).1 ≠ 0 then frontE L L.length else (hdOf L).e L.length
def noC : CF := ⟨0, 0, 0, 0, 0, 0, 0, 0, 0, 0, 0, 0, false, false, false, 0, 0, 0, 0⟩
/-- The cartridge of an image. -/
def pC (L : List Nat) : CF := if (pz L).1 = 0 then (hdOf L).cf (hdOf L).cr (hdOf L).tr (hdOf L).prg (hdOf L).chr (L.length - (hdOf L).fin) else noC
def cutL (L : List Nat) (g : Bool) (a n : Nat) : List Nat := if g then (L.drop a).take n else []
def pT (L : List Nat) : List Nat := if (pz L).1 = 0 then (L.drop 16).take (hdOf L).tr else []
def pP (L : List Nat) : List Nat := if (pz L).1 = 0 then (L.drop (16 + (hdOf L).tr)).take (hdOf L).prg else []
def pQ (L : List Nat) : List Nat := if (pz L).1 = 0 then (L.drop (16 + (hdOf L).tr + (hdOf L).prg)).take (hdOf L).chr else []
def pR (L : List Nat) : List Nat := if (pz L).1 = 0 then (L.drop (hdOf L).fin).take (L.length - (hdOf L).fin) else []
/-- Facts on one byte's bits. -/
theorem by_and (b : Nat) (h : b < 256) : bits BinOp.and IntKind.u8 (b : Int) 12 = ((b / 4 % 4 * 4 : Nat) : Int) ∧ bits BinOp.and IntKind.u8 (b : Int) 3 = ((b % 4 : Nat) : Int) ∧ bits BinOp.and IntKind.u8 (b : Int) 240 = ((b / 16 * 16 : Nat) : Int) ∧ bits BinOp.and IntKind.u8 (b : Int) 15 = ((b % 16 : Nat) : Int) ∧ bits BinOp.and IntKind.u8 (b : Int) 63 = ((b % 64 : Nat) : Int) := by
  have g : ∀ t : Fin 256, bits BinOp.and IntKind.u8 ((t.val : Nat) : Int) 12 = ((t.val / 4 % 4 * 4 : Nat) : Int) ∧ bits BinOp.and IntKind.u8 ((t.val : Nat) : Int) 3 = ((t.val % 4 : Nat) : Int) ∧ bits BinOp.and IntKind.u8 ((t.val : Nat) : Int) 240 = ((t.val / 16 * 16 : Nat) : Int) ∧ bits BinOp.and IntKind.u8 ((t.val : Nat) : Int) 15 = ((t.val % 16 : Nat) : Int) ∧ bits BinOp.and IntKind.u8 ((t.val : Nat) : Int) 63 = ((t.val % 64 : Nat) : Int) := by decide +kernel
  exact g ⟨b, h⟩
theorem by_bit (b : Nat) (h : b < 256) : bits BinOp.and IntKind.u8 (b : Int) 1 = ((b % 2 : Nat) : Int) ∧ bits BinOp.and IntKind.u8 (b : Int) 2 = ((b / 2 % 2 * 2 : Nat) : Int) ∧ bits BinOp.and IntKind.u8 (b : Int) 4 = ((b / 4 % 2 * 4 : Nat) : Int) ∧ bits BinOp.and IntKind.u8 (b : Int) 8 = ((b / 8 % 2 * 8 : Nat) : Int) := by
  have g : ∀ t : Fin 256, bits BinOp.and IntKind.u8 ((t.val : Nat) : Int) 1 = ((t.val % 2 : Nat) : Int) ∧ bits BinOp.and IntKind.u8 ((t.val : Nat) : Int) 2 = ((t.val / 2 % 2 * 2 : Nat) : Int) ∧ bits BinOp.and IntKind.u8 ((t.val : Nat) : Int) 4 = ((t.val / 4 % 2 * 4 : Nat) : Int) ∧ bits BinOp.and IntKind.u8 ((t.val : Nat) : Int) 8 = ((t.val / 8 % 2 * 8 : Nat) : Int) := by decide +kernel
  exact g ⟨b, h⟩
theorem or_any (a b : Nat) (ha : a < 256) (hb : b < 256) : ∃ c : Nat, c < 256 ∧ bits BinOp.or IntKind.u8 (a : Int) (b : Int) = (c : Int) ∧ (c = 0 ↔ a = 0 ∧ b = 0) :=
  ⟨a ||| b, Nat.or_lt_two_pow (n := 8) ha hb, u8_or_nat a b ha hb, Nat.or_eq_zero_iff⟩
theorem hd_ok (L : List Nat) (h : ∀ y ∈ L, y < 256) : (hdOf L).Ok := by
  have g : ∀ i, L.getD i 0 < 256 := fun i => by
    rw [List.getD_eq_getElem?_getD]
    cases e : L[i]? with
    | none => decide
    | some v => exact h v (List.mem_of_getElem? e)
  exact ⟨g 0, g 1, g 2, g 3, g 4, g 5, g 6, g 7, g 8, g 9, g 10, g 11, g 12, g 13, g 14, g 15⟩
theorem hd_take (L : List Nat) (h : 16 ≤ L.length) : L.take 16 = (hdOf L).l := by
  match L, h with
  | a0 :: a1 :: a2 :: a3 :: a4 :: a5 :: a6 :: a7 :: a8 :: a9 :: a10 :: a11 :: a12 :: a13 :: a14 :: a15 :: r, _ => rfl
theorem Hq.f_lt (h : Hq) : h.f = 0 ∨ h.f = 1 ∨ h.f = 2 := by
  unfold Hq.f; split
  · exact .inr (.inr rfl)
  · split
    · exact .inr (.inl rfl)
    · exact .inl rfl
end Go.Proofs.YtilhlbnicmmaoaaDoor
