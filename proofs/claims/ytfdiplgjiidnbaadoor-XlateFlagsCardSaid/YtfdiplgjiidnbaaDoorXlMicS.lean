/-
  The micro-ops of an instruction: plain.
-/
import Derived.Test.YtfdiplgjiidnbaaDoorXlStep
set_option linter.unusedSimpArgs false
set_option linter.unusedVariables false
namespace Go.Proofs.YtfdiplgjiidnbaaDoor
open Go.RowKit Classical
/-- A micro-op. -/
structure Mic where
  kd : Nat
  op : Int
  md : Nat
  arg : Int
  fl : Int
  num : Nat
  cyc : Nat
def Mic.cells (m : Mic) : Array Value := #[.int .u8 (m.kd : Nat), .int .i64 m.op, .int .i64 (m.md : Nat), .int .u16 m.arg, .int .u8 m.fl, .int .i64 (m.num : Nat), .int .i64 (m.cyc : Nat)]
def mflat (l : List Mic) : List Value := l.flatMap fun m => m.cells.toList
theorem mflat_snoc (l : List Mic) (m : Mic) : mflat (l ++ [m]) = mflat l ++ m.cells.toList := by simp [mflat]
def Pc.tgt (L : List Nat) (p : Pc) : Int := tgtI (((p.at' : Nat) + 2 : Int) % 65536) ((L.getD (p.off + 1) 0 : Nat) : Int)
def Pc.arg (L : List Nat) (p : Pc) (r : Nat) : Int := if r = 1 ∨ r = 3 ∨ r = 9 ∨ r = 10 ∨ r = 11 then ((p.opd L : Nat) : Int) else if r = 8 then p.tgt L else 0
def Pc.mic (L : List Nat) (p : Pc) (r : Nat) : Mic := ⟨r, p.op, mdN p.k, p.arg L r, if r = 4 then p.lv else 0, p.num, p.cyc⟩
def Pc.rc (p : Pc) (i : Nat) : Nat := rcp (mdN p.k) (kdN p.k) i
def Pc.kinds (p : Pc) : List Nat := [p.rc 0, p.rc 1, p.rc 2, p.rc 3].takeWhile (· ≠ 0)
/-- The micro-ops of an instruction. -/
def Pc.mics (L : List Nat) (p : Pc) : List Mic := p.kinds.map (p.mic L)
def Pc.first (L : List Nat) (p : Pc) (i : Nat) : List Mic := ([p.rc 0, p.rc 1, p.rc 2, p.rc 3].take i).map (p.mic L)
theorem first_succ (L : List Nat) (p : Pc) : ∀ i, i < 4 → p.first L (i + 1) = p.first L i ++ [p.mic L (p.rc i)]
  | 0, _ => rfl
  | 1, _ => rfl
  | 2, _ => rfl
  | 3, _ => rfl
  | _ + 4, h => absurd h (by omega)
theorem first_stop (L : List Nat) (p : Pc) : ∀ i, i < 4 → (∀ j, j < i → p.rc j ≠ 0) → p.rc i = 0 → p.mics L = p.first L i
  | 0, _, _, h => by simp [Pc.mics, Pc.kinds, Pc.first, h]
  | 1, _, g, h => by simp [Pc.mics, Pc.kinds, Pc.first, h, g 0 (by decide)]
  | 2, _, g, h => by simp [Pc.mics, Pc.kinds, Pc.first, h, g 0 (by decide), g 1 (by decide)]
  | 3, _, g, h => by simp [Pc.mics, Pc.kinds, Pc.first, h, g 0 (by decide), g 1 (by decide), g 2 (by decide)]
  | _ + 4, h, _, _ => absurd h (by omega)
theorem first_all (L : List Nat) (p : Pc) (g : ∀ j, j < 4 → p.rc j ≠ 0) : p.mics L = p.first L 4 := by
  simp [Pc.mics, Pc.kinds, Pc.first, g 0 (by decide), g 1 (by decide), g 2 (by decide), g 3 (by decide)]
theorem first_len (L : List Nat) (p : Pc) (i : Nat) : (p.first L i).length ≤ 4 := by
  simp [Pc.first]; omega
theorem rcp_bd : ∀ k, k < 256 → ∀ i, i < 4 → rcp (mdN k) (kdN k) i ≤ 12 ∧ (rcp (mdN k) (kdN k) i = 8 → lnN k = 2) := by decide +kernel
theorem mic_one (m : Mic) : ∀ u ∈ m.cells.toList, u.oneCell' = true :=
  List.all_eq_true.1 (show m.cells.toList.all (·.oneCell') = true from rfl)
end Go.Proofs.YtfdiplgjiidnbaaDoor
