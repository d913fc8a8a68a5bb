/-
  What cut of package xlate makes of code: plain.
-/
import Derived.Test.YtfdiplgjiidnbaaDoorXlSplit
set_option linter.unusedSimpArgs false
set_option linter.unusedVariables false
namespace Go.Proofs.YtfdiplgjiidnbaaDoor
open Go.RowKit Classical
/-- Code in memory. -/
def Code (w : World) (b o : Nat) (L : List Nat) : Prop := ∀ i, i < L.length → w.cell? ⟨b, o + i, none⟩ = some (.int .u8 ((L.getD i 0 : Nat) : Int))
theorem Code.at {w w' : World} {b o : Nat} {L : List Nat} (h : Code w b o L) (hb : Below w.heap.size w w') : Code w' b o L := fun i hi => (hb.cell (p := ⟨b, o + i, none⟩) (cell_lt (h i hi))).trans (h i hi)
def Byts (L : List Nat) : Prop := ∀ x ∈ L, x < 256
theorem Byts.at {L : List Nat} (h : Byts L) (i : Nat) : L.getD i 0 < 256 := by
  by_cases hi : i < L.length
  · have e : L.getD i 0 = L[i] := by simp [List.getD, List.getElem?_eq_getElem hi]
    rw [e]; exact h _ (List.getElem_mem hi)
  · simp [List.getD, List.getElem?_eq_none (Nat.le_of_not_lt hi)]
/-- An instruction of a block: its opcode, its place, where it begins in the code, what goes ahead of it; its live flags. -/
structure Pc where
  k : Nat
  at' : Nat
  off : Nat
  num : Nat
  cyc : Nat
  lv : Int
def cyN (k : Nat) : Nat := (shQ k false false).length
def Pc.cells (b o cap : Nat) (p : Pc) : Array Value := pcC (opN p.k : Nat) (mdN p.k : Nat) (kdN p.k : Nat) (lnN p.k : Nat) (cyN p.k : Nat) (clN p.k : Nat) (p.at' : Nat) (some ⟨b, o + p.off, none⟩) (lnN p.k) (cap - p.off) (p.num : Nat) (p.cyc : Nat) p.lv
def flat (b o cap : Nat) (ps : List Pc) : List Value := ps.flatMap fun p => (p.cells b o cap).toList
theorem flat_snoc (b o cap : Nat) (ps : List Pc) (p : Pc) : flat b o cap (ps ++ [p]) = flat b o cap ps ++ (p.cells b o cap).toList := by simp [flat]
/-- Is an instruction taken in? -/
def inB (k at' : Nat) (tag : Int) (there : Nat) : Bool := inI (opN k : Nat) (lnN k : Nat) (at' : Nat) tag (there : Nat)
/-- The instructions of a block. -/
def cutL (tag : Int) (L : List Nat) : Nat → Nat → Nat → Nat → Nat → List Pc
  | 0, _, _, _, _ => []
  | f + 1, at', off, num, cyc =>
    if off < L.length then
      (if inB (L.getD off 0) at' tag (L.length - off) then
        (if endsI (kdN (L.getD off 0) : Nat) then [⟨L.getD off 0, at', off, num, cyc, 0⟩]
         else ⟨L.getD off 0, at', off, num, cyc, 0⟩ :: cutL tag L f ((at' + lnN (L.getD off 0)) % 65536) (off + lnN (L.getD off 0)) (num + 1) (cyc + cyN (L.getD off 0)))
      else [])
    else []
theorem cutL_end {tag : Int} {L : List Nat} {f at' off num cyc : Nat} (h : ¬ off < L.length) : cutL tag L f at' off num cyc = [] := by
  cases f with
  | zero => rfl
  | succ f => rw [cutL, if_neg h]
theorem ln_bd : ∀ k, k < 256 → 1 ≤ lnN k ∧ lnN k ≤ 3 := by decide +kernel
theorem cy_bd : ∀ k, k < 256 → 1 ≤ cyN k ∧ cyN k ≤ 8 := by decide +kernel
theorem kd_bd : ∀ k, k < 256 → kdN k < 13 := by decide +kernel
theorem in_len {k at' : Nat} {tag : Int} {there : Nat} (h : inB k at' tag there = true) : lnN k < there := by
  unfold inB inI at h
  simp only [Bool.and_eq_true, decide_eq_true_eq] at h
  omega
theorem pc_one (op md kd ln cy cl at' : Int) (a : Option Addr) (n c : Nat) (num cyc lv : Int) : ∀ u ∈ (pcC op md kd ln cy cl at' a n c num cyc lv).toList, u.oneCell' = true :=
  List.all_eq_true.1 (show (pcC op md kd ln cy cl at' a n c num cyc lv).toList.all (·.oneCell') = true from rfl)
/-- Where the loop of cut stands. -/
structure Ct (w : World) (pc : Nat) (tag : Int) (lim : Nat) (L : List Nat) (b o cap : Nat) (off num cyc at' fuel : Nat) (ps : List Pc) (v : Value) (wr : World) : Prop where
  ho : off ≤ L.length
  hf : num + fuel = lim
  ha : at' < 65536
  hp : ps.length = num
  eq : cutL tag L lim pc 0 0 0 = ps ++ cutL tag L fuel at' off num cyc
  hc : cyc ≤ num * 8
  row : wr.ownsRow (w.heap.size + 1) 56 11 v num (flat b o cap ps)
  blk : Blk wr w.heap.size (pcC 0 0 0 0 0 0 (at' : Nat) none 0 0 (num : Nat) (cyc : Nat) 0) 56
  bel : Below w.heap.size w wr
def lenV : Value → Nat
  | .slice _ n _ => n
  | _ => 0
structure Cq (w : World) (PC : Array Value) (ty : TypeId) (v : Value) (n : Nat) (cells : List Value) (W : World) : Prop where
  b : Blk W w.heap.size PC ty
  r : W.ownsRow (w.heap.size + 1) 56 11 v n cells
  hb : Below w.heap.size w W
theorem Cq.on {w W W' : World} {PC : Array Value} {ty : TypeId} {v : Value} {n : Nat} {cells : List Value} (h : Cq w PC ty v n cells W) (hb : Below W.heap.size W W') : Cq w PC ty v n cells W' := ⟨h.b.below h.b.lt hb, orow_keep h.r hb, h.hb.trans (hb.mono h.hb.size)⟩
/-- What cut hands back. -/
def CutOk (w : World) (b o cap : Nat) (ps : List Pc) (e : Ending) (w' : World) : Prop := ∃ v, e = .returned v ∧ w'.ownsRow (w.heap.size + 1) 56 11 v ps.length (flat b o cap ps) ∧ Below w.heap.size w w'
end Go.Proofs.YtfdiplgjiidnbaaDoor
