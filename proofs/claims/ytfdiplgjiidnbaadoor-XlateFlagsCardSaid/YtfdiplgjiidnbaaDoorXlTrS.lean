/-
  What Translate of package xlate hands back; code that is nothing; bytes as a string.
-/
import Derived.Test.YtfdiplgjiidnbaaDoorXlFold2
import Derived.Laws.IdiomStrings
set_option linter.unusedSimpArgs false
set_option linter.unusedVariables false
namespace Go.Proofs.YtfdiplgjiidnbaaDoor
open Go.RowKit Classical
theorem heldMono {P : Program} {ops : Array Oper} {Q : Exit → Act → World → Prop} {md : Region.Mode} {S S' : World → Prop} (hS : ∀ w, S' w → S w) : ∀ (fuel : Nat) (l : Array Bool) (a : Act) (w : World), wpAnyH P md ops Q S' fuel l a w → wpAnyH P md ops Q S fuel l a w
  | 0, _, _, _, h => h
  | fuel + 1, _, _, _, h => ⟨h.1, fun i hi => wpOp_mono (fun a' w' h' => ⟨hS _ h'.1, heldMono hS fuel _ a' w' h'.2⟩) (h.2 i hi)⟩
theorem callHE {P : Program} {ops : Array Oper} {Q : Exit → Act → World → Prop} {md : Region.Mode} {S : World → Prop} {i : Nat} {fuel : Nat} {listed : Array Bool} {a : Act} {w : World} {o : Oper} {f : FuncId} {args : Array Value} {R : Value → World → Prop}
    (hr : Region.ready md ops listed = [i]) (hi : ops[i]? = some o) (hw : Region.wanted o (yielded ops a.tmps) = true) (he : (execOp a.eval o).run P w = .ok (.enter f args) w)
    (hc : Calls P f args w fun e w' => ∃ v, e = .returned v ∧ R v w') (h : ∀ v w', R v w' → S w' ∧ wpAnyH P md ops Q S fuel (listed.setIfInBounds i true) (a.put o.dst v) w') : wpAnyH P md ops Q S (fuel + 1) listed a w :=
  wpAnyH_all hr (List.cons_ne_nil _ _) fun j hj => by
    obtain rfl := List.mem_singleton.1 hj
    unfold wpOp
    rw [hi]
    simp only [hw, if_true]
    left
    unfold Oper.wp
    rw [he, Oper.upon_enter]
    refine hc.mono ?_
    rintro e w' ⟨v, rfl, hR⟩
    exact h v w' hR
/-- Bytes as a string. -/
def strB (l : List Nat) : ByteArray := ⟨(l.map UInt8.ofNat).toArray⟩
theorem orow_str {w : World} {base : Nat} {v : Value} {l : List Nat} (h : w.ownsRow base 5 1 v l.length (vals l)) (hB : Byts l) : (convert 23 9 v).run Tryd.prog w = .ok (.string (strB l)) w := by
  rcases h.2 with ⟨e, h0⟩ | ⟨g, cap, cur, e, hb', hh, h3, h4, h5, h6⟩
  · obtain rfl : l = [] := List.eq_nil_of_length_eq_zero h0
    rw [e]; kernel_rfl
  · rw [e]
    have hl : (l.map UInt8.ofNat).length = l.length := by simp
    have := run_convert_bytes_back (P := Tryd.prog) w 23 9 5 ⟨g, 0, none⟩ cap (l.map UInt8.ofNat) (by kernel_rfl) (by kernel_rfl) (by kernel_rfl) (fun j hj => by
      rw [hl] at hj
      have hc := cell_of_row w g j cur _ (0, 0) hh
      have hv : (vals l)[j]? = some (.int .u8 ((l[j] : Nat) : Int)) := by simp [vals, hj]
      rw [← h6, List.getElem?_take, if_pos (by omega)] at hv
      rw [Addr.add_lit, Nat.zero_add, hc, ← Array.getElem?_toList, hv, List.getElem_map]
      have hb := hB l[j] (List.getElem_mem hj)
      simp [Nat.mod_eq_of_lt hb])
    rw [hl] at this
    exact this
theorem bts_byts {L : List Nat} (hB : Byts L) (ps : List Pc) : Byts (bts L ps) := fun x hx => by
  unfold bts at hx
  obtain ⟨p, _, hp⟩ := List.mem_flatMap.1 hx
  unfold Pc.bytes at hp
  exact hB x (List.mem_of_mem_drop (List.mem_of_mem_take hp))
set_option maxRecDepth 100000 in
set_option maxHeartbeats 2000000 in
theorem cut_nil (pc : Nat) (tag lim : Int) (a : Option Addr) (b o cap : Nat) (w : World) :
    Calls Tryd.prog 18 #[.int .u16 (pc : Nat), .int .i64 tag, .slice a 0 cap, .int .i64 lim] w fun e w' => CutOk w b o cap [] e w' := by
  go_enter Tryd.func18, Tryd.ntmps18
  go_upto_region 3 with fail
  have hb0 : Below w.heap.size w (w.alloc (.cells (pcC 0 0 0 0 0 0 (pc : Nat) none 0 0 0 0 0) 56)) := (Below.refl _ _).alloc (Nat.le_refl _) _
  generalize w.alloc (.cells (pcC 0 0 0 0 0 0 (pc : Nat) none 0 0 0 0 0) 56) = W0 at *
  go_loopw [2, 9] (fun c v wr => c = .slice a 0 cap ∧ v = .slice none 0 0 ∧ wr = W0) (fun c _ _ => lenV c)
  case atStart => exact ⟨rfl, rfl, rfl⟩
  case round =>
    obtain ⟨rfl, rfl, rfl⟩ := hrel
    go_wp2
    go_ret
    exact ⟨_, rfl, World.ownsRow_nil _ _ _ _, hb0⟩
theorem cutL_len (tag : Int) (L : List Nat) : ∀ f at' off num cyc : Nat, (cutL tag L f at' off num cyc).length ≤ f
  | 0, _, _, _, _ => by simp [cutL]
  | f + 1, at', off, num, cyc => by
    rw [cutL]
    split
    · split
      · split
        · simp
        · rw [List.length_cons]
          have := cutL_len tag L f ((at' + lnN (L.getD off 0)) % 65536) (off + lnN (L.getD off 0)) (num + 1) (cyc + cyN (L.getD off 0))
          omega
      · simp
    · simp
theorem cutL_nil (tag : Int) (f at' off num cyc : Nat) : cutL tag [] f at' off num cyc = [] := cutL_end (by simp)
/-- Where the code lies that is handed in. -/
structure CodeAt (w : World) (a : Option Addr) (cap : Nat) (L : List Nat) (b o : Nat) : Prop where
  at' : L = [] ∨ a = some ⟨b, o, none⟩
  c : Code w b o L
  lt : b < w.heap.size + 1
  le : L.length ≤ cap
  m : cap ≤ 140737488355328
  by' : Byts L
theorem CodeAt.on {w w' : World} {a : Option Addr} {cap : Nat} {L : List Nat} {b o : Nat} (h : CodeAt w a cap L b o) (hb : Below w.heap.size w w') : CodeAt w' a cap L b o := ⟨h.at', h.c.at hb, by have := h.lt; have := hb.size; omega, h.le, h.m, h.by'⟩
theorem cut_all (pc : Nat) (tag : Int) (lim : Nat) (L : List Nat) (a : Option Addr) (b o cap : Nat) (w : World) (hpc : pc < 65536) (hlim : lim ≤ 64) (hL : L.length ≤ 8192) (H : CodeAt w a cap L b o) :
    Calls Tryd.prog 18 #[.int .u16 (pc : Nat), .int .i64 tag, .slice a L.length cap, .int .i64 (lim : Nat)] w fun e w' => CutOk w b o cap (cutL tag L lim pc 0 0 0) e w' := by
  rcases H.at' with rfl | rfl
  · rw [cutL_nil]; exact cut_nil pc tag (lim : Nat) a b o cap w
  · exact cut_any pc tag lim L b o cap w hpc hlim hL H.le H.m H.by' H.c
/-- The error of Translate. -/
def trE (pc : Nat) (tag lim : Int) (n : Nat) : Int := if lim < 1 ∨ 64 < lim then 130 else if lieI (pc : Nat) tag = false then 2 else if endI (pc : Nat) tag - (pc : Nat) < (n : Nat) then 131 else 0
/-- The instructions of the block that Translate makes. -/
def trP (pc : Nat) (tag lim : Int) (L : List Nat) : List Pc := livL L (cutL tag L lim.toNat pc 0 0 0)
def blkC (pc tag : Int) (L : List Nat) (ps : List Pc) (ops : Value) : Array Value := #[.int .u16 pc, .int .i64 tag, .string (strB (bts L ps)), .int .i64 ((ps.length : Nat) : Int), ops, .int .i64 ((lst ps : Nat) : Int), .int .i64 (mst L ps)]
/-- What Translate hands back. -/
def TrOk (w : World) (pc : Nat) (tag lim : Int) (L : List Nat) (e : Ending) (w' : World) : Prop :=
  ∃ ops ps, e = .returned (.tuple #[.agg (blkC (if trE pc tag lim L.length = 0 then (pc : Nat) else 0) (if trE pc tag lim L.length = 0 then tag else 0) L ps ops), .int .i64 (trE pc tag lim L.length)]) ∧
    ps = (if trE pc tag lim L.length = 0 then trP pc tag lim L else []) ∧ w'.ownsRow w.heap.size 35 7 ops (mcs L ps).length (mflat (mcs L ps)) ∧ Below w.heap.size w w'
theorem end_bd (pc tag : Int) (h0 : 0 ≤ pc) : endI pc tag - pc ≤ 8192 := by
  unfold endI sizeI
  split <;> omega
end Go.Proofs.YtfdiplgjiidnbaaDoor
