/-
  Translate of six bytes; what XlateFlags asks.
-/
import Derived.Test.YtfdiplgjiidnbaaDoorXlSeen
set_option linter.unusedSimpArgs false
set_option linter.unusedVariables false
namespace Go.Proofs.YtfdiplgjiidnbaaDoor
open Go.RowKit Classical
abbrev six : List Nat := [169, 1, 169, 2, 234, 0]
theorem six_err : trE 32768 7 2 six.length = 0 := by kernel_rfl
theorem six_len : (mcs six (trP 32768 7 2 six)).length = 4 := by kernel_rfl
theorem six_one : (mflat (mcs six (trP 32768 7 2 six)))[11]? = some (.int .u8 0) := by kernel_rfl
theorem six_three : (mflat (mcs six (trP 32768 7 2 six)))[25]? = some (.int .u8 130) := by kernel_rfl
theorem tr_six (W : World) (b : Nat) (v : Value) (T : Tabs W) (RT : Rtab W) (hc : Code W b 0 six) (hlt : b < W.heap.size + 1) (hv : v = Value.slice (some ⟨b, 0, none⟩) 6 6) :
    Calls Tryd.prog 8 #[.int .u16 32768, .int .i64 7, v, .int .i64 2] W fun e w' => (∃ g z s x1 x2 x3, e = .returned (.tuple #[.agg #[.int .u16 32768, .int .i64 7, .string s, .int .i64 x1, .slice (some ⟨g, 0, none⟩) 4 z, .int .i64 x2, .int .i64 x3], .int .i64 0]) ∧ w'.cell? ⟨g, 11, none⟩ = some (.int .u8 0) ∧ w'.cell? ⟨g, 25, none⟩ = some (.int .u8 130)) ∧ Below W.heap.size W w' := by
  subst hv
  have hB : Byts six := fun x hx => by
    simp only [six, List.mem_cons, List.not_mem_nil, or_false] at hx
    omega
  have CA : CodeAt W (some ⟨b, 0, none⟩) 6 six b 0 := ⟨.inr rfl, hc, hlt, by simp, by omega, hB⟩
  have := translate_any 32768 7 2 six (some ⟨b, 0, none⟩) b 0 6 W (by omega) CA T RT
  refine this.mono ?_
  rintro e w' ⟨ops, ps, rfl, hps, hr, hb⟩
  rw [six_err, if_pos rfl] at hps
  subst hps
  rw [six_err, if_pos rfl, if_pos rfl]
  rw [six_len] at hr
  obtain ⟨g, z, rfl⟩ := orow_some hr (by omega)
  have c1 := orow_cell hr 11 (by omega)
  have c2 := orow_cell hr 25 (by omega)
  rw [six_one] at c1
  rw [six_three] at c2
  exact ⟨⟨g, z, _, _, _, _, rfl, c1, c2⟩, hb⟩
/-- What XlateFlags asks of the micro-ops of a block. -/
structure Fg (l : List Mic) (ni : Int) : Prop where
  z : ∀ (i : Nat) (m : Mic), l[i]? = some m → m.kd ≠ 4 → m.fl = 0
  a : ∀ (i : Nat) (m : Mic), l[i]? = some m → m.kd = 4 → ∃ x : Nat, m.fl = (x : Int) ∧ x < 256 ∧ ∀ b, b < 8 → x.testBit b = (hasB (st m.op) ((2 ^ b : Nat) : Int) && seenB m.num ((2 ^ b : Nat) : Int) (l.drop i))
  c : (((l.filter (fun m => m.kd = 4)).length : Nat) : Int) ≤ ni
theorem fg_of (P : Nat) (tag : Int) (s : Nat) (L : List Nat) (hP : P < 65536) (hs : s ≤ 64) (hB : Byts L) : Fg (bkOf P tag s L).l (bkOf P tag s L).ni := by
  have hok : ∀ p ∈ cutL tag L s P 0 0 0, Pok L p := cutL_ok hB _ _ _ _ _ hP (by omega) (by omega)
  have hbar := cutL_bar (tag := tag) (L := L) s P 0 0 0
  have hnum := (cutL_num (tag := tag) (L := L) s P 0 0 0).2
  have hf := flg_at L (cutL tag L s P 0 0 0) (fun p hp => ⟨(hok p hp).k8, hbar p hp⟩) hnum
  have hl : (bkOf P tag s L).l = mcs L (livL L (cutL tag L s P 0 0 0)) := rfl
  have hn : (bkOf P tag s L).ni = (((livL L (cutL tag L s P 0 0 0)).length : Nat) : Int) := rfl
  refine ⟨fun i m h k => (hf i m (hl ▸ h)).1 k, fun i m h k => ?_, ?_⟩
  · rw [hl]; exact (hf i m (hl ▸ h)).2 k
  · rw [hl, hn]
    have := alu_count L (livL L (cutL tag L s P 0 0 0)) (fun p hp => (livL_ok _ hok p hp).k8)
    omega
/-- A block of the law's own, and its list. -/
structure Ob (w : World) (C : Array Value) (q : Nat) (v : Value) (l : List Mic) (W : World) : Prop where
  b : Blk W q C 27
  r : W.ownsRow w.heap.size 35 7 v l.length (mflat l)
  hb : Below w.heap.size w W
theorem Ob.on {w W W' : World} {C : Array Value} {q : Nat} {v : Value} {l : List Mic} (h : Ob w C q v l W) (hb : Below W.heap.size W W') : Ob w C q v l W' := ⟨h.b.below h.b.lt hb, orow_keep h.r hb, h.hb.trans (hb.mono h.hb.size)⟩
theorem Ob.laid {w W : World} {C : Array Value} {v : Value} {l : List Mic} (r : W.ownsRow w.heap.size 35 7 v l.length (mflat l)) (hb : Below w.heap.size w W) : Ob w C W.heap.size v l (W.alloc (.cells C 27)) :=
  ⟨Blk.new W _ _, World.ownsRow.alloc r _, hb.alloc hb.size _⟩
def cntA (l : List Mic) (i : Nat) : Nat := ((l.take i).filter (fun m => m.kd = 4)).length
theorem cntA_step {l : List Mic} {i : Nat} {m : Mic} (h : l[i]? = some m) : cntA l (i + 1) = cntA l i + if m.kd = 4 then 1 else 0 := by
  unfold cntA
  rw [List.take_add_one, h, List.filter_append, List.length_append]
  by_cases e : m.kd = 4 <;> simp [e]
theorem cntA_le (l : List Mic) (i : Nat) : cntA l i ≤ i := by
  unfold cntA
  have h1 := List.length_filter_le (fun m : Mic => decide (m.kd = 4)) (l.take i)
  have h2 := List.length_take_le i l
  omega
end Go.Proofs.YtfdiplgjiidnbaaDoor
