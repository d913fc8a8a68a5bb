/-
  New, said outright: the board of a cartridge, and that it is valid.
-/
import Derived.Test.YtggphgmpdanliaaNB
import Derived.Test.YtggphgmpdanliaaYWr
set_option linter.unusedSimpArgs false
set_option linter.unusedVariables false
namespace Go.Proofs.Ytggphgmpdanliaa
open Go.RowKit Classical
/-- May a board carry these lengths? -/
def okP (p : Nat) : Bool := !(((p : Int) % 16384 != 0) || (((p : Int) == 0) || decide (1048576 < (p : Int))))
def okC (c : Nat) : Bool := !(((c : Int) % 8192 != 0) || decide (524288 < (c : Int)))
def carB (mp sub : Int) (p c : Nat) : Bool := lst mp sub && (okP p && okC c)
def zeroB : Bd := { kind := 0, sub := 0, hard := 0, work := false, prg := 0, chr := 0, chrRam := false, shift := 0, ctrl := 0, chrA := 0, chrB := 0, prgR := 0, last := 0, latch := 0, sel := 0, r := [0, 0, 0, 0, 0, 0, 0, 0], turn := 0, guard := 0, iLatch := 0, iCount := 0, iLoad := false, iOn := false, irq := false, epoch := 0 }
theorem zeroB_cells : zeroB.cells = Z31 := by kernel_rfl
def newK (mp sub ram nv : Int) (vert four : Bool) (p c : Nat) : Bd :=
  if mp = 1 then { nB0 mp sub ram nv vert four ((p : Int) / 16384) ((c : Int) / 8192) with shift := 16, ctrl := 12, last := -2 }
  else if mp = 4 then { nB0 mp sub ram nv vert four ((p : Int) / 16384) ((c : Int) / 8192) with r := [0, 2, 4, 5, 6, 7, 0, 1], guard := 128 }
  else nB0 mp sub ram nv vert four ((p : Int) / 16384) ((c : Int) / 8192)
/-- The board of a cartridge. -/
def newD (mp sub ram nv : Int) (vert four : Bool) (p c : Nat) : Bd := if carB mp sub p c then newK mp sub ram nv vert four p c else zeroB
def newE (mp sub : Int) (p c : Nat) : Int := if lst mp sub then (if okP p && okC c then 0 else 21) else 20
theorem newK_len (mp sub ram nv : Int) (vert four : Bool) (p c : Nat) : (newK mp sub ram nv vert four p c).r.length = 8 := by
  unfold newK
  (repeat' split) <;> rfl
theorem newD_len (mp sub ram nv : Int) (vert four : Bool) (p c : Nat) : (newD mp sub ram nv vert four p c).r.length = 8 := by
  unfold newD
  split
  · exact newK_len ..
  · rfl
theorem new_any (cs : Array Value) (mp sub ram nv : Int) (vert four : Bool) (x1 x2 : Option Addr) (p c k1 k2 : Nat) (C : IsN cs mp sub ram nv vert four x1 x2 p c k1 k2) (w : World) (hp : p ≤ 2000000) (hc : c ≤ 2000000) :
    Calls Try.prog 34 #[.agg cs] w fun e w' => e = .returned (.tuple #[.agg (newD mp sub ram nv vert four p c).cells, .int .i64 (newE mp sub p c)]) ∧ Below w.heap.size w w' := by
  unfold newD newE carB
  cases hl : lst mp sub
  · rw [if_neg (by simp), if_neg (by decide), zeroB_cells]
    exact new_bad1 cs mp sub ram nv vert four x1 x2 p c k1 k2 C w hl
  cases hP : okP p
  · rw [if_neg (by simp), if_pos rfl, if_neg (by simp), zeroB_cells]
    have h0 : ((((p : Int) % 16384 != 0) || (((p : Int) == 0) || decide (1048576 < (p : Int)))) = true) := by
      unfold okP at hP
      revert hP
      cases (((p : Int) % 16384 != 0) || (((p : Int) == 0) || decide (1048576 < (p : Int)))) <;> simp
    exact new_bad2 cs mp sub ram nv vert four x1 x2 p c k1 k2 C w hl hp hc _ _ rfl rfl (X_no h0)
  cases hC : okC c
  · rw [if_neg (by simp), if_pos rfl, if_neg (by simp), zeroB_cells]
    have h0 : ((((c : Int) % 8192 != 0) || decide (524288 < (c : Int))) = true) := by
      unfold okC at hC
      revert hC
      cases (((c : Int) % 8192 != 0) || decide (524288 < (c : Int))) <;> simp
    exact new_bad2 cs mp sub ram nv vert four x1 x2 p c k1 k2 C w hl hp hc _ _ rfl rfl (.inr (.inl (Y_no h0)))
  rw [if_pos (by simp), if_pos rfl, if_pos (by simp)]
  have hX : ((((p : Int) % 16384 != 0) || (((p : Int) == 0) || decide (1048576 < (p : Int)))) = false) := by simpa [okP] using hP
  have hY : ((((c : Int) % 8192 != 0) || decide (524288 < (c : Int))) = false) := by simpa [okC] using hC
  rcases lst_kinds' hl with rfl | rfl | rfl | rfl | rfl | rfl
  · exact new_0 cs sub ram nv vert four x1 x2 p c k1 k2 C w hl hp hc hX hY
  · exact new_1 cs sub ram nv vert four x1 x2 p c k1 k2 C w hl hp hc hX hY
  · exact new_2 cs sub ram nv vert four x1 x2 p c k1 k2 C w hl hp hc hX hY
  · exact new_3 cs sub ram nv vert four x1 x2 p c k1 k2 C w hl hp hc hX hY
  · exact new_4 cs sub ram nv vert four x1 x2 p c k1 k2 C w hl hp hc hX hY
  · exact new_7 cs sub ram nv vert four x1 x2 p c k1 k2 C w hl hp hc hX hY
theorem lst_sub {k s : Int} (h : lst k s = true) : 0 ≤ s ∧ s ≤ 5 := by
  unfold lst at h
  revert h
  (repeat' split) <;> simp <;> omega
/-- What a new board is like. -/
structure IsNew (b : Bd) (mp sub ram nv : Int) (vert four : Bool) (p c : Nat) : Prop where
  kind : b.kind = mp
  sub : b.sub = sub
  hard : b.hard = hardV vert four
  prg : b.prg = (p : Int) / 16384 * 2
  chr : b.chr = max ((c : Int) / 8192) 1 * 8
  ram : b.chrRam = ((c : Int) / 8192 == 0)
  epoch : b.epoch = 0
theorem newK_is (mp sub ram nv : Int) (vert four : Bool) (p c : Nat) : IsNew (newK mp sub ram nv vert four p c) mp sub ram nv vert four p c := by
  unfold newK
  (repeat' split) <;> exact ⟨rfl, rfl, rfl, rfl, rfl, rfl, rfl⟩
theorem okP_facts {p : Nat} (h : okP p = true) : (p : Int) % 16384 = 0 ∧ 0 < (p : Int) ∧ (p : Int) ≤ 1048576 := by
  simp [okP] at h
  omega
theorem okC_facts {c : Nat} (h : okC c = true) : (c : Int) % 8192 = 0 ∧ (c : Int) ≤ 524288 := by
  simp [okC] at h
  omega
theorem hardV_three (vert four : Bool) : hardV vert four = 0 ∨ hardV vert four = 1 ∨ hardV vert four = 4 := by
  cases vert <;> cases four <;> simp [hardV]
theorem newK_ok {mp sub : Int} (ram nv : Int) (vert four : Bool) {p c : Nat} (h : carB mp sub p c = true) : (newK mp sub ram nv vert four p c).Ok := by
  simp only [carB, Bool.and_eq_true] at h
  obtain ⟨hl, hP, hC⟩ := h
  obtain ⟨p1, p2, p3⟩ := okP_facts hP
  obtain ⟨c1, c2⟩ := okC_facts hC
  have hs := lst_sub hl
  have hd := hardV_three vert four
  have I := newK_is mp sub ram nv vert four p c
  have sz : sizes (newK mp sub ram nv vert four p c) = true := by
    simp only [sizes, szs, I.hard, I.prg, I.chr, I.ram, I.epoch, Bool.and_eq_true, Bool.or_eq_true, decide_eq_true_eq, beq_iff_eq, Bool.not_eq_true', beq_eq_false_iff_ne]
    have m1 : ((p : Int) / 16384 * 2).tmod 2 = 0 := by rw [Int.tmod_eq_emod_of_nonneg (by omega)]; omega
    have m2 : (max ((c : Int) / 8192) 1 * 8).tmod 8 = 0 := by rw [Int.tmod_eq_emod_of_nonneg (by omega)]; omega
    refine ⟨by omega, by omega, by omega, m1, by omega, by omega, m2, ?_, by omega, by omega⟩
    by_cases hz : (c : Int) / 8192 = 0
    · exact .inr (by rw [hz]; rfl)
    · exact .inl hz
  have wf : (newK mp sub ram nv vert four p c).Wf := by
    have e1 := I.kind
    have e2 := I.sub
    have e3 := I.hard
    have e4 := I.prg
    have e5 := I.chr
    have e6 := I.epoch
    have kk := lst_kinds' hl
    refine { kind := by rw [e1]; omega, sub := by rw [e2]; omega, hard := by rw [e3]; omega, prg := by rw [e4]; omega, chr := by rw [e5]; omega, epoch := by rw [e6]; omega, rlen := newK_len .., shift := ?_, ctrl := ?_, chrA := ?_, chrB := ?_, prgR := ?_, last := ?_, latch := ?_, sel := ?_, turn := ?_, guard := ?_, iLatch := ?_, iCount := ?_, rall := ?_ }
    all_goals
      unfold newK
      (repeat' split) <;> simp [nB0]
  refine Bd.ok wf ?_
  have hk := I.kind
  have hlk : lst (newK mp sub ram nv vert four p c).kind (newK mp sub ram nv vert four p c).sub = true := by rw [I.kind, I.sub]; exact hl
  rcases lst_kinds' hl with rfl | rfl | rfl | rfl | rfl | rfl
  · refine valid_mk (validB_0 hk) hlk ?_
    have E : bare 0 (newK 0 sub ram nv vert four p c) = newK 0 sub ram nv vert four p c := rfl
    simp only [val0, sameB_dec, E, sz, decide_true, Bool.and_self]
  · refine valid_mk (validB_1 hk) hlk ?_
    have E : n1 (newK 1 sub ram nv vert four p c) = newK 1 sub ram nv vert four p c := rfl
    have R0 : regs1 (newK 1 sub ram nv vert four p c) = true := rfl
    simp only [val1, sameB_dec, E, sz, R0, decide_true, Bool.and_self]
  · refine valid_mk (validB_2 hk) hlk ?_
    have E : nL 2 (newK 2 sub ram nv vert four p c) = newK 2 sub ram nv vert four p c := rfl
    simp only [val2, sameB_dec, E, sz, decide_true, Bool.and_self]
  · refine valid_mk (validB_3 hk) hlk ?_
    have E : nL 3 (newK 3 sub ram nv vert four p c) = newK 3 sub ram nv vert four p c := rfl
    simp only [val3, sameB_dec, E, sz, decide_true, Bool.and_self]
  · refine valid_mk (validB_4 hk) hlk ?_
    have E : n4 (newK 4 sub ram nv vert four p c) = newK 4 sub ram nv vert four p c := rfl
    have R0 : regs4 (newK 4 sub ram nv vert four p c) = true := by kernel_rfl
    simp only [val4, sameB_dec, E, sz, R0, decide_true, Bool.and_self]
  · refine valid_mk (validB_7 hk) hlk ?_
    have E : nL 7 (newK 7 sub ram nv vert four p c) = newK 7 sub ram nv vert four p c := rfl
    simp only [val7, sameB_dec, E, sz, decide_true, Bool.and_self]
end Go.Proofs.Ytggphgmpdanliaa
