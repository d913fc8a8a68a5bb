/-
  Scanline clocks one by one, on boards as plain values: n single clocks are the closed form; plain mathematics.
  The document's single scanline clock; conditions: eight bank registers, the counter and its latch are bytes.
  The document's Clock; conditions: the numbers of the board fit their kinds.
  The document's Clock where nothing is done, and its ToIrq; conditions: the numbers of the board fit their kinds.
-/
import Derived.Test.YtggphgmpdanliaaMC
import Derived.Deep.CutBlock
import Derived.Test.YtggphgmpdanliaaMValidR
namespace Go.Proofs.Ytggphgmpdanliaa
open Go.RowKit Classical
/-- The counter behind one clock; does it fire; the board behind one clock, and behind n. -/
def cnt1 (b : Bd) : Int := if b.iCount = 0 ∨ b.iLoad = true then b.iLatch else b.iCount - 1
def fire1 (b : Bd) : Bool := (cnt1 b == 0) && !((b.sub == 4) && ((b.iCount == 0) && !b.iLoad))
def clk1 (b : Bd) : Bd := { b with iCount := cnt1 b, irq := b.irq || (fire1 b && b.iOn), iLoad := false }
def it : Nat → Bd → Bd
  | 0, b => b
  | n + 1, b => clk1 (it n b)
/-- The counter behind n clocks. -/
def cN (c l n : Int) : Int := if n ≤ c then c - n else if 0 < (n - c).tmod (l + 1) then l + 1 - (n - c).tmod (l + 1) else 0
theorem mod_succ (d m : Int) (hd : 0 ≤ d) (hm : 0 < m) : (d + 1).tmod m = if d.tmod m + 1 = m then 0 else d.tmod m + 1 := by
  rw [Int.tmod_eq_emod_of_nonneg hd, Int.tmod_eq_emod_of_nonneg (by omega)]
  have h0 := Int.emod_nonneg d (show m ≠ 0 by omega)
  have h1 := Int.emod_lt_of_pos d hm
  have h2 := Int.mul_ediv_add_emod d m
  split
  · rename_i h
    have e : d + 1 = m * (d / m + 1) := by rw [Int.mul_add]; omega
    rw [e, Int.mul_emod_right]
  · have e : d + 1 = (d % m + 1) + m * (d / m) := by omega
    rw [e, Int.add_mul_emod_self_left, Int.emod_eq_of_lt (by omega) (by omega)]
theorem mod_bd (d m : Int) (hd : 0 ≤ d) (hm : 0 < m) : 0 ≤ d.tmod m ∧ d.tmod m < m := by
  rw [Int.tmod_eq_emod_of_nonneg hd]
  exact ⟨Int.emod_nonneg d (by omega), Int.emod_lt_of_pos d hm⟩
theorem mod_small (d m : Int) (hd : 0 ≤ d) (h : d < m) : d.tmod m = d := by
  rw [Int.tmod_eq_emod_of_nonneg hd, Int.emod_eq_of_lt hd h]
theorem mod_self (m : Int) (h : 0 ≤ m) : m.tmod m = 0 := by
  rw [Int.tmod_eq_emod_of_nonneg h, Int.emod_self]
theorem cN_step (c l n : Int) (hc : 0 ≤ c) (hl : 0 ≤ l) (_hn : 0 ≤ n) : cN c l (n + 1) = if cN c l n = 0 then l else cN c l n - 1 := by
  by_cases h1 : n + 1 ≤ c
  · have a : cN c l (n + 1) = c - (n + 1) := by unfold cN; rw [if_pos h1]
    have b : cN c l n = c - n := by unfold cN; rw [if_pos (by omega)]
    rw [a, b, if_neg (by omega)]; omega
  · by_cases h2 : n ≤ c
    · have en : n = c := by omega
      subst en
      have b : cN n l n = 0 := by unfold cN; rw [if_pos (by omega)]; omega
      rw [b, if_pos rfl]
      unfold cN
      rw [if_neg h1, show n + 1 - n = 1 by omega]
      by_cases h3 : l = 0
      · subst h3; rw [if_neg (by decide)]
      · rw [mod_small 1 (l + 1) (by omega) (by omega), if_pos (by omega)]; omega
    · have hm := mod_succ (n - c) (l + 1) (by omega) (by omega)
      have hb := mod_bd (n - c) (l + 1) (by omega) (by omega)
      unfold cN
      rw [if_neg h1, if_neg h2, show n + 1 - c = n - c + 1 by omega, hm]
      generalize (n - c).tmod (l + 1) = r at *
      split <;> split <;> split <;> omega
theorem cN_far (c l n : Int) (h : c < n) : cN c l n = if 0 < (n - c).tmod (l + 1) then l + 1 - (n - c).tmod (l + 1) else 0 := by
  unfold cN
  rw [if_neg (by omega)]
theorem cN_bd (c l n : Int) (hc : 0 ≤ c) (hl : 0 ≤ l) (hn : 0 ≤ n) : 0 ≤ cN c l n ∧ cN c l n ≤ max c l := by
  unfold cN
  by_cases h1 : n ≤ c
  · rw [if_pos h1]; omega
  · rw [if_neg h1]
    have hb := mod_bd (n - c) (l + 1) (by omega) (by omega)
    split <;> omega
theorem clkB_eq (b : Bd) (n : Int) (o : Bool) : clkB b n o = { b with iLoad := false, irq := b.irq || askV b (zeroV b o) n, iCount := cN b.iCount b.iLatch n } := rfl
/-- When the counter is 0 and the one before is not. -/
theorem fire_le (b : Bd) (o : Bool) (n : Int) (hc : 0 ≤ b.iCount) (hl : 0 ≤ b.iLatch) (hn : 1 ≤ n) (h0 : cN b.iCount b.iLatch (n + 1) = 0) (h1 : ¬ (o = true ∧ cN b.iCount b.iLatch n = 0)) :
    0 < zeroV b o ∧ zeroV b o ≤ n + 1 := by
  unfold zeroV
  by_cases c0 : 0 < b.iCount
  · rw [if_pos c0]
    refine ⟨c0, ?_⟩
    unfold cN at h0
    split at h0 <;> omega
  · have ec : b.iCount = 0 := by omega
    rw [if_neg c0]
    rw [ec] at h0 h1
    by_cases c1 : (o && ((b.iLatch == 0) && !b.iLoad)) = true
    · exfalso
      simp only [Bool.and_eq_true, beq_iff_eq] at c1
      refine h1 ⟨c1.1, ?_⟩
      rw [c1.2.1]
      unfold cN
      rw [if_neg (by omega)]
      have := mod_bd (n - 0) (0 + 1) (by omega) (by omega)
      rw [if_neg (by omega)]
    · rw [if_neg c1]
      refine ⟨by omega, ?_⟩
      unfold cN at h0
      rw [if_neg (by omega)] at h0
      have hb := mod_bd (n + 1 - 0) (b.iLatch + 1) (by omega) (by omega)
      by_cases c2 : b.iLatch + 1 ≤ n + 1
      · exact c2
      · rw [mod_small (n + 1 - 0) (b.iLatch + 1) (by omega) (by omega), if_pos (by omega)] at h0
        omega
theorem fire_at (b : Bd) (o : Bool) (n : Int) (hc : 0 ≤ b.iCount) (_hl : 0 ≤ b.iLatch) (hn : 1 ≤ n) (hk : zeroV b o = n + 1) :
    cN b.iCount b.iLatch (n + 1) = 0 ∧ cN b.iCount b.iLatch n ≠ 0 := by
  unfold zeroV at hk
  by_cases c0 : 0 < b.iCount
  · rw [if_pos c0] at hk
    unfold cN
    rw [if_pos (by omega), if_pos (by omega)]
    omega
  · have ec : b.iCount = 0 := by omega
    rw [if_neg c0] at hk
    split at hk
    · omega
    · rw [ec, cN_far 0 _ (n + 1) (by omega), cN_far 0 _ n (by omega), show n + 1 - 0 = b.iLatch + 1 by omega, mod_self _ (by omega), mod_small (n - 0) (b.iLatch + 1) (by omega) (by omega), if_neg (by omega), if_pos (by omega)]
      omega
theorem it_sub (n : Nat) (b : Bd) : (it n b).sub = b.sub := by
  induction n with
  | zero => rfl
  | succ n ih => exact ih
theorem irq_step (i o : Bool) (p q f : Bool) (h1 : o = true → f = true → q = true) (h2 : p = true → q = true) (h3 : o = true → q = true → p = false → f = true) :
    ((i || (o && p)) || (f && o)) = (i || (o && q)) := by
  revert h1 h2 h3
  cases i <;> cases o <;> cases p <;> cases q <;> cases f <;> simp
theorem it_one (b : Bd) (hc : 0 ≤ b.iCount ∧ b.iCount ≤ 255) (hl : 0 ≤ b.iLatch ∧ b.iLatch ≤ 255) (hf : b.iLoad = true → b.iCount = 0) : clk1 b = clkB b 1 (b.sub == 4) := by
  have e1 : cnt1 b = cN b.iCount b.iLatch 1 := by
    have h := cN_step b.iCount b.iLatch 0 hc.1 hl.1 (by omega)
    have h0 : cN b.iCount b.iLatch 0 = b.iCount := by unfold cN; rw [if_pos hc.1]; omega
    rw [h0] at h
    rw [show (0 : Int) + 1 = 1 from rfl] at h
    rw [h]
    unfold cnt1
    by_cases c0 : b.iCount = 0
    · rw [if_pos (Or.inl c0), if_pos c0]
    · rw [if_neg c0, if_neg (by rintro (h | h); exact c0 h; exact c0 (hf h))]
  have e2 : (b.irq || (fire1 b && b.iOn)) = (b.irq || askV b (zeroV b (b.sub == 4)) 1) := by
    unfold askV
    have key : fire1 b = (decide (0 < zeroV b (b.sub == 4)) && decide (zeroV b (b.sub == 4) ≤ 1)) := by
      unfold fire1 zeroV cnt1
      by_cases c0 : 0 < b.iCount
      · have hL : b.iLoad = false := by
          cases h : b.iLoad
          · rfl
          · have := hf h; omega
        have hz : (b.iCount == 0) = false := beq_eq_false_iff_ne.2 (by omega)
        rw [if_pos c0, if_neg (by rw [hL]; simp; omega), hz, hL]
        simp only [Bool.and_false, Bool.not_false, Bool.and_true]
        rw [Bool.eq_iff_iff]; simp; omega
      · have ec : b.iCount = 0 := by omega
        rw [if_neg c0, if_pos (Or.inl ec), ec]
        by_cases l0 : b.iLatch = 0
        · rw [l0]
          cases b.iLoad <;> cases h4 : (b.sub == 4) <;> simp
        · have z : (b.iLatch == 0) = false := beq_eq_false_iff_ne.2 l0
          rw [z]
          simp only [Bool.false_and, Bool.and_false, Bool.false_eq_true, if_false]
          rw [Bool.eq_iff_iff]; simp; omega
    rw [key]
    cases b.irq <;> cases b.iOn <;> simp
  rw [clkB_eq]
  unfold clk1
  rw [e1, e2]
theorem it_pos (b : Bd) (hc : 0 ≤ b.iCount ∧ b.iCount ≤ 255) (hl : 0 ≤ b.iLatch ∧ b.iLatch ≤ 255) (hf : b.iLoad = true → b.iCount = 0) : ∀ n : Nat, 1 ≤ n → it n b = clkB b n (b.sub == 4)
  | 0, h => absurd h (by decide)
  | 1, _ => it_one b hc hl hf
  | n + 2, _ => by
    have ih := it_pos b hc hl hf (n + 1) (by omega)
    show clk1 (it (n + 1) b) = _
    rw [ih, clkB_eq, clkB_eq]
    have hn : (1 : Int) ≤ ((n + 1 : Nat) : Int) := by omega
    have en : ((n + 2 : Nat) : Int) = ((n + 1 : Nat) : Int) + 1 := by omega
    rw [en]
    generalize ((n + 1 : Nat) : Int) = k at *
    have hs := cN_step b.iCount b.iLatch k hc.1 hl.1 (by omega)
    unfold clk1 fire1 cnt1
    simp only [Bool.false_eq_true, or_false, Bool.not_false, Bool.and_true]
    rw [← hs]
    congr 1
    refine irq_step _ _ _ _ _ ?_ ?_ ?_
    · intro _ h
      simp only [Bool.and_eq_true, beq_iff_eq, Bool.not_eq_true', Bool.and_eq_false_imp] at h
      have := fire_le b (b.sub == 4) k hc.1 hl.1 hn h.1 (by rintro ⟨q1, q2⟩; have := h.2 (by simpa using q1); simp [q2] at this)
      simp [this.1, this.2]
    · intro h
      simp only [Bool.and_eq_true, decide_eq_true_eq] at h ⊢
      exact ⟨h.1, by omega⟩
    · intro _ h h'
      simp only [Bool.and_eq_true, decide_eq_true_eq, Bool.and_eq_false_imp, decide_eq_false_iff_not] at h h'
      have e : zeroV b (b.sub == 4) = k + 1 := by have := h' h.1; omega
      obtain ⟨q1, q2⟩ := fire_at b _ k hc.1 hl.1 hn e
      simp [q1, q2]
/-- Of a great n the whole rounds may be left out. -/
theorem clkB_cut (b : Bd) (n : Int) (o : Bool) (hc : 0 ≤ b.iCount ∧ b.iCount ≤ 255) (hl : 0 ≤ b.iLatch ∧ b.iLatch ≤ 255) (hn : 1200 < n) : clkB b (600 + (n - 600).tmod (b.iLatch + 1)) o = clkB b n o := by
  have hb := mod_bd (n - 600) (b.iLatch + 1) (by omega) (by omega)
  have hz : zeroV b o ≤ 256 := by unfold zeroV; split <;> (try split) <;> omega
  rw [clkB_eq, clkB_eq]
  have e1 : askV b (zeroV b o) (600 + (n - 600).tmod (b.iLatch + 1)) = askV b (zeroV b o) n := by
    unfold askV
    rw [decide_eq_true (show zeroV b o ≤ 600 + (n - 600).tmod (b.iLatch + 1) by omega), decide_eq_true (show zeroV b o ≤ n by omega)]
  have e2 : cN b.iCount b.iLatch (600 + (n - 600).tmod (b.iLatch + 1)) = cN b.iCount b.iLatch n := by
    have q : (600 + (n - 600).tmod (b.iLatch + 1) - b.iCount).tmod (b.iLatch + 1) = (n - b.iCount).tmod (b.iLatch + 1) := by
      rw [Int.tmod_eq_emod_of_nonneg (show 0 ≤ n - 600 by omega)] at hb ⊢
      rw [Int.tmod_eq_emod_of_nonneg (by omega), Int.tmod_eq_emod_of_nonneg (by omega)]
      have e : n - b.iCount = (600 + (n - 600) % (b.iLatch + 1) - b.iCount) + (b.iLatch + 1) * ((n - 600) / (b.iLatch + 1)) := by
        have := Int.mul_ediv_add_emod (n - 600) (b.iLatch + 1)
        omega
      rw [e, Int.add_mul_emod_self_left]
    rw [cN_far _ _ n (by omega), cN_far _ _ _ (by omega), q]
  rw [e1, e2]
theorem it_irq (b : Bd) (hc : 0 ≤ b.iCount ∧ b.iCount ≤ 255) (hl : 0 ≤ b.iLatch ∧ b.iLatch ≤ 255) (hf : b.iLoad = true → b.iCount = 0) (n : Nat) : (it n b).irq = (b.irq || askV b (zeroV b (b.sub == 4)) n) := by
  by_cases h : 1 ≤ n
  · rw [it_pos b hc hl hf n h]; rfl
  · obtain rfl : n = 0 := by omega
    show b.irq = _
    have : askV b (zeroV b (b.sub == 4)) ((0 : Nat) : Int) = false := by
      unfold askV
      cases b.iOn
      · rfl
      · simp
    rw [this, Bool.or_false]
theorem irq_first (b : Bd) (hc : 0 ≤ b.iCount ∧ b.iCount ≤ 255) (hl : 0 ≤ b.iLatch ∧ b.iLatch ≤ 255) (hf : b.iLoad = true → b.iCount = 0) (k : Nat) (h1 : (it k b).irq = true) (h0 : ∀ j, j < k → (it j b).irq = false) : irqV b = (k : Int) := by
  rw [it_irq b hc hl hf] at h1
  unfold irqV
  cases hi : b.irq
  · rw [hi] at h1
    simp only [Bool.false_or, askV, Bool.and_eq_true, decide_eq_true_eq] at h1
    rw [h1.1]
    simp only [Bool.false_eq_true, if_false, Bool.not_true]
    by_cases e : zeroV b (b.sub == 4) = (k : Int)
    · exact e
    · exfalso
      have hj := h0 (zeroV b (b.sub == 4)).toNat (by omega)
      rw [it_irq b hc hl hf, hi] at hj
      simp only [Bool.false_or, askV, h1.1, Bool.true_and] at hj
      rw [decide_eq_true h1.2.1, decide_eq_true (by omega)] at hj
      exact absurd hj (by decide)
  · rw [if_pos rfl]
    by_cases e : k = 0
    · subst e; rfl
    · have := h0 0 (by omega)
      rw [show (it 0 b).irq = b.irq from rfl, hi] at this
      exact absurd this (by decide)
theorem irq_never (b : Bd) (hc : 0 ≤ b.iCount ∧ b.iCount ≤ 255) (hl : 0 ≤ b.iLatch ∧ b.iLatch ≤ 255) (hf : b.iLoad = true → b.iCount = 0) (h0 : ∀ j, j < 601 → (it j b).irq = false) : irqV b = -1 := by
  have hz : zeroV b (b.sub == 4) ≤ 256 := by unfold zeroV; split <;> (try split) <;> omega
  have hz1 : 0 < zeroV b (b.sub == 4) ∨ zeroV b (b.sub == 4) = -1 := by unfold zeroV; split <;> (try split) <;> omega
  have hi : b.irq = false := h0 0 (by omega)
  unfold irqV
  rw [hi]
  simp only [Bool.false_eq_true, if_false]
  cases ho : b.iOn
  · rfl
  · simp only [Bool.not_true, Bool.false_eq_true, if_false]
    rcases hz1 with hz1 | hz1
    · exfalso
      have hj := h0 600 (by omega)
      rw [it_irq b hc hl hf, hi] at hj
      simp only [Bool.false_or, askV, ho, Bool.true_and] at hj
      rw [decide_eq_true hz1, decide_eq_true (by omega)] at hj
      exact absurd hj (by decide)
    · exact hz1
end Go.Proofs.Ytggphgmpdanliaa
namespace Go.Proofs.Ytggphgmpdanliaa
open Go.RowKit Classical
theorem cells_26 (b : Bd) (hr : b.r.length = 8) (v : Int) : b.cells.setIfInBounds 26 (.int .u8 v) = ({ b with iCount := v } : Bd).cells := by
  obtain ⟨a0, a1, a2, a3, a4, a5, a6, a7, er⟩ := Bd.eight hr
  unfold Bd.cells
  rw [er]
  rfl
theorem cells_27 (b : Bd) (hr : b.r.length = 8) (v : Bool) : b.cells.setIfInBounds 27 (.bool v) = ({ b with iLoad := v } : Bd).cells := by
  obtain ⟨a0, a1, a2, a3, a4, a5, a6, a7, er⟩ := Bd.eight hr
  unfold Bd.cells
  rw [er]
  rfl
theorem cells_29 (b : Bd) (hr : b.r.length = 8) (v : Bool) : b.cells.setIfInBounds 29 (.bool v) = ({ b with irq := v } : Bd).cells := by
  obtain ⟨a0, a1, a2, a3, a4, a5, a6, a7, er⟩ := Bd.eight hr
  unfold Bd.cells
  rw [er]
  rfl
set_option maxRecDepth 100000 in
set_option maxHeartbeats 1000000 in
theorem rclock_any (w : World) (b : Bd) (hr : b.r.length = 8) (hc : 0 ≤ b.iCount ∧ b.iCount ≤ 255) (_hl : 0 ≤ b.iLatch ∧ b.iLatch ≤ 255) :
    Calls Try.prog 62 #[.agg b.cells] w fun e w' => e = .returned (.agg (clk1 b).cells) ∧ Below w.heap.size w w' := by
  have C := isB b hr
  have HB : Hid _ := hr
  have HCB : Hid _ := hc
  generalize hcs : b.cells = cs at C
  have HCS : Hid _ := hcs
  have hsz := C.size
  clear hcs hr _hl hc
  go_enter Try.func62, Try.ntmps62
  go_upto_region 1 with fail
  change Code.wp _ _ _ _ ((w.alloc (.cells cs 28)).alloc (.cells Z31 28))
  have b0 : Blk ((w.alloc (.cells cs 28)).alloc (.cells Z31 28)) w.heap.size cs 28 := (Blk.new w cs _).old _
  have z0 : Blk ((w.alloc (.cells cs 28)).alloc (.cells Z31 28)) (w.heap.size + 1) Z31 28 := by
    have := Blk.new (w.alloc (.cells cs 28)) Z31 28
    rwa [World.size_alloc] at this
  have hb0 : Below w.heap.size w ((w.alloc (.cells cs 28)).alloc (.cells Z31 28)) := ((Below.refl _ _).alloc (Nat.le_refl _) _).alloc (by simp) _
  generalize (w.alloc (.cells cs 28)).alloc (.cells Z31 28) = W0 at *
  have d25 := (b0.cell 25).trans C.h25
  have d26 := (b0.cell 26).trans C.h26
  have d27 := (b0.cell 27).trans C.h27
  have f26 := b0.free 26
  clear C hsz
  go_upto_region 3 with fail
  go_cut [3, 14] (fun q3 q wx => q3 = .int .u8 b.iCount ∧ q = .bool ((b.iCount == 0) || b.iLoad) ∧ W0 = wx)
  case first =>
    by_cases c0 : b.iCount = 0
    · have K : Hid _ := c0
      go_wp2
      go_meet
      exact ⟨by rw [K.out], by rw [K.out]; rfl, rfl⟩
    · have K : Hid _ := c0
      go_wp2
      go_meet
      exact ⟨rfl, by first | rfl | simp [K.out], rfl⟩
  case rest =>
  obtain ⟨rfl, rfl, rfl⟩ := hcut
  go_upto_if 14 with fail
  go_cut [] (fun wx => Blk wx w.heap.size ({ b with iCount := cnt1 b } : Bd).cells 28 ∧ Blk wx (w.heap.size + 1) Z31 28 ∧ Below w.heap.size w wx)
  case first =>
    cases c0 : ((b.iCount == 0) || b.iLoad)
    · have e : cnt1 b = b.iCount - 1 := by
        unfold cnt1
        rw [if_neg (by simpa using c0)]
      have hc0 : b.iCount ≠ 0 := by intro h; simp [h] at c0
      have ew : IntKind.u8.wrap (b.iCount - 1) = cnt1 b := by rw [e, IntKind.wrap_u8]; have := HCB.out; omega
      have ew' : (b.iCount - 1) % 256 = cnt1 b := by rw [e]; have := HCB.out; omega
      clear hc0 e
      go_wp2
      go_meet
      exact ⟨by have q := b0.set 26 (.int .u8 (cnt1 b)); rw [← HCS.out, cells_26 b HB.out] at q; exact q, z0.other (by omega) _ _, hb0.setCell (Nat.le_refl _) _⟩
    · have e : cnt1 b = b.iLatch := by
        unfold cnt1
        rw [if_pos (by simpa using c0)]
      have EH : Hid _ := e
      clear e
      go_wp2
      go_meet
      exact ⟨by have q := b0.set 26 (.int .u8 (cnt1 b)); rw [← HCS.out, cells_26 b HB.out] at q; rw [EH.out] at q ⊢; exact q, z0.other (by omega) _ _, hb0.setCell (Nat.le_refl _) _⟩
  case rest =>
  clear b0 z0 hb0 d25 d26 d27 f26
  obtain ⟨b1, z1, hb1⟩ := hcut
  have C1 := isB ({ b with iCount := cnt1 b } : Bd) HB.out
  have d1 := (b1.cell 1).trans C1.h1
  have d26 : wc.cell? ⟨w.heap.size, 26, none⟩ = some (.int .u8 (cnt1 b)) := (b1.cell 26).trans C1.h26
  have d28 := (b1.cell 28).trans C1.h28
  have d29 := (b1.cell 29).trans C1.h29
  have f29 := b1.free 29
  dsimp only at d1 d28 d29
  clear C1
  obtain ⟨W1, hW1⟩ : ∃ x, x = wc := ⟨wc, rfl⟩
  subst hW1
  go_upto_region 7 with fail
  go_cut [3, 35] (fun q3 q wx => q3 = .int .u8 b.iCount ∧ q = .bool ((b.sub == 4) && ((b.iCount == 0) && !b.iLoad)) ∧ W1 = wx)
  case first =>
    by_cases c1 : b.sub = 4
    · have K1 : Hid _ := c1
      by_cases c0 : b.iCount = 0
      · have K0 : Hid _ := c0
        go_wp2
        go_meet
        exact ⟨by rw [K0.out], by simp [c0, c1], rfl⟩
      · have K0 : Hid _ := c0
        go_wp2
        go_meet
        exact ⟨rfl, by simp [c0, c1], rfl⟩
    · have K1 : Hid _ := c1
      go_wp2
      go_meet
      exact ⟨rfl, by simp [c1], rfl⟩
  case rest =>
  obtain ⟨rfl, rfl, rfl⟩ := hcut
  go_upto_if 35 with fail
  go_cut [5] (fun q wx => q = .bool (fire1 b) ∧ W1 = wx)
  case first =>
    have e : fire1 b = ((cnt1 b == 0) && !((b.sub == 4) && ((b.iCount == 0) && !b.iLoad))) := rfl
    have EH : Hid _ := e
    clear e
    cases c : ((b.sub == 4) && ((b.iCount == 0) && !b.iLoad))
    · have CH : Hid _ := c
      go_wp2
      go_meet
      exact ⟨by rw [EH.out, CH.out]; simp, rfl⟩
    · have CH : Hid _ := c
      go_wp2
      go_meet
      exact ⟨by rw [EH.out, CH.out]; simp, rfl⟩
  case rest =>
  obtain ⟨rfl, rfl⟩ := hcut
  go_upto_region 9 with fail
  go_cut [5, 40] (fun _ q wx => q = .bool (fire1 b && b.iOn) ∧ W1 = wx)
  case first =>
    cases c : fire1 b
    · have CH : Hid _ := c
      go_wp2
      go_meet
      exact ⟨by first | rfl | (rw [CH.out]; rfl), rfl⟩
    · have CH : Hid _ := c
      go_wp2
      go_meet
      exact ⟨by first | rfl | (rw [CH.out]; rfl), rfl⟩
  case rest =>
  obtain ⟨rfl, rfl⟩ := hcut
  go_upto_if 40 with fail
  go_cut [] (fun wx => Blk wx w.heap.size ({ b with iCount := cnt1 b, irq := b.irq || (fire1 b && b.iOn) } : Bd).cells 28 ∧ Blk wx (w.heap.size + 1) Z31 28 ∧ Below w.heap.size w wx)
  case first =>
    cases c : (fire1 b && b.iOn)
    · have CH : Hid _ := c
      go_wp2
      go_meet
      exact ⟨by rw [CH.out, Bool.or_false]; exact b1, z1, hb1⟩
    · have CH : Hid _ := c
      go_wp2
      go_meet
      exact ⟨by have q := b1.set 29 (.bool true); rw [cells_29 ({ b with iCount := cnt1 b } : Bd) HB.out] at q; rw [CH.out, Bool.or_true]; exact q, z1.other (by omega) _ _, hb1.setCell (Nat.le_refl _) _⟩
  case rest =>
  clear b1 z1 hb1 d1 d26 d28 d29 f29
  obtain ⟨b1, z1, hb1⟩ := hcut
  have f27 := b1.free 27
  have h27 := (b1.cell 27).trans (isB ({ b with iCount := cnt1 b, irq := b.irq || (fire1 b && b.iOn) } : Bd) HB.out).h27
  go_upto_region 11 with fail
  go_cut [] (fun wx => Blk wx w.heap.size (clk1 b).cells 28 ∧ Blk wx (w.heap.size + 1) Z31 28 ∧ Below w.heap.size w wx)
  case first =>
    go_wp2
    go_meet
    exact ⟨by have q := b1.set 27 (.bool false); rw [cells_27 ({ b with iCount := cnt1 b, irq := b.irq || (fire1 b && b.iOn) } : Bd) HB.out] at q; exact q, z1.other (by omega) _ _, hb1.setCell (Nat.le_refl _) _⟩
  case rest =>
  clear b1 z1 hb1 f27 h27
  obtain ⟨b1, z1, hb1⟩ := hcut
  have Hs : Hid _ := (isB (clk1 b) HB.out).size
  have H1 : Hid _ := (isB (clk1 b) HB.out).one
  generalize hL : (clk1 b).cells = L at *
  have HL : Hid _ := hL
  clear hL
  go_wp2_with (first
    | refine wpList_load_mid rfl 28 _ rfl w.heap.size 0 rfl L.toList _ b1.range Try.underlying28 rfl (by rw [Array.length_toList, Hs.out]; exact Try.infoBoard) ?_
    | refine wpList_store_mid rfl 28 _ _ rfl (w.heap.size + 1) 0 L rfl rfl (by exact z1.there _ Hs.out.symm) (by rw [Hs.out]; exact Try.infoBoard) H1.out ?_)
  exact ret_agg (m := w.heap.size + 1) (L := L) Try.results62 (by rfl) (z1.setAll L Hs.out) Try.underlying28 rfl (by rw [Hs.out]; exact Try.infoBoard) ⟨by rw [HL.out], setCells_below (Nat.le_succ _) _ _ _ _ hb1⟩
end Go.Proofs.Ytggphgmpdanliaa
namespace Go.Proofs.Ytggphgmpdanliaa
open Go.RowKit Classical
theorem it_r (n : Nat) (b : Bd) : (it n b).r = b.r := by
  induction n with
  | zero => rfl
  | succ n ih => exact ih
theorem it_latch (n : Nat) (b : Bd) : (it n b).iLatch = b.iLatch := by
  induction n with
  | zero => rfl
  | succ n ih => exact ih
theorem it_kind (n : Nat) (b : Bd) : (it n b).kind = b.kind := by
  induction n with
  | zero => rfl
  | succ n ih => exact ih
theorem it_count (n : Nat) (b : Bd) (hc : 0 ≤ b.iCount ∧ b.iCount ≤ 255) (hl : 0 ≤ b.iLatch ∧ b.iLatch ≤ 255) : 0 ≤ (it n b).iCount ∧ (it n b).iCount ≤ 255 := by
  induction n with
  | zero => exact hc
  | succ n ih =>
    show 0 ≤ cnt1 (it n b) ∧ cnt1 (it n b) ≤ 255
    unfold cnt1
    rw [it_latch]
    split
    · exact hl
    · rename_i h
      have : (it n b).iCount ≠ 0 := fun e => h (Or.inl e)
      omega
theorem valid_fits {b : Bd} (hv : validB b = true) (hk : b.kind = 4) : b.iLoad = true → b.iCount = 0 := by
  intro h
  rw [validB_4 hk] at hv
  simp only [val4, sameB_dec, regs4, fitsV, Bool.and_eq_true] at hv
  have := hv.2.2.2.2.2.2.1
  rw [h] at this
  simpa using this
/-- How many clocks are made. -/
def fewer (b : Bd) (n : Int) : Int := if 1200 < n then 600 + (n - 600).tmod (b.iLatch + 1) else n
set_option maxRecDepth 100000 in
set_option maxHeartbeats 1000000 in
theorem rClock_4 (w : World) (b : Bd) (n : Int) (B : b.Wf) (hn : 0 < n ∧ n ≤ 9223372036854775807) (hk : b.kind = 4) (hv : validB b = true) :
    Calls Try.prog 37 #[.agg b.cells, .int .i64 n] w fun e w' => e = .returned (.agg (clkB b n (b.sub == 4)).cells) ∧ Below w.heap.size w w' := by
  have hr := B.rlen
  have C := isB b hr
  have RV := fun W => refValid_any W b B
  rw [hv] at RV
  have hN1 : 1 ≤ fewer b n ∧ fewer b n ≤ n := by
    unfold fewer
    split
    · have hl := B.iLatch
      have := mod_bd (n - 600) (b.iLatch + 1) (by omega) (by omega)
      omega
    · omega
  have hE : clkB b (fewer b n) (b.sub == 4) = clkB b n (b.sub == 4) := by
    unfold fewer
    split
    · exact clkB_cut b n _ B.iCount B.iLatch (by omega)
    · rfl
  obtain ⟨N, hN⟩ := Int.eq_ofNat_of_zero_le (show 0 ≤ fewer b n by omega)
  have hIt : it N b = clkB b n (b.sub == 4) := by
    rw [it_pos b B.iCount B.iLatch (valid_fits hv hk) N (by omega), ← hN, hE]
  have HIt : Hid _ := hIt
  have HNh : Hid _ := hN
  have HN1 : Hid _ := hN1
  have HB : Hid _ := B
  have HBN : Hid _ := hn
  have RC : Hid (∀ (k : Nat) (W : World), Calls Try.prog 62 #[.agg (it k b).cells] W fun e w' => e = .returned (.agg (it (k + 1) b).cells) ∧ Below W.heap.size W w') := fun k W =>
    rclock_any W (it k b) (by rw [it_r]; exact hr) (it_count k b B.iCount B.iLatch) (by rw [it_latch]; exact B.iLatch)
  generalize hcs : b.cells = cs at C RV
  have HCS : Hid _ := hcs
  have hsz := C.size
  have HS : Hid _ := hsz
  have HO : Hid _ := RV
  have d25h : Hid _ := C.h25
  have d0h : cs[0]? = some (.int .i64 4) := by rw [C.h0, hk]
  have n0 : decide (n ≤ 0) = false := decide_eq_false (by omega)
  clear RV hcs hv hk hr hE hN hN1 hIt hn
  go_enter Try.func37, Try.ntmps37
  go_upto_region 1 with fail
  change Code.wp _ _ _ _ ((w.alloc (.cells cs 28)).alloc (.cells Z31 28))
  have b0 : Blk ((w.alloc (.cells cs 28)).alloc (.cells Z31 28)) w.heap.size cs 28 := (Blk.new w cs _).old _
  have z0 : Blk ((w.alloc (.cells cs 28)).alloc (.cells Z31 28)) (w.heap.size + 1) Z31 28 := by
    have := Blk.new (w.alloc (.cells cs 28)) Z31 28
    rwa [World.size_alloc] at this
  have hb0 : Below w.heap.size w ((w.alloc (.cells cs 28)).alloc (.cells Z31 28)) := ((Below.refl _ _).alloc (Nat.le_refl _) _).alloc (by simp) _
  generalize (w.alloc (.cells cs 28)).alloc (.cells Z31 28) = W0 at *
  clear C hsz
  go_cut [17] (fun q wx => q = .bool false ∧ Blk wx w.heap.size cs 28 ∧ Blk wx (w.heap.size + 1) Z31 28 ∧ Below w.heap.size w wx)
  case first =>
    go_wp2_with (first
      | refine wpList_load_mid rfl 28 _ rfl w.heap.size 0 rfl cs.toList _ b0.range Try.underlying28 rfl (by rw [Array.length_toList, HS.out]; exact Try.infoBoard) ?_
      | (go_at_call 42; refine (HO.out W0).mono ?_; rintro e W1 ⟨rfl, hb1⟩; have b1 := b0.below b0.lt hb1; have d0 := (b1.cell 0).trans d0h))
    go_meet
    exact ⟨rfl, b1, z0.below z0.lt hb1, hb0.trans (hb1.mono hb0.size)⟩
  case rest =>
  clear b0 z0 hb0 n0 d0h
  obtain ⟨rfl, b0, z0, hb0⟩ := hcut
  have d25 := (b0.cell 25).trans d25h.out
  obtain ⟨W1, hW1⟩ : ∃ x, x = wc := ⟨wc, rfl⟩
  subst hW1
  go_upto_if 20 with fail
  go_cut [1] (fun q wx => q = .int .i64 (fewer b n) ∧ W1 = wx)
  case first =>
    by_cases c : 1200 < n
    · have e : fewer b n = 600 + (n - 600).tmod (b.iLatch + 1) := by unfold fewer; rw [if_pos c]
      have EH : Hid _ := e
      have hl := HB.out.iLatch
      have hn := HBN.out
      have hm := mod_bd (n - 600) (b.iLatch + 1) (by omega) (by omega)
      clear e
      go_wp2
      go_meet
      exact ⟨by rw [EH.out, ← Int.tmod_eq_emod_of_nonneg (by omega), IntWalk.wrap64_in _ ⟨by omega, by omega⟩], rfl⟩
    · have e : fewer b n = n := by unfold fewer; rw [if_neg c]
      have EH : Hid _ := e
      clear e
      go_wp2
      go_meet
      exact ⟨by rw [EH.out], rfl⟩
  case rest =>
  obtain ⟨rfl, rfl⟩ := hcut
  rw [HNh.out]
  have hNb : (N : Int) ≤ 9223372036854775807 := by have h1 := HN1.out; have h2 := HBN.out; rw [HNh.out] at h1; omega
  clear d25
  go_wp2
  go_loopw [5] (fun i wr => ∃ k : Nat, k ≤ N ∧ i = .int .i64 k ∧ Blk wr w.heap.size (it k b).cells 28 ∧ Blk wr (w.heap.size + 1) Z31 28 ∧ Below w.heap.size w wr) (fun i _ => N - (intOf i).toNat)
  case atStart => exact ⟨0, by omega, rfl, by rw [show it 0 b = b from rfl, HCS.out]; exact b0, z0, hb0⟩
  case round =>
    clear b0 z0 hb0
    obtain ⟨k, hk, rfl, bk, zk, hbk⟩ := hrel
    have HB' := fun j : Nat => isB (it j b) (by rw [it_r]; exact HB.out.rlen)
    have Hs : Hid _ := (HB' k).size
    by_cases hkN : k = N
    · subst hkN
      have H1 : Hid _ := (HB' k).one
      generalize hL : (it k b).cells = L at *
      have HL : Hid _ := hL
      clear hL HB'
      go_wp2_with (first
        | refine wpList_load_mid rfl 28 _ rfl w.heap.size 0 rfl L.toList _ bk.range Try.underlying28 rfl (by rw [Array.length_toList, Hs.out]; exact Try.infoBoard) ?_
        | refine wpList_store_mid rfl 28 _ _ rfl (w.heap.size + 1) 0 L rfl rfl (by exact zk.there _ Hs.out.symm) (by rw [Hs.out]; exact Try.infoBoard) H1.out ?_)
      exact ret_agg (m := w.heap.size + 1) (L := L) Try.results37 (by rfl) (zk.setAll L Hs.out) Try.underlying28 rfl (by rw [Hs.out]; exact Try.infoBoard) ⟨by rw [← HL.out, HIt.out], setCells_below (Nat.le_succ _) _ _ _ _ hbk⟩
    · have hlt : (k : Int) < N := by omega
      have Hs1 : Hid _ := (HB' (k + 1)).size
      have H1 : Hid _ := (HB' (k + 1)).one
      have RK : Hid _ := RC.out k
      clear HB'
      generalize hL : (it k b).cells = L at *
      generalize hL1 : (it (k + 1) b).cells = L1 at *
      have HL1 : Hid _ := hL1
      clear hL hL1
      go_wp2_with (first
        | refine wpList_load_mid rfl 28 _ rfl w.heap.size 0 rfl L.toList _ bk.range Try.underlying28 rfl (by rw [Array.length_toList, Hs.out]; exact Try.infoBoard) ?_
        | (go_at_call 62; refine (RK.out _).mono ?_; rintro e W2 ⟨rfl, hb2⟩; have b2 := bk.below bk.lt hb2; have z2 := zk.below zk.lt hb2)
        | refine wpList_store_mid rfl 28 _ _ rfl w.heap.size 0 L1 rfl rfl (by exact b2.there _ (Hs.out.trans Hs1.out.symm)) (by rw [Hs1.out]; exact Try.infoBoard) H1.out ?_)
      have b3 := b2.setAll L1 (Hs1.out.trans Hs.out.symm)
      have z3 : Blk (W2.setCells w.heap.size 0 L1.toList) (w.heap.size + 1) Z31 28 := Blk.otherCells z2 (m := w.heap.size) (by omega) L1.toList 0
      have h3 := setCells_below (Nat.le_refl w.heap.size) L1.toList 0 _ _ (hbk.trans (hb2.mono hbk.size))
      generalize W2.setCells w.heap.size 0 L1.toList = W3 at *
      clear b2 z2 bk zk hbk hb2
      go_wp2
      go_roundw
      case rel => exact ⟨k + 1, by omega, by go_num, by rw [HL1.out]; exact b3, z3, h3⟩
      case measure => simp [intOf]; omega
end Go.Proofs.Ytggphgmpdanliaa
namespace Go.Proofs.Ytggphgmpdanliaa
open Go.RowKit Classical
set_option maxRecDepth 100000 in
set_option maxHeartbeats 1000000 in
theorem rClock_same (w : World) (b : Bd) (n : Int) (B : b.Wf) (hv : validB b = false ∨ b.kind ≠ 4 ∨ n ≤ 0) :
    Calls Try.prog 37 #[.agg b.cells, .int .i64 n] w fun e w' => e = .returned (.agg b.cells) ∧ Below w.heap.size w w' := by
  have hr := B.rlen
  have C := isB b hr
  have RV := fun W => refValid_any W b B
  generalize b.cells = cs at C RV
  have hsz := C.size
  have HS : Hid _ := hsz
  have HO : Hid _ := RV
  have H1 : Hid _ := C.one
  have d0h := C.h0
  have HV : Hid _ := hv
  clear RV hr hv
  go_enter Try.func37, Try.ntmps37
  go_upto_region 1 with fail
  change Code.wp _ _ _ _ ((w.alloc (.cells cs 28)).alloc (.cells Z31 28))
  have b0 : Blk ((w.alloc (.cells cs 28)).alloc (.cells Z31 28)) w.heap.size cs 28 := (Blk.new w cs _).old _
  have z0 : Blk ((w.alloc (.cells cs 28)).alloc (.cells Z31 28)) (w.heap.size + 1) Z31 28 := by
    have := Blk.new (w.alloc (.cells cs 28)) Z31 28
    rwa [World.size_alloc] at this
  have hb0 : Below w.heap.size w ((w.alloc (.cells cs 28)).alloc (.cells Z31 28)) := ((Below.refl _ _).alloc (Nat.le_refl _) _).alloc (by simp) _
  generalize (w.alloc (.cells cs 28)).alloc (.cells Z31 28) = W0 at *
  clear C hsz
  go_cut [17] (fun q wx => q = .bool true ∧ Blk wx w.heap.size cs 28 ∧ Blk wx (w.heap.size + 1) Z31 28 ∧ Below w.heap.size w wx)
  case first =>
    cases hvb : validB b
    · rw [hvb] at HO
      go_wp2_with (first
        | refine wpList_load_mid rfl 28 _ rfl w.heap.size 0 rfl cs.toList _ b0.range Try.underlying28 rfl (by rw [Array.length_toList, HS.out]; exact Try.infoBoard) ?_
        | (go_at_call 42; refine (HO.out W0).mono ?_; rintro e W1 ⟨rfl, hb1⟩; have b1 := b0.below b0.lt hb1))
      go_meet
      exact ⟨rfl, b1, z0.below z0.lt hb1, hb0.trans (hb1.mono hb0.size)⟩
    · rw [hvb] at HO
      by_cases hk : b.kind = 4
      · have hn : n ≤ 0 := by
          rcases HV.out with h | h | h
          · rw [hvb] at h; exact absurd h (by decide)
          · exact absurd hk h
          · exact h
        rw [hk] at d0h
        clear hk
        go_wp2_with (first
          | refine wpList_load_mid rfl 28 _ rfl w.heap.size 0 rfl cs.toList _ b0.range Try.underlying28 rfl (by rw [Array.length_toList, HS.out]; exact Try.infoBoard) ?_
          | (go_at_call 42; refine (HO.out W0).mono ?_; rintro e W1 ⟨rfl, hb1⟩; have b1 := b0.below b0.lt hb1; have d0 := (b1.cell 0).trans d0h))
        go_meet
        exact ⟨rfl, b1, z0.below z0.lt hb1, hb0.trans (hb1.mono hb0.size)⟩
      · go_wp2_with (first
          | refine wpList_load_mid rfl 28 _ rfl w.heap.size 0 rfl cs.toList _ b0.range Try.underlying28 rfl (by rw [Array.length_toList, HS.out]; exact Try.infoBoard) ?_
          | (go_at_call 42; refine (HO.out W0).mono ?_; rintro e W1 ⟨rfl, hb1⟩; have b1 := b0.below b0.lt hb1; have d0 := (b1.cell 0).trans d0h))
        go_meet
        exact ⟨by first | rfl | simp [hk], b1, z0.below z0.lt hb1, hb0.trans (hb1.mono hb0.size)⟩
  case rest =>
  clear b0 z0 hb0 d0h
  obtain ⟨rfl, b0, z0, hb0⟩ := hcut
  go_wp2_with (first
    | refine wpList_load_mid rfl 28 _ rfl w.heap.size 0 rfl cs.toList _ b0.range Try.underlying28 rfl (by rw [Array.length_toList, HS.out]; exact Try.infoBoard) ?_
    | refine wpList_store_mid rfl 28 _ _ rfl (w.heap.size + 1) 0 cs rfl rfl (by exact z0.there _ HS.out.symm) (by rw [HS.out]; exact Try.infoBoard) H1.out ?_)
  exact ret_agg (m := w.heap.size + 1) (L := cs) Try.results37 (by rfl) (z0.setAll cs HS.out) Try.underlying28 rfl (by rw [HS.out]; exact Try.infoBoard) ⟨rfl, setCells_below (Nat.le_succ _) _ _ _ _ hb0⟩
set_option maxRecDepth 100000 in
set_option maxHeartbeats 1000000 in
theorem rToIrq_none (w : World) (b : Bd) (B : b.Wf) (hv : validB b = false ∨ (b.kind ≠ 4 ∧ b.irq = false)) :
    Calls Try.prog 38 #[.agg b.cells] w fun e w' => e = .returned (.int .i64 (-1)) ∧ Below w.heap.size w w' := by
  have hr := B.rlen
  have C := isB b hr
  have RV := fun W => refValid_any W b B
  generalize b.cells = cs at C RV
  have hsz := C.size
  have HS : Hid _ := hsz
  have HO : Hid _ := RV
  have d0h := C.h0
  have d29h := C.h29
  have HV : Hid _ := hv
  clear RV hr hv
  go_enter Try.func38, Try.ntmps38
  go_upto_region 1 with fail
  have b0 : Blk (w.alloc (.cells cs 28)) w.heap.size cs 28 := Blk.new w cs _
  have hb0 : Below w.heap.size w (w.alloc (.cells cs 28)) := (Below.refl _ _).alloc (Nat.le_refl _) _
  generalize w.alloc (.cells cs 28) = W0 at *
  clear C hsz
  cases hvb : validB b
  · rw [hvb] at HO
    go_wp2_with (first
      | refine wpList_load_mid rfl 28 _ rfl w.heap.size 0 rfl cs.toList _ b0.range Try.underlying28 rfl (by rw [Array.length_toList, HS.out]; exact Try.infoBoard) ?_
      | (go_at_call 42; refine (HO.out W0).mono ?_; rintro e W1 ⟨rfl, hb1⟩))
    go_ret
    exact ⟨rfl, hb0.trans (hb1.mono hb0.size)⟩
  · rw [hvb] at HO
    obtain ⟨hk, hi⟩ : b.kind ≠ 4 ∧ b.irq = false := by
      rcases HV.out with h | h
      · rw [hvb] at h; exact absurd h (by decide)
      · exact h
    rw [hi] at d29h
    clear hi hvb HV
    go_wp2_with (first
      | refine wpList_load_mid rfl 28 _ rfl w.heap.size 0 rfl cs.toList _ b0.range Try.underlying28 rfl (by rw [Array.length_toList, HS.out]; exact Try.infoBoard) ?_
      | (go_at_call 42; refine (HO.out W0).mono ?_; rintro e W1 ⟨rfl, hb1⟩; have b1 := b0.below b0.lt hb1; have d0 := (b1.cell 0).trans d0h; have d29 := (b1.cell 29).trans d29h))
    have hb : Below w.heap.size w W1 := hb0.trans (hb1.mono hb0.size)
    clear hb0 hb1 b0 b1
    go_loopw [3] (fun i wr => i = .int .i64 0 ∧ wr = W1) (fun _ _ => 0)
    case atStart => exact ⟨rfl, rfl⟩
    case round =>
      obtain ⟨rfl, rfl⟩ := hrel
      go_wp2
      go_ret
      exact ⟨rfl, hb⟩
set_option maxRecDepth 100000 in
set_option maxHeartbeats 1000000 in
theorem rToIrq_4 (w : World) (b : Bd) (B : b.Wf) (hk : b.kind = 4) (hv : validB b = true) :
    Calls Try.prog 38 #[.agg b.cells] w fun e w' => e = .returned (.int .i64 (irqV b)) ∧ Below w.heap.size w w' := by
  have hr := B.rlen
  have C := isB b hr
  have RV := fun W => refValid_any W b B
  rw [hv] at RV
  have RC : Hid (∀ (k : Nat) (W : World), Calls Try.prog 62 #[.agg (it k b).cells] W fun e w' => e = .returned (.agg (it (k + 1) b).cells) ∧ Below W.heap.size W w') := fun k W =>
    rclock_any W (it k b) (by rw [it_r]; exact hr) (it_count k b B.iCount B.iLatch) (by rw [it_latch]; exact B.iLatch)
  have F1 : Hid _ := fun k => irq_first b B.iCount B.iLatch (valid_fits hv hk) k
  have F2 : Hid _ := irq_never b B.iCount B.iLatch (valid_fits hv hk)
  have HK : Hid _ := hk
  have HR : Hid _ := hr
  generalize hcs : b.cells = cs at C RV
  have HCS : Hid _ := hcs
  have hsz := C.size
  have HS : Hid _ := hsz
  have HO : Hid _ := RV
  clear RV hr hv hk hcs B
  go_enter Try.func38, Try.ntmps38
  go_upto_region 1 with fail
  have b0 : Blk (w.alloc (.cells cs 28)) w.heap.size cs 28 := Blk.new w cs _
  have hb0 : Below w.heap.size w (w.alloc (.cells cs 28)) := (Below.refl _ _).alloc (Nat.le_refl _) _
  generalize w.alloc (.cells cs 28) = W0 at *
  clear C hsz
  go_wp2_with (first
    | refine wpList_load_mid rfl 28 _ rfl w.heap.size 0 rfl cs.toList _ b0.range Try.underlying28 rfl (by rw [Array.length_toList, HS.out]; exact Try.infoBoard) ?_
    | (go_at_call 42; refine (HO.out W0).mono ?_; rintro e W1 ⟨rfl, hb1⟩; have b1 := b0.below b0.lt hb1))
  have hb : Below w.heap.size w W1 := hb0.trans (hb1.mono hb0.size)
  clear hb0 hb1 b0
  go_loopw [3] (fun i wr => ∃ k : Nat, k ≤ 601 ∧ i = .int .i64 k ∧ Hid (∀ j, j < k → (it j b).irq = false) ∧ Blk wr w.heap.size (it k b).cells 28 ∧ Below w.heap.size w wr) (fun i _ => 601 - (intOf i).toNat)
  case atStart => exact ⟨0, by omega, rfl, fun j hj => absurd hj (by omega), by rw [show it 0 b = b from rfl, HCS.out]; exact b1, hb⟩
  case round =>
    clear b1 hb
    obtain ⟨k, hk, rfl, hj, bk, hbk⟩ := hrel
    have Ck := isB (it k b) (by rw [it_r]; exact HR.out)
    have d0 : wr.cell? ⟨w.heap.size, 0, none⟩ = some (.int .i64 4) := (bk.cell 0).trans (by rw [Ck.h0, it_kind, HK.out])
    have d29 := (bk.cell 29).trans Ck.h29
    have Hs : Hid _ := Ck.size
    clear Ck
    by_cases hk6 : k = 601
    · subst hk6
      clear d0 d29
      go_wp2
      go_ret
      exact ⟨by rw [F2.out hj.out]; rfl, hbk⟩
    · have hlt : (k : Int) ≤ 600 := by omega
      cases hq : (it k b).irq
      · rw [hq] at d29
        have hj' : Hid (∀ j, j < k + 1 → (it j b).irq = false) := fun j h => by
          by_cases e : j = k
          · rw [e]; exact hq
          · exact hj.out j (by omega)
        have Ck1 := isB (it (k + 1) b) (by rw [it_r]; exact HR.out)
        have Hs1 : Hid _ := Ck1.size
        have H1 : Hid _ := Ck1.one
        have RK : Hid _ := RC.out k
        clear Ck1 hq
        generalize hL : (it k b).cells = L at *
        generalize hL1 : (it (k + 1) b).cells = L1 at *
        have HL1 : Hid _ := hL1
        clear hL hL1
        go_wp2_with (first
          | refine wpList_load_mid rfl 28 _ rfl w.heap.size 0 rfl L.toList _ bk.range Try.underlying28 rfl (by rw [Array.length_toList, Hs.out]; exact Try.infoBoard) ?_
          | (go_at_call 62; refine (RK.out _).mono ?_; rintro e W2 ⟨rfl, hb2⟩; have b2 := bk.below bk.lt hb2)
          | refine wpList_store_mid rfl 28 _ _ rfl w.heap.size 0 L1 rfl rfl (by exact b2.there _ (Hs.out.trans Hs1.out.symm)) (by rw [Hs1.out]; exact Try.infoBoard) H1.out ?_)
        have b3 := b2.setAll L1 (Hs1.out.trans Hs.out.symm)
        have h3 := setCells_below (Nat.le_refl w.heap.size) L1.toList 0 _ _ (hbk.trans (hb2.mono hbk.size))
        generalize W2.setCells w.heap.size 0 L1.toList = W3 at *
        clear b2 bk hbk hb2
        go_wp2
        go_roundw
        case rel => exact ⟨k + 1, by omega, by go_num, hj', by rw [HL1.out]; exact b3, h3⟩
        case measure => simp [intOf]; omega
      · have HQ : Hid _ := F1.out k hq hj.out
        rw [hq] at d29
        clear hq
        go_wp2
        go_ret
        exact ⟨by rw [HQ.out]; rfl, hbk⟩
end Go.Proofs.Ytggphgmpdanliaa
