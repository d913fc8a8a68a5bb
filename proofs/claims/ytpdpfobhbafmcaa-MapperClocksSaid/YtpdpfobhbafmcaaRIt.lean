/-
  Scanline clocks one by one, on boards as plain values: n single clocks are the closed form; plain mathematics.
-/
import Derived.Test.YtpdpfobhbafmcaaMClk2
namespace Go.Proofs.Ytpdpfobhbafmcaa
open Go.RowKit Classical
/-- The counter behind one clock; does it fire; the board behind one clock, and behind n. -/
def cnt1 (b : Bd) : Int := if b.iCount = 0 ∨ b.iLoad = true then b.iLatch else b.iCount - 1
def fire1 (b : Bd) : Bool := (cnt1 b == 0) && !((b.sub == 4) && ((b.iCount == 0) && !b.iLoad))
def clk1 (b : Bd) : Bd := { b with iCount := cnt1 b, irq := b.irq || (fire1 b && b.iOn), iLoad := false }
def it : Nat → Bd → Bd
  | 0, b => b
  | n + 1, b => clk1 (it n b)
/-- The counter behind n clocks. -/
def cN (c l n : Int) : Int := if n ≤ c then c - n else if 0 < (n - c).tmod (l + 1) then l + 1 - (n - c).tmod (l + 1) else 0
theorem mod_succ (d m : Int) (hd : 0 ≤ d) (hm : 0 < m) : (d + 1).tmod m = if d.tmod m + 1 = m then 0 else d.tmod m + 1 := by
  rw [Int.tmod_eq_emod_of_nonneg hd, Int.tmod_eq_emod_of_nonneg (by omega)]
  have h0 := Int.emod_nonneg d (show m ≠ 0 by omega)
  have h1 := Int.emod_lt_of_pos d hm
  have h2 := Int.mul_ediv_add_emod d m
  split
  · rename_i h
    have e : d + 1 = m * (d / m + 1) := by rw [Int.mul_add]; omega
    rw [e, Int.mul_emod_right]
  · have e : d + 1 = (d % m + 1) + m * (d / m) := by omega
    rw [e, Int.add_mul_emod_self_left, Int.emod_eq_of_lt (by omega) (by omega)]
theorem mod_bd (d m : Int) (hd : 0 ≤ d) (hm : 0 < m) : 0 ≤ d.tmod m ∧ d.tmod m < m := by
  rw [Int.tmod_eq_emod_of_nonneg hd]
  exact ⟨Int.emod_nonneg d (by omega), Int.emod_lt_of_pos d hm⟩
theorem mod_small (d m : Int) (hd : 0 ≤ d) (h : d < m) : d.tmod m = d := by
  rw [Int.tmod_eq_emod_of_nonneg hd, Int.emod_eq_of_lt hd h]
theorem mod_self (m : Int) (h : 0 ≤ m) : m.tmod m = 0 := by
  rw [Int.tmod_eq_emod_of_nonneg h, Int.emod_self]
theorem cN_step (c l n : Int) (hc : 0 ≤ c) (hl : 0 ≤ l) (_hn : 0 ≤ n) : cN c l (n + 1) = if cN c l n = 0 then l else cN c l n - 1 := by
  by_cases h1 : n + 1 ≤ c
  · have a : cN c l (n + 1) = c - (n + 1) := by unfold cN; rw [if_pos h1]
    have b : cN c l n = c - n := by unfold cN; rw [if_pos (by omega)]
    rw [a, b, if_neg (by omega)]; omega
  · by_cases h2 : n ≤ c
    · have en : n = c := by omega
      subst en
      have b : cN n l n = 0 := by unfold cN; rw [if_pos (by omega)]; omega
      rw [b, if_pos rfl]
      unfold cN
      rw [if_neg h1, show n + 1 - n = 1 by omega]
      by_cases h3 : l = 0
      · subst h3; rw [if_neg (by decide)]
      · rw [mod_small 1 (l + 1) (by omega) (by omega), if_pos (by omega)]; omega
    · have hm := mod_succ (n - c) (l + 1) (by omega) (by omega)
      have hb := mod_bd (n - c) (l + 1) (by omega) (by omega)
      unfold cN
      rw [if_neg h1, if_neg h2, show n + 1 - c = n - c + 1 by omega, hm]
      generalize (n - c).tmod (l + 1) = r at *
      split <;> split <;> split <;> omega
theorem cN_far (c l n : Int) (h : c < n) : cN c l n = if 0 < (n - c).tmod (l + 1) then l + 1 - (n - c).tmod (l + 1) else 0 := by
  unfold cN
  rw [if_neg (by omega)]
theorem cN_bd (c l n : Int) (hc : 0 ≤ c) (hl : 0 ≤ l) (hn : 0 ≤ n) : 0 ≤ cN c l n ∧ cN c l n ≤ max c l := by
  unfold cN
  by_cases h1 : n ≤ c
  · rw [if_pos h1]; omega
  · rw [if_neg h1]
    have hb := mod_bd (n - c) (l + 1) (by omega) (by omega)
    split <;> omega
theorem clkB_eq (b : Bd) (n : Int) (o : Bool) : clkB b n o = { b with iLoad := false, irq := b.irq || askV b (zeroV b o) n, iCount := cN b.iCount b.iLatch n } := rfl
/-- When the counter is 0 and the one before is not. -/
theorem fire_le (b : Bd) (o : Bool) (n : Int) (hc : 0 ≤ b.iCount) (hl : 0 ≤ b.iLatch) (hn : 1 ≤ n) (h0 : cN b.iCount b.iLatch (n + 1) = 0) (h1 : ¬ (o = true ∧ cN b.iCount b.iLatch n = 0)) :
    0 < zeroV b o ∧ zeroV b o ≤ n + 1 := by
  unfold zeroV
  by_cases c0 : 0 < b.iCount
  · rw [if_pos c0]
    refine ⟨c0, ?_⟩
    unfold cN at h0
    split at h0 <;> omega
  · have ec : b.iCount = 0 := by omega
    rw [if_neg c0]
    rw [ec] at h0 h1
    by_cases c1 : (o && ((b.iLatch == 0) && !b.iLoad)) = true
    · exfalso
      simp only [Bool.and_eq_true, beq_iff_eq] at c1
      refine h1 ⟨c1.1, ?_⟩
      rw [c1.2.1]
      unfold cN
      rw [if_neg (by omega)]
      have := mod_bd (n - 0) (0 + 1) (by omega) (by omega)
      rw [if_neg (by omega)]
    · rw [if_neg c1]
      refine ⟨by omega, ?_⟩
      unfold cN at h0
      rw [if_neg (by omega)] at h0
      have hb := mod_bd (n + 1 - 0) (b.iLatch + 1) (by omega) (by omega)
      by_cases c2 : b.iLatch + 1 ≤ n + 1
      · exact c2
      · rw [mod_small (n + 1 - 0) (b.iLatch + 1) (by omega) (by omega), if_pos (by omega)] at h0
        omega
theorem fire_at (b : Bd) (o : Bool) (n : Int) (hc : 0 ≤ b.iCount) (_hl : 0 ≤ b.iLatch) (hn : 1 ≤ n) (hk : zeroV b o = n + 1) :
    cN b.iCount b.iLatch (n + 1) = 0 ∧ cN b.iCount b.iLatch n ≠ 0 := by
  unfold zeroV at hk
  by_cases c0 : 0 < b.iCount
  · rw [if_pos c0] at hk
    unfold cN
    rw [if_pos (by omega), if_pos (by omega)]
    omega
  · have ec : b.iCount = 0 := by omega
    rw [if_neg c0] at hk
    split at hk
    · omega
    · rw [ec, cN_far 0 _ (n + 1) (by omega), cN_far 0 _ n (by omega), show n + 1 - 0 = b.iLatch + 1 by omega, mod_self _ (by omega), mod_small (n - 0) (b.iLatch + 1) (by omega) (by omega), if_neg (by omega), if_pos (by omega)]
      omega
theorem it_sub (n : Nat) (b : Bd) : (it n b).sub = b.sub := by
  induction n with
  | zero => rfl
  | succ n ih => exact ih
theorem irq_step (i o : Bool) (p q f : Bool) (h1 : o = true → f = true → q = true) (h2 : p = true → q = true) (h3 : o = true → q = true → p = false → f = true) :
    ((i || (o && p)) || (f && o)) = (i || (o && q)) := by
  revert h1 h2 h3
  cases i <;> cases o <;> cases p <;> cases q <;> cases f <;> simp
theorem it_one (b : Bd) (hc : 0 ≤ b.iCount ∧ b.iCount ≤ 255) (hl : 0 ≤ b.iLatch ∧ b.iLatch ≤ 255) (hf : b.iLoad = true → b.iCount = 0) : clk1 b = clkB b 1 (b.sub == 4) := by
  have e1 : cnt1 b = cN b.iCount b.iLatch 1 := by
    have h := cN_step b.iCount b.iLatch 0 hc.1 hl.1 (by omega)
    have h0 : cN b.iCount b.iLatch 0 = b.iCount := by unfold cN; rw [if_pos hc.1]; omega
    rw [h0] at h
    rw [show (0 : Int) + 1 = 1 from rfl] at h
    rw [h]
    unfold cnt1
    by_cases c0 : b.iCount = 0
    · rw [if_pos (Or.inl c0), if_pos c0]
    · rw [if_neg c0, if_neg (by rintro (h | h); exact c0 h; exact c0 (hf h))]
  have e2 : (b.irq || (fire1 b && b.iOn)) = (b.irq || askV b (zeroV b (b.sub == 4)) 1) := by
    unfold askV
    have key : fire1 b = (decide (0 < zeroV b (b.sub == 4)) && decide (zeroV b (b.sub == 4) ≤ 1)) := by
      unfold fire1 zeroV cnt1
      by_cases c0 : 0 < b.iCount
      · have hL : b.iLoad = false := by
          cases h : b.iLoad
          · rfl
          · have := hf h; omega
        have hz : (b.iCount == 0) = false := beq_eq_false_iff_ne.2 (by omega)
        rw [if_pos c0, if_neg (by rw [hL]; simp; omega), hz, hL]
        simp only [Bool.and_false, Bool.not_false, Bool.and_true]
        rw [Bool.eq_iff_iff]; simp; omega
      · have ec : b.iCount = 0 := by omega
        rw [if_neg c0, if_pos (Or.inl ec), ec]
        by_cases l0 : b.iLatch = 0
        · rw [l0]
          cases b.iLoad <;> cases h4 : (b.sub == 4) <;> simp
        · have z : (b.iLatch == 0) = false := beq_eq_false_iff_ne.2 l0
          rw [z]
          simp only [Bool.false_and, Bool.and_false, Bool.false_eq_true, if_false]
          rw [Bool.eq_iff_iff]; simp; omega
    rw [key]
    cases b.irq <;> cases b.iOn <;> simp
  rw [clkB_eq]
  unfold clk1
  rw [e1, e2]
theorem it_pos (b : Bd) (hc : 0 ≤ b.iCount ∧ b.iCount ≤ 255) (hl : 0 ≤ b.iLatch ∧ b.iLatch ≤ 255) (hf : b.iLoad = true → b.iCount = 0) : ∀ n : Nat, 1 ≤ n → it n b = clkB b n (b.sub == 4)
  | 0, h => absurd h (by decide)
  | 1, _ => it_one b hc hl hf
  | n + 2, _ => by
    have ih := it_pos b hc hl hf (n + 1) (by omega)
    show clk1 (it (n + 1) b) = _
    rw [ih, clkB_eq, clkB_eq]
    have hn : (1 : Int) ≤ ((n + 1 : Nat) : Int) := by omega
    have en : ((n + 2 : Nat) : Int) = ((n + 1 : Nat) : Int) + 1 := by omega
    rw [en]
    generalize ((n + 1 : Nat) : Int) = k at *
    have hs := cN_step b.iCount b.iLatch k hc.1 hl.1 (by omega)
    unfold clk1 fire1 cnt1
    simp only [Bool.false_eq_true, or_false, Bool.not_false, Bool.and_true]
    rw [← hs]
    congr 1
    refine irq_step _ _ _ _ _ ?_ ?_ ?_
    · intro _ h
      simp only [Bool.and_eq_true, beq_iff_eq, Bool.not_eq_true', Bool.and_eq_false_imp] at h
      have := fire_le b (b.sub == 4) k hc.1 hl.1 hn h.1 (by rintro ⟨q1, q2⟩; have := h.2 (by simpa using q1); simp [q2] at this)
      simp [this.1, this.2]
    · intro h
      simp only [Bool.and_eq_true, decide_eq_true_eq] at h ⊢
      exact ⟨h.1, by omega⟩
    · intro _ h h'
      simp only [Bool.and_eq_true, decide_eq_true_eq, Bool.and_eq_false_imp, decide_eq_false_iff_not] at h h'
      have e : zeroV b (b.sub == 4) = k + 1 := by have := h' h.1; omega
      obtain ⟨q1, q2⟩ := fire_at b _ k hc.1 hl.1 hn e
      simp [q1, q2]
/-- Of a great n the whole rounds may be left out. -/
theorem clkB_cut (b : Bd) (n : Int) (o : Bool) (hc : 0 ≤ b.iCount ∧ b.iCount ≤ 255) (hl : 0 ≤ b.iLatch ∧ b.iLatch ≤ 255) (hn : 1200 < n) : clkB b (600 + (n - 600).tmod (b.iLatch + 1)) o = clkB b n o := by
  have hb := mod_bd (n - 600) (b.iLatch + 1) (by omega) (by omega)
  have hz : zeroV b o ≤ 256 := by unfold zeroV; split <;> (try split) <;> omega
  rw [clkB_eq, clkB_eq]
  have e1 : askV b (zeroV b o) (600 + (n - 600).tmod (b.iLatch + 1)) = askV b (zeroV b o) n := by
    unfold askV
    rw [decide_eq_true (show zeroV b o ≤ 600 + (n - 600).tmod (b.iLatch + 1) by omega), decide_eq_true (show zeroV b o ≤ n by omega)]
  have e2 : cN b.iCount b.iLatch (600 + (n - 600).tmod (b.iLatch + 1)) = cN b.iCount b.iLatch n := by
    have q : (600 + (n - 600).tmod (b.iLatch + 1) - b.iCount).tmod (b.iLatch + 1) = (n - b.iCount).tmod (b.iLatch + 1) := by
      rw [Int.tmod_eq_emod_of_nonneg (show 0 ≤ n - 600 by omega)] at hb ⊢
      rw [Int.tmod_eq_emod_of_nonneg (by omega), Int.tmod_eq_emod_of_nonneg (by omega)]
      have e : n - b.iCount = (600 + (n - 600) % (b.iLatch + 1) - b.iCount) + (b.iLatch + 1) * ((n - 600) / (b.iLatch + 1)) := by
        have := Int.mul_ediv_add_emod (n - 600) (b.iLatch + 1)
        omega
      rw [e, Int.add_mul_emod_self_left]
    rw [cN_far _ _ n (by omega), cN_far _ _ _ (by omega), q]
  rw [e1, e2]
theorem it_irq (b : Bd) (hc : 0 ≤ b.iCount ∧ b.iCount ≤ 255) (hl : 0 ≤ b.iLatch ∧ b.iLatch ≤ 255) (hf : b.iLoad = true → b.iCount = 0) (n : Nat) : (it n b).irq = (b.irq || askV b (zeroV b (b.sub == 4)) n) := by
  by_cases h : 1 ≤ n
  · rw [it_pos b hc hl hf n h]; rfl
  · obtain rfl : n = 0 := by omega
    show b.irq = _
    have : askV b (zeroV b (b.sub == 4)) ((0 : Nat) : Int) = false := by
      unfold askV
      cases b.iOn
      · rfl
      · simp
    rw [this, Bool.or_false]
theorem irq_first (b : Bd) (hc : 0 ≤ b.iCount ∧ b.iCount ≤ 255) (hl : 0 ≤ b.iLatch ∧ b.iLatch ≤ 255) (hf : b.iLoad = true → b.iCount = 0) (k : Nat) (h1 : (it k b).irq = true) (h0 : ∀ j, j < k → (it j b).irq = false) : irqV b = (k : Int) := by
  rw [it_irq b hc hl hf] at h1
  unfold irqV
  cases hi : b.irq
  · rw [hi] at h1
    simp only [Bool.false_or, askV, Bool.and_eq_true, decide_eq_true_eq] at h1
    rw [h1.1]
    simp only [Bool.false_eq_true, if_false, Bool.not_true]
    by_cases e : zeroV b (b.sub == 4) = (k : Int)
    · exact e
    · exfalso
      have hj := h0 (zeroV b (b.sub == 4)).toNat (by omega)
      rw [it_irq b hc hl hf, hi] at hj
      simp only [Bool.false_or, askV, h1.1, Bool.true_and] at hj
      rw [decide_eq_true h1.2.1, decide_eq_true (by omega)] at hj
      exact absurd hj (by decide)
  · rw [if_pos rfl]
    by_cases e : k = 0
    · subst e; rfl
    · have := h0 0 (by omega)
      rw [show (it 0 b).irq = b.irq from rfl, hi] at this
      exact absurd this (by decide)
theorem irq_never (b : Bd) (hc : 0 ≤ b.iCount ∧ b.iCount ≤ 255) (hl : 0 ≤ b.iLatch ∧ b.iLatch ≤ 255) (hf : b.iLoad = true → b.iCount = 0) (h0 : ∀ j, j < 601 → (it j b).irq = false) : irqV b = -1 := by
  have hz : zeroV b (b.sub == 4) ≤ 256 := by unfold zeroV; split <;> (try split) <;> omega
  have hz1 : 0 < zeroV b (b.sub == 4) ∨ zeroV b (b.sub == 4) = -1 := by unfold zeroV; split <;> (try split) <;> omega
  have hi : b.irq = false := h0 0 (by omega)
  unfold irqV
  rw [hi]
  simp only [Bool.false_eq_true, if_false]
  cases ho : b.iOn
  · rfl
  · simp only [Bool.not_true, Bool.false_eq_true, if_false]
    rcases hz1 with hz1 | hz1
    · exfalso
      have hj := h0 600 (by omega)
      rw [it_irq b hc hl hf, hi] at hj
      simp only [Bool.false_or, askV, ho, Bool.true_and] at hj
      rw [decide_eq_true hz1, decide_eq_true (by omega)] at hj
      exact absurd hj (by decide)
    · exact hz1
end Go.Proofs.Ytpdpfobhbafmcaa
