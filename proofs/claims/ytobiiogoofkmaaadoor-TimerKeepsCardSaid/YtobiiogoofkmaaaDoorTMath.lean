/-
  A clock as a plain value: its fields, one cycle, n cycles at once, and that these are n times one; no condition but that the numbers fit their kinds.
-/
import Derived.Test.YtobiiogoofkmaaaDoorRows
set_option linter.unusedSimpArgs false
set_option linter.unusedVariables false
namespace Go.Proofs.YtobiiogoofkmaaaDoor
/-- A clock. -/
structure Ck where
  latch : Int
  count : Int
  pre : Int
  hold : Int
  ctl : Int
  flag : Bool
  over : Bool
  five : Bool
  inh : Bool
  frame : Bool
  at_ : Int
  wait : Int
  beats : Int
theorem Ck.ext {a b : Ck} (e0 : a.latch = b.latch) (e1 : a.count = b.count) (e2 : a.pre = b.pre) (e3 : a.hold = b.hold) (e4 : a.ctl = b.ctl) (e5 : a.flag = b.flag) (e6 : a.over = b.over) (e7 : a.five = b.five) (e8 : a.inh = b.inh) (e9 : a.frame = b.frame) (e10 : a.at_ = b.at_) (e11 : a.wait = b.wait) (e12 : a.beats = b.beats) : a = b := by
  obtain ⟨a0, a1, a2, a3, a4, a5, a6, a7, a8, a9, a10, a11, a12⟩ := a
  obtain ⟨b0, b1, b2, b3, b4, b5, b6, b7, b8, b9, b10, b11, b12⟩ := b
  simp only at e0 e1 e2 e3 e4 e5 e6 e7 e8 e9 e10 e11 e12
  subst e0 e1 e2 e3 e4 e5 e6 e7 e8 e9 e10 e11 e12
  rfl
theorem Ck.ext_iff {a b : Ck} : a = b ↔ a.latch = b.latch ∧ a.count = b.count ∧ a.pre = b.pre ∧ a.hold = b.hold ∧ a.ctl = b.ctl ∧ a.flag = b.flag ∧ a.over = b.over ∧ a.five = b.five ∧ a.inh = b.inh ∧ a.frame = b.frame ∧ a.at_ = b.at_ ∧ a.wait = b.wait ∧ a.beats = b.beats :=
  ⟨fun h => by subst h; exact ⟨rfl, rfl, rfl, rfl, rfl, rfl, rfl, rfl, rfl, rfl, rfl, rfl, rfl⟩, fun ⟨e0, e1, e2, e3, e4, e5, e6, e7, e8, e9, e10, e11, e12⟩ => Ck.ext e0 e1 e2 e3 e4 e5 e6 e7 e8 e9 e10 e11 e12⟩
/-- The numbers fit their kinds. -/
structure Ck.Ok (c : Ck) : Prop where
  latch : 0 ≤ c.latch ∧ c.latch ≤ 65535
  count : 0 ≤ c.count ∧ c.count ≤ 65535
  pre : 0 ≤ c.pre ∧ c.pre ≤ 65535
  hold : 0 ≤ c.hold ∧ c.hold ≤ 255
  ctl : 0 ≤ c.ctl ∧ c.ctl ≤ 255
  at_ : 0 ≤ c.at_ ∧ c.at_ ≤ 65535
  wait : 0 ≤ c.wait ∧ c.wait ≤ 255
  beats : 0 ≤ c.beats ∧ c.beats ≤ 255
/-- The divider of a control byte. -/
def dv (ctl : Int) : Int := if ctl / 8 % 4 = 0 then 1 else if ctl / 8 % 4 = 1 then 8 else if ctl / 8 % 4 = 2 then 64 else 256
theorem dv_cases (k : Int) : dv k = 1 ∨ dv k = 8 ∨ dv k = 64 ∨ dv k = 256 := by
  unfold dv
  by_cases h0 : k / 8 % 4 = 0
  · simp [h0]
  by_cases h1 : k / 8 % 4 = 1
  · simp [h1]
  by_cases h2 : k / 8 % 4 = 2
  · simp [h2]
  simp [h0, h1, h2]
theorem dv_pos (k : Int) : 1 ≤ dv k ∧ dv k ≤ 256 := by rcases dv_cases k with h | h | h | h <;> rw [h] <;> decide
/-- What Valid answers. -/
def Ck.valid (c : Ck) : Bool := decide (c.ctl ≤ 31) && decide (c.pre < dv c.ctl) && decide (c.at_ ≤ 37281) && decide (c.wait ≤ 4) && decide (c.beats ≤ 63) && (c.flag || !c.over) && !(c.inh && c.frame)
structure Ck.V (c : Ck) : Prop where
  ctl : c.ctl ≤ 31
  pre : c.pre < dv c.ctl
  at_ : c.at_ ≤ 37281
  wait : c.wait ≤ 4
  beats : c.beats ≤ 63
  over : c.over = true → c.flag = true
  frame : c.inh = true → c.frame = false
theorem Ck.valid_iff (c : Ck) : c.valid = true ↔ c.V := by
  constructor
  · intro h
    simp only [Ck.valid, Bool.and_eq_true, decide_eq_true_eq] at h
    obtain ⟨⟨⟨⟨⟨⟨h1, h2⟩, h3⟩, h4⟩, h5⟩, h6⟩, h7⟩ := h
    refine ⟨h1, h2, h3, h4, h5, fun h => ?_, fun h => ?_⟩
    · rw [h] at h6; simpa using h6
    · rw [h] at h7; simpa using h7
  · rintro ⟨h1, h2, h3, h4, h5, h6, h7⟩
    simp only [Ck.valid, Bool.and_eq_true, decide_eq_true_eq]
    refine ⟨⟨⟨⟨⟨⟨h1, h2⟩, h3⟩, h4⟩, h5⟩, ?_⟩, ?_⟩
    · cases ho : c.over
      · simp
      · simp [h6 ho]
    · cases ho : c.inh
      · simp
      · simp [h7 ho]
/-! The timer. -/
/-- A step of the counter from 0. -/
def Ck.out (c : Ck) : Ck := { c with over := c.over || c.flag, flag := true, count := c.latch, ctl := if c.ctl / 4 % 2 = 1 then c.ctl - c.ctl % 2 else c.ctl }
/-- One cycle of the timer. -/
def Ck.tickT (c : Ck) : Ck :=
  if c.ctl % 2 = 0 then c else
  if c.pre + 1 < dv c.ctl then { c with pre := c.pre + 1 } else
  if 0 < c.count then { c with pre := 0, count := c.count - 1 } else Ck.out { c with pre := 0 }
/-- Cycles until a running timer runs out. -/
def Ck.run (c : Ck) : Int := (c.count + 1) * dv c.ctl - c.pre
/-- n cycles of a running timer, fewer than it takes to run out. -/
def Ck.down (c : Ck) (n : Int) : Ck := { c with count := c.count - (c.pre + n) / dv c.ctl, pre := (c.pre + n) % dv c.ctl }
/-- n cycles of the timer. -/
def Ck.advT (c : Ck) (n : Int) : Ck :=
  if c.ctl % 2 = 0 then c else
  if n < c.run then c.down n else
  if (Ck.out { c with pre := 0 }).ctl % 2 = 0 then Ck.out { c with pre := 0 } else
  if (Ck.out { c with pre := 0 }).run ≤ n - c.run then (Ck.out { c with pre := 0 }).out.down ((n - c.run) % (Ck.out { c with pre := 0 }).run) else (Ck.out { c with pre := 0 }).down ((n - c.run) % (Ck.out { c with pre := 0 }).run)
theorem Ck.down_zero {c : Ck} (h0 : 0 ≤ c.pre) (h1 : c.pre < dv c.ctl) : c.down 0 = c := by
  unfold Ck.down
  rw [Int.add_zero, Int.emod_eq_of_lt h0 h1, Int.ediv_eq_zero_of_lt h0 h1, Int.sub_zero]
theorem Ck.run_pos {c : Ck} (h0 : 0 ≤ c.count) (h1 : c.pre < dv c.ctl) : 1 ≤ c.run := by
  unfold Ck.run
  have : 1 * dv c.ctl ≤ (c.count + 1) * dv c.ctl := Int.mul_le_mul_of_nonneg_right (by omega) (by have := dv_pos c.ctl; omega)
  omega
theorem dm (x d : Int) (h : d = 1 ∨ d = 8 ∨ d = 64 ∨ d = 256) : (x % d + 1 < d → (x + 1) / d = x / d ∧ (x + 1) % d = x % d + 1) ∧ (¬ x % d + 1 < d → (x + 1) / d = x / d + 1 ∧ (x + 1) % d = 0) := by
  rcases h with rfl | rfl | rfl | rfl <;> omega
theorem dm_lt (x k d : Int) (h : d = 1 ∨ d = 8 ∨ d = 64 ∨ d = 256) : (x + 1 < (k + 1) * d ↔ x / d < k ∨ (x / d = k ∧ x % d + 1 < d)) ∧ (x + 1 = (k + 1) * d ↔ x / d = k ∧ ¬ x % d + 1 < d) := by
  rcases h with rfl | rfl | rfl | rfl <;> omega
/-- A cycle behind n, where it doesn't run out. -/
theorem Ck.down_step {c : Ck} {n : Int} (hr : c.ctl % 2 ≠ 0) (h : n + 1 < c.run) : (c.down n).tickT = c.down (n + 1) := by
  unfold Ck.run at h
  have hd := dv_cases c.ctl
  have h1 := dm (c.pre + n) _ hd
  have h2 := ((dm_lt (c.pre + n) c.count _ hd).1).1 (by omega)
  unfold Ck.tickT Ck.down
  rw [if_neg (show ¬ c.ctl % 2 = 0 from hr)]
  simp only
  rw [show c.pre + (n + 1) = c.pre + n + 1 by omega]
  by_cases h3 : (c.pre + n) % dv c.ctl + 1 < dv c.ctl
  · rw [if_pos h3, (h1.1 h3).1, (h1.1 h3).2]
  · rw [if_neg h3, if_pos (by omega), (h1.2 h3).1, (h1.2 h3).2]
    apply Ck.ext <;> simp only
    omega
/-- A cycle behind n, where it runs out. -/
theorem Ck.down_out {c : Ck} {n : Int} (hr : c.ctl % 2 ≠ 0) (h : n + 1 = c.run) : (c.down n).tickT = Ck.out { c with pre := 0 } := by
  unfold Ck.run at h
  have hd := dv_cases c.ctl
  have h2 := ((dm_lt (c.pre + n) c.count _ hd).2).1 (by omega)
  unfold Ck.tickT Ck.down
  rw [if_neg (show ¬ c.ctl % 2 = 0 from hr)]
  simp only
  rw [if_neg h2.2, if_neg (by omega)]
  rfl
theorem emod_succ_lt {r m : Int} (hm : 0 < m) (h : r % m + 1 < m) : (r + 1) % m = r % m + 1 := by
  have h0 := Int.emod_nonneg r (Int.ne_of_gt hm)
  rw [Int.add_emod]
  by_cases h1 : m = 1
  · subst h1; omega
  · rw [Int.emod_eq_of_lt (a := 1) (by omega) (by omega), Int.emod_eq_of_lt (by omega) h]
theorem emod_succ_eq {r m : Int} (hm : 0 < m) (h : r % m + 1 = m) : (r + 1) % m = 0 := by
  rw [Int.add_emod]
  by_cases h1 : m = 1
  · subst h1; omega
  · rw [Int.emod_eq_of_lt (a := 1) (by omega) (by omega), h, Int.emod_self]
theorem Ck.advT_zero {c : Ck} (o : c.Ok) (v : c.V) : c.advT 0 = c := by
  unfold Ck.advT
  split
  · rfl
  · rw [if_pos (by have := Ck.run_pos o.count.1 v.pre; omega), Ck.down_zero o.pre.1 v.pre]
theorem Ck.advT_step {c : Ck} (o : c.Ok) (v : c.V) (n : Int) : (c.advT n).tickT = c.advT (n + 1) := by
  have hp := Ck.run_pos o.count.1 v.pre
  unfold Ck.advT
  by_cases hr : c.ctl % 2 = 0
  · rw [if_pos hr, if_pos hr]; unfold Ck.tickT; rw [if_pos hr]
  rw [if_neg hr, if_neg hr]
  by_cases h1 : n + 1 < c.run
  · rw [if_pos (by omega), if_pos h1]; exact Ck.down_step hr h1
  rw [if_neg h1]
  generalize e1 : Ck.out { c with pre := 0 } = c1
  have q0 : c1.pre = 0 := by subst e1; rfl
  have q1 : c1.flag = true := by subst e1; rfl
  have q2 : c1.count = c1.latch := by subst e1; rfl
  have q3 : c1.ctl % 2 ≠ 0 → c1.ctl / 4 % 2 ≠ 1 := by subst e1; simp only [Ck.out]; intro h h'; split at h <;> split at h' <;> omega
  have q4 : 0 ≤ c1.count := by rw [q2]; subst e1; exact o.latch.1
  by_cases h2 : n < c.run
  · rw [if_pos h2]
    have := Ck.down_out (c := c) (n := n) hr (by omega)
    rw [this, e1]
    split
    · rfl
    · have hp1 := Ck.run_pos (c := c1) q4 (by rw [q0]; have := dv_pos c1.ctl; omega)
      rw [if_neg (by omega), show n + 1 - c.run = 0 by omega, Int.zero_emod, Ck.down_zero (by omega) (by rw [q0]; have := dv_pos c1.ctl; omega)]
  rw [if_neg h2]
  by_cases h3 : c1.ctl % 2 = 0
  · rw [if_pos h3, if_pos h3]; unfold Ck.tickT; rw [if_pos h3]
  rw [if_neg h3, if_neg h3]
  have hp1 := Ck.run_pos (c := c1) q4 (by rw [q0]; have := dv_pos c1.ctl; omega)
  have eo : c1.out.out = c1.out := by
    unfold Ck.out
    simp only [if_neg (q3 h3), q1, Bool.or_true]
  have ec : c1.out.ctl = c1.ctl := by unfold Ck.out; simp only [if_neg (q3 h3)]
  have er : c1.out.run = c1.run := by unfold Ck.run; rw [ec, show c1.out.count = c1.count from q2.symm]; rfl
  have ep0 : ({ c1 with pre := 0 } : Ck) = c1 := by apply Ck.ext <;> simp [q0]
  have ep1 : ({ c1.out with pre := 0 } : Ck) = c1.out := by apply Ck.ext <;> simp [q0, Ck.out]
  generalize hR : c1.run = R at *
  have es : n + 1 - c.run = (n - c.run) + 1 := by omega
  have rr : 0 ≤ n - c.run := by omega
  rw [es]
  generalize n - c.run = r at *
  have hr0 := Int.emod_nonneg r (b := R) (by omega)
  have hr1 := Int.emod_lt_of_pos r (b := R) (by omega)
  by_cases h4 : r % R + 1 < R
  · rw [emod_succ_lt (by omega) h4]
    have hne : r + 1 ≠ R := fun h => by
      have : r % R = r := Int.emod_eq_of_lt rr (by omega)
      omega
    by_cases h5 : R ≤ r
    · rw [if_pos h5, if_pos (by omega)]
      exact Ck.down_step (by rw [ec]; exact h3) (by rw [er]; exact h4)
    · rw [if_neg h5, if_neg (by omega)]
      exact Ck.down_step h3 (by rw [hR]; exact h4)
  · have h4' : r % R + 1 = R := by omega
    rw [emod_succ_eq (by omega) h4']
    have hge : R ≤ r + 1 := by
      refine Int.not_lt.1 fun hlt => ?_
      have : r % R = r := Int.emod_eq_of_lt rr (by omega)
      omega
    rw [if_pos hge]
    by_cases h5 : R ≤ r
    · rw [if_pos h5, Ck.down_out (by rw [ec]; exact h3) (by rw [er]; exact h4'), ep1, eo, Ck.down_zero (by show 0 ≤ c1.pre; omega) (by show c1.pre < dv c1.out.ctl; rw [q0]; have := dv_pos c1.out.ctl; omega)]
    · rw [if_neg h5, Ck.down_out h3 (by rw [hR]; exact h4'), ep0, Ck.down_zero (by show 0 ≤ c1.pre; omega) (by show c1.pre < dv c1.out.ctl; rw [q0]; have := dv_pos c1.out.ctl; omega)]
/-! The sequencer. -/
/-- The length of a round, and its last beat. -/
def rdL (five : Bool) : Int := if five = true then 37282 else 29830
def lastM (five : Bool) : Int := if five = true then 37281 else 29829
/-- How many beats there are at a place. -/
def bt (five : Bool) (a : Int) : Int := if a = 7457 ∨ a = 14913 ∨ a = 22371 ∨ a = lastM five then 1 else 0
def Ck.asks (c : Ck) : Bool := !c.five && !c.inh
/-- One more beat where a waiting has ended, with five steps. -/
def wb (five : Bool) (b : Int) : Int := if five = true then (b + 1) % 64 else b
/-- One cycle of the sequencer. -/
def Ck.tickS (c : Ck) : Ck := { c with
  frame := c.frame || (c.asks && decide (29828 ≤ c.at_ + 1 ∧ c.at_ + 1 ≤ 29830))
  at_ := if c.wait = 1 then 0 else if rdL c.five ≤ c.at_ + 1 then 0 else c.at_ + 1
  wait := if 0 < c.wait then c.wait - 1 else c.wait
  beats := if c.wait = 1 then wb c.five ((c.beats + bt c.five (c.at_ + 1)) % 64) else (c.beats + bt c.five (c.at_ + 1)) % 64 }
/-- The place in the round. -/
def plc (five : Bool) (a : Int) : Int := if rdL five ≤ a then -1 else a
def times (n first round : Int) : Int := if n < first then 0 else 1 + (n - first) / round
def firstM (R m p : Int) : Int := if m - p ≤ 0 then m - p + R else m - p
/-- The beats within n cycles from the place p on. -/
def cnt (five : Bool) (p n : Int) : Int :=
  times n (firstM (rdL five) 7457 p) (rdL five) + times n (firstM (rdL five) 14913 p) (rdL five) + times n (firstM (rdL five) 22371 p) (rdL five) + times n (firstM (rdL five) (lastM five) p) (rdL five)
/-- Cycles until the sequencer asks. -/
def Ck.toF (c : Ck) : Int := if max 1 (29828 - plc c.five c.at_) > c.wait ∧ c.wait > 0 then c.wait + 29828 else max 1 (29828 - plc c.five c.at_)
/-- n cycles of the sequencer, one at least. -/
def Ck.advS (c : Ck) (n : Int) : Ck := { c with
  frame := c.frame || (c.asks && decide (c.toF ≤ n))
  at_ := if c.wait = 0 ∨ n < c.wait then (plc c.five c.at_ + n) % rdL c.five else if n = c.wait then 0 else (n - c.wait) % rdL c.five
  wait := if n ≤ c.wait then c.wait - n else 0
  beats := if c.wait = 0 ∨ n < c.wait then (c.beats + cnt c.five (plc c.five c.at_) n) % 64 else if n = c.wait then wb c.five ((c.beats + cnt c.five (plc c.five c.at_) n) % 64) else (wb c.five ((c.beats + cnt c.five (plc c.five c.at_) c.wait) % 64) + cnt c.five 0 (n - c.wait)) % 64 }
theorem times4 (m p n : Int) (m0 : 1 ≤ m) (m1 : m < 29830) (p0 : -1 ≤ p) (p1 : p < 29830) (n0 : 0 ≤ n) :
    times (n + 1) (firstM 29830 m p) 29830 = times n (firstM 29830 m p) 29830 + (if (p + n) % 29830 + 1 = m then 1 else 0) := by
  unfold times firstM
  split <;> split <;> split <;> split <;> omega
theorem times5 (m p n : Int) (m0 : 1 ≤ m) (m1 : m < 37282) (p0 : -1 ≤ p) (p1 : p < 37282) (n0 : 0 ≤ n) :
    times (n + 1) (firstM 37282 m p) 37282 = times n (firstM 37282 m p) 37282 + (if (p + n) % 37282 + 1 = m then 1 else 0) := by
  unfold times firstM
  split <;> split <;> split <;> split <;> omega
theorem bt_sum (five : Bool) (a : Int) : bt five a = (if a = 7457 then 1 else 0) + (if a = 14913 then 1 else 0) + (if a = 22371 then 1 else 0) + (if a = lastM five then 1 else 0) := by
  cases five <;> simp only [bt, lastM, Bool.false_eq_true, if_false, if_true]
  · by_cases h1 : a = 7457
    · subst h1; decide
    by_cases h2 : a = 14913
    · subst h2; decide
    by_cases h3 : a = 22371
    · subst h3; decide
    by_cases h4 : a = 29829
    · subst h4; decide
    simp [h1, h2, h3, h4]
  · by_cases h1 : a = 7457
    · subst h1; decide
    by_cases h2 : a = 14913
    · subst h2; decide
    by_cases h3 : a = 22371
    · subst h3; decide
    by_cases h4 : a = 37281
    · subst h4; decide
    simp [h1, h2, h3, h4]
theorem rdL_pos (five : Bool) : 0 < rdL five := by cases five <;> decide
theorem plc_bd (five : Bool) (a : Int) (h : 0 ≤ a) : -1 ≤ plc five a ∧ plc five a < rdL five := by
  unfold plc
  have := rdL_pos five
  split <;> omega
/-- One more cycle, one more beat where there is one. -/
theorem cnt_step (five : Bool) (p n : Int) (p0 : -1 ≤ p) (p1 : p < rdL five) (n0 : 0 ≤ n) : cnt five p (n + 1) = cnt five p n + bt five ((p + n) % rdL five + 1) := by
  rw [bt_sum]
  unfold cnt
  cases five
  · replace p1 : p < 29830 := p1
    simp only [rdL, lastM, Bool.false_eq_true, if_false]
    rw [times4 7457 p n (by decide) (by decide) p0 p1 n0, times4 14913 p n (by decide) (by decide) p0 p1 n0, times4 22371 p n (by decide) (by decide) p0 p1 n0, times4 29829 p n (by decide) (by decide) p0 p1 n0]
    omega
  · replace p1 : p < 37282 := p1
    simp only [rdL, lastM, if_true]
    rw [times5 7457 p n (by decide) (by decide) p0 p1 n0, times5 14913 p n (by decide) (by decide) p0 p1 n0, times5 22371 p n (by decide) (by decide) p0 p1 n0, times5 37281 p n (by decide) (by decide) p0 p1 n0]
    omega
theorem cnt_zero (five : Bool) (p : Int) (p0 : -1 ≤ p) (p1 : p < rdL five) : cnt five p 0 = 0 := by
  unfold cnt times firstM
  cases five
  · replace p1 : p < 29830 := p1
    simp only [rdL, lastM, Bool.false_eq_true, if_false]
    omega
  · replace p1 : p < 37282 := p1
    simp only [rdL, lastM, if_true]
    omega
theorem cnt_one (five : Bool) (a : Int) (h0 : 0 ≤ a) (h1 : a ≤ 65535) : cnt five (plc five a) 1 = bt five (a + 1) := by
  have hb := plc_bd five a h0
  by_cases h : rdL five ≤ a
  · have e : plc five a = -1 := by unfold plc; rw [if_pos h]
    rw [e]
    cases five
    · replace h : 29830 ≤ a := h
      unfold bt
      rw [if_neg (by simp only [lastM, Bool.false_eq_true, if_false]; omega)]
      decide
    · replace h : 37282 ≤ a := h
      unfold bt
      rw [if_neg (by simp only [lastM, if_true]; omega)]
      decide
  · have e : plc five a = a := by unfold plc; rw [if_neg h]
    rw [e] at hb ⊢
    have := cnt_step five a 0 hb.1 hb.2 (by omega)
    rw [cnt_zero five a hb.1 hb.2, Int.add_zero, Int.emod_eq_of_lt h0 hb.2] at this
    simpa using this
theorem mod_succ (five : Bool) (x : Int) : (x + 1) % rdL five = if rdL five ≤ x % rdL five + 1 then 0 else x % rdL five + 1 := by
  cases five
  · show (x + 1) % 29830 = if (29830 : Int) ≤ x % 29830 + 1 then 0 else x % 29830 + 1
    split <;> omega
  · show (x + 1) % 37282 = if (37282 : Int) ≤ x % 37282 + 1 then 0 else x % 37282 + 1
    split <;> omega
theorem mod_bd (five : Bool) (x : Int) : 0 ≤ x % rdL five ∧ x % rdL five < rdL five := ⟨Int.emod_nonneg _ (by have := rdL_pos five; omega), Int.emod_lt_of_pos _ (rdL_pos five)⟩
theorem plc_one (five : Bool) (a : Int) (h0 : 0 ≤ a) : (plc five a + 1) % rdL five = if rdL five ≤ a + 1 then 0 else a + 1 := by
  unfold plc
  cases five
  · simp only [rdL, Bool.false_eq_true, if_false]; split <;> split <;> omega
  · simp only [rdL, if_true]; split <;> split <;> omega
theorem Ck.advS_one {c : Ck} (o : c.Ok) : c.advS 1 = c.tickS := by
  have hw := o.wait
  have ha := o.at_
  have e1 := cnt_one c.five c.at_ ha.1 ha.2
  have e2 := plc_one c.five c.at_ ha.1
  unfold Ck.advS Ck.tickS
  congr 1
  · congr 1
    cases hk : c.asks
    · rfl
    · rw [Bool.true_and, Bool.true_and]
      have h5 : c.five = false := by unfold Ck.asks at hk; cases h : c.five <;> simp_all
      rw [decide_eq_decide]
      unfold Ck.toF plc
      rw [h5]
      simp only [rdL, Bool.false_eq_true, if_false]
      split <;> split <;> omega
  · rw [e2]
    by_cases h0 : c.wait = 0
    · rw [if_pos (.inl h0), if_neg (show ¬ c.wait = 1 by omega)]
    by_cases h1 : c.wait = 1
    · rw [if_neg (by omega), if_pos h1.symm, if_pos h1]
    · rw [if_pos (by omega), if_neg h1]
  · split <;> split <;> omega
  · rw [e1]
    by_cases h0 : c.wait = 0
    · rw [if_pos (.inl h0), if_neg (show ¬ c.wait = 1 by omega)]
    by_cases h1 : c.wait = 1
    · rw [if_neg (by omega), if_pos h1.symm, if_pos h1]
    · rw [if_pos (by omega), if_neg h1]
theorem add_mod64 (a b c : Int) : ((a + b) % 64 + c) % 64 = (a + (b + c)) % 64 := by omega
theorem Ck.advS_step {c : Ck} (o : c.Ok) (n : Int) (hn : 1 ≤ n) : (c.advS n).tickS = c.advS (n + 1) := by
  have hw := o.wait
  have ha := o.at_
  have hp := plc_bd c.five c.at_ ha.1
  have hR := rdL_pos c.five
  have s1 := cnt_step c.five (plc c.five c.at_) n hp.1 hp.2 (by omega)
  have m1 := mod_succ c.five (plc c.five c.at_ + n)
  have eas : (c.advS n).asks = c.asks := rfl
  have efi : (c.advS n).five = c.five := rfl
  unfold Ck.tickS
  rw [eas, efi]
  have hat : (c.advS n).at_ = if c.wait = 0 ∨ n < c.wait then (plc c.five c.at_ + n) % rdL c.five else if n = c.wait then 0 else (n - c.wait) % rdL c.five := rfl
  have hwt : (c.advS n).wait = if n ≤ c.wait then c.wait - n else 0 := rfl
  have hbt : (c.advS n).beats = if c.wait = 0 ∨ n < c.wait then (c.beats + cnt c.five (plc c.five c.at_) n) % 64 else if n = c.wait then wb c.five ((c.beats + cnt c.five (plc c.five c.at_) n) % 64) else (wb c.five ((c.beats + cnt c.five (plc c.five c.at_) c.wait) % 64) + cnt c.five 0 (n - c.wait)) % 64 := rfl
  have hfr : (c.advS n).frame = (c.frame || (c.asks && decide (c.toF ≤ n))) := rfl
  have gfr : (c.frame || (c.asks && decide (c.toF ≤ n)) || (c.asks && decide (29828 ≤ (c.advS n).at_ + 1 ∧ (c.advS n).at_ + 1 ≤ 29830))) = (c.frame || (c.asks && decide (c.toF ≤ n + 1))) := by
    rw [hat, Bool.or_assoc]
    congr 1
    cases hk : c.asks
    · rfl
    · rw [Bool.true_and, Bool.true_and, Bool.true_and]
      have h5 : c.five = false := by unfold Ck.asks at hk; cases h : c.five <;> simp_all
      rw [← Bool.decide_or, decide_eq_decide]
      unfold Ck.toF plc
      rw [h5]
      simp only [rdL, Bool.false_eq_true, if_false]
      omega
  rw [hfr, gfr]
  by_cases h0 : c.wait = 0
  · rw [if_pos (.inl h0)] at hat hbt
    rw [show (c.advS n).wait = 0 by rw [hwt]; split <;> omega, hat, hbt]
    unfold Ck.advS
    congr 1
    · rw [if_neg (by omega), ← m1, if_pos (.inl h0), show plc c.five c.at_ + (n + 1) = plc c.five c.at_ + n + 1 by omega]
    · rw [if_neg (by omega)]; split <;> omega
    · rw [if_neg (by omega), if_pos (.inl h0), add_mod64, s1]
  by_cases h1 : n < c.wait
  · rw [if_pos (.inr h1)] at hat hbt
    rw [show (c.advS n).wait = c.wait - n by rw [hwt, if_pos (by omega)], hat, hbt]
    unfold Ck.advS
    congr 1
    · by_cases h2 : n + 1 = c.wait
      · rw [if_pos (by omega), if_neg (by omega), if_pos h2]
      · rw [if_neg (by omega), ← m1, if_pos (by omega), show plc c.five c.at_ + (n + 1) = plc c.five c.at_ + n + 1 by omega]
    · rw [if_pos (by omega), if_pos (by omega)]; omega
    · rw [add_mod64, ← s1]
      by_cases h2 : n + 1 = c.wait
      · rw [if_pos (by omega), if_neg (by omega), if_pos h2]
      · rw [if_neg (by omega), if_pos (by omega)]
  have z0 := cnt_zero c.five 0 (by omega) hR
  by_cases h2 : n = c.wait
  · rw [if_neg (by omega), if_pos h2] at hat hbt
    rw [show (c.advS n).wait = 0 by rw [hwt, if_pos (by omega)]; omega, hat, hbt]
    unfold Ck.advS
    congr 1
    · have m0 := mod_succ c.five 0
      rw [Int.zero_emod] at m0
      rw [if_neg (by omega), ← m0, if_neg (by omega), if_neg (by omega), show n + 1 - c.wait = 0 + 1 by omega]
    · rw [if_neg (by omega), if_neg (by omega)]
    · rw [if_neg (by omega), if_neg (by omega), if_neg (by omega)]
      rw [show n + 1 - c.wait = 0 + 1 by omega, cnt_step c.five 0 0 (by omega) hR (by omega), z0, Int.zero_add, Int.add_zero, Int.zero_emod, h2]
      simp
  · rw [if_neg (by omega), if_neg h2] at hat hbt
    rw [show (c.advS n).wait = 0 by rw [hwt, if_neg (by omega)], hat, hbt]
    unfold Ck.advS
    congr 1
    · rw [if_neg (by omega), ← mod_succ, if_neg (by omega), if_neg (by omega), show n + 1 - c.wait = (n - c.wait) + 1 by omega]
    · rw [if_neg (by omega), if_neg (by omega)]
    · rw [if_neg (by omega), if_neg (by omega), if_neg (by omega)]
      rw [show n + 1 - c.wait = (n - c.wait) + 1 by omega, cnt_step c.five 0 (n - c.wait) (by omega) hR (by omega), add_mod64, Int.zero_add]
/-! Both. -/
def Ck.tick (c : Ck) : Ck := if c.valid = true then c.tickT.tickS else c
def Ck.adv (c : Ck) (n : Int) : Ck := if 0 < n ∧ c.valid = true then (c.advT n).advS n else c
theorem Ck.tickT_advS (c : Ck) (n : Int) : (c.advS n).tickT = c.tickT.advS n := by
  unfold Ck.tickT
  by_cases h1 : c.ctl % 2 = 0
  · rw [if_pos h1, if_pos (show (c.advS n).ctl % 2 = 0 from h1)]
  rw [if_neg h1, if_neg (show ¬ (c.advS n).ctl % 2 = 0 from h1)]
  by_cases h2 : c.pre + 1 < dv c.ctl
  · rw [if_pos h2, if_pos (show (c.advS n).pre + 1 < dv (c.advS n).ctl from h2)]; rfl
  rw [if_neg h2, if_neg (show ¬ (c.advS n).pre + 1 < dv (c.advS n).ctl from h2)]
  by_cases h3 : 0 < c.count
  · rw [if_pos h3, if_pos (show 0 < (c.advS n).count from h3)]; rfl
  rw [if_neg h3, if_neg (show ¬ 0 < (c.advS n).count from h3)]; rfl
/-- What a cycle keeps. -/
theorem Ck.tickT_ok {c : Ck} (o : c.Ok) (v : c.V) : c.tickT.Ok ∧ c.tickT.V := by
  have hd := dv_pos c.ctl
  obtain ⟨o1, o2, o3, o4, o5, o6, o7, o8⟩ := o
  obtain ⟨v1, v2, v3, v4, v5, v6, v7⟩ := v
  unfold Ck.tickT
  split
  · exact ⟨⟨o1, o2, o3, o4, o5, o6, o7, o8⟩, v1, v2, v3, v4, v5, v6, v7⟩
  split
  · exact ⟨⟨o1, o2, ⟨by simp only; omega, by simp only; omega⟩, o4, o5, o6, o7, o8⟩, v1, by assumption, v3, v4, v5, v6, v7⟩
  split
  · exact ⟨⟨o1, ⟨by simp only; omega, by simp only; omega⟩, by simp only; decide, o4, o5, o6, o7, o8⟩, v1, by simp only; omega, v3, v4, v5, v6, v7⟩
  · have hk := dv_pos (if c.ctl / 4 % 2 = 1 then c.ctl - c.ctl % 2 else c.ctl)
    refine ⟨⟨o1, o1, by simp only [Ck.out]; decide, o4, ?_, o6, o7, o8⟩, ?_, ?_, v3, v4, v5, fun _ => rfl, v7⟩
    · simp only [Ck.out]; split <;> omega
    · simp only [Ck.out]; split <;> omega
    · simp only [Ck.out]; omega
theorem Ck.tickS_ok {c : Ck} (o : c.Ok) (v : c.V) : c.tickS.Ok ∧ c.tickS.V := by
  obtain ⟨o1, o2, o3, o4, o5, o6, o7, o8⟩ := o
  obtain ⟨v1, v2, v3, v4, v5, v6, v7⟩ := v
  have hR : rdL c.five ≤ 37282 := by cases c.five <;> decide
  have ea : 0 ≤ c.tickS.at_ ∧ c.tickS.at_ ≤ 37281 := by
    simp only [Ck.tickS]; split
    · decide
    split <;> omega
  have ew : 0 ≤ c.tickS.wait ∧ c.tickS.wait ≤ 4 := by simp only [Ck.tickS]; split <;> omega
  have eb : 0 ≤ c.tickS.beats ∧ c.tickS.beats ≤ 63 := by simp only [Ck.tickS, wb]; split <;> first | omega | (split <;> omega)
  refine ⟨⟨o1, o2, o3, o4, o5, ⟨ea.1, by omega⟩, ⟨ew.1, by omega⟩, ⟨eb.1, by omega⟩⟩, v1, v2, ea.2, ew.2, eb.2, v6, fun h => ?_⟩
  have h' : c.inh = true := h
  simp only [Ck.tickS, Ck.asks, h', v7 h', Bool.not_true, Bool.and_false, Bool.false_and, Bool.false_or]
theorem Ck.tick_ok {c : Ck} (o : c.Ok) : c.tick.Ok := by
  unfold Ck.tick
  split
  · rename_i h; obtain ⟨a, b⟩ := Ck.tickT_ok o ((Ck.valid_iff c).1 h); exact (Ck.tickS_ok a b).1
  · exact o
theorem Ck.tick_valid {c : Ck} (o : c.Ok) : c.tick.valid = c.valid := by
  unfold Ck.tick
  split
  · rename_i h; obtain ⟨a, b⟩ := Ck.tickT_ok o ((Ck.valid_iff c).1 h); rw [h]; exact (Ck.valid_iff _).2 (Ck.tickS_ok a b).2
  · rfl
/-- n times one cycle. -/
def Ck.it (c : Ck) : Nat → Ck
  | 0 => c
  | n + 1 => (c.it n).tick
theorem Ck.it_ok {c : Ck} (o : c.Ok) : ∀ n, (c.it n).Ok ∧ (c.it n).valid = c.valid
  | 0 => ⟨o, rfl⟩
  | n + 1 => by obtain ⟨h1, h2⟩ := Ck.it_ok o n; exact ⟨Ck.tick_ok h1, (Ck.tick_valid h1).trans h2⟩
theorem Ck.advT_ok {c : Ck} (o : c.Ok) (v : c.V) : ∀ n : Nat, (c.advT n).Ok ∧ (c.advT n).V
  | 0 => by rw [show ((0 : Nat) : Int) = 0 from rfl, Ck.advT_zero o v]; exact ⟨o, v⟩
  | n + 1 => by
    obtain ⟨h1, h2⟩ := Ck.advT_ok o v n
    rw [Int.natCast_add, show ((1 : Nat) : Int) = 1 from rfl, ← Ck.advT_step o v]
    exact Ck.tickT_ok h1 h2
/-- n cycles at once are n times one. -/
theorem Ck.adv_it {c : Ck} (o : c.Ok) : ∀ n : Nat, c.adv n = c.it n
  | 0 => by unfold Ck.adv; rw [if_neg (by omega)]; rfl
  | 1 => by
    show _ = c.tick
    unfold Ck.adv Ck.tick
    cases hv : c.valid
    · simp
    · have v := (Ck.valid_iff c).1 hv
      rw [if_pos ⟨by decide, rfl⟩, if_pos rfl]
      have e := Ck.advT_step o v 0
      rw [Ck.advT_zero o v, Int.zero_add] at e
      rw [show ((1 : Nat) : Int) = 1 from rfl, ← e]
      exact Ck.advS_one (Ck.tickT_ok o v).1
  | n + 2 => by
    have ih := Ck.adv_it o (n + 1)
    show _ = (c.it (n + 1)).tick
    have hk := Ck.it_ok o (n + 1)
    rw [← ih] at hk ⊢
    unfold Ck.tick
    rw [hk.2]
    unfold Ck.adv
    cases hv : c.valid
    · simp
    · have v := (Ck.valid_iff c).1 hv
      rw [if_pos ⟨by omega, rfl⟩, if_pos rfl, if_pos ⟨by omega, rfl⟩, Ck.tickT_advS, show ((n + 2 : Nat) : Int) = ((n + 1 : Nat) : Int) + 1 by omega, ← Ck.advT_step o v]
      obtain ⟨h1, h2⟩ := Ck.advT_ok o v (n + 1)
      exact (Ck.advS_step (Ck.tickT_ok h1 h2).1 _ (by omega)).symm
theorem Ck.it_add (c : Ck) (a : Nat) : ∀ b, (c.it a).it b = c.it (a + b)
  | 0 => rfl
  | b + 1 => congrArg Ck.tick (Ck.it_add c a b)
theorem Ck.adv_ok {c : Ck} (o : c.Ok) (n : Int) : (c.adv n).Ok ∧ (c.adv n).valid = c.valid := by
  by_cases h : 0 < n
  · obtain ⟨k, rfl⟩ := Int.eq_ofNat_of_zero_le (Int.le_of_lt h)
    rw [Ck.adv_it o]; exact Ck.it_ok o k
  · unfold Ck.adv; rw [if_neg (by omega)]; exact ⟨o, rfl⟩
theorem Ck.adv_add {c : Ck} (o : c.Ok) (a b : Int) (ha : 0 ≤ a) (hb : 0 ≤ b) : (c.adv a).adv b = c.adv (a + b) := by
  obtain ⟨k, rfl⟩ := Int.eq_ofNat_of_zero_le ha
  obtain ⟨m, rfl⟩ := Int.eq_ofNat_of_zero_le hb
  rw [Ck.adv_it (Ck.adv_ok o _).1, Ck.adv_it o, ← Int.natCast_add, Ck.adv_it o, Ck.it_add]
theorem Ck.adv_one {c : Ck} (o : c.Ok) : c.adv 1 = c.tick := Ck.adv_it o 1
theorem Ck.adv_none {c : Ck} {n : Int} (h : n ≤ 0) : c.adv n = c := by unfold Ck.adv; rw [if_neg (by omega)]
end Go.Proofs.YtobiiogoofkmaaaDoor
