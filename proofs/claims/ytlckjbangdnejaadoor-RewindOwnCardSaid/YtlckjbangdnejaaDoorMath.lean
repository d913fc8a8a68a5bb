/-
  Plain arithmetic for the check sum: the table of sixteen words is linear over exclusive or, half a byte at a time is injective, four single bits are one table step; no Go in it, no conditions.
-/
namespace Go.Proofs.YtlckjbangdnejaaDoor
namespace CrcM
def T : List Nat := [0x00000000, 0x1db71064, 0x3b6e20c8, 0x26d930ac, 0x76dc4190, 0x6b6b51f4, 0x4db26158, 0x5005713c, 0xedb88320, 0xf00f9344, 0xd6d6a3e8, 0xcb61b38c, 0x9b64c2b0, 0x86d3d2d4, 0xa00ae278, 0xbdbdf21c]
def t (i : Nat) : Nat := T.getD i 0
def s4 (r : Nat) : Nat := r / 16 ^^^ t (r % 16)
def step (r b : Nat) : Nat := s4 (s4 (r ^^^ b))
def feed (r : Nat) (l : List Nat) : Nat := l.foldl step r
theorem t_lin : ∀ i, i < 16 → ∀ j, j < 16 → t (i ^^^ j) = t i ^^^ t j := by decide +kernel
theorem t_lt : ∀ i, i < 16 → t i < 4294967296 := by decide +kernel
theorem t_hi : ∀ i, i < 16 → ∀ j, j < 16 → (t i ^^^ t j) < 268435456 → i = j := by decide +kernel
theorem t_zero : t 0 = 0 := by decide
theorem div16 (a b : Nat) : (a ^^^ b) / 16 = a / 16 ^^^ b / 16 := by
  have := Nat.shiftRight_xor_distrib (a := a) (b := b) (i := 4)
  simpa [Nat.shiftRight_eq_div_pow] using this
theorem mod16 (a b : Nat) : (a ^^^ b) % 16 = a % 16 ^^^ b % 16 := Nat.xor_mod_two_pow (a := a) (b := b) (n := 4)
theorem s4_lin (a b : Nat) : s4 (a ^^^ b) = s4 a ^^^ s4 b := by
  unfold s4
  rw [div16, mod16, t_lin _ (Nat.mod_lt _ (by decide)) _ (Nat.mod_lt _ (by decide))]
  ac_rfl
theorem step_lin (r r' b b' : Nat) : step (r ^^^ r') (b ^^^ b') = step r b ^^^ step r' b' := by
  unfold step
  rw [← s4_lin, ← s4_lin]
  congr 2
  ac_rfl
theorem s4_lt (r : Nat) (h : r < 4294967296) : s4 r < 4294967296 := by
  unfold s4
  exact Nat.xor_lt_two_pow (n := 32) (by omega) (t_lt _ (Nat.mod_lt _ (by decide)))
theorem step_lt (r b : Nat) (h : r < 4294967296) (hb : b < 4294967296) : step r b < 4294967296 :=
  s4_lt _ (s4_lt _ (Nat.xor_lt_two_pow (n := 32) h hb))
theorem xor_cancel {a b c d : Nat} (h : a ^^^ b = c ^^^ d) : a ^^^ c = b ^^^ d := by
  have : (a ^^^ b) ^^^ (b ^^^ c) = (c ^^^ d) ^^^ (b ^^^ c) := by rw [h]
  have e1 : (a ^^^ b) ^^^ (b ^^^ c) = a ^^^ c := by
    rw [Nat.xor_assoc, ← Nat.xor_assoc b b c, Nat.xor_self, Nat.zero_xor]
  have e2 : (c ^^^ d) ^^^ (b ^^^ c) = b ^^^ d := by
    rw [Nat.xor_comm c d, Nat.xor_assoc, ← Nat.xor_assoc c, Nat.xor_comm c b, Nat.xor_assoc, Nat.xor_self, Nat.xor_zero, Nat.xor_comm]
  rw [← e1, this, e2]
theorem eq_of_xor {a b : Nat} (h : a ^^^ b = 0) : a = b := by
  have : (a ^^^ b) ^^^ b = b := by rw [h, Nat.zero_xor]
  rwa [Nat.xor_assoc, Nat.xor_self, Nat.xor_zero] at this
theorem s4_inj {a b : Nat} (ha : a < 4294967296) (hb : b < 4294967296) (h : s4 a = s4 b) : a = b := by
  unfold s4 at h
  have h' := xor_cancel h
  have hl : (a / 16 ^^^ b / 16) < 268435456 := Nat.xor_lt_two_pow (n := 28) (by omega) (by omega)
  rw [h'] at hl
  have e := t_hi _ (Nat.mod_lt _ (by decide)) _ (Nat.mod_lt _ (by decide)) hl
  rw [e, Nat.xor_self] at h'
  have := eq_of_xor h'
  omega
theorem xor_inj_left {a b c : Nat} (h : a ^^^ c = b ^^^ c) : a = b := by
  have := xor_cancel h
  rw [Nat.xor_self] at this
  exact eq_of_xor this
theorem step_inj_r {r r' b : Nat} (h1 : r < 4294967296) (h2 : r' < 4294967296) (hb : b < 4294967296) (h : step r b = step r' b) : r = r' := by
  unfold step at h
  have a1 := Nat.xor_lt_two_pow (n := 32) h1 hb
  have a2 := Nat.xor_lt_two_pow (n := 32) h2 hb
  exact xor_inj_left (s4_inj a1 a2 (s4_inj (s4_lt _ a1) (s4_lt _ a2) h))
theorem step_inj_b {r b b' : Nat} (h1 : r < 4294967296) (h2 : b < 4294967296) (hb : b' < 4294967296) (h : step r b = step r b') : b = b' := by
  unfold step at h
  have a1 := Nat.xor_lt_two_pow (n := 32) h1 h2
  have a2 := Nat.xor_lt_two_pow (n := 32) h1 hb
  have e := s4_inj a1 a2 (s4_inj (s4_lt _ a1) (s4_lt _ a2) h)
  rw [Nat.xor_comm r b, Nat.xor_comm r b'] at e
  exact xor_inj_left e
def Bytes (l : List Nat) : Prop := ∀ x ∈ l, x < 256
theorem feed_lt (l : List Nat) (hl : Bytes l) (r : Nat) (h : r < 4294967296) : feed r l < 4294967296 := by
  induction l generalizing r with
  | nil => exact h
  | cons x l ih =>
    have hx := hl x (by simp)
    exact ih (fun y hy => hl y (by simp [hy])) _ (step_lt _ _ h (by omega))
theorem feed_append (r : Nat) (a b : List Nat) : feed r (a ++ b) = feed (feed r a) b := by simp [feed]
theorem feed_inj (l : List Nat) (hl : Bytes l) {r r' : Nat} (h1 : r < 4294967296) (h2 : r' < 4294967296) (h : feed r l = feed r' l) : r = r' := by
  induction l generalizing r r' with
  | nil => exact h
  | cons x l ih =>
    have hx := hl x (by simp)
    exact step_inj_r h1 h2 (by omega) (ih (fun y hy => hl y (by simp [hy])) (step_lt _ _ h1 (by omega)) (step_lt _ _ h2 (by omega)) h)
/-- a byte turned turns the register -/
theorem feed_turn (a c : List Nat) (x y : Nat) (ha : Bytes a) (hc : Bytes c) (hx : x < 256) (hy : y < 256) (hne : x ≠ y) (r : Nat) (hr : r < 4294967296) :
    feed r (a ++ x :: c) ≠ feed r (a ++ y :: c) := by
  intro h
  rw [feed_append, feed_append] at h
  have h1 := feed_lt a ha r hr
  exact hne (step_inj_b h1 (by omega) (by omega) (feed_inj c hc (step_lt _ _ h1 (by omega)) (step_lt _ _ h1 (by omega)) h))
/-- affine over three -/
theorem feed_lin : ∀ (a b : List Nat) (r r' r'' : Nat), a.length = b.length →
    feed (r ^^^ r' ^^^ r'') (List.zipWith (· ^^^ ·) a b) = feed r a ^^^ feed r' b ^^^ feed r'' (List.replicate a.length 0)
  | [], [], r, r', r'', _ => rfl
  | x :: a, y :: b, r, r', r'', h => by
    have ih := feed_lin a b (step r x) (step r' y) (step r'' 0) (by simpa using h)
    simp only [List.zipWith_cons_cons, List.length_cons, List.replicate_succ, feed, List.foldl_cons] at ih ⊢
    rw [← ih]
    congr 1
    rw [← step_lin, ← step_lin, Nat.xor_zero]
/-- one bit -/
def s1 (r : Nat) : Nat := r / 2 ^^^ (if r % 2 = 1 then 0xedb88320 else 0)
theorem s1_lin (a b : Nat) : s1 (a ^^^ b) = s1 a ^^^ s1 b := by
  unfold s1
  have h2 : (a ^^^ b) / 2 = a / 2 ^^^ b / 2 := by
    have := Nat.shiftRight_xor_distrib (a := a) (b := b) (i := 1)
    simpa [Nat.shiftRight_eq_div_pow] using this
  have h3 : (a ^^^ b) % 2 = a % 2 ^^^ b % 2 := Nat.xor_mod_two_pow (a := a) (b := b) (n := 1)
  rw [h2, h3]
  rcases Nat.mod_two_eq_zero_or_one a with ea | ea <;> rcases Nat.mod_two_eq_zero_or_one b with eb | eb <;> rw [ea, eb] <;> simp
  · ac_rfl
  · ac_rfl
  · have : ∀ x y p : Nat, x ^^^ y = x ^^^ p ^^^ (y ^^^ p) := fun x y p => by
      rw [Nat.xor_assoc, ← Nat.xor_assoc p, Nat.xor_comm p y, Nat.xor_assoc, Nat.xor_self, Nat.xor_zero]
    exact this _ _ _
theorem s1_dbl (q : Nat) : s1 (2 * q) = q := by unfold s1; simp
theorem s1_small : ∀ i, i < 16 → s1 (s1 (s1 (s1 i))) = t i := by decide +kernel
theorem split16 (r : Nat) : r = (16 * (r / 16)) ^^^ (r % 16) := by
  have h : 16 * (r / 16) ||| r % 16 = 16 * (r / 16) + r % 16 := by
    have := Nat.two_pow_add_eq_or_of_lt (i := 4) (b := r % 16) (Nat.mod_lt _ (by decide)) (r / 16)
    simpa using this.symm
  have h0 : 16 * (r / 16) &&& r % 16 = 0 := by
    apply Nat.eq_of_testBit_eq
    intro i
    have e1 : (16 * (r / 16)).testBit i = (decide (4 ≤ i) && (r / 16).testBit (i - 4)) := by
      have := Nat.testBit_two_pow_mul (i := 4) (j := i) (a := r / 16)
      simpa using this
    have e2 : (r % 16).testBit i = (decide (i < 4) && r.testBit i) := by
      have := Nat.testBit_mod_two_pow r 4 i
      simpa using this
    rw [Nat.testBit_and, e1, e2, Nat.zero_testBit]
    by_cases h : i < 4
    · simp [show ¬ 4 ≤ i by omega]
    · simp [h]
  apply Nat.eq_of_testBit_eq
  intro i
  have hh : r = 16 * (r / 16) ||| r % 16 := by rw [h]; omega
  have hz := congrArg (fun n => n.testBit i) h0
  simp only [Nat.testBit_and, Nat.zero_testBit] at hz
  rw [Nat.testBit_xor]
  have e := (congrArg (fun n => n.testBit i) hh).trans (Nat.testBit_or _ _ i)
  rw [e]
  generalize (16 * (r / 16)).testBit i = x at *
  generalize (r % 16).testBit i = y at *
  revert hz
  cases x <;> cases y <;> decide
theorem s1_four (r : Nat) : s1 (s1 (s1 (s1 r))) = s4 r := by
  rw [split16 r]
  simp only [s1_lin]
  rw [s1_small _ (Nat.mod_lt _ (by decide)), ← split16 r]
  rw [show 16 * (r / 16) = 2 * (2 * (2 * (2 * (r / 16)))) by omega, s1_dbl, s1_dbl, s1_dbl, s1_dbl]
  rfl
theorem s1_eight (r : Nat) : s1 (s1 (s1 (s1 (s1 (s1 (s1 (s1 r))))))) = s4 (s4 r) := by rw [s1_four, s1_four]
theorem s1_lt (r : Nat) (h : r < 4294967296) : s1 r < 4294967296 := by
  unfold s1
  exact Nat.xor_lt_two_pow (n := 32) (by omega) (by split <;> decide)
def known : List Nat := [0x31, 0x32, 0x33, 0x34, 0x35, 0x36, 0x37, 0x38, 0x39]
theorem known_sum : feed 4294967295 known ^^^ 4294967295 = 0xcbf43926 := by decide +kernel
theorem zero_sum : feed 4294967295 [0] ^^^ 4294967295 = 0xd202ef8d := by decide +kernel
end CrcM
end Go.Proofs.YtlckjbangdnejaaDoor
