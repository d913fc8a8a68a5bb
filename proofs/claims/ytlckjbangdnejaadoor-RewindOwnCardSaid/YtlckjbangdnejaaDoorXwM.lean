/-
  Plain facts on patches: numbers in groups of seven bits, what differs, its runs; no Go in it.
-/
set_option linter.unusedSimpArgs false
set_option linter.unusedVariables false
namespace Go.Proofs.YtlckjbangdnejaaDoor
namespace RwM
def Bytes (l : List Nat) : Prop := ∀ x ∈ l, x < 256
/-- A number in groups of seven bits. -/
def numF : Nat → Nat → List Nat
  | 0, n => [n]
  | k + 1, n => if n < 128 then [n] else (n % 128 + 128) :: numF k (n / 128)
theorem numF_eq : ∀ (j k n : Nat), n ≤ j → n ≤ k → numF j n = numF k n := by
  intro j
  induction j with
  | zero =>
    intro k n h1 _
    obtain rfl : n = 0 := by omega
    cases k with
    | zero => rfl
    | succ k => rfl
  | succ j ih =>
    intro k n h1 h2
    cases k with
    | zero =>
      obtain rfl : n = 0 := by omega
      rfl
    | succ k =>
      unfold numF
      by_cases h : n < 128
      · rw [if_pos h, if_pos h]
      · rw [if_neg h, if_neg h, ih k (n / 128) (by omega) (by omega)]
def num (n : Nat) : List Nat := numF n n
theorem num_lt {n : Nat} (h : n < 128) : num n = [n] := by
  unfold num
  cases n with
  | zero => rfl
  | succ n => unfold numF; rw [if_pos h]
theorem num_ge {n : Nat} (h : ¬ n < 128) : num n = (n % 128 + 128) :: num (n / 128) := by
  unfold num
  cases n with
  | zero => omega
  | succ n =>
    rw [numF, if_neg h]
    congr 1
    exact numF_eq _ _ _ (by omega) (Nat.le_refl _)
theorem num_bytes : ∀ (n : Nat), Bytes (num n) := by
  intro n
  induction n using Nat.strongRecOn with
  | _ n ih =>
    by_cases h : n < 128
    · rw [num_lt h]; intro x hx; simp only [List.mem_singleton] at hx; omega
    · rw [num_ge h]; intro x hx
      rcases List.mem_cons.1 hx with rfl | hx
      · omega
      · exact ih _ (by omega) x hx
theorem num_len (n : Nat) (h : n < 2097152) : 1 ≤ (num n).length ∧ (num n).length ≤ 3 ∧ (n < 128 → (num n).length = 1) ∧ (n < 16384 → (num n).length ≤ 2) := by
  by_cases h1 : n < 128
  · rw [num_lt h1]; simp
  · rw [num_ge h1]
    by_cases h2 : n / 128 < 128
    · rw [num_lt h2]; simp; omega
    · rw [num_ge h2, num_lt (by omega)]; simp; omega
/-- A number read, of so many groups at most. -/
def rdN : Nat → List Nat → Option (Nat × List Nat)
  | 0, _ => none
  | _ + 1, [] => none
  | k + 1, b :: L => if b < 128 then some (b, L) else (rdN k L).map fun p => (b % 128 + 128 * p.1, p.2)
theorem rd_num (k : Nat) : ∀ (n : Nat) (R : List Nat), n < 128 ^ k → 0 < k → rdN k (num n ++ R) = some (n, R) := by
  induction k with
  | zero => intro n R h h0; omega
  | succ k ih =>
    intro n R h _
    by_cases h1 : n < 128
    · rw [num_lt h1]; simp [rdN, h1]
    · rw [num_ge h1, List.cons_append, rdN, if_neg (by omega)]
      have hk : 0 < k := by
        rcases Nat.eq_zero_or_pos k with rfl | h
        · simp at h; omega
        · exact h
      rw [ih (n / 128) R (by rw [Nat.div_lt_iff_lt_mul (by decide)]; rwa [Nat.pow_succ] at h) hk]
      simp; omega
theorem num_inj {m n : Nat} {R S : List Nat} (hm : m < 2097152) (hn : n < 2097152) (h : num m ++ R = num n ++ S) : m = n ∧ R = S := by
  have a := rd_num 3 m R (by omega) (by decide)
  have b := rd_num 3 n S (by omega) (by decide)
  rw [h, b] at a
  simp at a
  exact ⟨a.1.symm, a.2.symm⟩
theorem num_zero : num 0 = [0] := num_lt (by decide)
/-- to, each byte with from's turned into it. -/
def xr (f t : List Nat) : List Nat := (List.range t.length).map fun i => t.getD i 0 ^^^ f.getD i 0
theorem xr_len (f t : List Nat) : (xr f t).length = t.length := by simp [xr]
theorem getD_of_le {l : List Nat} {i : Nat} (h : l.length ≤ i) : l.getD i 0 = 0 := by simp [List.getD, h]
theorem xr_at (f t : List Nat) (i : Nat) (h : i < t.length) : (xr f t).getD i 0 = t.getD i 0 ^^^ f.getD i 0 := by
  simp [xr, List.getD, h]
theorem bytes_getD {l : List Nat} (h : Bytes l) (i : Nat) : l.getD i 0 < 256 := by
  by_cases hi : i < l.length
  · simp only [List.getD, List.getElem?_eq_getElem hi, Option.getD_some]; exact h _ (List.getElem_mem hi)
  · rw [getD_of_le (by omega)]; decide
theorem xr_bytes {f t : List Nat} (hf : Bytes f) (ht : Bytes t) : Bytes (xr f t) := by
  intro x hx
  simp only [xr, List.mem_map] at hx
  obtain ⟨i, _, rfl⟩ := hx
  exact Nat.xor_lt_two_pow (n := 8) (bytes_getD ht i) (bytes_getD hf i)
/-- How many zeros lie ahead. -/
def zs : List Nat → Nat
  | [] => 0
  | y :: ys => if y = 0 then 1 + zs ys else 0
def quiet (y : List Nat) : Bool := (y.take 4).all (· == 0)
/-- How long a run goes on. -/
def rl : List Nat → Nat
  | [] => 0
  | y :: ys => if quiet (y :: ys) then 0 else 1 + rl ys
theorem zs_le : ∀ y : List Nat, zs y ≤ y.length
  | [] => Nat.le_refl _
  | y :: ys => by unfold zs; have := zs_le ys; simp; split <;> omega
theorem rl_le : ∀ y : List Nat, rl y ≤ y.length
  | [] => Nat.le_refl _
  | y :: ys => by unfold rl; have := rl_le ys; simp; split <;> omega
/-- The length of the first run. -/
def rn (y : List Nat) : Nat := 1 + rl (y.drop (zs y + 1))
theorem rn_le {y : List Nat} (h : zs y ≠ y.length) : zs y + rn y ≤ y.length := by
  have := zs_le y; have := rl_le (y.drop (zs y + 1)); unfold rn; simp at this; omega
theorem rn_pos (y : List Nat) : 1 ≤ rn y := by unfold rn; omega
/-- The runs' bytes. -/
def rbF : Nat → List Nat → List Nat
  | 0, _ => []
  | k + 1, y => if zs y = y.length then [] else num (zs y) ++ (num (rn y) ++ ((y.drop (zs y)).take (rn y) ++ rbF k (y.drop (zs y + rn y))))
theorem rbF_eq : ∀ (j k : Nat) (y : List Nat), y.length ≤ j → y.length ≤ k → rbF j y = rbF k y := by
  intro j
  induction j with
  | zero =>
    intro k y h1 _
    obtain rfl : y = [] := List.length_eq_zero_iff.1 (by omega)
    cases k with
    | zero => rfl
    | succ k => rfl
  | succ j ih =>
    intro k y h1 h2
    cases k with
    | zero =>
      obtain rfl : y = [] := List.length_eq_zero_iff.1 (by omega)
      rfl
    | succ k =>
      unfold rbF
      by_cases h : zs y = y.length
      · rw [if_pos h, if_pos h]
      · have := zs_le y
        have := rn_pos y
        rw [if_neg h, if_neg h, ih k (y.drop (zs y + rn y)) (by simp; omega) (by simp; omega)]
def rb (y : List Nat) : List Nat := rbF y.length y
theorem rb_end {y : List Nat} (h : zs y = y.length) : rb y = [] := by
  unfold rb
  cases hl : y.length with
  | zero => rfl
  | succ n => rw [rbF, if_pos h]
theorem rb_run {y : List Nat} (h : zs y ≠ y.length) : rb y = num (zs y) ++ (num (rn y) ++ ((y.drop (zs y)).take (rn y) ++ rb (y.drop (zs y + rn y)))) := by
  unfold rb
  cases hl : y.length with
  | zero =>
    obtain rfl : y = [] := List.length_eq_zero_iff.1 hl
    exact absurd rfl h
  | succ n =>
    rw [rbF, if_neg h]
    have := zs_le y
    have := rn_pos y
    rw [rbF_eq n (y.drop (zs y + rn y)).length _ (by simp; omega) (Nat.le_refl _)]
theorem zs_zero : ∀ (y : List Nat) (i : Nat), i < zs y → y.getD i 0 = 0
  | [], _, h => by simp [zs] at h
  | y :: ys, i, h => by
    unfold zs at h
    split at h
    · next e => cases i with
      | zero => simpa using e
      | succ i => simpa using zs_zero ys i (by omega)
    · omega
theorem zs_stop : ∀ (y : List Nat), zs y < y.length → y.getD (zs y) 0 ≠ 0
  | [], h => by simp [zs] at h
  | y :: ys, h => by
    unfold zs at h ⊢
    split
    · next e => rw [if_pos e] at h; simp at h; rw [Nat.add_comm]; simpa using zs_stop ys (by omega)
    · next e => simpa using e
theorem bytes_drop {l : List Nat} (h : Bytes l) (k : Nat) : Bytes (l.drop k) := fun x hx => h x (List.mem_of_mem_drop hx)
theorem bytes_take {l : List Nat} (h : Bytes l) (k : Nat) : Bytes (l.take k) := fun x hx => h x (List.mem_of_mem_take hx)
theorem bytes_append {a b : List Nat} (ha : Bytes a) (hb : Bytes b) : Bytes (a ++ b) := by
  intro x hx; rcases List.mem_append.1 hx with h | h
  · exact ha x h
  · exact hb x h
theorem rb_bytes : ∀ (n : Nat) (y : List Nat), y.length ≤ n → Bytes y → Bytes (rb y) := by
  intro n
  induction n with
  | zero => intro y h hy; have := zs_le y; rw [rb_end (by omega)]; intro x hx; cases hx
  | succ n ih =>
    intro y h hy
    by_cases e : zs y = y.length
    · rw [rb_end e]; intro x hx; cases hx
    · rw [rb_run e]
      have := rn_pos y
      refine bytes_append (num_bytes _) (bytes_append (num_bytes _) (bytes_append (bytes_take (bytes_drop hy _) _) (ih _ ?_ (bytes_drop hy _))))
      have := zs_le y; simp; omega
/-- The first zeros are zeros. -/
theorem take_zs : ∀ y : List Nat, y.take (zs y) = List.replicate (zs y) 0
  | [] => rfl
  | y :: ys => by
    unfold zs
    split
    · next e => rw [Nat.add_comm, List.take_succ_cons, List.replicate_succ, take_zs ys, e]
    · rfl
theorem rb_inj : ∀ (n : Nat) (x y p q : List Nat), x.length ≤ n → x.length = y.length → n ≤ 65536 → rb x ++ 0 :: 0 :: p = rb y ++ 0 :: 0 :: q → x = y ∧ p = q := by
  intro n
  induction n with
  | zero =>
    intro x y p q h0 hl _ h
    have hx : x = [] := List.length_eq_zero_iff.1 (by omega)
    have hy : y = [] := List.length_eq_zero_iff.1 (by omega)
    subst hx hy
    refine ⟨rfl, ?_⟩
    rw [rb_end (by rfl)] at h
    simpa using h
  | succ n ih =>
    intro x y p q hn hl hm h
    have key : ∀ (x y p q : List Nat), y.length ≤ 65536 → zs y ≠ y.length → 0 :: 0 :: p = rb y ++ 0 :: 0 :: q → False := by
      intro x y p q hm e h
      have z1 := zs_le y
      have z2 := rn_le e
      have z3 := rn_pos y
      rw [rb_run e, List.append_assoc] at h
      have h1 : num 0 ++ (0 :: p) = num (zs y) ++ (num (rn y) ++ ((y.drop (zs y)).take (rn y) ++ rb (y.drop (zs y + rn y))) ++ 0 :: 0 :: q) := by rw [num_zero]; exact h
      obtain ⟨_, h2⟩ := num_inj (by omega) (by omega) h1
      rw [List.append_assoc] at h2
      have h3 := num_inj (m := 0) (n := rn y) (R := p) (by omega) (by omega) (by rw [num_zero]; exact h2)
      omega
    by_cases ex : zs x = x.length
    · by_cases ey : zs y = y.length
      · rw [rb_end ex, rb_end ey] at h
        have a := take_zs x
        have b := take_zs y
        rw [ex, List.take_length] at a
        rw [ey, List.take_length] at b
        refine ⟨by rw [a, b, hl], by simpa using h⟩
      · exact absurd (by rw [rb_end ex] at h; exact h) (fun h => key x y p q (by omega) ey h)
    · by_cases ey : zs y = y.length
      · exact absurd (by rw [rb_end ey] at h; exact h.symm) (fun h => key y x q p (by omega) ex h)
      · have a1 := zs_le x; have a2 := rn_le ex; have a3 := rn_pos x
        have b1 := zs_le y; have b2 := rn_le ey; have b3 := rn_pos y
        rw [rb_run ex, rb_run ey] at h
        simp only [List.append_assoc] at h
        obtain ⟨hz, h⟩ := num_inj (by omega) (by omega) h
        obtain ⟨hr, h⟩ := num_inj (by omega) (by omega) h
        rw [← hz, ← hr] at h
        have hlen : ((x.drop (zs x)).take (rn x)).length = ((y.drop (zs x)).take (rn x)).length := by simp; omega
        obtain ⟨h1, h2⟩ := List.append_inj h hlen
        obtain ⟨h3, h4⟩ := ih (x.drop (zs x + rn x)) (y.drop (zs x + rn x)) p q (by simp; omega) (by simp; omega) (by omega) h2
        refine ⟨?_, h4⟩
        have c1 : x = x.take (zs x) ++ ((x.drop (zs x)).take (rn x) ++ x.drop (zs x + rn x)) := by
          rw [show x.drop (zs x + rn x) = (x.drop (zs x)).drop (rn x) by rw [List.drop_drop], List.take_append_drop, List.take_append_drop]
        have c2 : y = y.take (zs x) ++ ((y.drop (zs x)).take (rn x) ++ y.drop (zs x + rn x)) := by
          rw [show y.drop (zs x + rn x) = (y.drop (zs x)).drop (rn x) by rw [List.drop_drop], List.take_append_drop, List.take_append_drop]
        rw [c1, c2, h1, h3, take_zs x, hz, take_zs y]
end RwM
end Go.Proofs.YtlckjbangdnejaaDoor
