/-
  The header of a cartridge that may be printed, as plain lists of bytes; plain facts, no conditions.
-/
import Derived.Test.YtpdbndkckioamaaDoorChkD
import Derived.Shelf.Spec.TrailingZeros
import Derived.Laws.BitsAllLaws
namespace Go.Proofs.YtpdbndkckioamaaDoor
/-- The numbers of a cartridge that may be printed. -/
structure HN where
  f : Nat
  m : Nat
  s : Nat
  k : Nat
  kd : Nat
  t : Nat
  d : Nat
  mi : Nat
  u : Nat
  a1 : Nat
  a2 : Nat
  a3 : Nat
  a4 : Nat
/-- The bytes of a memory that four bits tell. -/
def rz (k : Nat) : Nat := if k = 0 then 0 else 64 * 2 ^ k
structure Hb (c : CF) (x : HN) : Prop where
  cf : c.fmt = x.f
  f : x.f ≤ 2
  cm : c.map = x.m
  m : x.m < 4096
  m0 : x.f = 0 → x.m < 16
  m1 : x.f = 1 → x.m < 256
  cs : c.sub = x.s
  s : x.s < 16
  ck : c.con = x.k
  k : x.k < 4
  ckd : c.kind = x.kd
  kd : x.kd < 256
  ct : c.tim = x.t
  t : x.t < 4
  cd : c.dev = x.d
  d : x.d < 64
  cmi : c.misc = x.mi
  mi : x.mi < 4
  w : x.f = 1 → c.pr + c.pn = 8192 * x.u ∧ 1 ≤ x.u ∧ x.u ≤ 255
  r : x.f = 2 → (c.pr = rz x.a1 ∧ x.a1 ≤ 15) ∧ (c.pn = rz x.a2 ∧ x.a2 ≤ 15) ∧ (c.cr = rz x.a3 ∧ x.a3 ≤ 15) ∧ (c.cn = rz x.a4 ∧ x.a4 ≤ 15)
  np0 : 0 < c.np
  np : c.np ≤ 1048576
  npu : c.np % 16384 = 0 ∨ x.f = 2 ∧ Chk.oddPart 64 c.np ≤ 7
  nq : c.nq ≤ 524288
  nqu : c.nq % 8192 = 0 ∨ x.f = 2 ∧ Chk.oddPart 64 c.nq ≤ 7
  len : Chk.imageLen c ≤ 2097152
/-- How a length is told: the low byte, the four bits. -/
def loB (n unit : Nat) : Nat := if n % unit = 0 then n / unit else Lib.ctz 64 n * 4 + Chk.oddPart 64 n / 2
def hiB (n unit : Nat) : Nat := if n % unit = 0 then 0 else 15
def h6 (c : CF) (x : HN) : Nat := x.m % 16 * 16 + (if c.vert then 1 else 0) + (if c.bat then 2 else 0) + (if 0 < c.nt then 4 else 0) + (if c.four then 8 else 0)
/-- The header. -/
def hdL (c : CF) (x : HN) : List Nat := [78, 69, 83, 26, loB c.np 16384, loB c.nq 8192, h6 c x] ++
  (if x.f = 0 then [4, 0, 0, 0, 0, 0, 0, 0, 0] else if x.f = 1 then [x.m / 16 * 16 + x.k, if x.u = 1 then 0 else x.u, x.t, 0, 0, 0, 0, 0, 0]
   else [x.m / 16 % 16 * 16 + 8 + x.k, x.s * 16 + x.m / 256, hiB c.np 16384 + hiB c.nq 8192 * 16, x.a1 + x.a2 * 16, x.a3 + x.a4 * 16, x.t, x.kd, x.mi, x.d])
theorem firstNo_neg : ∀ (l : List Bool) (i : Int), 0 ≤ i → ¬ 0 ≤ Chk.firstNo i l → ∀ b ∈ l, b = true
  | [], _, _, _, _, hb => by cases hb
  | false :: _, i, hi, h, _, _ => absurd (show 0 ≤ Chk.firstNo i (false :: _) from hi) h
  | true :: l, i, hi, h, b, hb => by
    rcases List.mem_cons.1 hb with rfl | hb
    · rfl
    · exact firstNo_neg l (i + 1) (by omega) h b hb
theorem ck_may {c : CF} (h : ckE c = 0) : Chk.within c.fmt 2 = true ∧ (∀ b ∈ Chk.may c, b = true) ∧ Chk.imageLen c ≤ 2097152 := by
  unfold ckE at h
  by_cases h1 : 0 ≤ Chk.wrong c
  · rw [if_pos h1] at h; cases h
  · rw [if_neg h1] at h
    by_cases h2 : 2097152 < Chk.imageLen c
    · rw [if_pos h2] at h; cases h
    · unfold Chk.wrong at h1
      by_cases h3 : Chk.within c.fmt 2 = true
      · rw [if_pos h3] at h1
        exact ⟨h3, firstNo_neg _ 0 (Int.le_refl _) h1, by omega⟩
      · rw [if_neg h3] at h1; exact absurd (Int.le_refl 0) h1
theorem within_nat {n hi : Int} (h : Chk.within n hi = true) : ∃ k : Nat, n = k ∧ (k : Int) ≤ hi := by
  simp only [Chk.within, Bool.and_eq_true, decide_eq_true_eq] at h
  obtain ⟨k, rfl⟩ := Int.eq_ofNat_of_zero_le h.1
  exact ⟨k, rfl, h.2⟩
theorem ram_nat {n : Int} (h : Chk.ramOk n = true) : ∃ k : Nat, n = rz k ∧ k ≤ 15 := by
  simp only [Chk.ramOk, List.any_eq_true, List.mem_range, decide_eq_true_eq] at h
  obtain ⟨k, hk, e⟩ := h
  refine ⟨k, ?_, by omega⟩
  rw [e]
  unfold rz
  split
  · rfl
  · simp
theorem rom_ok {c : CF} {n unit most : Nat} (h : Chk.romOk c n unit most = true) : n ≤ most ∧ (n % unit = 0 ∨ c.fmt = 2 ∧ Chk.oddPart 64 n ≤ 7) := by
  simpa only [Chk.romOk, Bool.and_eq_true, Bool.or_eq_true, decide_eq_true_eq] using h
theorem hb_of {c : CF} (h : ckE c = 0) : ∃ x, Hb c x := by
  obtain ⟨hf, hm, hl⟩ := ck_may h
  obtain ⟨f, ef, bf⟩ := within_nat hf
  have g : ∀ (i : Nat) (b : Bool), (Chk.may c)[i]? = some b → b = true := fun i b hb => hm b (List.mem_of_getElem? hb)
  obtain ⟨m, em, bm⟩ := within_nat (g 1 _ rfl)
  obtain ⟨s, es, bs⟩ := within_nat (g 2 _ rfl)
  obtain ⟨k, ek, bk⟩ := within_nat (g 6 _ rfl)
  have hk7 := g 7 _ rfl
  obtain ⟨t, et, bt⟩ := within_nat (g 8 _ rfl)
  obtain ⟨d, ed, bd⟩ := within_nat (g 9 _ rfl)
  obtain ⟨mi, emi, bmi⟩ := within_nat (g 10 _ rfl)
  have h11 := g 11 _ rfl
  have h12 := g 12 _ rfl
  have h13 := g 13 _ rfl
  have h14 := g 14 _ rfl
  have h16 := g 16 _ rfl
  have h17 := g 17 _ rfl
  simp only [Bool.and_eq_true, decide_eq_true_eq] at h16
  obtain ⟨n1, n2⟩ := rom_ok h16.2
  obtain ⟨q1, q2⟩ := rom_ok h17
  have hfr : f = 0 ∨ f = 1 ∨ f = 2 := by omega
  obtain ⟨kd, ekd, bkd⟩ : ∃ kd : Nat, c.kind = kd ∧ kd < 256 := by
    unfold Chk.kindOk at hk7
    by_cases h2 : c.fmt = 2
    · rw [if_pos h2] at hk7
      obtain ⟨kd, e1, e2⟩ := within_nat hk7
      refine ⟨kd, e1, ?_⟩
      unfold Chk.kindTop at e2
      split at e2
      · omega
      · split at e2 <;> omega
    · rw [if_neg h2] at hk7
      exact ⟨0, of_decide_eq_true hk7, by decide⟩
  have r0 : c.fmt = 0 → Chk.row c.fmt = [15, 0, 0, 0, 0, 0, 1] := fun e => by rw [e]; rfl
  have r1 : c.fmt = 1 → Chk.row c.fmt = [255, 0, 2, 1, 0, 0, 255] := fun e => by rw [e]; rfl
  have r2 : c.fmt = 2 → Chk.row c.fmt = [4095, 15, 3, 3, 63, 3, 0] := fun e => by rw [e]; rfl
  have hr : Chk.row c.fmt = [15, 0, 0, 0, 0, 0, 1] ∧ c.fmt = 0 ∨ Chk.row c.fmt = [255, 0, 2, 1, 0, 0, 255] ∧ c.fmt = 1 ∨ Chk.row c.fmt = [4095, 15, 3, 3, 63, 3, 0] ∧ c.fmt = 2 := by
    rcases hfr with e | e | e
    · exact .inl ⟨r0 (by rw [ef, e]; rfl), by rw [ef, e]; rfl⟩
    · exact .inr (.inl ⟨r1 (by rw [ef, e]; rfl), by rw [ef, e]; rfl⟩)
    · exact .inr (.inr ⟨r2 (by rw [ef, e]; rfl), by rw [ef, e]; rfl⟩)
  have bnd : m < 4096 ∧ s < 16 ∧ k < 4 ∧ t < 4 ∧ d < 64 ∧ mi < 4 ∧ (f = 0 → m < 16) ∧ (f = 1 → m < 256) := by
    rcases hr with ⟨e, e'⟩ | ⟨e, e'⟩ | ⟨e, e'⟩
    all_goals
      rw [e] at bm bs bk bt bd bmi
      simp at bm bs bk bt bd bmi
      omega
  have wk : ∃ u : Nat, f = 1 → c.pr + c.pn = 8192 * u ∧ 1 ≤ u ∧ u ≤ 255 := by
    by_cases f1 : f = 1
    · have e1 : c.fmt = 1 := by rw [ef, f1]; rfl
      unfold Chk.workOk at h11 h12
      rw [if_neg (by rw [e1]; decide), r1 e1] at h11 h12
      cases hb : c.bat
      · rw [hb] at h11 h12
        simp only [Bool.not_false, if_true, Bool.and_eq_true, decide_eq_true_eq, Bool.false_eq_true, if_false] at h11 h12
        obtain ⟨p, ep⟩ := Int.eq_ofNat_of_zero_le (show 0 ≤ c.pr by omega)
        rw [ep] at h11
        obtain ⟨⟨x1, x2⟩, x3⟩ := h11
        rw [Int.tmod_eq_emod_of_nonneg (by omega)] at x2
        rw [Int.tdiv_eq_ediv_of_nonneg (by omega)] at x3
        simp at x3
        exact ⟨p / 8192, fun _ => by rw [ep, h12]; omega⟩
      · rw [hb] at h11 h12
        simp only [Bool.not_true, if_true, Bool.and_eq_true, decide_eq_true_eq, Bool.false_eq_true, if_false] at h11 h12
        obtain ⟨p, ep⟩ := Int.eq_ofNat_of_zero_le (show 0 ≤ c.pn by omega)
        rw [ep] at h12
        obtain ⟨⟨x1, x2⟩, x3⟩ := h12
        rw [Int.tmod_eq_emod_of_nonneg (by omega)] at x2
        rw [Int.tdiv_eq_ediv_of_nonneg (by omega)] at x3
        simp at x3
        exact ⟨p / 8192, fun _ => by rw [ep, h11]; omega⟩
    · exact ⟨0, fun h => absurd h f1⟩
  have rm : ∃ a1 a2 a3 a4 : Nat, f = 2 → (c.pr = rz a1 ∧ a1 ≤ 15) ∧ (c.pn = rz a2 ∧ a2 ≤ 15) ∧ (c.cr = rz a3 ∧ a3 ≤ 15) ∧ (c.cn = rz a4 ∧ a4 ≤ 15) := by
    by_cases f2 : f = 2
    · have e2 : c.fmt = 2 := by rw [ef, f2]; rfl
      unfold Chk.workOk at h11 h12
      unfold Chk.chrOk at h13 h14
      rw [if_pos e2] at h11 h12 h13 h14
      obtain ⟨a1, y1, z1⟩ := ram_nat h11
      obtain ⟨a2, y2, z2⟩ := ram_nat h12
      obtain ⟨a3, y3, z3⟩ := ram_nat h13
      obtain ⟨a4, y4, z4⟩ := ram_nat h14
      exact ⟨a1, a2, a3, a4, fun _ => ⟨⟨y1, z1⟩, ⟨y2, z2⟩, ⟨y3, z3⟩, ⟨y4, z4⟩⟩⟩
    · exact ⟨0, 0, 0, 0, fun h => absurd h f2⟩
  obtain ⟨u, hu⟩ := wk
  obtain ⟨a1, a2, a3, a4, ha⟩ := rm
  have f2 : c.fmt = 2 → f = 2 := fun e => by omega
  exact ⟨⟨f, m, s, k, kd, t, d, mi, u, a1, a2, a3, a4⟩, ef, by show f ≤ 2; omega, em, bnd.1, bnd.2.2.2.2.2.2.1, bnd.2.2.2.2.2.2.2, es, bnd.2.1, ek, bnd.2.2.1, ekd, bkd, et, bnd.2.2.2.1, ed, bnd.2.2.2.2.1, emi, bnd.2.2.2.2.2.1, hu, ha, h16.1, n1,
    n2.imp id fun h => ⟨f2 h.1, h.2⟩, q1, q2.imp id fun h => ⟨f2 h.1, h.2⟩, hl⟩
theorem ctz_lt (n : Nat) (h0 : n ≠ 0) (h : n < 18446744073709551616) : Lib.ctz 64 n < 64 := (Lib.lowest_bit 64 n h0 h).2
theorem lo_lt {n unit : Nat} (h0 : n % unit ≠ 0 → n ≠ 0) (hu : n ≤ 1048576) (hb : n / unit < 256) (ho : n % unit = 0 ∨ Chk.oddPart 64 n ≤ 7) : loB n unit < 256 := by
  unfold loB
  split
  · exact hb
  · next h =>
    have h1 := ctz_lt n (h0 h) (by omega)
    rcases ho with ho | ho
    · exact absurd ho h
    · omega
theorem and15 (m : Nat) (h : m < 4096) : bits BinOp.and IntKind.i64 (m : Int) 15 = ((m % 16 : Nat) : Int) := by
  have g : ∀ (a : Fin 64) (b : Fin 64), bits BinOp.and IntKind.i64 ((a.val * 64 + b.val : Nat) : Int) 15 = (((a.val * 64 + b.val) % 16 : Nat) : Int) := by decide +kernel
  have e := g ⟨m / 64, by omega⟩ ⟨m % 64, by omega⟩
  simp only [show m / 64 * 64 + m % 64 = m by omega] at e
  exact e
theorem and240 (m : Nat) (h : m < 4096) : bits BinOp.and IntKind.i64 (m : Int) 240 = ((m / 16 % 16 * 16 : Nat) : Int) := by
  have g : ∀ (a : Fin 64) (b : Fin 64), bits BinOp.and IntKind.i64 ((a.val * 64 + b.val : Nat) : Int) 240 = (((a.val * 64 + b.val) / 16 % 16 * 16 : Nat) : Int) := by decide +kernel
  have e := g ⟨m / 64, by omega⟩ ⟨m % 64, by omega⟩
  simp only [show m / 64 * 64 + m % 64 = m by omega] at e
  exact e
theorem or_b (a b : Nat) (ha : a < 16) (hb : b < 16) : bits BinOp.or IntKind.u8 ((b : Nat) : Int) ((a * 16 : Nat) : Int) = ((b + a * 16 : Nat) : Int) := by
  have : ∀ a b : Fin 16, bits BinOp.or IntKind.u8 ((b.val : Nat) : Int) ((a.val * 16 : Nat) : Int) = ((b.val + a.val * 16 : Nat) : Int) := by decide +kernel
  exact this ⟨a, ha⟩ ⟨b, hb⟩
theorem or_a (a b : Nat) (ha : a < 16) (hb : b < 16) : bits BinOp.or IntKind.u8 ((a * 16 : Nat) : Int) ((b : Nat) : Int) = ((b + a * 16 : Nat) : Int) := by
  have : ∀ a b : Fin 16, bits BinOp.or IntKind.u8 ((a.val * 16 : Nat) : Int) ((b.val : Nat) : Int) = ((b.val + a.val * 16 : Nat) : Int) := by decide +kernel
  exact this ⟨a, ha⟩ ⟨b, hb⟩
theorem or_8 (a b : Nat) (ha : a < 16) (hb : b < 4) : bits BinOp.or IntKind.u8 ((b + a * 16 : Nat) : Int) 8 = ((a * 16 + 8 + b : Nat) : Int) := by
  have : ∀ (a : Fin 16) (b : Fin 4), bits BinOp.or IntKind.u8 ((b.val + a.val * 16 : Nat) : Int) 8 = ((a.val * 16 + 8 + b.val : Nat) : Int) := by decide +kernel
  exact this ⟨a, ha⟩ ⟨b, hb⟩
/-- One bit, if the flag is set. -/
def bv (b : Bool) (i : Nat) : Nat := if b then 2 ^ i else 0
theorem or_1 : ∀ a b : Bool, bits BinOp.or IntKind.u8 ((bv a 0 : Nat) : Int) ((bv b 1 : Nat) : Int) = ((bv a 0 + bv b 1 : Nat) : Int) := by decide +kernel
theorem or_2 : ∀ a b c : Bool, bits BinOp.or IntKind.u8 ((bv a 0 + bv b 1 : Nat) : Int) ((bv c 2 : Nat) : Int) = ((bv a 0 + bv b 1 + bv c 2 : Nat) : Int) := by decide +kernel
theorem or_3 : ∀ a b c d : Bool, bits BinOp.or IntKind.u8 ((bv a 0 + bv b 1 + bv c 2 : Nat) : Int) ((bv d 3 : Nat) : Int) = ((bv a 0 + bv b 1 + bv c 2 + bv d 3 : Nat) : Int) := by decide +kernel
theorem bv_lt : ∀ a b c d : Bool, bv a 0 + bv b 1 + bv c 2 + bv d 3 < 16 := by decide
theorem or_p (k o : Nat) (hk : k < 64) (ho : o ≤ 7) : bits BinOp.or IntKind.i64 ((k * 4 : Nat) : Int) ((o / 2 : Nat) : Int) = ((k * 4 + o / 2 : Nat) : Int) := by
  have : ∀ (k : Fin 64) (o : Fin 8), bits BinOp.or IntKind.i64 ((k.val * 4 : Nat) : Int) ((o.val / 2 : Nat) : Int) = ((k.val * 4 + o.val / 2 : Nat) : Int) := by decide +kernel
  exact this ⟨k, hk⟩ ⟨o, by omega⟩
theorem rz_ctz : ∀ k : Nat, k ≤ 15 → k ≠ 0 → Lib.ctz 64 (2 ^ k) = k := by decide +kernel
end Go.Proofs.YtpdbndkckioamaaDoor
