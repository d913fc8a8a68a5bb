/-
  A raster as a plain value: its fields, one dot, n dots at once and that these are n times one, the scanline clocks counted, the first cycle in which the line is another; no condition.
-/
import Derived.Test.YtlnpcbofebppcabRows
namespace Go.Proofs.Ytlnpcbofebppcab
set_option linter.unusedSimpArgs false
/-- A raster. -/
structure Rs where
  line : Int
  dot : Int
  odd : Bool
  vbl : Bool
  nmi : Bool
  draw : Bool
  hold : Bool
theorem Rs.ext {a b : Rs} (e0 : a.line = b.line) (e1 : a.dot = b.dot) (e2 : a.odd = b.odd) (e3 : a.vbl = b.vbl) (e4 : a.nmi = b.nmi) (e5 : a.draw = b.draw) (e6 : a.hold = b.hold) : a = b := by
  obtain ⟨a0, a1, a2, a3, a4, a5, a6⟩ := a
  obtain ⟨b0, b1, b2, b3, b4, b5, b6⟩ := b
  simp only at e0 e1 e2 e3 e4 e5 e6
  subst e0 e1 e2 e3 e4 e5 e6
  rfl
theorem Rs.ext_iff {a b : Rs} : a = b ↔ a.line = b.line ∧ a.dot = b.dot ∧ a.odd = b.odd ∧ a.vbl = b.vbl ∧ a.nmi = b.nmi ∧ a.draw = b.draw ∧ a.hold = b.hold :=
  ⟨fun h => by subst h; exact ⟨rfl, rfl, rfl, rfl, rfl, rfl, rfl⟩, fun ⟨e0, e1, e2, e3, e4, e5, e6⟩ => Rs.ext e0 e1 e2 e3 e4 e5 e6⟩
/-- The numbers fit their kinds. -/
structure Rs.Ok (r : Rs) : Prop where
  line : -9223372036854775808 ≤ r.line ∧ r.line ≤ 9223372036854775807
  dot : -9223372036854775808 ≤ r.dot ∧ r.dot ≤ 9223372036854775807
/-- What a valid raster keeps. -/
structure Rs.V (r : Rs) : Prop where
  l0 : 0 ≤ r.line
  l1 : r.line ≤ 261
  d0 : 0 ≤ r.dot
  d1 : r.dot ≤ 340
  vbl : r.vbl = true → 82182 ≤ r.line * 341 + r.dot ∧ r.line * 341 + r.dot < 89002
  hold : r.hold = true → r.line * 341 + r.dot = 82181
/-- What Valid answers. -/
def Rs.valid (r : Rs) : Bool := decide (0 ≤ r.line) && decide (r.line ≤ 261) && decide (0 ≤ r.dot) && decide (r.dot ≤ 340) && (!r.vbl || decide (82182 ≤ r.line * 341 + r.dot) && decide (r.line * 341 + r.dot < 89002)) && (!r.hold || decide (r.line * 341 + r.dot = 82181))
theorem Rs.valid_iff (r : Rs) : r.valid = true ↔ r.V := by
  constructor
  · intro h
    simp only [Rs.valid, Bool.and_eq_true, Bool.or_eq_true, Bool.not_eq_true', decide_eq_true_eq] at h
    obtain ⟨⟨⟨⟨⟨h1, h2⟩, h3⟩, h4⟩, h5⟩, h6⟩ := h
    refine ⟨h1, h2, h3, h4, fun h => ?_, fun h => ?_⟩
    · rw [h] at h5; simpa using h5
    · rw [h] at h6; simpa using h6
  · rintro ⟨h1, h2, h3, h4, h5, h6⟩
    simp only [Rs.valid, Bool.and_eq_true, Bool.or_eq_true, Bool.not_eq_true', decide_eq_true_eq]
    refine ⟨⟨⟨⟨⟨h1, h2⟩, h3⟩, h4⟩, ?_⟩, ?_⟩
    · cases hv : r.vbl
      · exact .inl rfl
      · exact .inr (h5 hv)
    · cases hv : r.hold
      · exact .inl rfl
      · exact .inr (h6 hv)
theorem Rs.V.ok {r : Rs} (v : r.V) : r.Ok := by
  obtain ⟨h1, h2, h3, h4, -, -⟩ := v
  exact ⟨by omega, by omega⟩
/-- The place behind one dot. -/
def Rs.nl (r : Rs) : Int := if r.line = 261 ∧ r.dot = 339 ∧ r.odd = true ∧ r.draw = true then 0 else if r.dot < 340 then r.line else if r.line = 261 then 0 else r.line + 1
def Rs.nd (r : Rs) : Int := if r.line = 261 ∧ r.dot = 339 ∧ r.odd = true ∧ r.draw = true then 0 else if r.dot < 340 then r.dot + 1 else 0
/-- The raster one dot on. -/
def Rs.d1 (r : Rs) : Rs :=
  { line := r.nl, dot := r.nd, odd := if r.nl = 0 ∧ r.nd = 0 then !r.odd else r.odd,
    vbl := if r.nl = 241 ∧ r.nd = 1 then r.vbl || !r.hold else if r.nl = 261 ∧ r.nd = 1 then false else r.vbl,
    nmi := r.nmi, draw := r.draw, hold := if r.nl = 241 ∧ r.nd = 1 then false else r.hold }
/-- The dot that the raster stands on is a scanline clock. -/
def Rs.clk (r : Rs) : Bool := r.draw && decide (r.dot = 260) && (decide (r.line < 240) || decide (r.line = 261))
/-- The dots of its frame, of its pair of frames; its place in both. -/
def Rs.len (r : Rs) : Int := if r.odd = true ∧ r.draw = true then 89341 else 89342
def Rs.pair (r : Rs) : Int := if r.draw = true then 178683 else 178684
def Rs.pl (r : Rs) : Int := min (r.line * 341 + r.dot) (r.len - 1)
def Rs.pp (r : Rs) : Int := if r.odd = true then 89342 + r.pl else r.pl
/-- The raster n dots on, at least one. -/
def Rs.at_ (r : Rs) (n : Int) : Int := (r.pp + n) % r.pair
def Rs.mv (r : Rs) (n : Int) : Rs :=
  { line := r.at_ n % 89342 / 341, dot := r.at_ n % 89342 % 341, odd := decide (89342 ≤ r.at_ n),
    vbl := (decide (82182 ≤ r.at_ n % 89342) && decide (r.at_ n % 89342 < 89002)) && (r.vbl || decide ((if r.hold = true then 2 else 1) ≤ n - (r.at_ n % 89342 - 82182))),
    nmi := r.nmi, draw := r.draw, hold := false }
theorem Rs.pl_bd {r : Rs} (v : r.V) : 0 ≤ r.pl ∧ r.pl < r.len := by
  obtain ⟨h1, h2, h3, h4, -, -⟩ := v
  unfold Rs.pl Rs.len
  split <;> omega
theorem Rs.pp_bd {r : Rs} (v : r.V) : 0 ≤ r.pp ∧ r.pp < r.pair := by
  have h := Rs.pl_bd v
  unfold Rs.pp
  unfold Rs.len at h
  unfold Rs.pair
  cases hd : r.draw <;> cases ho : r.odd <;> simp [hd, ho] at h ⊢ <;> omega
theorem Rs.at_bd (r : Rs) (n : Int) : 0 ≤ r.at_ n ∧ r.at_ n < r.pair := by
  unfold Rs.at_ Rs.pair
  split <;> omega
theorem Rs.at_succ (r : Rs) (n : Int) : r.at_ (n + 1) = if r.at_ n + 1 = r.pair then 0 else r.at_ n + 1 := by
  unfold Rs.at_ Rs.pair
  split <;> split <;> omega
/-- The place in the frame one dot on. -/
theorem Rs.at_one {r : Rs} (v : r.V) : r.at_ 1 % 89342 = (if r.pl + 1 = r.len then 0 else r.pl + 1) ∧ (89342 ≤ r.at_ 1 ↔ ((r.pl + 1 = r.len) ↔ r.odd = false)) := by
  have h1 := Rs.pp_bd v
  have h2 := Rs.pl_bd v
  have e : r.at_ 1 = if r.pp + 1 = r.pair then 0 else r.pp + 1 := by
    unfold Rs.at_
    revert h1
    unfold Rs.pair
    split <;> split <;> omega
  rw [e]
  unfold Rs.pair Rs.pp Rs.len at *
  cases hd : r.draw <;> cases ho : r.odd <;> simp only [hd, ho, if_true, if_false, and_true, and_false, true_and, false_and, reduceCtorEq, true_iff, iff_true, false_iff, iff_false] at * <;> refine ⟨?_, ?_⟩ <;> repeat' split
  all_goals omega
theorem Rs.pl_of {r : Rs} (v : r.V) : r.pl = r.line * 341 + r.dot ∨ (r.line = 261 ∧ r.dot = 340 ∧ r.odd = true ∧ r.draw = true ∧ r.pl = 89340) := by
  obtain ⟨h1, h2, h3, h4, -, -⟩ := v
  unfold Rs.pl Rs.len
  cases hd : r.draw <;> cases ho : r.odd <;> simp only [hd, ho, if_true, if_false, and_true, and_false, true_and, false_and, reduceCtorEq] <;> omega
theorem Rs.next_place {r : Rs} (v : r.V) : r.at_ 1 % 89342 / 341 = r.nl ∧ r.at_ 1 % 89342 % 341 = r.nd ∧ ((r.pl + 1 = r.len) ↔ (r.nl = 0 ∧ r.nd = 0)) := by
  rw [(Rs.at_one v).1]
  have h0 := Rs.pl_of v
  have hl := (Rs.pl_bd v).2
  obtain ⟨h1, h2, h3, h4, -, -⟩ := v
  unfold Rs.nl Rs.nd
  unfold Rs.len at hl ⊢
  cases hd : r.draw <;> cases ho : r.odd <;> simp only [hd, ho, if_true, if_false, and_true, and_false, true_and, false_and, reduceCtorEq, or_false] at h0 hl ⊢
  all_goals refine ⟨?_, ?_, ?_⟩ <;> repeat' split
  all_goals first | omega | (simp; done) | (simp; omega)
theorem Rs.mv_one {r : Rs} (v : r.V) : r.mv 1 = r.d1 := by
  obtain ⟨a1, a2⟩ := Rs.at_one v
  obtain ⟨p1, p2, p3⟩ := Rs.next_place v
  have h0 := Rs.pl_of v
  have hl := Rs.pl_bd v
  obtain ⟨h1, h2, h3, h4, h5, h6⟩ := v
  have len2 : r.len = 89341 ∨ r.len = 89342 := by unfold Rs.len; split <;> simp
  unfold Rs.mv Rs.d1
  rw [Rs.mk.injEq]
  refine ⟨p1, p2, ?_, ?_, rfl, rfl, ?_⟩
  · rw [Bool.eq_iff_iff, decide_eq_true_eq, a2, p3]
    by_cases hc : r.nl = 0 ∧ r.nd = 0
    · rw [if_pos hc]; simp [hc]
    · rw [if_neg hc]; cases r.odd <;> simp [hc]
  · generalize r.at_ 1 % 89342 = A at *
    generalize r.nl = L at *
    generalize r.nd = D at *
    have hA : 0 ≤ A ∧ A < 89342 := by rw [a1]; split <;> omega
    have q1 : (L = 241 ∧ D = 1) ↔ A = 82182 := by omega
    have q2 : (L = 261 ∧ D = 1) ↔ A = 89002 := by omega
    simp only [q1, q2]
    rw [Bool.eq_iff_iff]
    cases hv : r.vbl <;> cases hh : r.hold <;> simp only [hv, hh, if_true, if_false, reduceCtorEq, false_implies, forall_const, true_implies] at h5 h6 ⊢ <;> repeat' split
    all_goals simp
    all_goals split at a1 <;> omega
  · split
    · rfl
    · rename_i hc
      cases hh : r.hold
      · rfl
      · exfalso
        have h7 := h6 hh
        have h8 : r.pl = 82181 := by omega
        rw [h8] at a1
        rw [if_neg (by omega)] at a1
        omega
theorem Rs.mv_v (r : Rs) (n : Int) : (r.mv n).V := by
  have h := Rs.at_bd r n
  have hp : r.pair = 178683 ∨ r.pair = 178684 := by unfold Rs.pair; split <;> simp
  have e : r.at_ n % 89342 / 341 * 341 + r.at_ n % 89342 % 341 = r.at_ n % 89342 := by omega
  refine ⟨?_, ?_, ?_, ?_, ?_, ?_⟩
  · show 0 ≤ r.at_ n % 89342 / 341; omega
  · show r.at_ n % 89342 / 341 ≤ 261; omega
  · show 0 ≤ r.at_ n % 89342 % 341; omega
  · show r.at_ n % 89342 % 341 ≤ 340; omega
  · intro hv
    have hv' : ((decide (82182 ≤ r.at_ n % 89342) && decide (r.at_ n % 89342 < 89002)) && (r.vbl || decide ((if r.hold = true then 2 else 1) ≤ n - (r.at_ n % 89342 - 82182)))) = true := hv
    simp only [Bool.and_eq_true, decide_eq_true_eq] at hv'
    show 82182 ≤ r.at_ n % 89342 / 341 * 341 + r.at_ n % 89342 % 341 ∧ r.at_ n % 89342 / 341 * 341 + r.at_ n % 89342 % 341 < 89002
    rw [e]
    exact hv'.1
  · intro hv
    exact absurd (show false = true from hv) (by decide)
theorem Rs.mv_pl (r : Rs) (n : Int) : (r.mv n).pl = r.at_ n % 89342 ∧ (r.mv n).pp = r.at_ n := by
  have h := Rs.at_bd r n
  have e : r.at_ n % 89342 / 341 * 341 + r.at_ n % 89342 % 341 = r.at_ n % 89342 := by omega
  unfold Rs.pp Rs.pl Rs.len
  show min (r.at_ n % 89342 / 341 * 341 + r.at_ n % 89342 % 341) ((if decide (89342 ≤ r.at_ n) = true ∧ r.draw = true then (89341 : Int) else 89342) - 1) = _ ∧ (if decide (89342 ≤ r.at_ n) = true then 89342 + min (r.at_ n % 89342 / 341 * 341 + r.at_ n % 89342 % 341) ((if decide (89342 ≤ r.at_ n) = true ∧ r.draw = true then (89341 : Int) else 89342) - 1) else min (r.at_ n % 89342 / 341 * 341 + r.at_ n % 89342 % 341) ((if decide (89342 ≤ r.at_ n) = true ∧ r.draw = true then (89341 : Int) else 89342) - 1)) = _
  rw [e]
  unfold Rs.pair at h
  simp only [decide_eq_true_eq]
  cases hd : r.draw <;> simp only [hd, if_true, if_false, reduceCtorEq, and_false, and_true] at h ⊢ <;> repeat' split
  all_goals refine ⟨?_, ?_⟩ <;> omega
theorem Rs.at_mv (r : Rs) (n m : Int) : (r.mv n).at_ m = r.at_ (n + m) := by
  unfold Rs.at_
  rw [(Rs.mv_pl r n).2]
  show (r.at_ n + m) % r.pair = _
  unfold Rs.at_
  rw [Int.emod_add_emod, Int.add_assoc]
theorem Rs.mv_succ (r : Rs) (n : Int) (hn : 1 ≤ n) : r.mv (n + 1) = (r.mv n).d1 := by
  rw [← Rs.mv_one (Rs.mv_v r n)]
  have e := Rs.at_mv r n 1
  have es := Rs.at_succ r n
  have hb := Rs.at_bd r n
  have hp : r.pair = 178683 ∨ r.pair = 178684 := by unfold Rs.pair; split <;> simp
  have key : r.at_ (n + 1) % 89342 = r.at_ n % 89342 + 1 ∨ r.at_ (n + 1) % 89342 = 0 := by rw [es]; split <;> omega
  have h0 : 0 ≤ r.at_ n % 89342 := by omega
  have h0' : 0 ≤ r.at_ (n + 1) % 89342 := by omega
  have vb : (r.mv n).vbl = ((decide (82182 ≤ r.at_ n % 89342) && decide (r.at_ n % 89342 < 89002)) && (r.vbl || decide ((if r.hold = true then 2 else 1) ≤ n - (r.at_ n % 89342 - 82182)))) := rfl
  have vh : (r.mv n).hold = false := rfl
  have vn : (r.mv n).nmi = r.nmi := rfl
  have vd : (r.mv n).draw = r.draw := rfl
  generalize r.mv n = s at *
  unfold Rs.mv
  rw [e, Rs.mk.injEq]
  refine ⟨rfl, rfl, rfl, ?_, vn.symm, vd.symm, rfl⟩
  rw [vb, vh]
  generalize r.at_ (n + 1) % 89342 = B at *
  generalize r.at_ n % 89342 = A at *
  rw [Bool.eq_iff_iff]
  cases hv : r.vbl <;> cases hh : r.hold <;> simp <;> omega
/-- n dots, one behind the other. -/
def Rs.dn (r : Rs) : Nat → Rs
  | 0 => r
  | n + 1 => (r.dn n).d1
theorem Rs.dn_mv {r : Rs} (v : r.V) : ∀ n : Nat, r.dn (n + 1) = r.mv ((n : Int) + 1)
  | 0 => (Rs.mv_one v).symm
  | n + 1 => by
    show (r.dn (n + 1)).d1 = _
    rw [Rs.dn_mv v n, ← Rs.mv_succ r _ (by omega)]
    rfl
theorem Rs.dn_v {r : Rs} (v : r.V) : ∀ n : Nat, (r.dn n).V
  | 0 => v
  | n + 1 => by rw [Rs.dn_mv v n]; exact Rs.mv_v r _
theorem Rs.d1_v {r : Rs} (v : r.V) : r.d1.V := Rs.dn_v v 1
theorem Rs.dn_add (r : Rs) (a : Nat) : ∀ b : Nat, r.dn (a + b) = (r.dn a).dn b
  | 0 => rfl
  | b + 1 => by
    show (r.dn (a + b)).d1 = ((r.dn a).dn b).d1
    rw [Rs.dn_add r a b]
theorem Rs.dn_draw (r : Rs) : ∀ n : Nat, (r.dn n).draw = r.draw ∧ (r.dn n).nmi = r.nmi
  | 0 => ⟨rfl, rfl⟩
  | n + 1 => Rs.dn_draw r n
/-- n dots as the formula says, for n from 1 on. -/
theorem Rs.dn_eq {r : Rs} (v : r.V) (n : Int) (h : 1 ≤ n) : r.dn n.toNat = r.mv n := by
  obtain ⟨k, rfl⟩ : ∃ k : Nat, n = (k : Int) + 1 := ⟨(n - 1).toNat, by omega⟩
  rw [show ((k : Int) + 1).toNat = k + 1 by omega]
  exact Rs.dn_mv v k
/-- How many scanline clocks n dots have. -/
def Rs.ck (r : Rs) : Nat → Int
  | 0 => 0
  | n + 1 => r.ck n + if (r.dn (n + 1)).clk = true then 1 else 0
theorem Rs.ck_add (r : Rs) (a : Nat) : ∀ b : Nat, r.ck (a + b) = r.ck a + (r.dn a).ck b
  | 0 => by show r.ck a = r.ck a + 0; omega
  | b + 1 => by
    show r.ck (a + b) + (if (r.dn (a + b + 1)).clk = true then 1 else 0) = r.ck a + ((r.dn a).ck b + if ((r.dn a).dn (b + 1)).clk = true then 1 else 0)
    rw [Rs.ck_add r a b, ← Rs.dn_add r a (b + 1), Nat.add_assoc a b 1]
    omega
theorem Rs.ck_no {r : Rs} (h : r.draw = false) : ∀ n : Nat, r.ck n = 0
  | 0 => rfl
  | n + 1 => by
    show r.ck n + _ = 0
    rw [Rs.ck_no h n]
    have : (r.dn (n + 1)).clk = false := by unfold Rs.clk; rw [(Rs.dn_draw r (n + 1)).1, h]; rfl
    rw [this]
    rfl
/-- The clocks up to a dot of a pair that is drawn. -/
def cF (A : Int) : Int := min 240 ((A + 81) / 341) + if 89261 ≤ A then 1 else 0
def cT (x : Int) : Int := x / 178683 * 482 + x % 178683 / 89342 * 241 + cF (x % 178683 % 89342)
def isC (A : Int) : Bool := decide (A % 341 = 260) && (decide (A / 341 < 240) || decide (A / 341 = 261))
theorem cF_succ (A : Int) (h0 : 0 ≤ A) (h1 : A + 1 < 89342) : cF (A + 1) = cF A + if isC (A + 1) = true then 1 else 0 := by
  unfold cF isC
  have e : A = 341 * (A / 341) + A % 341 := by omega
  have l0 : 0 ≤ A / 341 ∧ A / 341 ≤ 261 := by omega
  have d0 : 0 ≤ A % 341 ∧ A % 341 < 341 := by omega
  generalize A / 341 = L at *
  generalize A % 341 = D at *
  subst e
  have e1 : (341 * L + D + 81) / 341 = if D < 260 then L else L + 1 := by split <;> omega
  have e2 : (341 * L + D + 1 + 81) / 341 = if D < 259 then L else L + 1 := by split <;> omega
  have e3 : (341 * L + D + 1) % 341 = if D = 340 then 0 else D + 1 := by split <;> omega
  have e4 : (341 * L + D + 1) / 341 = if D = 340 then L + 1 else L := by split <;> omega
  rw [e1, e2, e3, e4]
  simp only [Bool.and_eq_true, Bool.or_eq_true, decide_eq_true_eq]
  repeat' split
  all_goals omega
theorem cT_succ (x : Int) (h : 0 ≤ x) : cT (x + 1) = cT x + if isC ((x + 1) % 178683 % 89342) = true then 1 else 0 := by
  have e : x = 178683 * (x / 178683) + x % 178683 := by omega
  have y0 : 0 ≤ x % 178683 ∧ x % 178683 < 178683 := by omega
  unfold cT
  generalize x / 178683 = Q at *
  generalize x % 178683 = y at *
  subst e
  by_cases hy : y + 1 = 178683
  · have : y = 178682 := by omega
    subst this
    have e1 : (178683 * Q + 178682 + 1) / 178683 = Q + 1 := by omega
    have e2 : (178683 * Q + 178682 + 1) % 178683 = 0 := by omega
    rw [e1, e2]
    have : cF (0 % 89342) = 0 := by decide
    rw [this, show isC (0 % 89342) = false from by decide, show cF (178682 % 89342) = 241 from by decide]
    simp only [if_false, reduceCtorEq]
    omega
  · have e1 : (178683 * Q + y + 1) / 178683 = Q := by omega
    have e2 : (178683 * Q + y + 1) % 178683 = y + 1 := by omega
    rw [e1, e2]
    by_cases hf : y % 89342 + 1 = 89342
    · have : y = 89341 := by omega
      subst this
      rw [show cF ((89341 + 1) % 89342) = 0 from by decide, show isC ((89341 + 1) % 89342) = false from by decide, show cF (89341 % 89342) = 241 from by decide]
      simp only [if_false, reduceCtorEq]
      omega
    · have e3 : (y + 1) % 89342 = y % 89342 + 1 := by omega
      have e4 : (y + 1) / 89342 = y / 89342 := by omega
      rw [e3, e4, cF_succ (y % 89342) (by omega) (by omega)]
      omega
theorem Rs.ck_eq {r : Rs} (v : r.V) (hd : r.draw = true) : ∀ n : Nat, r.ck n = cT (r.pp + n) - cT r.pp
  | 0 => by show (0 : Int) = _; rw [show r.pp + ((0 : Nat) : Int) = r.pp by omega]; omega
  | n + 1 => by
    have hp := Rs.pp_bd v
    show r.ck n + _ = _
    rw [Rs.ck_eq v hd n, show r.pp + ((n + 1 : Nat) : Int) = r.pp + n + 1 by omega, cT_succ _ (by omega), Rs.dn_mv v n]
    have e : ((r.mv ((n : Int) + 1)).clk = true) ↔ isC ((r.pp + n + 1) % 178683 % 89342) = true := by
      unfold Rs.clk
      show (r.draw && decide (r.at_ ((n : Int) + 1) % 89342 % 341 = 260) && (decide (r.at_ ((n : Int) + 1) % 89342 / 341 < 240) || decide (r.at_ ((n : Int) + 1) % 89342 / 341 = 261))) = true ↔ _
      have e1 : r.at_ ((n : Int) + 1) = (r.pp + n + 1) % 178683 := by unfold Rs.at_ Rs.pair; rw [if_pos hd, Int.add_assoc]
      rw [e1, hd]
      unfold isC
      simp
    by_cases hc : isC ((r.pp + n + 1) % 178683 % 89342) = true
    · rw [if_pos hc, if_pos (e.2 hc)]; omega
    · rw [if_neg hc, if_neg (fun h => hc (e.1 h))]; omega
/-- The clocks are so far apart that a cycle has one at most. -/
theorem cF_bd (A : Int) (h0 : 0 ≤ A) (h1 : A < 89342) : 0 ≤ cF A ∧ cF A ≤ 241 := by
  unfold cF
  split <;> omega
theorem cT_mono (x : Int) (h : 0 ≤ x) : ∀ n : Nat, cT x ≤ cT (x + n)
  | 0 => by rw [show x + ((0 : Nat) : Int) = x by omega]; omega
  | n + 1 => by
    have := cT_mono x h n
    rw [show x + ((n + 1 : Nat) : Int) = x + n + 1 by omega, cT_succ _ (by omega)]
    split <;> omega
theorem cT_le {x y : Int} (h : 0 ≤ x) (hxy : x ≤ y) : cT x ≤ cT y := by
  have := cT_mono x h (y - x).toNat
  rwa [show x + ((y - x).toNat : Int) = y by omega] at this
theorem cT_per (x q : Int) : cT (x + 178683 * q) = cT x + 482 * q := by
  unfold cT
  rw [show (x + 178683 * q) / 178683 = x / 178683 + q by omega, show (x + 178683 * q) % 178683 = x % 178683 by omega]
  omega
/-- The dot of the k-th clock. -/
def cA (k : Int) : Int := (k - 1) / 482 * 178683 + (k - 1) % 482 / 241 * 89342 + (if (k - 1) % 482 % 241 = 240 then 261 else (k - 1) % 482 % 241) * 341 + 260
theorem cF_at (L : Int) (h0 : 0 ≤ L) (h1 : L ≤ 240) : cF ((if L = 240 then 261 else L) * 341 + 260) = L + 1 ∧ cF ((if L = 240 then 261 else L) * 341 + 260 - 1) = L := by
  unfold cF
  split
  · subst_vars; decide
  · have e1 : (L * 341 + 260 + 81) / 341 = L + 1 := by omega
    have e2 : (L * 341 + 260 - 1 + 81) / 341 = L := by omega
    rw [e1, e2]
    refine ⟨?_, ?_⟩ <;> split <;> omega
theorem cT_at (k : Int) (h : 1 ≤ k) : cT (cA k) = k ∧ cT (cA k - 1) = k - 1 ∧ 1 ≤ cA k := by
  unfold cA
  have e : k - 1 = 482 * ((k - 1) / 482) + (k - 1) % 482 := by omega
  have q0 : 0 ≤ (k - 1) / 482 := by omega
  have y0 : 0 ≤ (k - 1) % 482 ∧ (k - 1) % 482 < 482 := by omega
  generalize (k - 1) / 482 = Q at *
  generalize (k - 1) % 482 = y at *
  have e2 : y = 241 * (y / 241) + y % 241 := by omega
  have f0 : y / 241 = 0 ∨ y / 241 = 1 := by omega
  have l0 : 0 ≤ y % 241 ∧ y % 241 < 241 := by omega
  generalize y / 241 = F at *
  generalize y % 241 = L at *
  obtain ⟨c1, c2⟩ := cF_at L l0.1 (by omega)
  have hM : 0 ≤ (if L = 240 then (261 : Int) else L) ∧ (if L = 240 then (261 : Int) else L) ≤ 261 := by split <;> omega
  generalize (if L = 240 then (261 : Int) else L) = M at *
  unfold cT
  have a1 : (Q * 178683 + F * 89342 + M * 341 + 260) / 178683 = Q := by rcases f0 with rfl | rfl <;> omega
  have a2 : (Q * 178683 + F * 89342 + M * 341 + 260) % 178683 = F * 89342 + M * 341 + 260 := by rcases f0 with rfl | rfl <;> omega
  have a3 : (F * 89342 + M * 341 + 260) / 89342 = F := by rcases f0 with rfl | rfl <;> omega
  have a4 : (F * 89342 + M * 341 + 260) % 89342 = M * 341 + 260 := by rcases f0 with rfl | rfl <;> omega
  have b1 : (Q * 178683 + F * 89342 + M * 341 + 260 - 1) / 178683 = Q := by rcases f0 with rfl | rfl <;> omega
  have b2 : (Q * 178683 + F * 89342 + M * 341 + 260 - 1) % 178683 = F * 89342 + M * 341 + 260 - 1 := by rcases f0 with rfl | rfl <;> omega
  have b3 : (F * 89342 + M * 341 + 260 - 1) / 89342 = F := by rcases f0 with rfl | rfl <;> omega
  have b4 : (F * 89342 + M * 341 + 260 - 1) % 89342 = M * 341 + 260 - 1 := by rcases f0 with rfl | rfl <;> omega
  rw [a1, a2, a3, a4, b1, b2, b3, b4, c1, c2]
  refine ⟨by omega, by omega, by omega⟩
theorem cA_le {x k : Int} (h : 0 ≤ x) (hk : 1 ≤ k) : k ≤ cT x ↔ cA k ≤ x := by
  obtain ⟨h1, h2, h3⟩ := cT_at k hk
  constructor
  · intro h4
    refine Int.not_lt.1 fun h5 => ?_
    have := cT_le h (show x ≤ cA k - 1 by omega)
    omega
  · intro h4
    have := cT_le (x := cA k) (y := x) (by omega) h4
    omega
theorem cA_per (k q : Int) : cA (k + 482 * q) = cA k + 178683 * q := by
  unfold cA
  rw [show (k + 482 * q - 1) / 482 = (k - 1) / 482 + q by omega, show (k + 482 * q - 1) % 482 = (k - 1) % 482 by omega]
  omega
theorem cT_nonneg (x : Int) (h : 0 ≤ x) : 0 ≤ cT x := by
  have := cT_le (x := 0) (y := x) (by omega) h
  rwa [show cT 0 = 0 from by decide] at this
/-- The cycles until k clocks have fallen. -/
def Rs.af (r : Rs) (k : Int) : Int := (cA (cT r.pp + k) - r.pp + 2) / 3
theorem Rs.af_iff {r : Rs} (v : r.V) (hd : r.draw = true) (k : Int) (hk : 1 ≤ k) (n : Nat) : k ≤ r.ck (3 * n) ↔ r.af k ≤ n := by
  have hp := Rs.pp_bd v
  have h0 := cT_nonneg r.pp hp.1
  rw [Rs.ck_eq v hd]
  have := cA_le (x := r.pp + ((3 * n : Nat) : Int)) (k := cT r.pp + k) (by omega) (by omega)
  unfold Rs.af
  omega
theorem Rs.af_pos {r : Rs} (v : r.V) (hd : r.draw = true) (k : Int) (hk : 1 ≤ k) : 1 ≤ r.af k := by
  have := Rs.af_iff v hd k hk 0
  have h0 : r.ck (3 * 0) = 0 := rfl
  rw [h0] at this
  omega
theorem Rs.ck_three {r : Rs} (v : r.V) : 0 ≤ r.ck 3 ∧ r.ck 3 ≤ 1 := by
  cases hd : r.draw
  · rw [Rs.ck_no hd]; decide
  · have hp := Rs.pp_bd v
    rw [Rs.ck_eq v hd]
    have e1 := cT_succ r.pp hp.1
    have e2 := cT_succ (r.pp + 1) (by omega)
    have e3 := cT_succ (r.pp + 1 + 1) (by omega)
    have hy : r.pp < 178683 := by unfold Rs.pair at hp; rw [hd] at hp; exact hp.2
    have z : ∀ A B C : Int, (isC A = true → A % 341 = 260) → (isC B = true → B % 341 = 260) → (isC C = true → C % 341 = 260) → (A % 341 = 260 → B % 341 ≠ 260 ∧ C % 341 ≠ 260) → (B % 341 = 260 → C % 341 ≠ 260) →
        (0 ≤ (if isC A = true then (1 : Int) else 0) + (if isC B = true then 1 else 0) + (if isC C = true then 1 else 0) ∧ (if isC A = true then (1 : Int) else 0) + (if isC B = true then 1 else 0) + (if isC C = true then 1 else 0) ≤ 1) := by
      intro A B C ha hb hc h1 h2
      clear e1 e2 e3 hp hy hd v
      generalize isC A = a at *
      generalize isC B = b at *
      generalize isC C = c at *
      cases a <;> cases b <;> cases c <;> simp_all
    have ic : ∀ A, isC A = true → A % 341 = 260 := by
      intro A h
      unfold isC at h
      simp at h
      exact h.1
    have n1 : (r.pp + 1) % 178683 % 89342 = if r.pp + 1 = 178683 ∨ r.pp + 1 = 89342 then 0 else (if r.pp + 1 < 89342 then r.pp + 1 else r.pp + 1 - 89342) := by repeat' split; all_goals omega
    have n2 : (r.pp + 1 + 1) % 178683 % 89342 = if r.pp + 2 = 178683 ∨ r.pp + 2 = 89342 then 0 else (if r.pp + 2 < 89342 then r.pp + 2 else if r.pp + 2 < 178683 then r.pp + 2 - 89342 else r.pp + 2 - 178683) := by repeat' split; all_goals omega
    have n3 : (r.pp + 1 + 1 + 1) % 178683 % 89342 = if r.pp + 3 = 178683 ∨ r.pp + 3 = 89342 then 0 else (if r.pp + 3 < 89342 then r.pp + 3 else if r.pp + 3 < 178683 then r.pp + 3 - 89342 else r.pp + 3 - 178683) := by repeat' split; all_goals omega
    have := z _ _ _ (ic ((r.pp + 1) % 178683 % 89342)) (ic ((r.pp + 1 + 1) % 178683 % 89342)) (ic ((r.pp + 1 + 1 + 1) % 178683 % 89342)) (by rw [n1, n2, n3]; repeat' split; all_goals omega) (by rw [n2, n3]; repeat' split; all_goals omega)
    rw [show r.pp + ((3 : Nat) : Int) = r.pp + 1 + 1 + 1 by omega, e3, e2, e1]
    omega
/-- The cycles until the line is another, where the NMI is let. -/
def Rs.nx (r : Rs) : Int := if r.vbl = true then (89002 - r.pl + 2) / 3 else if r.pl < 82182 ∧ r.hold = false then (82182 - r.pl + 2) / 3 else (r.len - r.pl + 82182 + 2) / 3
theorem Rs.V.pl_vbl {r : Rs} (v : r.V) : (r.vbl = true → 82182 ≤ r.pl ∧ r.pl < 89002) ∧ (r.hold = true → r.pl = 82181) := by
  have h0 := Rs.pl_of v
  obtain ⟨h1, h2, h3, h4, h5, h6⟩ := v
  refine ⟨fun h => ?_, fun h => ?_⟩
  · have := h5 h; omega
  · have := h6 h; omega
theorem Rs.nx_pos {r : Rs} (v : r.V) : 1 ≤ r.nx ∧ r.nx ≤ 60000 := by
  have hl := Rs.pl_bd v
  have hv := v.pl_vbl.1
  have len2 : r.len = 89341 ∨ r.len = 89342 := by unfold Rs.len; split <;> simp
  unfold Rs.nx
  split
  · have := hv (by assumption); omega
  · split <;> omega
/-- The place in the frame n dots on, n below the rest of this frame and the next. -/
theorem Rs.at_near {r : Rs} (v : r.V) (n : Int) (h0 : 0 ≤ n) (h1 : n < 89341 + (r.len - r.pl)) : r.at_ n % 89342 = if r.pl + n < r.len then r.pl + n else r.pl + n - r.len := by
  have hp := Rs.pp_bd v
  have hl := Rs.pl_bd v
  unfold Rs.at_
  unfold Rs.pp at hp ⊢
  unfold Rs.pair Rs.len at *
  cases hd : r.draw <;> cases ho : r.odd <;> simp only [hd, ho, if_true, if_false, and_true, and_false, true_and, false_and, reduceCtorEq] at hp hl h1 ⊢
  · have e : (r.pl + n) % 178684 = r.pl + n := by omega
    rw [e]; split <;> omega
  · by_cases hc : 89342 + r.pl + n < 178684
    · have e : (89342 + r.pl + n) % 178684 = 89342 + r.pl + n := by omega
      rw [e]; split <;> omega
    · have e : (89342 + r.pl + n) % 178684 = r.pl + n - 89342 := by omega
      rw [e]; split <;> omega
  · have e : (r.pl + n) % 178683 = r.pl + n := by omega
    rw [e]; split <;> omega
  · by_cases hc : 89342 + r.pl + n < 178683
    · have e : (89342 + r.pl + n) % 178683 = 89342 + r.pl + n := by omega
      rw [e]; split <;> omega
    · have e : (89342 + r.pl + n) % 178683 = r.pl + n - 89341 := by omega
      rw [e]; split <;> omega
theorem Rs.vbl_near {r : Rs} (v : r.V) (n : Int) (h1 : 1 ≤ n) (h2 : n < 89341 + (r.len - r.pl)) :
    ((r.dn n.toNat).vbl = true ↔ (let A := if r.pl + n < r.len then r.pl + n else r.pl + n - r.len; 82182 ≤ A ∧ A < 89002 ∧ (r.vbl = true ∨ (if r.hold = true then 2 else 1) ≤ n - (A - 82182)))) := by
  rw [Rs.dn_eq v n h1]
  show ((decide (82182 ≤ r.at_ n % 89342) && decide (r.at_ n % 89342 < 89002)) && (r.vbl || decide ((if r.hold = true then 2 else 1) ≤ n - (r.at_ n % 89342 - 82182)))) = true ↔ _
  rw [Rs.at_near v n (by omega) h2]
  simp only [Bool.and_eq_true, Bool.or_eq_true, decide_eq_true_eq, and_assoc]
theorem Rs.nx_before {r : Rs} (v : r.V) (n : Nat) (h : (n : Int) < r.nx) : (r.dn (3 * n)).vbl = r.vbl := by
  have hl := Rs.pl_bd v
  obtain ⟨hv, hh⟩ := v.pl_vbl
  have len2 : r.len = 89341 ∨ r.len = 89342 := by unfold Rs.len; split <;> simp
  by_cases hn : n = 0
  · subst hn; rfl
  have hx : ((3 * n : Nat) : Int) < 89341 + (r.len - r.pl) := by
    revert h
    unfold Rs.nx
    repeat' split
    all_goals first | omega | (have := hv (by assumption); omega)
  have key := Rs.vbl_near v ((3 * n : Nat) : Int) (by omega) hx
  rw [Int.toNat_natCast] at key
  rw [Bool.eq_iff_iff, key]
  simp only
  revert h
  unfold Rs.nx
  cases h7 : r.vbl <;> cases h8 : r.hold <;> simp only [h7, h8, if_true, if_false, reduceCtorEq, and_true, and_false, forall_const, false_implies, true_or, false_or, iff_true, iff_false] at hv hh ⊢
  all_goals repeat' split
  all_goals omega
theorem Rs.nx_at {r : Rs} (v : r.V) : (r.dn (3 * r.nx.toNat)).vbl = !r.vbl := by
  have hl := Rs.pl_bd v
  obtain ⟨hv, hh⟩ := v.pl_vbl
  have len2 : r.len = 89341 ∨ r.len = 89342 := by unfold Rs.len; split <;> simp
  have hp := Rs.nx_pos v
  have hx : (3 * r.nx) < 89341 + (r.len - r.pl) := by
    unfold Rs.nx
    repeat' split
    all_goals first | omega | (have := hv (by assumption); omega)
  have key := Rs.vbl_near v (3 * r.nx) (by omega) hx
  rw [show (3 * r.nx).toNat = 3 * r.nx.toNat by omega] at key
  rw [Bool.eq_iff_iff, key]
  simp only
  unfold Rs.nx
  cases h7 : r.vbl <;> cases h8 : r.hold <;> simp only [h7, h8, if_true, if_false, reduceCtorEq, and_true, and_false, forall_const, false_implies, true_or, false_or, iff_true, iff_false, Bool.not_true, Bool.not_false] at hv hh ⊢
  all_goals repeat' split
  all_goals omega
end Go.Proofs.Ytlnpcbofebppcab
