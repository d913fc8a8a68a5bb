/-
  A list of addresses handed in; another address of the same register.
-/
import Derived.Test.YtggphgmpdanliaaZOut
import Derived.Test.YtggphgmpdanliaaZLawB
import Derived.Test.YtggphgmpdanliaaYArg2
import Derived.Test.YtggphgmpdanliaaYCel
set_option linter.unusedSimpArgs false
set_option linter.unusedVariables false
namespace Go.Proofs.Ytggphgmpdanliaa
open Go.RowKit Classical
open Go.ChangeShapes Go.WideShapes Go.ChangeAt Go.Deep Classical
theorem cells16 : Try.prog.cellsOf 32 = 1 := by kernel_rfl
structure U16s (W : World) (a : Option Addr) (len : Nat) (q : Nat → Int) (b o : Nat) : Prop where
  at_ : 0 < len → a = some ⟨b, o, none⟩ ∧ b < W.heap.size
  cells : ∀ i, i < len → W.cell? ⟨b, o + i, none⟩ = some (.int .u16 (q i))
  ok : ∀ i, i < len → 0 ≤ q i ∧ q i ≤ 65535
set_option maxRecDepth 100000 in
theorem u16s_of {H : Type} {enc : TypeId × Value → H} {W : World} {base : Nat} {v : Value} {d : DataW H} {p : List MemPlace}
    (hv : Value.okWide Try.prog W .any base 45 v) (h : DataW.Trod enc Try.prog W 0 (fun _ => true) true 45 v d p) :
    ∃ (a : Option Addr) (len cap : Nat) (q : Nat → Int) (b o : Nat), v = .slice a len cap ∧ len ≤ 9223372036854775807 ∧ U16s W a len q b o := by
  obtain ⟨a, len, cap, rfl⟩ := okWide_slice Try.underlying45 hv
  obtain ⟨fuel, hf⟩ := h
  rcases open_slice Try.underlying45 hf with ⟨hcs, _⟩ | ⟨x, l, c, m, n, D, Pl, hcs, _, hl, hm, hmm, _, hx⟩
  · simp [Value.cells] at hcs
    obtain ⟨rfl, rfl, rfl⟩ := hcs
    exact ⟨none, 0, 0, fun _ => 0, 0, 0, rfl, by decide, ⟨fun h => absurd h (by decide), fun i hi => absurd hi (by omega), fun i hi => absurd hi (by omega)⟩⟩
  · simp [Value.cells] at hcs
    obtain ⟨rfl, rfl, rfl⟩ := hcs
    simp only [if_true] at hmm
    subst hmm
    have each : ∀ i, i < len → ∃ y : Int, W.cell? (x.add i) = some (.int .u16 y) ∧ 0 ≤ y ∧ y ≤ 65535 := by
      intro i hi
      obtain ⟨cs', h1, h2⟩ := hx i (by omega)
      rw [cells16] at h1
      obtain ⟨_, hlen, hcell⟩ := World.cells?_some h1
      obtain ⟨n0, e0, -, w0⟩ := DataW.trod_int Try.underlying32 h2
      subst e0
      have c0 := hcell 0 (by simp)
      rw [add_add] at c0
      exact ⟨n0, by simpa using c0, spWf16 w0⟩
    obtain ⟨q, hq⟩ : ∃ q : Nat → Int, ∀ i, i < len → W.cell? (x.add i) = some (.int .u16 (q i)) ∧ 0 ≤ q i ∧ q i ≤ 65535 :=
      ⟨fun i => Classical.epsilon fun y : Int => W.cell? (x.add i) = some (.int .u16 y) ∧ 0 ≤ y ∧ y ≤ 65535, fun i hi => Classical.epsilon_spec (each i hi)⟩
    obtain ⟨xb, xo, xs⟩ := x
    by_cases hz : 0 < len
    · have h0 := (hq 0 hz).1
      have hs : xs = none := by
        have := World.cell?_spot (a := (⟨xb, xo, xs⟩ : Addr)) (by simpa [Addr.add] using h0)
        exact this
      subst hs
      have hb : xb < W.heap.size := cell_lt (p := ⟨xb, xo, none⟩) (by simpa [Addr.add] using h0)
      refine ⟨_, len, _, q, xb, xo, rfl, (by have hm9 : maxLen ≤ 9223372036854775807 := (by decide); omega), ⟨fun _ => ⟨rfl, hb⟩, fun i hi => ?_, fun i hi => (hq i hi).2⟩⟩
      have a0 := (hq i hi).1
      rw [add_plain] at a0
      exact a0
    · exact ⟨_, len, _, q, 0, 0, rfl, by omega, ⟨fun h => absurd h hz, fun i hi => absurd hi (by omega), fun i hi => absurd hi (by omega)⟩⟩
/-- Another address of the same register. -/
def twinB (kind a y : Int) : Int :=
  if kind = 1 then bits .or .u16 (bits .and .u16 a 57344) (bits .and .u16 y 8191)
  else if kind = 4 then bits .or .u16 (bits .and .u16 a 57345) (bits .and .u16 y 8190) else bits .or .u16 a y
set_option maxRecDepth 100000 in
set_option maxHeartbeats 1000000 in
theorem twin_any (w : World) (kind a y : Int) :
    Calls Try.prog 23 #[.int .i64 kind, .int .u16 a, .int .u16 y] w fun e w' => e = .returned (.int .u16 (twinB kind a y)) ∧ Below w.heap.size w w' := by
  obtain ⟨r, hr⟩ : ∃ r, twinB kind a y = r := ⟨_, rfl⟩
  rw [hr]
  have RH : Hid _ := hr
  clear hr
  go_enter Try.func23, Try.ntmps23
  by_cases h1 : kind = 1
  · have e : Hid (r = bits .or .u16 (bits .and .u16 a 57344) (bits .and .u16 y 8191)) := by unfold Hid; rw [← RH.out, twinB, if_pos h1]
    have b1 : (kind == 1) = true := by simpa using h1
    clear h1 RH
    go_wp2
    go_ret
    exact ⟨by rw [e.out]; rfl, Below.refl _ _⟩
  have b1 : (kind == 1) = false := by simpa using h1
  by_cases h4 : kind = 4
  · have e : Hid (r = bits .or .u16 (bits .and .u16 a 57345) (bits .and .u16 y 8190)) := by unfold Hid; rw [← RH.out, twinB, if_neg h1, if_pos h4]
    have b4 : (kind == 4) = true := by simpa using h4
    clear h1 h4 RH
    go_wp2
    go_ret
    exact ⟨by rw [e.out]; rfl, Below.refl _ _⟩
  have b4 : (kind == 4) = false := by simpa using h4
  have e : Hid (r = bits .or .u16 a y) := by unfold Hid; rw [← RH.out, twinB, if_neg h1, if_neg h4]
  clear h1 h4 RH
  go_wp2
  go_ret
  exact ⟨by rw [e.out]; rfl, Below.refl _ _⟩
theorem natTwin1 (x y : Nat) (hx : x < 65536) : ((x &&& 57344) ||| (y &&& 8191)) / 8192 = x / 8192 := by
  have h : ((x &&& 57344) ||| (y &&& 8191)) >>> 13 = x >>> 13 := by
    rw [Nat.shiftRight_or_distrib, Nat.shiftRight_and_distrib, Nat.shiftRight_and_distrib]
    have e1 : 57344 >>> 13 = 2 ^ 3 - 1 := by decide
    have e2 : 8191 >>> 13 = 0 := by decide
    rw [e1, e2, Nat.and_two_pow_sub_one_eq_mod, Nat.and_zero, Nat.or_zero, Nat.shiftRight_eq_div_pow]
    omega
  rwa [Nat.shiftRight_eq_div_pow, Nat.shiftRight_eq_div_pow] at h
theorem natTwin4 (x y : Nat) (hx : x < 65536) : ((x &&& 57345) ||| (y &&& 8190)) / 8192 = x / 8192 ∧ ((x &&& 57345) ||| (y &&& 8190)) % 2 = x % 2 := by
  constructor
  · have h : ((x &&& 57345) ||| (y &&& 8190)) >>> 13 = x >>> 13 := by
      rw [Nat.shiftRight_or_distrib, Nat.shiftRight_and_distrib, Nat.shiftRight_and_distrib]
      have e1 : 57345 >>> 13 = 2 ^ 3 - 1 := by decide
      have e2 : 8190 >>> 13 = 0 := by decide
      rw [e1, e2, Nat.and_two_pow_sub_one_eq_mod, Nat.and_zero, Nat.or_zero, Nat.shiftRight_eq_div_pow]
      omega
    rwa [Nat.shiftRight_eq_div_pow, Nat.shiftRight_eq_div_pow] at h
  · have h := Nat.or_mod_two_pow (a := x &&& 57345) (b := y &&& 8190) (n := 1)
    have h1 := Nat.and_mod_two_pow (a := x) (b := 57345) (n := 1)
    have h2 := Nat.and_mod_two_pow (a := y) (b := 8190) (n := 1)
    have e1 : 57345 % 2 ^ 1 = 2 ^ 1 - 1 := by decide
    have e2 : 8190 % 2 ^ 1 = 0 := by decide
    rw [e1, Nat.and_two_pow_sub_one_eq_mod] at h1
    rw [e2, Nat.and_zero] at h2
    rw [h1, h2, Nat.or_zero] at h
    omega
theorem twinB_in {kind a y : Int} (a0 : 32768 ≤ a) (a1 : a ≤ 65535) (y0 : 0 ≤ y) (y1 : y ≤ 65535) :
    32768 ≤ twinB kind a y ∧ twinB kind a y ≤ 65535 ∧ (kind = 1 → twinB kind a y / 8192 = a / 8192) ∧ (kind = 4 → twinB kind a y / 8192 = a / 8192 ∧ twinB kind a y % 2 = a % 2) := by
  have ea : ∀ x z : Int, 0 ≤ x → x ≤ 65535 → 0 ≤ z → z ≤ 65535 → 0 ≤ bits .and .u16 x z ∧ bits .and .u16 x z ≤ 65535 := fun x z x0 x1 z0 z1 => by
    rw [u16_and x z x0 (by omega) z0 (by omega)]
    have := Nat.and_le_left (n := x.toNat) (m := z.toNat)
    omega
  unfold twinB
  split
  · rename_i h1
    obtain ⟨p0, p1⟩ := ea a 57344 (by omega) a1 (by decide) (by decide)
    obtain ⟨q0, q1⟩ := ea y 8191 y0 y1 (by decide) (by decide)
    rw [u16_or _ _ p0 (by omega) q0 (by omega), u16_and a 57344 (by omega) (by omega) (by decide) (by decide), u16_and y 8191 y0 (by omega) (by decide) (by decide)]
    have k := natTwin1 a.toNat y.toNat (by omega)
    have e1 : (57344 : Int).toNat = 57344 := rfl
    have e2 : (8191 : Int).toNat = 8191 := rfl
    rw [e1, e2]
    simp only [Int.toNat_natCast]
    have l := Nat.or_lt_two_pow (n := 16) (x := a.toNat &&& 57344) (y := y.toNat &&& 8191) (Nat.lt_of_le_of_lt Nat.and_le_left (by omega)) (Nat.lt_of_le_of_lt Nat.and_le_left (by omega))
    refine ⟨by omega, by omega, fun _ => by omega, fun h => by omega⟩
  · split
    · rename_i h1 h4
      obtain ⟨p0, p1⟩ := ea a 57345 (by omega) a1 (by decide) (by decide)
      obtain ⟨q0, q1⟩ := ea y 8190 y0 y1 (by decide) (by decide)
      rw [u16_or _ _ p0 (by omega) q0 (by omega), u16_and a 57345 (by omega) (by omega) (by decide) (by decide), u16_and y 8190 y0 (by omega) (by decide) (by decide)]
      have k := natTwin4 a.toNat y.toNat (by omega)
      have e1 : (57345 : Int).toNat = 57345 := rfl
      have e2 : (8190 : Int).toNat = 8190 := rfl
      rw [e1, e2]
      simp only [Int.toNat_natCast]
      have l := Nat.or_lt_two_pow (n := 16) (x := a.toNat &&& 57345) (y := y.toNat &&& 8190) (Nat.lt_of_le_of_lt Nat.and_le_left (by omega)) (Nat.lt_of_le_of_lt Nat.and_le_left (by omega))
      obtain ⟨k1, k2⟩ := k
      refine ⟨by omega, by omega, fun h => by omega, fun _ => ⟨by omega, by omega⟩⟩
    · rename_i h1 h4
      rw [u16_or a y (by omega) (by omega) y0 (by omega)]
      have l := Nat.or_lt_two_pow (n := 16) (x := a.toNat) (y := y.toNat) (by omega) (by omega)
      have g : a.toNat ≤ a.toNat ||| y.toNat := Nat.left_le_or
      refine ⟨by omega, by omega, fun h => by omega, fun h => by omega⟩
theorem wrK_twin {b : Bd} {a a' : Int} (v u c : Int) (h1 : b.kind = 1 → a' / 8192 = a / 8192) (h4 : b.kind = 4 → a' / 8192 = a / 8192 ∧ a' % 2 = a % 2) : wrK b a' v u c = wrK b a v u c := by
  unfold wrK
  by_cases k1 : b.kind = 1
  · rw [if_pos k1, if_pos k1]
    unfold wr1 pushB
    rw [h1 k1]
  · rw [if_neg k1, if_neg k1]
    by_cases k4 : b.kind = 4
    · rw [if_pos k4, if_pos k4]
      unfold wr4
      rw [(h4 k4).1, (h4 k4).2]
    · rw [if_neg k4, if_neg k4]
theorem doneB_twin {b : Bd} {s : Sp} {a a' : Int} (ha : 32768 ≤ a) (ha' : 32768 ≤ a') (h1 : b.kind = 1 → a' / 8192 = a / 8192) (h4 : b.kind = 4 → a' / 8192 = a / 8192 ∧ a' % 2 = a % 2) : doneB b { s with a := a' } = doneB b { s with a := a } := by
  unfold doneB wrA wrB
  dsimp only
  rw [wrK_twin s.v s.u s.c h1 h4]
  simp only [ha, ha']
end Go.Proofs.Ytggphgmpdanliaa
