/-
  Plain facts for XlateFlags: live flags asked forwards.
-/
import Derived.Test.YtfdiplgjiidnbaaDoorXlOwnS
set_option linter.unusedSimpArgs false
set_option linter.unusedVariables false
namespace Go.Proofs.YtfdiplgjiidnbaaDoor
open Go.RowKit Classical
/-- Has a byte this flag? -/
def hasB (x f : Int) : Bool := bits .and .u8 x f != 0
theorem hasB_bit : ∀ x : Nat, x < 256 → ∀ b : Nat, b < 8 → hasB (x : Int) ((2 ^ b : Nat) : Int) = x.testBit b := by decide +kernel
theorem hasB_int (x : Int) (h0 : 0 ≤ x) (h1 : x ≤ 255) (b : Nat) (hb : b < 8) : hasB x ((2 ^ b : Nat) : Int) = x.toNat.testBit b := by
  have := hasB_bit x.toNat (by omega) b hb
  rwa [Int.toNat_of_nonneg h0] at this
/-- May a block be left ahead of the instruction of this micro-op? -/
def exB (m : Mic) : Bool := m.kd == 10 || (m.kd == 12 || (m.kd == 1 && (m.md == 9 || (m.md == 10 || (m.md == 6 || (m.md == 7 || (m.md == 8 && decide (8192 ≤ m.arg))))))))
/-- Can anybody see a flag? -/
def seenB (n0 : Nat) (f : Int) : List Mic → Bool
  | [] => true
  | m :: r => if m.num ≠ n0 ∧ exB m = true then true else if m.num ≠ n0 ∧ (m.kd = 4 ∨ m.kd = 8) ∧ hasB (nd m.op) f = true then true else if (m.kd = 5 ∨ m.kd = 6 ∨ m.kd = 11) ∧ (m.num = n0 ∨ hasB (st m.op) f = false) then true else if m.num ≠ n0 ∧ m.kd = 4 ∧ hasB (st m.op) f = true then false else seenB n0 f r
def exK (k : Nat) (hi : Bool) (r : Nat) : Bool := r == 10 || (r == 12 || (r == 1 && (mdN k == 9 || (mdN k == 10 || (mdN k == 6 || (mdN k == 7 || (mdN k == 8 && hi)))))))
def ndK (k b : Nat) : Bool := (nd (opN k : Nat)).toNat.testBit b
def stK (k b : Nat) : Bool := (st (opN k : Nat)).toNat.testBit b
/-- What the micro-ops of a later instruction say. -/
def scanK (k : Nat) (hi : Bool) (b : Nat) : List Nat → Option Bool
  | [] => none
  | r :: rs => if exK k hi r = true then some true else if (r = 4 ∨ r = 8) ∧ ndK k b = true then some true else if (r = 5 ∨ r = 6 ∨ r = 11) ∧ stK k b = false then some true else if r = 4 ∧ stK k b = true then some false else scanK k hi b rs
def kindsK (k : Nat) : List Nat := [rcp (mdN k) (kdN k) 0, rcp (mdN k) (kdN k) 1, rcp (mdN k) (kdN k) 2, rcp (mdN k) (kdN k) 3].takeWhile (· ≠ 0)
def ahK (k : Nat) (hi : Bool) : Bool := if rcp (mdN k) (kdN k) 0 = 12 ∨ rcp (mdN k) (kdN k) 0 = 10 then true else if rcp (mdN k) (kdN k) 0 = 1 then (decide (mdN k = 6) || ixI (mdN k : Nat)) || (decide (mdN k = 8) && hi) else false
theorem scan_all : ∀ k, k < 256 → barI ((opN k : Nat) : Int) = false → ∀ hi : Bool, ∀ b, b ∈ [0, 1, 2, 3, 6, 7] → scanK k hi b (kindsK k) = if ahK k hi = true then some true else if ndK k b = true then some true else if stK k b = true then some false else if behI (kdN k : Nat) = true then some true else none := by decide +kernel
/-- Behind the operation: does a store of the same instruction follow? -/
def laterS : List Nat → Bool
  | [] => false
  | r :: rs => (r == 5 || (r == 6 || r == 11)) || laterS rs
theorem later_all : ∀ k, k < 256 → barI ((opN k : Nat) : Int) = false → ∀ i, i < 4 → (kindsK k)[i]? = some 4 → laterS ((kindsK k).drop i) = behI (kdN k : Nat) := by decide +kernel
theorem st_high : ∀ k, k < 256 → barI ((opN k : Nat) : Int) = false → ∀ b, b ∈ [4, 5] → stK k b = false := by decide +kernel
theorem one_alu : ∀ k, k < 256 → ((kindsK k).filter (· = 4)).length ≤ 1 := by decide +kernel
theorem seen_own (f : Int) (L : List Nat) (p : Pc) (rest : List Mic) : ∀ ks : List Nat, seenB p.num f (ks.map (p.mic L) ++ rest) = (laterS ks || seenB p.num f rest)
  | [] => rfl
  | r :: rs => by
    have ih := seen_own f L p rest rs
    rw [List.map_cons, List.cons_append, seenB, laterS]
    have hn : (p.mic L r).num = p.num := rfl
    have hk : (p.mic L r).kd = r := rfl
    rw [hn, hk, if_neg (by simp), if_neg (by simp)]
    by_cases h : r = 5 ∨ r = 6 ∨ r = 11
    · rw [if_pos ⟨h, .inl rfl⟩]
      have : (r == 5 || (r == 6 || r == 11)) = true := by simp; exact h
      rw [this]; rfl
    · rw [if_neg (by simp [h]), if_neg (by simp), ih]
      have : (r == 5 || (r == 6 || r == 11)) = false := by simp; omega
      rw [this]; rfl
theorem seen_other (n0 : Nat) (b : Nat) (hb : b < 8) (L : List Nat) (p : Pc) (hn : p.num ≠ n0) (rest : List Mic) : ∀ ks : List Nat, seenB n0 ((2 ^ b : Nat) : Int) (ks.map (p.mic L) ++ rest) = match scanK p.k (decide (8192 ≤ p.opd L)) b ks with | some x => x | none => seenB n0 ((2 ^ b : Nat) : Int) rest
  | [] => rfl
  | r :: rs => by
    have ih := seen_other n0 b hb L p hn rest rs
    rw [List.map_cons, List.cons_append, seenB, scanK]
    have hN : (p.mic L r).num = p.num := rfl
    have hk : (p.mic L r).kd = r := rfl
    have he : exB (p.mic L r) = exK p.k (decide (8192 ≤ p.opd L)) r := by
      unfold exB exK
      by_cases h1 : r = 1
      · subst h1
        have e : (p.mic L 1).arg = ((p.opd L : Nat) : Int) := by unfold Pc.mic Pc.arg; rw [if_pos (.inl rfl)]
        have e2 : (decide (8192 ≤ ((p.opd L : Nat) : Int))) = decide (8192 ≤ p.opd L) := by rw [decide_eq_decide]; omega
        rw [e, e2]; rfl
      · have : (r == 1) = false := by simpa using h1
        rw [hk, this]; rfl
    have hnd : hasB (nd (p.mic L r).op) ((2 ^ b : Nat) : Int) = ndK p.k b := hasB_int _ (nd_bd _).1 (nd_bd _).2 b hb
    have hst : hasB (st (p.mic L r).op) ((2 ^ b : Nat) : Int) = stK p.k b := hasB_int _ (st_bd _).1 (st_bd _).2 b hb
    rw [hN, hk, he, hnd, hst]
    by_cases c1 : exK p.k (decide (8192 ≤ p.opd L)) r = true
    · rw [if_pos ⟨hn, c1⟩, if_pos c1]
    · rw [if_neg (fun h => c1 h.2), if_neg c1]
      by_cases c2 : (r = 4 ∨ r = 8) ∧ ndK p.k b = true
      · rw [if_pos ⟨hn, c2⟩, if_pos c2]
      · rw [if_neg (fun h => c2 h.2), if_neg c2]
        by_cases c3 : (r = 5 ∨ r = 6 ∨ r = 11) ∧ stK p.k b = false
        · rw [if_pos ⟨c3.1, .inr c3.2⟩, if_pos c3]
        · rw [if_neg (fun h => c3 ⟨h.1, h.2.resolve_left hn⟩), if_neg c3]
          by_cases c4 : r = 4 ∧ stK p.k b = true
          · rw [if_pos ⟨hn, c4⟩, if_pos c4]
          · rw [if_neg (fun h => c4 h.2), if_neg c4, ih]
theorem bit_not (x : Nat) (hx : x < 256) (b : Nat) (hb : b < 8) : (255 - x).testBit b = !x.testBit b := by
  have := Nat.testBit_two_pow_sub_succ (n := 8) hx b
  rw [show 2 ^ 8 - (x + 1) = 255 - x by omega] at this
  rw [this]; simp [hb]
theorem beh_bd (p : Pc) (s : Int) (h0 : 0 ≤ s) (h1 : s ≤ 255) : 0 ≤ p.beh s ∧ p.beh s ≤ 255 := by
  unfold Pc.beh; split <;> omega
theorem nat_of (x : Int) (h0 : 0 ≤ x) (h1 : x ≤ 255) : ∃ n : Nat, x = (n : Int) ∧ n < 256 := ⟨x.toNat, by omega, by omega⟩
theorem or_lt8 {a b : Nat} (ha : a < 256) (hb : b < 256) : a ||| b < 256 := Nat.or_lt_two_pow (n := 8) ha hb
theorem and_lt8 {a b : Nat} (ha : a < 256) : a &&& b < 256 := Nat.lt_of_le_of_lt Nat.and_le_left ha
theorem mid_bit (p : Pc) (s : Int) (h0 : 0 ≤ s) (h1 : s ≤ 255) : 0 ≤ p.mid s ∧ p.mid s ≤ 255 ∧ ∀ b, b < 8 → (p.mid s).toNat.testBit b = ((p.beh s).toNat.testBit b && !stK p.k b || ndK p.k b) := by
  obtain ⟨x, ex, hx⟩ := nat_of _ (beh_bd p s h0 h1).1 (beh_bd p s h0 h1).2
  obtain ⟨y, ey, hy⟩ := nat_of _ (st_bd p.op).1 (st_bd p.op).2
  obtain ⟨z, ez, hz⟩ := nat_of _ (nd_bd p.op).1 (nd_bd p.op).2
  have e : p.mid s = (((x &&& (255 - y)) ||| z : Nat) : Int) := by
    unfold Pc.mid
    rw [ex, ey, ez, u8_andNot_nat x y hx hy, u8_or_nat _ z (and_lt8 hx) hz]
  have hl := or_lt8 (and_lt8 (b := 255 - y) hx) hz
  refine ⟨by omega, by omega, fun b hb => ?_⟩
  have e1 : stK p.k b = y.testBit b := by unfold stK; show (st p.op).toNat.testBit b = _; rw [ey]; rfl
  have e2 : ndK p.k b = z.testBit b := by unfold ndK; show (nd p.op).toNat.testBit b = _; rw [ez]; rfl
  rw [e, e1, e2, ex]
  show ((x &&& (255 - y)) ||| z).testBit b = _
  rw [Nat.testBit_or, Nat.testBit_and, bit_not y hy b hb]; rfl
theorem livS_bd (L : List Nat) : ∀ ps : List Pc, 0 ≤ livS L ps ∧ livS L ps ≤ 255
  | [] => by rw [livS]; decide
  | p :: ps => by
    have ih := livS_bd L ps
    have := mid_bit p (livS L ps) ih.1 ih.2
    rw [livS]; unfold Pc.nxt
    split <;> omega
theorem b207 : ∀ b, b ∈ [0, 1, 2, 3, 6, 7] → (207 : Nat).testBit b = true := by decide
theorem b8 : ∀ b, b ∈ [0, 1, 2, 3, 6, 7] → b < 8 := by decide
theorem mics_eq (L : List Nat) (p : Pc) : p.mics L = (kindsK p.k).map (p.mic L) := rfl
/-- What somebody can see of later instructions, asked forwards. -/
theorem seen_rest (n0 : Nat) (b : Nat) (hb : b ∈ [0, 1, 2, 3, 6, 7]) (L : List Nat) : ∀ ps : List Pc, (∀ p ∈ ps, p.k < 256 ∧ barI ((opN p.k : Nat) : Int) = false ∧ p.num ≠ n0) → seenB n0 ((2 ^ b : Nat) : Int) (mcs L (livL L ps)) = (livS L ps).toNat.testBit b
  | [], _ => by rw [livS, livL]; exact (b207 b hb).symm
  | p :: ps, H => by
    have ih := seen_rest n0 b hb L ps (fun q hq => H q (List.mem_cons_of_mem _ hq))
    obtain ⟨h8, hbar, hn⟩ := H p (List.mem_cons_self ..)
    have e : mcs L (livL L (p :: ps)) = ((kindsK p.k).map ((p.put (p.lvo (livS L ps))).mic L)) ++ mcs L (livL L ps) := by simp [mcs, livL, mics_eq, Pc.put]
    rw [e, seen_other n0 b (b8 b hb) L (p.put (p.lvo (livS L ps))) hn, ih]
    have hs := scan_all p.k h8 hbar (decide (8192 ≤ p.opd L)) b hb
    have hs' : scanK (p.put (p.lvo (livS L ps))).k (decide (8192 ≤ (p.put (p.lvo (livS L ps))).opd L)) b (kindsK p.k) = _ := hs
    rw [hs', livS]
    have hbd := livS_bd L ps
    have hm := mid_bit p (livS L ps) hbd.1 hbd.2
    have ea : aheadB (mdN p.k) (kdN p.k) (p.opd L) = ahK p.k (decide (8192 ≤ p.opd L)) := rfl
    unfold Pc.nxt
    rw [ea]
    by_cases c1 : ahK p.k (decide (8192 ≤ p.opd L)) = true
    · rw [if_pos c1, if_pos c1]; exact (b207 b hb).symm
    · rw [if_neg c1, if_neg c1, hm.2.2 b (b8 b hb)]
      cases c2 : ndK p.k b
      · rw [if_neg (by decide)]
        cases c3 : stK p.k b
        · rw [if_neg (by decide)]
          unfold Pc.beh
          by_cases c4 : behI (kdN p.k : Nat) = true
          · rw [if_pos c4, if_pos c4]; simp [b207 b hb]
          · rw [if_neg c4, if_neg c4]; simp
        · rw [if_pos rfl]; simp
      · rw [if_pos rfl]; simp
/-- The live flags of each operation, asked forwards. -/
theorem flg_at (L : List Nat) : ∀ ps : List Pc, (∀ p ∈ ps, p.k < 256 ∧ barI ((opN p.k : Nat) : Int) = false) → ps.Pairwise (fun p q => q.num ≠ p.num) → ∀ i m, (mcs L (livL L ps))[i]? = some m → (m.kd ≠ 4 → m.fl = 0) ∧ (m.kd = 4 → ∃ x : Nat, m.fl = (x : Int) ∧ x < 256 ∧ ∀ b, b < 8 → x.testBit b = (hasB (st m.op) ((2 ^ b : Nat) : Int) && seenB m.num ((2 ^ b : Nat) : Int) ((mcs L (livL L ps)).drop i)))
  | [], _, _, i, m, h => by simp [mcs, livL] at h
  | p :: ps, H, hp, i, m, h => by
    obtain ⟨h8, hbar⟩ := H p (List.mem_cons_self ..)
    have hpn := List.pairwise_cons.1 hp
    have e : mcs L (livL L (p :: ps)) = ((kindsK p.k).map ((p.put (p.lvo (livS L ps))).mic L)) ++ mcs L (livL L ps) := by simp [mcs, livL, mics_eq, Pc.put]
    rw [e] at h ⊢
    by_cases hi : i < ((kindsK p.k).map ((p.put (p.lvo (livS L ps))).mic L)).length
    · rw [List.getElem?_append_left hi, List.getElem?_map] at h
      rw [List.length_map] at hi
      obtain ⟨r, hr, rfl⟩ := Option.map_eq_some_iff.1 h
      have hi4 : i < 4 := by
        have : (kindsK p.k).length ≤ 4 := by
          have := (List.takeWhile_sublist (p := (· ≠ 0)) (l := [rcp (mdN p.k) (kdN p.k) 0, rcp (mdN p.k) (kdN p.k) 1, rcp (mdN p.k) (kdN p.k) 2, rcp (mdN p.k) (kdN p.k) 3])).length_le
          exact this
        omega
      refine ⟨fun hk => if_neg hk, fun hk => ?_⟩
      have hr4 : r = 4 := hk
      subst hr4
      have hbd := livS_bd L ps
      obtain ⟨x, ex, hx⟩ := nat_of _ (beh_bd p _ hbd.1 hbd.2).1 (beh_bd p _ hbd.1 hbd.2).2
      obtain ⟨y, ey, hy⟩ := nat_of _ (st_bd p.op).1 (st_bd p.op).2
      have efl : ((p.put (p.lvo (livS L ps))).mic L 4).fl = ((y &&& x : Nat) : Int) := by
        show p.lvo (livS L ps) = _
        unfold Pc.lvo
        rw [ex, ey, u8_and_nat y x hy hx]
      refine ⟨y &&& x, efl, and_lt8 hy, fun b hb => ?_⟩
      have est : hasB (st ((p.put (p.lvo (livS L ps))).mic L 4).op) ((2 ^ b : Nat) : Int) = stK p.k b := hasB_int _ (st_bd _).1 (st_bd _).2 b hb
      have ek : stK p.k b = y.testBit b := by unfold stK; show (st p.op).toNat.testBit b = _; rw [ey]; rfl
      rw [est, Nat.testBit_and, ← ek]
      cases hst : stK p.k b
      · rfl
      · rw [Bool.true_and, Bool.true_and]
        have hbm : b ∈ [0, 1, 2, 3, 6, 7] := by
          have h4 := st_high p.k h8 hbar b
          rcases (show b = 0 ∨ b = 1 ∨ b = 2 ∨ b = 3 ∨ b = 4 ∨ b = 5 ∨ b = 6 ∨ b = 7 by omega) with rfl | rfl | rfl | rfl | rfl | rfl | rfl | rfl
          · decide
          · decide
          · decide
          · decide
          · rw [h4 (by decide)] at hst; cases hst
          · rw [h4 (by decide)] at hst; cases hst
          · decide
          · decide
        rw [List.drop_append_of_le_length (by rw [List.length_map]; omega), ← List.map_drop]
        have hso := seen_own ((2 ^ b : Nat) : Int) L (p.put (p.lvo (livS L ps))) (mcs L (livL L ps)) ((kindsK p.k).drop i)
        have hso' : seenB ((p.put (p.lvo (livS L ps))).mic L 4).num ((2 ^ b : Nat) : Int) (((kindsK p.k).drop i).map ((p.put (p.lvo (livS L ps))).mic L) ++ mcs L (livL L ps)) = _ := hso
        have hsr : seenB (p.put (p.lvo (livS L ps))).num ((2 ^ b : Nat) : Int) (mcs L (livL L ps)) = _ := seen_rest p.num b hbm L ps (fun q hq => ⟨(H q (List.mem_cons_of_mem _ hq)).1, (H q (List.mem_cons_of_mem _ hq)).2, hpn.1 q hq⟩)
        rw [hso', later_all p.k h8 hbar i hi4 hr, hsr]
        have ex' : x.testBit b = (p.beh (livS L ps)).toNat.testBit b := by rw [ex]; rfl
        rw [ex']
        unfold Pc.beh
        by_cases c4 : behI (kdN p.k : Nat) = true
        · rw [if_pos c4, c4]; exact b207 b hbm
        · rw [if_neg c4]; rw [Bool.not_eq_true] at c4; rw [c4]; rfl
    · have hi' := Nat.le_of_not_lt hi
      rw [List.getElem?_append_right hi'] at h
      have ih := flg_at L ps (fun q hq => H q (List.mem_cons_of_mem _ hq)) hpn.2 _ m h
      rw [List.drop_append, List.drop_of_length_le hi', List.nil_append]
      exact ih
theorem cutL_num {tag : Int} {L : List Nat} : ∀ (f at' off num cyc : Nat), (∀ p ∈ cutL tag L f at' off num cyc, num ≤ p.num) ∧ (cutL tag L f at' off num cyc).Pairwise (fun p q => q.num ≠ p.num)
  | 0, _, _, _, _ => by simp [cutL]
  | f + 1, at', off, num, cyc => by
    rw [cutL]
    split
    · split
      · split
        · simp
        · obtain ⟨h1, h2⟩ := cutL_num (tag := tag) (L := L) f ((at' + lnN (L.getD off 0)) % 65536) (off + lnN (L.getD off 0)) (num + 1) (cyc + cyN (L.getD off 0))
          refine ⟨fun p hp => ?_, List.pairwise_cons.2 ⟨fun q hq => ?_, h2⟩⟩
          · rcases List.mem_cons.1 hp with rfl | hp
            · exact Nat.le_refl _
            · have := h1 p hp; omega
          · have := h1 q hq
            show q.num ≠ num
            omega
      · simp
    · simp
theorem alu_count (L : List Nat) : ∀ ps : List Pc, (∀ p ∈ ps, p.k < 256) → ((mcs L ps).filter (fun m => m.kd = 4)).length ≤ ps.length
  | [], _ => by simp [mcs]
  | p :: ps, H => by
    have ih := alu_count L ps (fun q hq => H q (List.mem_cons_of_mem _ hq))
    have e : mcs L (p :: ps) = (kindsK p.k).map (p.mic L) ++ mcs L ps := by simp [mcs, mics_eq]
    have h1 := one_alu p.k (H p (List.mem_cons_self ..))
    have e2 : (((kindsK p.k).map (p.mic L)).filter (fun m => m.kd = 4)).length = ((kindsK p.k).filter (· = 4)).length := by
      rw [List.filter_map, List.length_map]; rfl
    rw [e, List.filter_append, List.length_append, e2, List.length_cons]
    omega
theorem or_step : ∀ x, x < 256 → ∀ k, k < 8 → (x % 2 ^ k) ||| 2 ^ k = x % 2 ^ k + 2 ^ k := by decide +kernel
theorem mod_step : ∀ x, x < 256 → ∀ k, k < 8 → x % 2 ^ (k + 1) = x % 2 ^ k + if x.testBit k = true then 2 ^ k else 0 := by decide +kernel
end Go.Proofs.YtfdiplgjiidnbaaDoor
