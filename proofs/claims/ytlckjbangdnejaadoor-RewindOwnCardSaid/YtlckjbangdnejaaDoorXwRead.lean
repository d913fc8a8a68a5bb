/-
  Reading a patch: some bytes, a number.
-/
import Derived.Test.YtlckjbangdnejaaDoorXwTurn
set_option linter.unusedSimpArgs false
set_option linter.unusedVariables false
namespace Go.Proofs.YtlckjbangdnejaaDoor
open Go.RowKit Classical
/-- The reader in block r holds these bytes still; they lie where they lay in w0. -/
def Rd (w0 w : World) (r : Nat) (L : List Nat) (br : Bool) : Prop := ∃ a n k, Blk w r #[.slice a n k, .bool br] 72 ∧ L.length = n ∧ n ≤ k ∧ Row w0 a L ∧ (a = none → k = 0)
theorem Rd.on {w0 w w' : World} {r : Nat} {L : List Nat} {br : Bool} (h : Rd w0 w r L br) (hb : w'.heap[r]? = w.heap[r]?) : Rd w0 w' r L br := by
  obtain ⟨a, n, k, hB, e⟩ := h
  exact ⟨a, n, k, hb.trans hB, e⟩
theorem Rd.lt {w0 w : World} {r : Nat} {L : List Nat} {br : Bool} (h : Rd w0 w r L br) : r < w.heap.size := by
  obtain ⟨a, n, k, hB, e⟩ := h
  exact hB.lt
/-- What take answers. -/
def TakeOk (w0 : World) (r : Nat) (L : List Nat) (br : Bool) (n : Nat) (w : World) (e : Ending) (w' : World) : Prop :=
  ∃ v, e = .returned v ∧ w.grownBy w' (some r) ∧
    ((L.length < n ∧ v = .slice none 0 0 ∧ Rd w0 w' r L true) ∨ (n ≤ L.length ∧ (∃ a, v = .slice a n n ∧ Row w0 a (L.take n)) ∧ Rd w0 w' r (L.drop n) br))
theorem row_take {w : World} {a : Option Addr} {L : List Nat} (h : Row w a L) (n : Nat) : Row w a (L.take n) := h.take n
theorem row_drop {w : World} {b off : Nat} {L : List Nat} (h : Row w (some ⟨b, off, none⟩) L) (n : Nat) : Row w (some ⟨b, off + n, none⟩) (L.drop n) := by
  rcases h with e | ⟨b', off', e, hc⟩
  · exact .inl (by rw [e]; simp)
  · cases e
    refine .inr ⟨b, off + n, rfl, fun i hi => ?_⟩
    simp only [List.length_drop] at hi
    have h1 := hc (n + i) (by omega)
    rw [← Nat.add_assoc] at h1
    rw [h1]
    simp [List.getD, List.getElem?_drop]
set_option maxRecDepth 100000 in
set_option maxHeartbeats 1600000 in
theorem take_any (w0 : World) (r : Nat) (L : List Nat) (br : Bool) (n : Nat) (hn : n ≤ 4611686018427387904) (hl : L.length ≤ 281474976710656) (w : World) (R : Rd w0 w r L br) :
    Calls Tryd.prog 46 #[.pointer (some ⟨r, 0, none⟩), .int .i64 n] w (TakeOk w0 r L br n w) := by
  obtain ⟨a, nl, k, hB, hnl, hk, hrow, hnil⟩ := R
  have HNIL : Hid (a = none → k = 0) := hnil
  have c0 := hB.cell 0
  have c1 := hB.cell 1
  have f0 := hB.free 0
  have f1 := hB.free 1
  simp only [List.getElem?_toArray] at c0 c1
  have HB : Hid (Blk w r #[.slice a nl k, .bool br] 72) := hB
  have HN : Hid (L.length = nl) := hnl
  have HR : Hid (Row w0 a L) := hrow
  have hl2 : nl ≤ 281474976710656 := by omega
  clear hB hnl hrow hl hnil
  by_cases h : nl < n
  · have i1 : (nl : Int) < (n : Int) := by omega
    go_enter Tryd.func46, Tryd.ntmps46
    go_wp2
    go_ret
    refine ⟨_, rfl, grown_set w r 1 _, .inl ⟨by have := HN.out; omega, rfl, a, nl, k, HB.out.set 1 (.bool true), HN.out, hk, HR.out, HNIL.out⟩⟩
  · have i1 : ¬ (nl : Int) < (n : Int) := by omega
    have i2 : n ≤ nl := by omega
    have i3 : n ≤ k := by omega
    by_cases hnk : k = n
    · subst hnk
      go_enter Tryd.func46, Tryd.ntmps46
      go_wp2
      go_ret
      obtain rfl : nl = k := by omega
      refine ⟨_, rfl, grown_set w r 0 _, .inr ⟨by rw [HN.out]; exact Nat.le_refl _, ⟨a, rfl, ?_⟩, ?_⟩⟩
      · exact HR.out.take _
      · exact ⟨a, 0, 0, HB.out.set 0 (.slice a 0 0), by rw [List.length_drop, HN.out]; omega, Nat.le_refl _, .inl (List.length_eq_zero_iff.1 (by rw [List.length_drop, HN.out]; omega)), fun _ => rfl⟩
    · have hnk2 : n < k := by omega
      rcases HR.out with e | ⟨b, off, rfl, hc⟩
      · have hz : nl = 0 := by have := HN.out; rw [e] at this; simpa using this.symm
        obtain rfl : n = 0 := by omega
        subst hz
        cases a with
        | none => have := HNIL.out rfl; omega
        | some p =>
          clear hnk i2 i3 h
          go_enter Tryd.func46, Tryd.ntmps46
          go_wp2
          go_ret
          exact ⟨_, rfl, grown_set w r 0 _, .inr ⟨Nat.zero_le _, ⟨some p, rfl, .inl (by simp)⟩, ⟨_, _, _, HB.out.set 0 _, by first | rfl | (rw [e]; rfl), Nat.zero_le _, .inl (by first | rfl | (rw [e]; rfl)), fun h => by cases h⟩⟩⟩
      · clear hc
        go_enter Tryd.func46, Tryd.ntmps46
        go_wp2
        go_ret
        refine ⟨_, rfl, grown_set w r 0 _, .inr ⟨by rw [HN.out]; exact i2, ⟨_, rfl, HR.out.take n⟩, ⟨some ⟨b, off + n, none⟩, nl - n, k - n, HB.out.set 0 _, by rw [List.length_drop, HN.out], by omega, row_drop HR.out n, fun h => by cases h⟩⟩⟩
/-- What number answers. -/
def NumOk (w0 : World) (r : Nat) (L : List Nat) (br : Bool) (w : World) (e : Ending) (w' : World) : Prop :=
  ∃ m : Nat, e = .returned (.int .i64 m) ∧ m < 2097152 ∧ w.grownBy w' (some r) ∧
    ((∃ R, br = false ∧ RwM.rdN 3 L = some (m, R) ∧ R.length < L.length ∧ Bytes R ∧ Rd w0 w' r R false) ∨ ((br = false → RwM.rdN 3 L = none) ∧ m = 0 ∧ ∃ R, R.length ≤ L.length ∧ Bytes R ∧ Rd w0 w' r R true))
theorem or_i64 (a b : Nat) (ha : a < 4611686018427387904) (hb : b < 4611686018427387904) : bits .or .i64 (a : Int) (b : Int) = ((a ||| b : Nat) : Int) := by
  have hx : a ||| b < 2 ^ 62 := Nat.or_lt_two_pow (by omega) (by omega)
  have h1 : (BitVec.ofInt 64 (a : Int)).toNat = a := by
    rw [BitVec.ofInt_natCast, BitVec.toNat_ofNat]; exact Nat.mod_eq_of_lt (by omega)
  have h2 : (BitVec.ofInt 64 (b : Int)).toNat = b := by
    rw [BitVec.ofInt_natCast, BitVec.toNat_ofNat]; exact Nat.mod_eq_of_lt (by omega)
  show IntKind.i64.wrap ((BitVec.ofInt 64 (a : Int) ||| BitVec.ofInt 64 (b : Int)).toNat : Int) = _
  rw [BitVec.toNat_or, h1, h2, IntKind.wrap_i64]
  omega
theorem or_0 (acc y : Nat) (h : acc < 1) : bits .or .i64 (acc : Int) ((y : Int) % 128) = ((acc + 1 * (y % 128) : Nat) : Int) := by
  obtain rfl : acc = 0 := by omega
  have := or_i64 0 (y % 128) (by decide) (by omega)
  rw [Nat.zero_or] at this
  rw [show (y : Int) % 128 = ((y % 128 : Nat) : Int) by omega, this]
  congr 1; omega
theorem or_1 (acc y : Nat) (h : acc < 128) : bits .or .i64 (acc : Int) ((y : Int) % 128 * 128) = ((acc + 128 * (y % 128) : Nat) : Int) := by
  have := or_i64 acc (y % 128 * 128) (by omega) (by omega)
  rw [show (y : Int) % 128 * 128 = ((y % 128 * 128 : Nat) : Int) by omega, this]
  have e := Nat.two_pow_add_eq_or_of_lt (i := 7) (b := acc) h (y % 128)
  rw [Nat.or_comm, Nat.mul_comm (y % 128) 128, ← e]
  congr 1; omega
theorem or_2 (acc y : Nat) (h : acc < 16384) : bits .or .i64 (acc : Int) ((y : Int) % 128 * 16384) = ((acc + 16384 * (y % 128) : Nat) : Int) := by
  have := or_i64 acc (y % 128 * 16384) (by omega) (by omega)
  rw [show (y : Int) % 128 * 16384 = ((y % 128 * 16384 : Nat) : Int) by omega, this]
  have e := Nat.two_pow_add_eq_or_of_lt (i := 14) (b := acc) h (y % 128)
  rw [Nat.or_comm, Nat.mul_comm (y % 128) 16384, ← e]
  congr 1; omega
theorem rd_step (k acc y : Nat) (ys : List Nat) (hk : k < 3) (hy : ¬ y < 128) : ((RwM.rdN (3 - k) (y :: ys)).map fun p => (acc + 128 ^ k * p.1, p.2)) = (RwM.rdN (3 - (k + 1)) ys).map fun p => (acc + 128 ^ k * (y % 128) + 128 ^ (k + 1) * p.1, p.2) := by
  rw [show 3 - k = (3 - (k + 1)) + 1 by omega, RwM.rdN, if_neg hy, Option.map_map]
  congr 1
  funext p
  show (acc + 128 ^ k * (y % 128 + 128 * p.1), p.2) = _
  rw [Nat.mul_add, Nat.pow_succ, Nat.mul_assoc, ← Nat.add_assoc]
theorem rd_last (k acc y : Nat) (ys : List Nat) (hk : k < 3) (hy : y < 128) : ((RwM.rdN (3 - k) (y :: ys)).map fun p => (acc + 128 ^ k * p.1, p.2)) = some (acc + 128 ^ k * (y % 128), ys) := by
  rw [show 3 - k = (3 - (k + 1)) + 1 by omega, RwM.rdN, if_pos hy, Nat.mod_eq_of_lt hy]
  rfl
theorem and_not (b : Nat) (hb : b < 256) : bits .andNot .u8 (b : Int) 128 = ((b % 128 : Nat) : Int) := by revert b; decide +kernel
set_option maxRecDepth 100000 in
set_option maxHeartbeats 1600000 in
theorem number_any (w0 : World) (r : Nat) (L : List Nat) (br : Bool) (hl : L.length ≤ 281474976710656) (hL : Bytes L) (hb : w0.heap.size ≤ r) (w : World) (hw : Below w0.heap.size w0 w) (R : Rd w0 w r L br) :
    Calls Tryd.prog 47 #[.pointer (some ⟨r, 0, none⟩)] w (NumOk w0 r L br w) := by
  have HR : Hid (Rd w0 w r L br) := R
  have HBL : Hid (Bytes L) := hL
  clear R hL
  go_enter Tryd.func47, Tryd.ntmps47
  go_upto_region 3 with fail
  go_loopw [3, 6] (fun x i wr => ∃ (k acc : Nat) (Lk : List Nat), k ≤ 3 ∧ x = .int .i64 acc ∧ i = .int .i64 k ∧ acc < 128 ^ k ∧ Lk.length + k ≤ L.length + (if br then 3 else 0) ∧ Lk.length ≤ L.length ∧ Hid (Bytes Lk) ∧ Hid (Rd w0 wr r Lk br) ∧ Hid (w.grownBy wr (some r)) ∧ (br = true → k = 0) ∧ Hid (br = false → RwM.rdN 3 L = (RwM.rdN (3 - k) Lk).map fun p => (acc + 128 ^ k * p.1, p.2))) (fun _ i _ => 3 - (intOf i).toNat)
  case atStart => exact ⟨0, 0, L, by omega, rfl, rfl, by decide, by omega, Nat.le_refl _, HBL, HR, World.grownBy.refl _ _, fun _ => rfl, fun _ => by simp⟩
  case round =>
    obtain ⟨k, acc, Lk, hk, rfl, rfl, hacc, hlen, hlen2, hBk, hR, hG, hbr, hE⟩ := hrel
    by_cases h : k < 3
    · have i1 : (k : Int) < 3 := by omega
      go_wp2_with fail
      refine (take_any w0 r Lk br 1 (by omega) (by omega) wr hR.out).mono ?_
      rintro e w1 ⟨v, rfl, G1, hv⟩
      have HG1 : Hid (w.grownBy w1 (some r)) := grown_trans hG.out G1
      rcases hv with ⟨hlt, rfl, R1⟩ | ⟨hle, ⟨a1, rfl, r1⟩, R1⟩
      · obtain rfl : Lk = [] := List.length_eq_zero_iff.1 (by omega)
        obtain ⟨a, n, kk, hB, e1, e2, e3, e4⟩ := R1
        have c1 := hB.cell 1
        have HR1 : Hid (Rd w0 w1 r [] true) := ⟨a, n, kk, hB, e1, e2, e3, e4⟩
        have HE2 : Hid (br = false → RwM.rdN 3 L = none) := fun hb => by rw [hE.out hb]; match k, h with
          | 0, _ => rfl
          | 1, _ => rfl
          | 2, _ => rfl
        clear hB e1 e2 e3 e4
        go_wp2
        go_ret
        exact ⟨0, rfl, by decide, HG1.out, .inr ⟨HE2.out, rfl, [], Nat.zero_le _, (fun x hx => by cases hx), HR1.out⟩⟩
      · cases Lk with
        | nil => simp at hle
        | cons y ys =>
          obtain ⟨a, n, kk, hB, e1, e2, e3, e4⟩ := R1
          have c1 := hB.cell 1
          have HR1 : Hid (Rd w0 w1 r ys br) := ⟨a, n, kk, hB, e1, e2, e3, e4⟩
          have hy : y < 256 := hBk.out y (by simp)
          have HBy : Hid (Bytes ys) := fun x hx => hBk.out x (by simp [hx])
          rcases r1 with e0 | ⟨bb, off, rfl, hc⟩
          · simp at e0
          have c2 : w1.cell? ⟨bb, off, none⟩ = some (.int .u8 (y : Nat)) := by
            have h0 := hc 0 (by simp)
            have hlt := cell_lt h0
            have : w1.cell? ⟨bb, off + 0, none⟩ = w0.cell? ⟨bb, off + 0, none⟩ := by
              have hbw : Below w0.heap.size w0 w1 := hw.grown HG1.out (by have := hw.size; omega) (fun q hq => by cases hq; exact hb)
              exact hbw.cell hlt
            rw [← this] at h0
            simpa using h0
          cases br with
          | true =>
            clear hB e1 e2 e3 e4 hc
            go_wp2
            go_ret
            exact ⟨0, rfl, by decide, HG1.out, .inr ⟨(fun h => absurd h (by decide)), rfl, ys, by simp only [List.length_cons] at hlen2; omega, HBy.out, HR1.out⟩⟩
          | false =>
            have a1 := and_not y hy
            clear hB e1 e2 e3 e4 hc
            obtain rfl | rfl | rfl : k = 0 ∨ k = 1 ∨ k = 2 := by omega
            · have hm0 : acc < 1 := hacc
              obtain ⟨m, hm⟩ : ∃ m, m = acc + 1 * (y % 128) := ⟨_, rfl⟩
              have o1 := or_0 acc y hm0
              rw [← hm] at o1
              have hmb : m < 128 := by omega
              have HM : Hid (m = acc + 128 ^ 0 * (y % 128)) := hm
              have HE : Hid (RwM.rdN 3 L = (RwM.rdN (3 - 0) (y :: ys)).map fun p => (acc + 128 ^ 0 * p.1, p.2)) := hE.out rfl
              clear hm hE
              by_cases hy2 : y < 128
              · have HF : Hid (RwM.rdN 3 L = some (m, ys)) := by unfold Hid; rw [HE.out, rd_last 0 acc y ys (by decide) hy2, HM.out]
                have iy : (y : Int) < 128 := by omega
                go_wp2
                go_ret
                exact ⟨m, rfl, by omega, HG1.out, .inl ⟨ys, rfl, HF.out, by simp only [List.length_cons] at hlen2; omega, HBy.out, HR1.out⟩⟩
              · have HF : Hid (RwM.rdN 3 L = (RwM.rdN (3 - (0 + 1)) ys).map fun p => (m + 128 ^ (0 + 1) * p.1, p.2)) := by unfold Hid; rw [HE.out, rd_step 0 acc y ys (by decide) hy2, HM.out]
                have iy : ¬ (y : Int) < 128 := by omega
                go_wp2
                go_roundw
                case rel => exact ⟨0 + 1, m, ys, by decide, rfl, by go_num, hmb, by simp only [List.length_cons] at hlen; omega, by simp only [List.length_cons] at hlen2; omega, HBy, HR1, HG1, (fun h => absurd h (by decide)), fun _ => HF.out⟩
                case measure => simp [intOf]
            · have hm0 : acc < 128 := hacc
              obtain ⟨m, hm⟩ : ∃ m, m = acc + 128 * (y % 128) := ⟨_, rfl⟩
              have o1 := or_1 acc y hm0
              rw [← hm] at o1
              have hmb : m < 16384 := by omega
              have HM : Hid (m = acc + 128 ^ 1 * (y % 128)) := hm
              have HE : Hid (RwM.rdN 3 L = (RwM.rdN (3 - 1) (y :: ys)).map fun p => (acc + 128 ^ 1 * p.1, p.2)) := hE.out rfl
              clear hm hE
              by_cases hy2 : y < 128
              · have HF : Hid (RwM.rdN 3 L = some (m, ys)) := by unfold Hid; rw [HE.out, rd_last 1 acc y ys (by decide) hy2, HM.out]
                have iy : (y : Int) < 128 := by omega
                go_wp2
                go_ret
                exact ⟨m, rfl, by omega, HG1.out, .inl ⟨ys, rfl, HF.out, by simp only [List.length_cons] at hlen2; omega, HBy.out, HR1.out⟩⟩
              · have HF : Hid (RwM.rdN 3 L = (RwM.rdN (3 - (1 + 1)) ys).map fun p => (m + 128 ^ (1 + 1) * p.1, p.2)) := by unfold Hid; rw [HE.out, rd_step 1 acc y ys (by decide) hy2, HM.out]
                have iy : ¬ (y : Int) < 128 := by omega
                go_wp2
                go_roundw
                case rel => exact ⟨1 + 1, m, ys, by decide, rfl, by go_num, hmb, by simp only [List.length_cons] at hlen; omega, by simp only [List.length_cons] at hlen2; omega, HBy, HR1, HG1, (fun h => absurd h (by decide)), fun _ => HF.out⟩
                case measure => simp [intOf]
            · have hm0 : acc < 16384 := hacc
              obtain ⟨m, hm⟩ : ∃ m, m = acc + 16384 * (y % 128) := ⟨_, rfl⟩
              have o1 := or_2 acc y hm0
              rw [← hm] at o1
              have hmb : m < 2097152 := by omega
              have HM : Hid (m = acc + 128 ^ 2 * (y % 128)) := hm
              have HE : Hid (RwM.rdN 3 L = (RwM.rdN (3 - 2) (y :: ys)).map fun p => (acc + 128 ^ 2 * p.1, p.2)) := hE.out rfl
              clear hm hE
              by_cases hy2 : y < 128
              · have HF : Hid (RwM.rdN 3 L = some (m, ys)) := by unfold Hid; rw [HE.out, rd_last 2 acc y ys (by decide) hy2, HM.out]
                have iy : (y : Int) < 128 := by omega
                go_wp2
                go_ret
                exact ⟨m, rfl, by omega, HG1.out, .inl ⟨ys, rfl, HF.out, by simp only [List.length_cons] at hlen2; omega, HBy.out, HR1.out⟩⟩
              · have HF : Hid (RwM.rdN 3 L = (RwM.rdN (3 - (2 + 1)) ys).map fun p => (m + 128 ^ (2 + 1) * p.1, p.2)) := by unfold Hid; rw [HE.out, rd_step 2 acc y ys (by decide) hy2, HM.out]
                have iy : ¬ (y : Int) < 128 := by omega
                go_wp2
                go_roundw
                case rel => exact ⟨2 + 1, m, ys, by decide, rfl, by go_num, hmb, by simp only [List.length_cons] at hlen; omega, by simp only [List.length_cons] at hlen2; omega, HBy, HR1, HG1, (fun h => absurd h (by decide)), fun _ => HF.out⟩
                case measure => simp [intOf]
    · obtain rfl : k = 3 := by omega
      cases br with
      | true => exact absurd (hbr rfl) (by decide)
      | false =>
        obtain ⟨a, n, kk, hB, e1, e2, e3, e4⟩ := hR.out
        have c1 := hB.cell 1
        have f1 := hB.free 1
        have HR1 : Hid (Rd w0 (wr.setCell ⟨r, 1, none⟩ (.bool true)) r Lk true) := ⟨a, n, kk, hB.set 1 (.bool true), e1, e2, e3, e4⟩
        have HG1 : Hid (w.grownBy (wr.setCell ⟨r, 1, none⟩ (.bool true)) (some r)) := grown_trans hG.out (grown_set _ _ _ _)
        have HF : Hid (RwM.rdN 3 L = none) := by unfold Hid; rw [hE.out rfl]; rfl
        clear hB e1 e2 e3 e4
        go_wp2
        go_ret
        exact ⟨0, rfl, by decide, HG1.out, .inr ⟨fun _ => HF.out, rfl, Lk, hlen2, hBk.out, HR1.out⟩⟩
/-- What number answers, in one form. -/
def NumU (w0 : World) (r : Nat) (L : List Nat) (br : Bool) (w : World) (e : Ending) (w' : World) : Prop :=
  ∃ (m : Nat) (R : List Nat) (bq : Bool), e = .returned (.int .i64 m) ∧ m < 2097152 ∧ w.grownBy w' (some r) ∧ Rd w0 w' r R bq ∧ R.length ≤ L.length ∧ Bytes R ∧
    (bq = false → br = false ∧ RwM.rdN 3 L = some (m, R)) ∧ (∀ q, br = false → RwM.rdN 3 L = some q → bq = false)
theorem number_u (w0 : World) (r : Nat) (L : List Nat) (br : Bool) (hl : L.length ≤ 281474976710656) (hL : Bytes L) (hb : w0.heap.size ≤ r) (w : World) (hw : Below w0.heap.size w0 w) (R : Rd w0 w r L br) :
    Calls Tryd.prog 47 #[.pointer (some ⟨r, 0, none⟩)] w (NumU w0 r L br w) := by
  refine (number_any w0 r L br hl hL hb w hw R).mono ?_
  rintro e w' ⟨m, he, hm, hg, h | h⟩
  · obtain ⟨R1, h1, h2, h3, h4, h5⟩ := h
    exact ⟨m, R1, false, he, hm, hg, h5, by omega, h4, fun _ => ⟨h1, h2⟩, fun _ _ _ => rfl⟩
  · obtain ⟨h1, h2, R1, h3, h4, h5⟩ := h
    exact ⟨m, R1, true, he, hm, hg, h5, h3, h4, fun h => absurd h (by decide), fun q hb2 hq => by rw [h1 hb2] at hq; cases hq⟩
/-- What take answers, in one form. -/
def TakeU (w0 : World) (r : Nat) (L : List Nat) (br : Bool) (n : Nat) (w : World) (e : Ending) (w' : World) : Prop :=
  ∃ (a : Option Addr) (k : Nat) (M R : List Nat) (bq : Bool) (l : Nat), e = .returned (.slice a l k) ∧ M.length = l ∧ w.grownBy w' (some r) ∧ Row w0 a M ∧ Bytes M ∧ Rd w0 w' r R bq ∧ M.length ≤ L.length ∧ R.length ≤ L.length ∧ Bytes R ∧
    (bq = false → br = false ∧ n ≤ L.length ∧ M = L.take n ∧ R = L.drop n) ∧ (br = false → n ≤ L.length → bq = false)
theorem take_u (w0 : World) (r : Nat) (L : List Nat) (br : Bool) (n : Nat) (hn : n ≤ 4611686018427387904) (hl : L.length ≤ 281474976710656) (hL : Bytes L) (w : World) (R : Rd w0 w r L br) :
    Calls Tryd.prog 46 #[.pointer (some ⟨r, 0, none⟩), .int .i64 n] w (TakeU w0 r L br n w) := by
  refine (take_any w0 r L br n hn hl w R).mono ?_
  rintro e w' ⟨v, he, hg, h | h⟩
  · obtain ⟨h1, rfl, h3⟩ := h
    exact ⟨none, 0, [], L, true, 0, he, rfl, hg, .inl rfl, (fun x hx => by cases hx), h3, Nat.zero_le _, Nat.le_refl _, hL, (fun h => absurd h (by decide)), fun _ h => by omega⟩
  · obtain ⟨h1, ⟨a, rfl, h2⟩, h3⟩ := h
    exact ⟨a, n, L.take n, L.drop n, br, n, he, by rw [List.length_take]; omega, hg, h2, bytes_take hL n, h3, by rw [List.length_take]; omega, by rw [List.length_drop]; omega, (fun x hx => hL x (List.mem_of_mem_drop hx)), fun h => ⟨h, h1, rfl, rfl⟩, fun h _ => h⟩
end Go.Proofs.YtlckjbangdnejaaDoor
