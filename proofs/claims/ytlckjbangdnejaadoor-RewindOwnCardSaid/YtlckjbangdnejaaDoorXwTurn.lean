/-
  A copy of a list; a list's bits turned by another.
-/
import Derived.Test.YtlckjbangdnejaaDoorXwApp
import Derived.Test.YtlckjbangdnejaaDoorXwM
set_option linter.unusedSimpArgs false
set_option linter.unusedVariables false
namespace Go.Proofs.YtlckjbangdnejaaDoor
open Go.RowKit Classical
theorem splice_full (cur cs : List Value) (h : cs.length = cur.length) : splice cur 0 cs = cs := by
  simp [splice, h]
set_option maxRecDepth 100000 in
set_option maxHeartbeats 800000 in
theorem copied_any (n : Nat) (l : List Nat) (hn : l.length = n) (hlen : n ≤ 140737488351232) (a : Option Addr) (cap : Nat) (w : World) (hrow : Row w a l) :
    Calls Tryd.prog 28 #[.slice a n cap] w fun e w' => e = .returned (.slice (some ⟨w.heap.size, 0, none⟩) n n) ∧ Own w' w.heap.size l ∧ Below w.heap.size w w' := by
  have HL : Hid (l.length = n) := hn
  have HR : Hid (Row w a l) := hrow
  obtain ⟨i0, hi, hz0, hz1, hz2⟩ := info_parts Tryd.infoU8
  clear hrow hn
  go_enter Tryd.func28, Tryd.ntmps28
  go_upto_region 2 with (at_make; refine wpList_make_full _ rfl _ _ 28 rfl w.heap.size 5 i0 (.int .u8 0) 1 Tryd.underlying28 hi hz0 hz1 .i64 .i64 _ _ n rfl rfl rfl rfl (by rw [hz2]; omega) (by unfold maxLen; omega) (Nat.le_refl _) ?_; intro w1 hown hgrow)
  have ho := Own.of_row (List.replicate n 0) (vals_zero _) hown
  have hb := (Below.refl w.heap.size w).grown hgrow (Nat.le_refl _) (by simp)
  clear hown hgrow hi hz0 hz1 hz2
  have HO : Hid (w1.heap[w.heap.size]? = some (.cells (vals (List.replicate n 0)).toArray 5 (0, 0))) := ho
  have F1 : Hid ((vals l).length = Nat.min n n) := by unfold Hid; rw [vals_len, HL.out]; exact (Nat.min_self n).symm
  have F2 : Hid (0 < (vals l).length → (some ⟨w.heap.size, 0, none⟩ : Option Addr) = some ⟨w.heap.size, 0, none⟩ ∧ ∃ ad, a = some ad ∧ ∀ j v, (vals l)[j]? = some v → w1.cell? (ad.add j) = some v) := by
    intro h0
    rcases HR.out with e | ⟨b, off, e, hc⟩
    · rw [e] at h0; exact absurd h0 (by decide)
    refine ⟨rfl, _, e, fun j v hv => ?_⟩
    have hj : j < l.length := by have := (List.getElem?_eq_some_iff.1 hv).1; rwa [vals_len] at this
    have h1 := hc j hj
    have h2 := (hb.cell (p := ⟨b, off + j, none⟩) (cell_lt h1)).trans h1
    rw [Addr.add_lit, h2]
    simp [vals, hj] at hv
    rw [← hv]
    simp [hj]
  have F3 : Hid (0 + (vals l).length ≤ (vals (List.replicate n 0)).length) := by unfold Hid; rw [vals_len, vals_len, HL.out]; simp
  clear ho
  go_wp2_with (refine wpList_copy_splice rfl _ _ 28 28 rfl 5 (by kernel_rfl) (by kernel_rfl) (some ⟨w.heap.size, 0, none⟩) a n n n cap rfl rfl w.heap.size 0 (vals (List.replicate n 0)) 5 HO.out (vals l) F1.out F2.out F3.out (vals_one l) w.heap.size w hb (Nat.le_refl _) ?_; intro w5 hg5 hb6)
  have hg := hg5.out
  rw [splice_full _ _ (by rw [vals_len, vals_len, HL.out]; simp)] at hg
  go_ret
  exact ⟨rfl, show Own w5 w.heap.size l from hg, hb6⟩
/-- A list, its bytes from a place on turned by another's. -/
def tn (L X : List Nat) (off : Nat) : List Nat := (List.range L.length).map fun i => L.getD i 0 ^^^ (if off ≤ i then X.getD (i - off) 0 else 0)
theorem tn_len (L X : List Nat) (off : Nat) : (tn L X off).length = L.length := by simp [tn]
theorem tn_at (L X : List Nat) (off i : Nat) (h : i < L.length) : (tn L X off).getD i 0 = L.getD i 0 ^^^ (if off ≤ i then X.getD (i - off) 0 else 0) := by simp [tn, List.getD, h]
theorem tn_nil (L : List Nat) (off : Nat) : tn L [] off = L := by
  apply List.ext_getElem (tn_len _ _ _)
  intro i h1 h2
  have := tn_at L [] off i h2
  simp only [List.getD_eq_getElem?_getD, List.getElem?_eq_getElem h1, List.getElem?_eq_getElem h2, Option.getD_some] at this
  simpa using this
theorem tn_bytes {L X : List Nat} (hL : Bytes L) (hX : Bytes X) (off : Nat) : Bytes (tn L X off) := by
  intro x hx
  simp only [tn, List.mem_map] at hx
  obtain ⟨i, _, rfl⟩ := hx
  refine Nat.xor_lt_two_pow (n := 8) (bytes_at hL i) ?_
  split
  · exact bytes_at hX _
  · decide
theorem getD_take_lt (X : List Nat) {k i : Nat} (h : i < k) : (X.take k).getD i 0 = X.getD i 0 := by
  simp [List.getD, List.getElem?_take, h]
theorem getD_take_ge (X : List Nat) {k i : Nat} (h : k ≤ i) : (X.take k).getD i 0 = 0 := by
  simp [List.getD, List.getElem?_take, show ¬ i < k by omega]
theorem getD_elem (l : List Nat) (i : Nat) (h : i < l.length) : l.getD i 0 = l[i] := by simp [List.getD, h]
theorem tn_step (L X : List Nat) (off k : Nat) (hk : off + k < L.length) (hx : k < X.length) :
    tn L (X.take (k + 1)) off = (tn L (X.take k) off).set (off + k) ((tn L (X.take k) off).getD (off + k) 0 ^^^ X.getD k 0) := by
  apply List.ext_getElem (by simp [tn_len])
  intro i h1 h2
  rw [tn_len] at h1
  rw [← getD_elem _ i (by rw [tn_len]; exact h1), tn_at _ _ _ _ h1, List.getElem_set]
  by_cases e : off + k = i
  · subst e
    rw [if_pos (show off ≤ off + k by omega), if_pos rfl, tn_at _ _ _ _ hk, if_pos (show off ≤ off + k by omega), show off + k - off = k by omega, getD_take_lt X (by omega), getD_take_ge X (by omega), Nat.xor_zero]
  · rw [if_neg e, ← getD_elem _ i (by rw [tn_len]; exact h1), tn_at _ _ _ _ h1]
    by_cases ho : off ≤ i
    · rw [if_pos ho, if_pos ho]
      by_cases h : i - off < k
      · rw [getD_take_lt X (by omega), getD_take_lt X h]
      · rw [getD_take_ge X (by omega), getD_take_ge X (by omega)]
    · rw [if_neg ho, if_neg ho]
theorem tn_take (L X : List Nat) (off k : Nat) (h : L.length ≤ off + k ∨ X.length ≤ k) : tn L (X.take k) off = tn L X off := by
  rcases h with h | h
  · apply List.ext_getElem (by simp [tn_len])
    intro i h1 h2
    rw [tn_len] at h1
    rw [← getD_elem _ i (by rw [tn_len]; exact h1), ← getD_elem _ i (by rw [tn_len]; exact h1), tn_at _ _ _ _ h1, tn_at _ _ _ _ h1]
    split
    · rw [getD_take_lt X (by omega)]
    · rfl
  · rw [List.take_of_length_le h]
theorem grown_set (w : World) (g i : Nat) (v : Value) : w.grownBy (w.setCell ⟨g, i, none⟩ v) (some g) :=
  ⟨rfl, rfl, rfl, by simp, fun k _ hk => Below.heap_setCell w ⟨g, i, none⟩ v k (fun e => hk (by rw [e]))⟩
theorem grown_trans {a b c : World} {r : Option Nat} (h : a.grownBy b r) (k : b.grownBy c r) : a.grownBy c r :=
  ⟨k.os.trans h.os, k.tape.trans h.tape, k.output.trans h.output, Nat.le_trans h.size k.size, fun m hm hn => (k.block m (Nat.lt_of_lt_of_le hm h.size) hn).trans (h.block m hm hn)⟩
theorem hid_drew {w w' : World} {r : Option Nat} (h : Hid (w.grownBy w' r)) : Hid (w.grownBy w'.drew r) := (⟨h.out.os, h.out.tape, h.out.output, h.out.size, h.out.block⟩ : w.grownBy w'.drew r)
theorem xor_u8 (p q : Nat) (hp : p < 256) (hq : q < 256) : bits .xor .u8 (p : Int) (q : Int) = ((p ^^^ q : Nat) : Int) := by
  have h : ∀ a : Fin 256, bits .xor .u8 ((a.val : Nat) : Int) (q : Int) = ((a.val ^^^ q : Nat) : Int) := by
    intro a
    exact u8_xor_nat a.val q a.isLt hq
  exact h ⟨p, hp⟩
set_option maxRecDepth 100000 in
set_option maxHeartbeats 1600000 in
theorem turn_any (L X : List Nat) (hL : Bytes L) (hX : Bytes X) (n off nx : Nat) (hn : off + n = L.length) (hnx : X.length = nx) (hlen : L.length ≤ 1000000) (hlx : nx ≤ 140737488351232) (g cap kx : Nat) (a : Option Addr) (w : World) (O : Own w g L) (R : Row w a X) (hne : ∀ p, a = some p → X ≠ [] → p.block ≠ g) :
    Calls Tryd.prog 34 #[.slice (some ⟨g, off, none⟩) n cap, .slice a nx kx] w fun e w' => e = .returned (.tuple #[]) ∧ Own w' g (tn L X off) ∧ w.grownBy w' (some g) := by
  have HO : Hid (Own w g L) := O
  have HR : Hid (Row w a X) := R
  have HE : Hid (∀ p, a = some p → X ≠ [] → p.block ≠ g) := hne
  have HB : Hid (Bytes L ∧ Bytes X) := ⟨hL, hX⟩
  have HLE : Hid (n ≤ 1000000) := by unfold Hid; omega
  clear O R hne hL hX
  rcases Nat.lt_or_ge nx n with hle | hle
  · have HK : Hid (∀ k, k < nx → off + k < L.length ∧ k < X.length) := fun k hk => ⟨by omega, by omega⟩
    have HF : Hid (L.length ≤ off + nx ∨ X.length ≤ nx) := .inr (by omega)
    clear hn hnx hlen
    go_enter Tryd.func34, Tryd.ntmps34
    go_upto_region 1 with fail
    go_loopw [10] (fun i wr => ∃ k : Nat, k ≤ nx ∧ i = .int .i64 k ∧ Hid (Own wr g (tn L (X.take k) off)) ∧ Hid (w.grownBy wr (some g))) (fun i _ => nx - (intOf i).toNat)
    case atStart => exact ⟨0, by omega, rfl, by show Own _ _ _; rw [List.take_zero, tn_nil]; exact HO.out, World.grownBy.refl _ _⟩
    case round =>
      obtain ⟨k, hk, rfl, hO, hG⟩ := hrel
      by_cases h : k < nx
      · obtain ⟨k1, k2⟩ := HK.out k h
        have c1 := hO.out.cell (off + k) (by rw [tn_len]; exact k1)
        have fr := hO.out.free (off + k)
        have b1 := bytes_at (tn_bytes HB.out.1 (bytes_take HB.out.2 k) off) (off + k)
        have b2 := bytes_at HB.out.2 k
        rcases HR.out with e | ⟨bx, ox, rfl, hc⟩
        · rw [e] at k2; exact absurd k2 (Nat.not_lt_zero _)
        have c2 := hG.out.cell (hc k k2) (fun e => HE.out _ rfl (fun h => by rw [h] at k2; exact Nat.not_lt_zero _ k2) (by cases e; rfl))
        have HS : Hid (tn L (X.take (k + 1)) off = _) := tn_step L X off k k1 k2
        have hS := hO.out.set (off + k) ((tn L (X.take k) off).getD (off + k) 0 ^^^ X.getD k 0)
        rw [← HS.out] at hS
        have hG2 : Hid (w.grownBy (wr.setCell ⟨g, off + k, none⟩ (.int .u8 (((tn L (X.take k) off).getD (off + k) 0 ^^^ X.getD k 0 : Nat) : Int))) (some g)) := grown_trans hG.out (grown_set _ _ _ _)
        have HS2 : Hid (Own (wr.setCell ⟨g, off + k, none⟩ (.int .u8 (((tn L (X.take k) off).getD (off + k) 0 ^^^ X.getD k 0 : Nat) : Int))) g (tn L (X.take (k + 1)) off)) := hS
        clear hS HS hO hG hc k1 k2
        generalize (tn L (X.take k) off).getD (off + k) 0 = p at *
        generalize X.getD k 0 = q at *
        have e1 := xor_u8 p q b1 b2
        have i1 : (k : Int) < (n : Int) := by omega
        have i2 : (k : Int) < (nx : Int) := by omega
        go_upto_region 3 with fail
        go_still_tail 10, (by kernel_rfl)
        go_wp2
        go_roundw
        case rel => exact ⟨k + 1, by omega, by go_num, HS2, hid_drew hG2⟩
        case measure => simp [intOf]; omega
      · obtain rfl : k = nx := by omega
        have HT : Hid (tn L (X.take k) off = tn L X off) := tn_take L X off k HF.out
        go_wp2
        go_end0
        exact ⟨rfl, by rw [← HT.out]; exact hO.out, hG.out⟩
  · have HK : Hid (∀ k, k < n → off + k < L.length ∧ k < X.length) := fun k hk => ⟨by omega, by omega⟩
    have HF : Hid (L.length ≤ off + n ∨ X.length ≤ n) := .inl (by omega)
    clear hn hnx hlen
    go_enter Tryd.func34, Tryd.ntmps34
    go_upto_region 1 with fail
    go_loopw [10] (fun i wr => ∃ k : Nat, k ≤ n ∧ i = .int .i64 k ∧ Hid (Own wr g (tn L (X.take k) off)) ∧ Hid (w.grownBy wr (some g))) (fun i _ => n - (intOf i).toNat)
    case atStart => exact ⟨0, by omega, rfl, by show Own _ _ _; rw [List.take_zero, tn_nil]; exact HO.out, World.grownBy.refl _ _⟩
    case round =>
      obtain ⟨k, hk, rfl, hO, hG⟩ := hrel
      by_cases h : k < n
      · obtain ⟨k1, k2⟩ := HK.out k h
        have c1 := hO.out.cell (off + k) (by rw [tn_len]; exact k1)
        have fr := hO.out.free (off + k)
        have b1 := bytes_at (tn_bytes HB.out.1 (bytes_take HB.out.2 k) off) (off + k)
        have b2 := bytes_at HB.out.2 k
        rcases HR.out with e | ⟨bx, ox, rfl, hc⟩
        · rw [e] at k2; exact absurd k2 (Nat.not_lt_zero _)
        have c2 := hG.out.cell (hc k k2) (fun e => HE.out _ rfl (fun h => by rw [h] at k2; exact Nat.not_lt_zero _ k2) (by cases e; rfl))
        have HS : Hid (tn L (X.take (k + 1)) off = _) := tn_step L X off k k1 k2
        have hS := hO.out.set (off + k) ((tn L (X.take k) off).getD (off + k) 0 ^^^ X.getD k 0)
        rw [← HS.out] at hS
        have hG2 : Hid (w.grownBy (wr.setCell ⟨g, off + k, none⟩ (.int .u8 (((tn L (X.take k) off).getD (off + k) 0 ^^^ X.getD k 0 : Nat) : Int))) (some g)) := grown_trans hG.out (grown_set _ _ _ _)
        have HS2 : Hid (Own (wr.setCell ⟨g, off + k, none⟩ (.int .u8 (((tn L (X.take k) off).getD (off + k) 0 ^^^ X.getD k 0 : Nat) : Int))) g (tn L (X.take (k + 1)) off)) := hS
        clear hS HS hO hG hc k1 k2
        generalize (tn L (X.take k) off).getD (off + k) 0 = p at *
        generalize X.getD k 0 = q at *
        have e1 := xor_u8 p q b1 b2
        have i1 : (k : Int) < (n : Int) := by omega
        have i2 : (k : Int) < (nx : Int) := by omega
        go_upto_region 3 with fail
        go_still_tail 10, (by kernel_rfl)
        go_wp2
        go_roundw
        case rel => exact ⟨k + 1, by omega, by go_num, HS2, hid_drew hG2⟩
        case measure => simp [intOf]; omega
      · obtain rfl : k = n := by omega
        have HT : Hid (tn L (X.take k) off = tn L X off) := tn_take L X off k HF.out
        go_wp2
        go_end0
        exact ⟨rfl, by rw [← HT.out]; exact hO.out, hG.out⟩
end Go.Proofs.YtlckjbangdnejaaDoor
