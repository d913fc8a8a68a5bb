/-
  What Shape of package isa answers; conditions: a byte.
-/
import Derived.Test.YtjlakfbggkbmnaaIShape
import Derived.Test.YtjlakfbggkbmnaaIApp
set_option linter.unusedSimpArgs false
set_option linter.unusedVariables false
namespace Go.Proofs.Ytjlakfbggkbmnaa
open Go.RowKit
theorem made_zero (n : Nat) : (madeCells (Value.int .i64 0).cells (n * 1)).toList = ints (List.replicate n 0) := by
  rw [show (Value.int .i64 0).cells = #[.int .i64 0] from rfl, toList_madeCells_one]
  simp [ints]
theorem blk_of_row {w : World} {base g n : Nat} {xs : List Value} (h : w.ownsRow base 30 1 (.slice (some ⟨g, 0, none⟩) n n) n xs) : Blk w g xs.toArray 30 := by
  obtain ⟨hlen, h⟩ := h
  rcases h with ⟨h, _⟩ | ⟨g', cap, cur, e, _, hh, _, _, hs, ht⟩
  · cases h
  · cases e
    have : cur.toList = xs := by rw [← ht, List.take_of_length_le (by simp [hs])]
    unfold Blk
    rw [hh, ← this]
theorem runC_at {l : List Nat} {j : Nat} {v : Value} (h : (ints l)[j]? = some v) : (runC l).toArray[j]? = some v := by
  have hj := ints_at h
  rw [List.getElem?_toArray, runC, ints_append, List.append_assoc, List.getElem?_append_left (by rw [ints_length]; exact hj)]
  exact h
theorem splice_all (n : Nat) (l : List Nat) (h : l.length = n) : splice (ints (List.replicate n 0)) 0 (ints l) = ints l := by
  simp only [splice, List.take_zero, List.nil_append, Nat.zero_add]
  rw [List.drop_eq_nil_of_le (by simp [ints]; omega), List.append_nil]
theorem Acs.of_blk {w : World} {base g : Nat} {l : List Nat} (h : Blk w g (ints l).toArray 30) (hb : base ≤ g) (hl : l.length ≤ 100) : Acs w base (.slice (some ⟨g, 0, none⟩) l.length l.length) l :=
  ⟨by simp [ints], .inr ⟨g, l.length, (ints l).toArray, rfl, hb, h, Nat.le_refl _, by unfold maxLen; omega, by simp [ints], by rw [Nat.mul_one]; exact List.take_of_length_le (by simp [ints])⟩⟩
set_option maxRecDepth 100000 in
set_option maxHeartbeats 2000000 in
theorem shape_own (k : Nat) (hk : k < 256) (cr tk : Bool) (w : World) :
    Calls Try.prog 5 #[.int .u8 (k : Nat), .bool cr, .bool tk] w fun e w' => ∃ g, e = .returned (.slice (some ⟨g, 0, none⟩) (shQ k cr tk).length (shQ k cr tk).length) ∧ w.heap.size ≤ g ∧ Blk w' g (ints (shQ k cr tk)).toArray 30 ∧ Below w.heap.size w w' := by
  have hlen := (shp_length k hk cr tk).1
  have hpos := (shp_length k hk cr tk).2
  have hsz : (runC (shQ k cr tk)).toArray.size = 9 := by simpa using runC_length hlen
  have h1 : (runC (shQ k cr tk)).toArray.all (·.oneCell') = true := all_oneCell_toArray runC_one
  have h8 := runC_n hlen
  have RC := Hid.mk1' (fun W => runOf_any k hk cr tk W)
  generalize shQ k cr tk = l at *
  have HA := Hid.mk1' (fun (j : Nat) (v : Value) (h : (ints l)[j]? = some v) => runC_at h)
  generalize (runC l).toArray = L at *
  have HS := Hid.mk1' hsz
  have H1 := Hid.mk1' h1
  have H8 := Hid.mk1' h8
  clear hsz h1 h8
  obtain ⟨i0, hi, hz0, hz1, hz2⟩ := info_parts Try.infoAcc
  go_enter Try.func5, Try.ntmps5
  go_upto_region 2 with (first
    | (go_at_call 8; go_must (refine (rowOf_agg' k hk _).mono ?_; rintro e w1 ⟨rfl, hb1⟩))
    | (go_at_call 9; go_must (refine (RC.out _).mono ?_; rintro e w2 ⟨rfl, hb2⟩))
    | (refine wpList_store_blk rfl 39 _ _ rfl w2.heap.size Z9 L 39 rfl rfl (Blk.new w2 Z9 39) HS.out (by rw [HS.out]; exact Try.infoRun) H1.out w.heap.size w (Nat.le_trans hb1.size hb2.size) ((hb1.trans (hb2.mono hb1.size)).alloc (Nat.le_trans hb1.size hb2.size) _) ?_; intro w3 hB3 hb3 _; have c8 := (hB3.cell 8).trans H8.out))
  simp only [Act.put]
  go_simp
  have hw2 := hB3.lt
  generalize w2.heap.size = b at *
  clear hb1 hb2
  have hs3 := hb3.size
  go_upto_region 3 with (at_make; refine wpList_make_full _ rfl _ _ 28 rfl w3.heap.size 30 i0 (.int .i64 0) 1 Try.underlying28 hi hz0 hz1 .i64 .i64 _ _ l.length rfl rfl rfl rfl (by rw [hz2]; omega) (by unfold maxLen; omega) (Nat.le_refl _) ?_; intro w4 hown hgrow)
  have z4 := blk_of_row hown
  rw [made_zero] at z4
  have hb4 : Below w3.heap.size w3 w4 := (Below.refl w3.heap.size w3).grown hgrow (Nat.le_refl _) (by simp)
  have hB4 := hB3.below hw2 hb4
  have hb5 := hb3.trans (hb4.mono hs3)
  clear hown hgrow hi hz0 hz1 hz2 c8 hB3 hb3 hb4
  have F1 : Hid ((ints l).length = Nat.min 8 l.length) := by unfold Hid; rw [ints_length]; exact (Nat.min_eq_right (by omega)).symm
  have F2 : Hid (0 < (ints l).length → (some ⟨w3.heap.size, 0, none⟩ : Option Addr) = some ⟨w3.heap.size, 0, none⟩ ∧ ∃ ad, (some ⟨b, 0, none⟩ : Option Addr) = some ad ∧ ∀ j v, (ints l)[j]? = some v → w4.cell? (ad.add j) = some v) := by
    intro _
    refine ⟨rfl, _, rfl, fun j v h => ?_⟩
    have := (hB4.cell j).trans (HA.out j v h)
    by_cases hj : j = 0
    · subst hj; simpa [Addr.add] using this
    · simpa [Addr.add, hj] using this
  have F3 : Hid (0 + (ints l).length ≤ (ints (List.replicate l.length 0)).length) := by unfold Hid; simp [ints]
  have Z4 := Hid.mk1' z4
  clear z4
  go_wp2_with (refine wpList_copy_splice rfl _ _ 28 28 rfl 30 (by kernel_rfl) (by kernel_rfl) (some ⟨w3.heap.size, 0, none⟩) (some ⟨b, 0, none⟩) l.length l.length 8 8 rfl rfl w3.heap.size 0 (ints (List.replicate l.length 0)) 30 Z4.out (ints l) F1.out F2.out F3.out (ints_one l) w.heap.size w hb5 hs3 ?_; intro w5 hg5 hb6)
  have hg := hg5.out
  rw [splice_all _ _ rfl] at hg
  go_ret
  exact ⟨w3.heap.size, rfl, hs3, hg, hb6⟩
theorem shape_any (k : Nat) (hk : k < 256) (cr tk : Bool) (w : World) :
    Calls Try.prog 5 #[.int .u8 (k : Nat), .bool cr, .bool tk] w fun e w' => ∃ v, e = .returned v ∧ Acs w' w.heap.size v (shQ k cr tk) ∧ Below w.heap.size w w' :=
  (shape_own k hk cr tk w).mono fun _ _ ⟨g, h1, h2, h3, h4⟩ => ⟨_, h1, Acs.of_blk h3 h2 (by have := (shp_length k hk cr tk).1; omega), h4⟩
end Go.Proofs.Ytjlakfbggkbmnaa
