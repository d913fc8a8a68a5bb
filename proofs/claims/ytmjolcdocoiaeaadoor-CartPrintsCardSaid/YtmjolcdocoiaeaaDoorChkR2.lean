/-
  What the document's top and numbers answer.
-/
import Derived.Test.YtmjolcdocoiaeaaDoorChkR1
import Derived.Test.YtmjolcdocoiaeaaDoorChkD
set_option linter.unusedSimpArgs false
set_option linter.unusedVariables false
namespace Go.Proofs.YtmjolcdocoiaeaaDoor
open Go.RowKit
/-- The greatest values of the numbered fields. -/
def topL : List Int := [2, 2, 2, 15, 255, 4095, 0, 0, 15, 0, 0, 0, 0, 0, 0, 0, 0, 0, 0, 2, 3, 0, 0, 255, 0, 1, 3, 0, 0, 63, 0, 0, 3]
def topN (i f : Nat) : Int := topL.getD (i * 3 + f) 0
def topV : Array Value := (topL.map (Value.int .i64)).toArray
theorem topN_bd : ∀ i : Nat, i < 11 → ∀ f : Nat, f < 3 → 0 ≤ topN i f ∧ topN i f ≤ 4095 := by decide +kernel
set_option maxRecDepth 100000 in
theorem top_any (i f : Nat) (hi : i < 11) (hf : f < 3) (w : World) :
    Calls Tryd.prog 29 #[.int .i64 (i : Nat), .int .i64 (f : Nat)] w fun e w' => e = .returned (.int .i64 (topN i f)) ∧ Below w.heap.size w w' := by
  go_enter Tryd.func29, Tryd.ntmps29
  go_upto_region 1 with fail
  go_cut [5] (fun p wx => p = .pointer (some ⟨w.heap.size, 0, none⟩) ∧ wx.cell? ⟨w.heap.size, i * 3 + f, none⟩ = some (.int .i64 (topN i f)) ∧ Below w.heap.size w wx)
  case first =>
    have HC : Hid (∀ z : Array Value, z.size = 33 → ((w.alloc (.cells z 73)).setCells w.heap.size 0 topV.toList).cell? ⟨w.heap.size, i * 3 + f, none⟩ = some (.int .i64 (topN i f))) := by
      intro z hz
      rw [((Blk.new w z 73).setAll (L := topV) (by rw [hz]; rfl)).cell]
      have key : ∀ i : Nat, i < 11 → ∀ f : Nat, f < 3 → topL[i * 3 + f]? = some (topN i f) := by decide +kernel
      rw [topV, List.getElem?_toArray, List.getElem?_map, key i hi f hf]
      rfl
    have HT : Hid (∀ z : Array Value, z.size = 33 → (w.alloc (.cells z 73)).there w.heap.size 0 33) := fun z hz => (Blk.new w z 73).there 33 hz
    go_wp2_with (refine wpList_store_mid rfl 73 _ _ rfl w.heap.size 0 topV rfl (by kernel_rfl) (HT.out _ rfl) (by kernel_rfl) (by kernel_rfl) ?_)
    simp only [Act.put]
    go_meet
    exact ⟨rfl, HC.out _ rfl, setCells_below (Nat.le_refl _) _ _ _ _ ((Below.refl _ _).alloc (Nat.le_refl _) _)⟩
  case rest =>
  obtain ⟨rfl, hc, hb⟩ := hcut
  obtain ⟨t, ht⟩ : ∃ t, topN i f = t := ⟨_, rfl⟩
  rw [ht] at hc
  have HT : Hid (topN i f = t) := ht
  clear ht
  go_wp2
  go_ret
  exact ⟨by rw [HT.out]; rfl, hb⟩
/-- The document's value and greatest value of a numbered field. -/
def vvN (c : CF) (i : Nat) : Int := [0, c.map, c.sub, 0, 0, 0, c.con, c.kind, c.tim, c.dev, c.misc].getD i 0
def hiN (c : CF) (i f : Nat) : Int := if i = 7 then (if c.con = 1 then topN 7 f else if c.con = 3 then (if 15 < topN 7 f then 15 else topN 7 f) else 0) else topN i f
theorem may_num (c : CF) (f : Nat) (hf : f < 3) (hc : c.fmt = (f : Int)) (i : Nat) (h1 : 1 ≤ i) (h2 : i ≤ 10) : (Chk.may c).getD i false = (decide (0 ≤ vvN c i) && decide (vvN c i ≤ hiN c i f)) := by
  have hff : f = 0 ∨ f = 1 ∨ f = 2 := by omega
  have hii : i = 1 ∨ i = 2 ∨ i = 3 ∨ i = 4 ∨ i = 5 ∨ i = 6 ∨ i = 7 ∨ i = 8 ∨ i = 9 ∨ i = 10 := by omega
  have hr : Chk.row c.fmt = if f = 0 then [15, 0, 0, 0, 0, 0, 1] else if f = 1 then [255, 0, 2, 1, 0, 0, 255] else [4095, 15, 3, 3, 63, 3, 0] := by
    unfold Chk.row
    rcases hff with rfl | rfl | rfl <;> rw [hc] <;> rfl
  rcases hii with rfl | rfl | rfl | rfl | rfl | rfl | rfl | rfl | rfl | rfl
  · show Chk.within c.map ((Chk.row c.fmt).getD 0 0) = _
    rw [hr]; rcases hff with rfl | rfl | rfl <;> rfl
  · show Chk.within c.sub ((Chk.row c.fmt).getD 1 0) = _
    rw [hr]; rcases hff with rfl | rfl | rfl <;> rfl
  · rcases hff with rfl | rfl | rfl <;> rfl
  · rcases hff with rfl | rfl | rfl <;> rfl
  · rcases hff with rfl | rfl | rfl <;> rfl
  · show Chk.within c.con ((Chk.row c.fmt).getD 2 0) = _
    rw [hr]; rcases hff with rfl | rfl | rfl <;> rfl
  · show Chk.kindOk c = (decide (0 ≤ c.kind) && decide (c.kind ≤ hiN c 7 f))
    unfold Chk.kindOk hiN
    rw [if_pos rfl]
    rcases hff with rfl | rfl | rfl
    · rw [if_neg (by rw [hc]; decide), show topN 7 0 = 0 from rfl]
      simp only [show ¬ (15 : Int) < 0 by decide, if_false, ite_self]
      rw [Bool.eq_iff_iff]; simp; omega
    · rw [if_neg (by rw [hc]; decide), show topN 7 1 = 0 from rfl]
      simp only [show ¬ (15 : Int) < 0 by decide, if_false, ite_self]
      rw [Bool.eq_iff_iff]; simp; omega
    · rw [if_pos (show c.fmt = 2 from hc), show topN 7 2 = 255 from rfl, if_pos (show (15 : Int) < 255 by decide)]
      rfl
  · show Chk.within c.tim ((Chk.row c.fmt).getD 3 0) = _
    rw [hr]; rcases hff with rfl | rfl | rfl <;> rfl
  · show Chk.within c.dev ((Chk.row c.fmt).getD 4 0) = _
    rw [hr]; rcases hff with rfl | rfl | rfl <;> rfl
  · show Chk.within c.misc ((Chk.row c.fmt).getD 5 0) = _
    rw [hr]; rcases hff with rfl | rfl | rfl <;> rfl
/-- The first no among a run of fields. -/
def runNo (l : List Bool) (a n : Nat) : Int := Chk.firstNo a ((l.drop a).take n)
theorem getD_run (l : List Bool) (a n j : Nat) (hj : j < n) : ((l.drop a).take n).getD j false = l.getD (a + j) false := by
  simp [List.getD, List.getElem?_take, hj, List.getElem?_drop]
theorem firstNo_shift (l : List Bool) : ∀ (i : Int), 0 ≤ i → Chk.firstNo i l = if Chk.firstNo 0 l < 0 then -1 else i + Chk.firstNo 0 l := by
  induction l with
  | nil => intro i _; rfl
  | cons b l ih =>
    intro i hi
    cases b
    · simp [Chk.firstNo]
    · simp only [Chk.firstNo, if_true]
      rw [ih (i + 1) (by omega), ih (0 + 1) (by omega)]
      by_cases h : Chk.firstNo 0 l < 0
      · simp [h]
      · simp only [h, if_false]
        rw [if_neg (by omega)]
        omega
theorem runNo_at (l : List Bool) (a n k : Nat) (hl : a + n ≤ l.length) (hk : k < n) (h : ∀ j, j < k → l.getD (a + j) false = true) (hn : l.getD (a + k) false = false) : runNo l a n = ((a + k : Nat) : Int) := by
  have hlen : ((l.drop a).take n).length = n := by simp; omega
  have e := firstNo_at ((l.drop a).take n) k (fun j hj => by rw [getD_run l a n j (by omega)]; exact h j hj) (by omega) (by rw [getD_run l a n k hk]; exact hn)
  unfold runNo
  rw [firstNo_shift _ _ (by omega), e, if_neg (by omega)]
  omega
theorem runNo_none (l : List Bool) (a n : Nat) (hl : a + n ≤ l.length) (h : ∀ j, j < n → l.getD (a + j) false = true) : runNo l a n = -1 := by
  have hlen : ((l.drop a).take n).length = n := by simp; omega
  have e := firstNo_none ((l.drop a).take n) (fun j hj => by rw [getD_run l a n j (by omega)]; exact h j (by omega))
  unfold runNo
  rw [firstNo_shift _ _ (by omega), e]
  rfl
end Go.Proofs.YtmjolcdocoiaeaaDoor
