/-
  Pages and mirrorings, as plain facts.
-/
import Derived.Test.YtggphgmpdanliaaZSerB
set_option linter.unusedSimpArgs false
set_option linter.unusedVariables false
namespace Go.Proofs.Ytggphgmpdanliaa
open Go.RowKit Classical
/-- The page of name table k under a mirroring. -/
def pgW (mr k : Int) : Int := if mr = 0 then k / 2 else if mr = 1 then k % 2 else if mr = 2 then 0 else if mr = 3 then 1 else k
theorem G.setL {w v : World} {l : List (Nat × Array Value × TypeId)} {b : Nat} {cs : Array Value} {t : TypeId} (ds : Array Value) (h : G w ((b, cs, t) :: l) v) (hs : ds.size = cs.size) (hle : w.heap.size ≤ b) (hn : ∀ p ∈ l, p.1 ≠ b) : G w ((b, ds, t) :: l) (v.setCells b 0 ds.toList) :=
  G.put h hn ((h.blk b cs t (List.mem_cons_self ..)).setAll _ hs) (setCells_below hle _ _ _ _ h.2) (fun b' cs' t' hb hB => hB.otherCells hb _ _)
theorem nat_and31 (a : Nat) (h : a < 256) : a &&& 31 = a % 32 := by revert a; decide +kernel
theorem nat_and3 (a : Nat) (h : a < 256) : a &&& 3 = a % 4 := by revert a; decide +kernel
theorem nat_and1' (a : Nat) (h : a < 256) : a &&& 1 = a % 2 := by revert a; decide +kernel
theorem and31_8 (x : Int) (h0 : 0 ≤ x) (h1 : x ≤ 255) : bits .and .u8 x 31 = x % 32 := by
  obtain ⟨k, rfl⟩ := Int.eq_ofNat_of_zero_le h0
  have := u8_and_nat k 31 (by omega) (by decide)
  rw [nat_and31 k (by omega)] at this
  exact this.trans (by omega)
theorem and3_8 (x : Int) (h0 : 0 ≤ x) (h1 : x ≤ 255) : bits .and .u8 x 3 = x % 4 := by
  obtain ⟨k, rfl⟩ := Int.eq_ofNat_of_zero_le h0
  have := u8_and_nat k 3 (by omega) (by decide)
  rw [nat_and3 k (by omega)] at this
  exact this.trans (by omega)
theorem and1_8 (x : Int) (h0 : 0 ≤ x) (h1 : x ≤ 255) : bits .and .u8 x 1 = x % 2 := by
  obtain ⟨k, rfl⟩ := Int.eq_ofNat_of_zero_le h0
  have := u8_and_nat k 1 (by omega) (by decide)
  rw [nat_and1' k (by omega)] at this
  exact this.trans (by omega)
theorem page_low {b : Bd} (o : b.Ok) (k : Int) (h0 : 0 ≤ k) (h1 : k ≤ 3) : pageA b (8192 + 1024 * k) = pgW (mirB b) k := by
  unfold pageA
  rw [if_pos o.val]
  unfold pageB pgW
  rw [show (8192 + 1024 * k) / 1024 = 8 + k by omega]
  rw [show (8 + k) % 4 = k by omega, show (8 + k) % 2 = k % 2 by omega]
theorem page_high {b : Bd} (o : b.Ok) (k : Int) (h0 : 0 ≤ k) (h1 : k ≤ 3) : pageA b (62463 + 1024 * k) = pgW (mirB b) k := by
  unfold pageA
  rw [if_pos o.val]
  unfold pageB pgW
  rw [show (62463 + 1024 * k) / 1024 = 60 + k + 0 by omega, Int.add_zero]
  rw [show (60 + k) % 4 = k by omega, show (60 + k) % 2 = k % 2 by omega]
/-- The mirroring that the law expects. -/
def mirW (mp v : Int) (vert four : Bool) : Int :=
  if four = true then 4
  else if mp = 1 then (if v % 4 = 0 then 2 else if v % 4 = 1 then 3 else if v % 4 = 2 then 1 else 0)
  else if mp = 4 then (if v % 2 = 0 then 1 else 0)
  else if mp = 7 then (if v / 16 % 2 = 0 then 2 else 3)
  else if vert = true then 1 else 0
theorem hardV_cases (vert four : Bool) : hardV vert four = if four = true then 4 else if vert = true then 1 else 0 := by cases vert <;> cases four <;> rfl
theorem mir_1 {b : Bd} (o : b.Ok) (hk : b.kind = 1) (hl : b.last ≤ 16777215) {v : Int} (v0 : 0 ≤ v) (v1 : v ≤ 255) (vert four : Bool) (hh : b.hard = hardV vert four) : mirB (ldB b 32768 (v % 32) 33554432 2 5) = mirW 1 v vert four := by
  have h := ser_five o hk hl (a := 32768) (n := v % 32) (gap := 2) (by decide) (by omega) (by omega) (by decide) (by decide)
  have e : serR b 32768 (33554432 + 5 * 2) (v % 32) = { noE b with last := 33554432 + 5 * 2, shift := 16, ctrl := v % 32 } := by
    unfold serR
    rw [if_pos (by decide)]
  rw [e] at h
  generalize ldB b 32768 (v % 32) 33554432 2 5 = x at *
  have k1 : x.kind = 1 := (congrArg Bd.kind h :).trans hk
  have h1 : x.hard = hardV vert four := (congrArg Bd.hard h :).trans hh
  have c1 : x.ctrl = v % 32 := (congrArg Bd.ctrl h :)
  unfold mirB mirW
  rw [h1, hardV_cases, c1, if_pos k1, if_pos rfl]
  cases four
  · cases vert
    · simp only [Bool.false_eq_true, if_false]
      rw [if_neg (by decide), show v % 32 % 4 = v % 4 by omega]
    · simp only [Bool.false_eq_true, if_false, if_true]
      rw [if_neg (by decide), show v % 32 % 4 = v % 4 by omega]
  · simp
theorem mir_4 {b : Bd} (o : b.Ok) (hk : b.kind = 4) {v : Int} (v0 : 0 ≤ v) (v1 : v ≤ 255) (vert four : Bool) (hh : b.hard = hardV vert four) : mirB (wrA b 40960 v 0 33554432) = mirW 4 v vert four := by
  have h := wrB_noE b 40960 v 0 33554432
  rw [← wrA_in o v 0 (by decide) (by decide)] at h
  have e : wrK b 40960 v 0 33554432 = { b with turn := v % 2 } := by
    unfold wrK
    rw [if_neg (by omega), if_pos hk]
    unfold wr4
    rw [if_neg (by decide), if_pos (by decide), if_pos (by decide)]
  rw [e] at h
  generalize wrA b 40960 v 0 33554432 = x at *
  have k1 : x.kind = 4 := (congrArg Bd.kind h :).trans hk
  have h1 : x.hard = hardV vert four := (congrArg Bd.hard h :).trans hh
  have c1 : x.turn = v % 2 := (congrArg Bd.turn h :)
  unfold mirB mirW
  rw [h1, hardV_cases, c1, if_neg (show ¬ x.kind = 1 by omega), if_pos k1]
  cases four
  · cases vert <;> simp
  · simp
theorem mir_7 {b : Bd} (o : b.Ok) (hk : b.kind = 7) {v : Int} (v0 : 0 ≤ v) (v1 : v ≤ 255) (vert four : Bool) (hh : b.hard = hardV vert four) : mirB (wrA b 40960 v 255 33554432) = mirW 7 v vert four := by
  have h := wrB_noE b 40960 v 255 33554432
  rw [← wrA_in o v 255 (by decide) (by decide)] at h
  have hv : bits .and .u8 v 255 = v := by
    obtain ⟨k, rfl⟩ := Int.eq_ofNat_of_zero_le v0
    have := u8_and_nat k 255 (by omega) (by decide)
    have h2 : ∀ k : Nat, k < 256 → k &&& 255 = k := by decide +kernel
    rw [h2 k (by omega)] at this
    exact this
  have e : wrK b 40960 v 255 33554432 = { b with latch := v } := by
    unfold wrK
    rw [if_neg (by omega), if_neg (by omega), if_neg (by omega)]
    unfold wrL
    rw [hv]
    split <;> rfl
  rw [e] at h
  generalize wrA b 40960 v 255 33554432 = x at *
  have k1 : x.kind = 7 := (congrArg Bd.kind h :).trans hk
  have h1 : x.hard = hardV vert four := (congrArg Bd.hard h :).trans hh
  have c1 : x.latch = v := (congrArg Bd.latch h :)
  unfold mirB mirW
  rw [h1, hardV_cases, c1, if_neg (show ¬ x.kind = 1 by omega), if_neg (show ¬ x.kind = 4 by omega), if_pos k1]
  cases four
  · cases vert <;> simp
  · simp
theorem mir_0 {b : Bd} (mp v : Int) (hk : b.kind = mp) (h1 : ¬ mp = 1) (h4 : ¬ mp = 4) (h7 : ¬ mp = 7) (vert four : Bool) (hh : b.hard = hardV vert four) : mirB b = mirW mp v vert four := by
  unfold mirB mirW
  rw [hh, hardV_cases, hk, if_neg h1, if_neg h4, if_neg h7, if_neg h1, if_neg h4, if_neg h7]
  cases four
  · cases vert <;> simp
  · simp
end Go.Proofs.Ytggphgmpdanliaa
