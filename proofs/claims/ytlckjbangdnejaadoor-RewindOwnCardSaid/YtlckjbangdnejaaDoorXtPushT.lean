/-
  A snapshot put on a tape.
-/
import Derived.Test.YtlckjbangdnejaaDoorXtAt
set_option linter.unusedSimpArgs false
set_option linter.unusedVariables false
namespace Go.Proofs.YtlckjbangdnejaaDoor
open Go.RowKit Classical
theorem own_ne {w : World} {a g : Nat} {x : Array Value} {T : TypeId} {l : List Nat} (h : Blk w a x T) (k : Own w g l) (hT : T ≠ 5) : g ≠ a := by
  rintro rfl
  unfold Blk at h
  unfold Own at k
  rw [h] at k
  cases k
  exact hT rfl
theorem push_nil (P : Value) (w : World) : Calls Tryd.prog 9 #[.pointer none, P] w fun e w' => e = .returned (.int .i64 0) ∧ w' = w := by
  go_enter Tryd.func9, Tryd.ntmps9
  go_wp2_with fail
  refine (none_nil w).mono ?_
  rintro e w1 ⟨rfl, rfl⟩
  go_wp2
  go_ret
  exact ⟨rfl, rfl⟩
theorem push_long (FP : Nat → Prop) (t K : Nat) (Ss : List (List Nat)) (a : Option Addr) (n k : Nat) (hn : 65536 < n) (w : World) (h : Tp FP t K Ss w) : Calls Tryd.prog 9 #[.pointer (some ⟨t, 0, none⟩), .slice a n k] w fun e w' => e = .returned (.int .i64 1) ∧ w' = w := by
  obtain ⟨s, f, cur, nv, gn, R, B, -⟩ := h
  have HB : Hid (Blk w t (tc true (!Ss.isEmpty) nv s K f R.length (room Ss : Nat)) 54) := B
  have i1 : (65536 : Int) < (n : Int) := by omega
  clear B
  go_enter Tryd.func9, Tryd.ntmps9
  go_wp2_with fail
  refine (none_any t _ nv s K f R.length _ w HB.out).mono ?_
  rintro e w1 ⟨rfl, rfl⟩
  go_wp2
  go_ret
  exact ⟨rfl, rfl⟩
/-- A tape behind a Push. -/
def PuOk (FP : Nat → Prop) (t K : Nat) (Ss : List (List Nat)) (w : World) (e : Ending) (w' : World) : Prop :=
  e = .returned (.int .i64 0) ∧ Tp (fun k => FP k ∨ (w.heap.size ≤ k ∧ k < w'.heap.size)) t K Ss w' ∧ Kp FP w w'
set_option maxRecDepth 100000 in
set_option maxHeartbeats 1600000 in
theorem push_first (FP : Nat → Prop) (t K : Nat) (P : List Nat) (a : Option Addr) (n k : Nat) (hP : Good P) (hn : P.length = n) (w : World) (h : Tp FP t K [] w) (RP : Row w a P) :
    Calls Tryd.prog 9 #[.pointer (some ⟨t, 0, none⟩), .slice a n k] w (PuOk FP t K [P] w) := by
  obtain ⟨s, f, cur, nv, gn, R, B, S, N, f1, f2, n1, n2, n3, n4, n5⟩ := h
  obtain rfl : R = [] := List.length_eq_zero_iff.1 (by simpa using n2)
  obtain rfl : nv = .slice none 0 0 := n1
  have hts := blk_ne B S (by decide)
  have HB : Hid (Blk w t (tc true false (.slice none 0 0) s K f 0 0) 54) := B
  have HS : Hid (Blk w s cur 28) := S
  have HN : Hid (Rn K f cur []) := N
  have HRP : Hid (Row w a P) := RP
  have HP : Hid (Good P ∧ P.length = n) := ⟨hP, hn⟩
  have hn65 : n ≤ 65536 := by rw [← hn]; exact hP.2
  have i1 : ¬ (65536 : Int) < (n : Int) := by omega
  have c1 : w.cell? ⟨t, 1, none⟩ = some (.bool false) := B.cell 1
  clear B S N n2 n3 n4 hP hn RP
  go_enter Tryd.func9, Tryd.ntmps9
  go_wp2_with fail
  refine (none_any t _ _ s K f 0 _ w HB.out).mono ?_
  rintro e w1 ⟨rfl, rfl⟩
  go_upto_region 9 with fail
  go_wp2_with fail
  refine (copied_any n P HP.out.2 (by omega) a k w1 HRP.out).mono ?_
  rintro e w2 ⟨rfl, O2, b2⟩
  have HB2 : Hid (Blk w2 t (tc true false (.slice none 0 0) s K f 0 0) 54) := HB.out.below HB.out.lt b2
  have HS2 : Hid (Blk w2 s cur 28) := HS.out.below HS.out.lt b2
  have HO2 : Hid (Own w2 w1.heap.size P) := O2
  have HK2 : Hid (Kp FP w1 w2) := Kp.of_below b2
  have ht := HB.out.lt
  have c3 : w2.cell? ⟨t, 2, none⟩ = some (.slice none 0 0) := HB2.out.cell 2
  have c4 : w2.cell? ⟨t, 1, none⟩ = some (.bool false) := HB2.out.cell 1
  have g2 := HB2.out.free 2
  have g1 := HB2.out.free 1
  have hgt : w1.heap.size ≠ t := by omega
  have HB3 : Hid (Blk ((w2.setCell ⟨t, 2, none⟩ (.slice (some ⟨w1.heap.size, 0, none⟩) n n)).setCell ⟨t, 1, none⟩ (.bool true)) t (tc true true (.slice (some ⟨w1.heap.size, 0, none⟩) n n) s K f 0 0) 54) := (HB2.out.set 2 _).set 1 _
  have HS3 : Hid (Blk ((w2.setCell ⟨t, 2, none⟩ (.slice (some ⟨w1.heap.size, 0, none⟩) n n)).setCell ⟨t, 1, none⟩ (.bool true)) s cur 28) := (HS2.out.other hts.symm 2 _).other hts.symm 1 _
  have HO3 : Hid (Own ((w2.setCell ⟨t, 2, none⟩ (.slice (some ⟨w1.heap.size, 0, none⟩) n n)).setCell ⟨t, 1, none⟩ (.bool true)) w1.heap.size P) := (Below.heap_setCell _ ⟨t, 1, none⟩ _ _ hgt).trans ((Below.heap_setCell _ ⟨t, 2, none⟩ _ _ hgt).trans HO2.out)
  have HK3 : Hid (Kp FP w1 ((w2.setCell ⟨t, 2, none⟩ (.slice (some ⟨w1.heap.size, 0, none⟩) n n)).setCell ⟨t, 1, none⟩ (.bool true))) := (HK2.out.trans (Kp.of_grown (grown_set _ t 2 _) f1)).trans (Kp.of_grown (grown_set _ t 1 _) f1)
  clear O2 b2 c1
  go_wp2
  go_ret
  exact ⟨rfl, ⟨s, f, cur, _, w1.heap.size, [], HB3.out, HS3.out, HN.out, .inl f1, .inl f2, ⟨by rw [HP.out.2], HO3.out, .inr ⟨Nat.le_refl _, HO3.out.lt⟩⟩, rfl, (fun i v hv => by simp at hv), (fun S hS => by rw [List.mem_singleton.1 hS]; exact HP.out.1), n5⟩, HK3.out⟩
theorem ring_push (t : Nat) (made held : Bool) (nv : Value) (s K f : Nat) (ro : Int) (cur : Array Value) (ea : Option Addr) (en' ek : Nat) (e : Value) (he : e = .slice ea en' ek) (R : List Value) (hK2 : K ≤ 4096) (w : World) (N : Rn K f cur R) (B : Blk w t (tc made held nv s K f R.length ro) 54) (S : Blk w s cur 28) :
    Calls Tryd.prog 29 #[.pointer (some ⟨t, 3, none⟩), e] w fun en w' => ∃ (lost : Value) (b : Bool), en = .returned (.tuple #[lost, .bool b]) ∧ RgOk t made held nv s K ro ((e :: R).take K) w w' ∧
      ((K = 0 ∧ lost = e) ∨ (R.length < K ∧ lost = .slice none 0 0) ∨ (0 < K ∧ R.length = K ∧ R[K - 1]? = some lost)) := by
  have hle := N.le
  rcases Nat.eq_zero_or_pos K with h0 | h0
  · subst h0
    obtain rfl : R = [] := List.length_eq_zero_iff.1 (by omega)
    refine (push_zero t made held nv s f 0 ro e w B).mono ?_
    rintro en w' ⟨he2, rfl⟩
    exact ⟨e, true, he2, ⟨f, cur, ⟨N.size, N.first, Nat.zero_le _, fun i hi => by simp at hi⟩, B, S, Kp.refl _ _⟩, .inl ⟨rfl, rfl⟩⟩
  · rcases Nat.lt_or_ge R.length K with h1 | h1
    · refine (push_room t made held nv s K f ro cur ea en' ek e he R h1 hK2 w N B S).mono ?_
      rintro en w' ⟨he2, hr⟩
      exact ⟨_, false, he2, by rw [List.take_of_length_le (by simp; omega)]; exact hr, .inr (.inl ⟨h1, rfl⟩)⟩
    · have h2 : R.length = K := by omega
      obtain ⟨R0, old, rfl⟩ : ∃ R0 old, R = R0 ++ [old] := ⟨R.dropLast, R.getLast (by intro h; rw [h] at h2; simp at h2; omega), (List.dropLast_concat_getLast _).symm⟩
      rw [List.length_append, List.length_singleton] at h2
      rw [List.length_append, List.length_singleton, h2] at B
      refine (push_full t made held nv s K f ro cur ea en' ek e he R0 old h2 hK2 w N B S).mono ?_
      rintro en w' ⟨he2, hr⟩
      refine ⟨old, true, he2, ?_, .inr (.inr ⟨h0, by rw [List.length_append, List.length_singleton]; exact h2, by rw [show K - 1 = R0.length by omega]; simp⟩)⟩
      rw [show (e :: (R0 ++ [old])).take K = e :: R0 by rw [show K = R0.length + 1 by omega, List.take_succ_cons, List.take_left' rfl]]
      exact hr
theorem room_last : ∀ (Ss : List (List Nat)) (K : Nat), 1 ≤ K → Ss.length = K + 1 → room Ss = room (Ss.take K) + (diffL (Ss.getD (K - 1) []) (Ss.getD K [])).length
  | [], K, _, h => by simp at h
  | [_], K, h1, h => by simp at h; omega
  | [a, b], K, h1, h => by
    obtain rfl : K = 1 := by simp at h; omega
    simp [room]
  | a :: b :: c :: r, K, h1, h => by
    obtain ⟨j, rfl⟩ : ∃ j, K = j + 1 := ⟨K - 1, by omega⟩
    have hj : 1 ≤ j := by simp at h; omega
    have ih := room_last (b :: c :: r) j hj (by simp at h ⊢; omega)
    obtain ⟨q, rfl⟩ : ∃ q, j = q + 1 := ⟨j - 1, by omega⟩
    simp only [List.take_succ_cons, room] at ih ⊢
    rw [ih]
    simp
    omega
theorem getD_take_same (L : List (List Nat)) (n i : Nat) (h : i < n) : (L.take n).getD i [] = L.getD i [] := by
  simp [List.getD, List.getElem?_take, h]
/-- What stays to be told of the lists behind a Push. -/
theorem push_lists {FP FQ : Nat → Prop} {w w' : World} {K : Nat} {S0 P : List Nat} {r : List (List Nat)} {R : List Value} {gn gq : Nat} {e : Value} {gp : Nat} (hr : R.length = (S0 :: r).length - 1) (hK : R.length ≤ K)
    (h3 : ∀ i v, R[i]? = some v → ∃ g, Lo FP w v g (diffL ((S0 :: r).getD i []) ((S0 :: r).getD (i + 1) [])) ∧ g ≠ gn) (hin : ∀ g l, Own w g l → FP g → Own w' g l ∧ FQ g ∧ g ≠ gq) (he : Lo FQ w' e gp (diffL P S0)) (hge : gp ≠ gq) :
    ((e :: R).take K).length = ((P :: S0 :: r).take (K + 1)).length - 1 ∧ ∀ i v, ((e :: R).take K)[i]? = some v → ∃ g, Lo FQ w' v g (diffL (((P :: S0 :: r).take (K + 1)).getD i []) (((P :: S0 :: r).take (K + 1)).getD (i + 1) [])) ∧ g ≠ gq := by
  refine ⟨by simp only [List.length_take, List.length_cons] at hr ⊢; omega, fun i v hv => ?_⟩
  rw [List.getElem?_take] at hv
  split at hv
  · next hiK =>
    rw [getD_take_same _ _ i (by omega), getD_take_same _ _ (i + 1) (by omega)]
    cases i with
    | zero =>
      simp only [List.getElem?_cons_zero, Option.some.injEq] at hv
      subst hv
      exact ⟨gp, he, hge⟩
    | succ i =>
      rw [List.getElem?_cons_succ] at hv
      obtain ⟨g, hlo, -⟩ := h3 i v hv
      obtain ⟨a1, a2, a3⟩ := hin g _ hlo.2.1 hlo.2.2
      exact ⟨g, ⟨hlo.1, a1, a2⟩, a3⟩
  · cases hv
end Go.Proofs.YtlckjbangdnejaaDoor
