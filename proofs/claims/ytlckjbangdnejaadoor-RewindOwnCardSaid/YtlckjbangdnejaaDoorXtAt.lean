/-
  A new tape; the snapshot at a place of a tape.
-/
import Derived.Test.YtlckjbangdnejaaDoorXtTape
set_option linter.unusedSimpArgs false
set_option linter.unusedVariables false
namespace Go.Proofs.YtlckjbangdnejaaDoor
open Go.RowKit Classical
theorem Tryd.infoRow : (Tryd.prog.info? 28).map (fun i => (i.zero, i.size, i.bytes)) = some (some (.slice none 0 0), 1, 24) := by kernel_rfl
set_option maxRecDepth 100000 in
set_option maxHeartbeats 1600000 in
theorem ring_new (n : Nat) (hn : n ≤ 4096) (w : World) :
    Calls Tryd.prog 26 #[.int .i64 n] w fun e w' => ∃ s cur, e = .returned (.agg #[.slice (some ⟨s, 0, none⟩) n n, .int .i64 0, .int .i64 0]) ∧ Blk w' s cur 28 ∧ cur.size = n ∧ w.heap.size ≤ s ∧ Below w.heap.size w w' := by
  obtain ⟨i0, hi, hz0, hz1, hz2⟩ := info_parts Tryd.infoRow
  have hb0 : Below w.heap.size w (w.alloc (.cells #[.slice none 0 0, .int .i64 0, .int .i64 0] 51)) := (Below.refl _ _).alloc (Nat.le_refl _) _
  have z0 : Blk (w.alloc (.cells #[.slice none 0 0, .int .i64 0, .int .i64 0] 51)) w.heap.size #[.slice none 0 0, .int .i64 0, .int .i64 0] 51 := Blk.new w _ _
  have hs0 : (w.alloc (.cells #[.slice none 0 0, .int .i64 0, .int .i64 0] 51)).heap.size = w.heap.size + 1 := World.size_alloc _ _
  go_enter Tryd.func26, Tryd.ntmps26
  go_upto_region 1 with fail
  generalize w.alloc (.cells #[.slice none 0 0, .int .i64 0, .int .i64 0] 51) = W0 at *
  go_wp2_with (first
    | (at_make; refine wpList_make_full _ rfl _ _ 22 rfl W0.heap.size 28 i0 (.slice none 0 0) 1 Tryd.underlying22 hi hz0 hz1 .i64 .i64 _ _ n rfl rfl rfl rfl (by rw [hz2]; omega) (by unfold maxLen; omega) (Nat.le_refl _) ?_; intro w1 hown hgrow; have z1 := z0.below z0.lt ((Below.refl W0.heap.size W0).grown hgrow (Nat.le_refl _) (by simp)); have hb1 := hb0.trans (((Below.refl W0.heap.size W0).grown hgrow (Nat.le_refl _) (by simp)).mono (by omega)))
    | (refine wpList_store_blk rfl 51 _ _ rfl w.heap.size #[.slice none 0 0, .int .i64 0, .int .i64 0] #[.slice (some ⟨w.heap.size + 1, 0, none⟩) n n, .int .i64 0, .int .i64 0] 51 rfl rfl z1 rfl (by kernel_rfl) (by kernel_rfl) w.heap.size w (Nat.le_refl _) hb1 ?_; intro w5 z5 hb5 hk5))
  have hown5 : ∃ cur, Blk w5 (w.heap.size + 1) cur 28 ∧ cur.size = n := by
    rcases hown.2 with ⟨e, _⟩ | ⟨g, cap, cur, e, _, hh, _, _, hsz, _⟩
    · cases e
    · cases e
      refine ⟨cur, hk5 _ _ _ (by omega) (by rw [← hs0]; exact hh), by omega⟩
  obtain ⟨cur, hcur, hsz⟩ := hown5
  refine ret_agg1 (m := w.heap.size) (L := #[.slice (some ⟨w.heap.size + 1, 0, none⟩) n n, .int .i64 0, .int .i64 0]) Tryd.results26 (by kernel_rfl) z5 Tryd.underlying51 rfl (by kernel_rfl) ?_
  exact ⟨_, cur, rfl, hcur, hsz, by omega, hb5⟩
set_option maxRecDepth 100000 in
set_option maxHeartbeats 1600000 in
theorem tape_no (n : Int) (h : n < 1 ∨ 4096 < n) (w : World) :
    Calls Tryd.prog 8 #[.int .i64 n] w fun e w' => e = .returned (.tuple #[.pointer none, .int .i64 2]) ∧ w' = w := by
  by_cases h1 : n < 1
  · go_enter Tryd.func8, Tryd.ntmps8
    go_wp2
    go_ret2
    exact ⟨rfl, rfl⟩
  · have h2 : 4096 < n := by omega
    go_enter Tryd.func8, Tryd.ntmps8
    go_wp2
    go_ret2
    exact ⟨rfl, rfl⟩
set_option maxRecDepth 100000 in
set_option maxHeartbeats 1600000 in
theorem tape_new (n : Nat) (h1 : 1 ≤ n) (h2 : n ≤ 4096) (w : World) :
    Calls Tryd.prog 8 #[.int .i64 n] w fun e w' => ∃ t, e = .returned (.tuple #[.pointer (some ⟨t, 0, none⟩), .int .i64 0]) ∧ w.heap.size ≤ t ∧ Tp (fun k => w.heap.size ≤ k ∧ k < w'.heap.size) t (n - 1) [] w' ∧ Below w.heap.size w w' := by
  obtain ⟨K, hK⟩ : ∃ K, K = n - 1 := ⟨_, rfl⟩
  have e1 : (n : Int) - 1 = (K : Int) := by omega
  have i1 : ¬ (n : Int) < 1 := by omega
  have i2 : ¬ (4096 : Int) < (n : Int) := by omega
  have hK2 : K ≤ 4096 := by omega
  rw [← hK]
  clear hK
  go_enter Tryd.func8, Tryd.ntmps8
  go_upto_region 3 with fail
  go_wp2_with fail
  refine (ring_new K hK2 w).mono ?_
  rintro e w1 ⟨s, cur, rfl, S1, hsz, hs, b1⟩
  have HS1 : Hid (Blk w1 s cur 28) := S1
  have HB1 : Hid (Below w.heap.size w w1) := b1
  have hw1 := b1.size
  have hs1 := S1.lt
  clear S1 b1
  have HT : Hid (Blk (w1.alloc (.cells (tc true false (.slice none 0 0) s K 0 0 0) 54)) w1.heap.size (tc true false (.slice none 0 0) s K 0 0 0) 54) := Blk.new w1 _ _
  have HS2 : Hid (Blk (w1.alloc (.cells (tc true false (.slice none 0 0) s K 0 0 0) 54)) s cur 28) := HS1.out.old _
  have HB2 : Hid (Below w.heap.size w (w1.alloc (.cells (tc true false (.slice none 0 0) s K 0 0 0) 54))) := HB1.out.alloc hw1 _
  have hsz2 : (w1.alloc (.cells (tc true false (.slice none 0 0) s K 0 0 0) 54)).heap.size = w1.heap.size + 1 := World.size_alloc _ _
  have HZ : Hid ((w1.alloc (.cells (tc true false (.slice none 0 0) s K 0 0 0) 54)).heap.size = w1.heap.size + 1) := hsz2
  clear hsz2
  go_wp2
  go_ret2
  refine ⟨w1.heap.size, rfl, hw1, ⟨s, 0, cur, .slice none 0 0, 0, [], HT.out, HS2.out, ⟨hsz, fun h => h, Nat.zero_le _, fun i hi => by simp at hi⟩, ?_, ?_, rfl, rfl, (fun i v hv => by simp at hv), (fun S hS => by cases hS), hK2⟩, HB2.out⟩
  · exact ⟨hw1, by rw [World.size_alloc]; omega⟩
  · exact ⟨hs, by rw [World.size_alloc]; omega⟩
/-- What patched makes of the patch to T. -/
theorem patched_good (w0 : World) (F T : List Nat) (n m g : Nat) (ad : Option Addr) (hF : Good F) (hT : Good T) (hn : F.length = n) (hm : (diffL F T).length = m) (hnil : ad = none → m = 0) (w : World) (hw : Below w0.heap.size w0 w) (hg : w0.heap.size ≤ g) (O : Own w g F) (RD : Row w0 ad (diffL F T)) :
    Calls Tryd.prog 31 #[.slice (some ⟨g, 0, none⟩) n n, .slice ad m m] w fun e w' => ∃ g', e = .returned (.tuple #[.slice (some ⟨g', 0, none⟩) T.length T.length, .bool true]) ∧ w0.heap.size ≤ g' ∧ Own w' g' T ∧ Below w0.heap.size w0 w' := by
  have h65 := diffL_le hF hT
  have hF2 := hF.2
  refine (patched_any w0 F (diffL F T) n m m g ad hF.1 (diffL_bytes hF.1 hT.1) hn hm (by omega) (by omega) (Nat.le_refl _) hnil w hw hg O RD).mono ?_
  rintro e w' ⟨hb, h | h⟩
  · exact absurd rfl (h.2 T hT)
  · obtain ⟨g', s, T2, he, h1, h2, h3, h4, h5⟩ := h
    obtain rfl : T = T2 := h5 T hT rfl
    exact ⟨g', by rw [he, h1], h2, h3, hb⟩
theorem at_bad (FP : Nat → Prop) (t K : Nat) (Ss : List (List Nat)) (w : World) (h : Tp FP t K Ss w) (i : Int) (hi : i < 0 ∨ (Ss.length : Int) ≤ i) :
    Calls Tryd.prog 11 #[.pointer (some ⟨t, 0, none⟩), .int .i64 i] w fun e w' => e = .returned (.tuple #[.slice none 0 0, .int .i64 2]) ∧ w' = w := by
  have HTP : Hid (Tp FP t K Ss w) := h
  obtain ⟨s, f, cur, nv, gn, R, B, -⟩ := h
  have HB : Hid (Blk w t (tc true (!Ss.isEmpty) nv s K f R.length (room Ss : Nat)) 54) := B
  clear B
  go_enter Tryd.func11, Tryd.ntmps11
  go_wp2_with fail
  refine (none_any t _ nv s K f R.length _ w HB.out).mono ?_
  rintro e w1 ⟨rfl, rfl⟩
  by_cases h0 : i < 0
  · go_wp2
    go_ret2
    exact ⟨rfl, rfl⟩
  · have h1 : (Ss.length : Int) ≤ i := by omega
    go_wp2_with fail
    refine (len_any FP t K Ss w1 HTP.out).mono ?_
    rintro e w2 ⟨rfl, rfl⟩
    go_wp2
    go_ret2
    exact ⟨rfl, rfl⟩
set_option maxRecDepth 100000 in
set_option maxHeartbeats 1600000 in
theorem at_good (FP : Nat → Prop) (t K : Nat) (Ss : List (List Nat)) (w : World) (h : Tp FP t K Ss w) (i : Nat) (hi : i < Ss.length) :
    Calls Tryd.prog 11 #[.pointer (some ⟨t, 0, none⟩), .int .i64 i] w fun e w' => ∃ g, e = .returned (.tuple #[.slice (some ⟨g, 0, none⟩) (Ss.getD i []).length (Ss.getD i []).length, .int .i64 0]) ∧ w.heap.size ≤ g ∧ Own w' g (Ss.getD i []) ∧ Below w.heap.size w w' := by
  have HTP : Hid (Tp FP t K Ss w) := h
  have hle := h.le
  obtain ⟨s, f, cur, nv, gn, R, B, S, N, f1, f2, n1, n2, n3, n4, n5⟩ := h
  have c2 : w.cell? ⟨t, 2, none⟩ = some nv := B.cell 2
  have HB : Hid (Blk w t (tc true (!Ss.isEmpty) nv s K f R.length (room Ss : Nat)) 54) := B
  have HS : Hid (Blk w s cur 28) := S
  have HN : Hid (Rn K f cur R ∧ R.length = Ss.length - 1) := ⟨N, n2⟩
  have H3 : Hid (∀ i v, R[i]? = some v → ∃ g, Lo FP w v g (diffL (Ss.getD i []) (Ss.getD (i + 1) [])) ∧ g ≠ gn) := n3
  have H4 : Hid (∀ j, j < Ss.length → Good (Ss.getD j [])) := fun j hj => n4 _ (by rw [List.getD, List.getElem?_eq_getElem hj]; exact List.getElem_mem hj)
  have HS0 : Hid (nv = .slice (some ⟨gn, 0, none⟩) (Ss.getD 0 []).length (Ss.getD 0 []).length ∧ Own w gn (Ss.getD 0 [])) := by
    cases Ss with
    | nil => simp at hi
    | cons a r => exact ⟨n1.1, n1.2.1⟩
  clear B S N n1 n2 n3 n4
  obtain ⟨n0, hn0⟩ : ∃ n0, n0 = (Ss.getD 0 []).length := ⟨_, rfl⟩
  have HN0 : Hid ((Ss.getD 0 []).length = n0) := hn0.symm
  obtain ⟨hnv, hO⟩ := HS0.out
  rw [← hn0] at hnv
  have hn65 : n0 ≤ 65536 := by rw [hn0]; exact (H4.out 0 (by omega)).2
  have HO0 : Hid (Own w gn (Ss.getD 0 [])) := hO
  subst hnv
  clear hO hn0 HS0
  have i1 : ¬ (i : Int) < 0 := by omega
  have i2 : ¬ ((Ss.length : Nat) : Int) ≤ (i : Int) := by omega
  have i3 : (i : Int) < ((Ss.length : Nat) : Int) := by omega
  go_enter Tryd.func11, Tryd.ntmps11
  go_wp2_with fail
  refine (none_any t _ _ s K f R.length _ w HB.out).mono ?_
  rintro e w1 ⟨rfl, rfl⟩
  go_wp2_with fail
  refine (len_any FP t K Ss w1 HTP.out).mono ?_
  rintro e w2 ⟨rfl, rfl⟩
  go_upto_region 5 with fail
  go_wp2_with fail
  refine (copied_any n0 (Ss.getD 0 []) HN0.out (by omega) _ n0 w2 HO0.out.row).mono ?_
  rintro e w3 ⟨rfl, O3, b3⟩
  have HO3 : Hid (Own w3 w2.heap.size (Ss.getD 0 [])) := O3
  have HB3 : Hid (Below w2.heap.size w2 w3) := b3
  clear O3 b3 c2 i2 i3
  go_upto_region 7 with fail
  go_loopw [6, 26] (fun v x wr => ∃ k g n : Nat, k ≤ i ∧ x = .int .i64 k ∧ v = .slice (some ⟨g, 0, none⟩) n n ∧ Hid ((Ss.getD k []).length = n) ∧ w2.heap.size ≤ g ∧ Hid (Own wr g (Ss.getD k [])) ∧ Hid (Below w2.heap.size w2 wr)) (fun _ x _ => i - (intOf x).toNat)
  case atStart => exact ⟨0, w2.heap.size, n0, by omega, rfl, rfl, HN0, Nat.le_refl _, HO3, HB3⟩
  case round =>
    obtain ⟨k, g, n, hk, rfl, rfl, hn, hg, hO, hBw⟩ := hrel
    by_cases hki : k < i
    · have hkR : k < R.length := by have := HN.out.2; omega
      obtain ⟨v, hv⟩ : ∃ v, R[k]? = some v := ⟨_, List.getElem?_eq_getElem hkR⟩
      obtain ⟨gp, hlo, -⟩ := H3.out k v hv
      have HV : Hid (R[k]? = some v) := hv
      obtain ⟨np, hnp⟩ : ∃ np, np = (diffL (Ss.getD k []) (Ss.getD (k + 1) [])).length := ⟨_, rfl⟩
      have HNP : Hid ((diffL (Ss.getD k []) (Ss.getD (k + 1) [])).length = np) := hnp.symm
      have hv2 := hlo.1
      rw [← hnp] at hv2
      have HOp : Hid (Own w2 gp (diffL (Ss.getD k []) (Ss.getD (k + 1) []))) := hlo.2.1
      have HBr : Hid (Blk wr t (tc true (!Ss.isEmpty) (.slice (some ⟨gn, 0, none⟩) n0 n0) s K f R.length (room Ss : Nat)) 54) := HB.out.below HB.out.lt hBw.out
      have HSr : Hid (Blk wr s cur 28) := HS.out.below HS.out.lt hBw.out
      subst hv2
      have iki : (k : Int) < (i : Int) := by omega
      clear hv hlo hnp hkR
      go_wp2_with fail
      refine (at_any t _ _ _ s K f _ cur R k _ HV.out n5 wr HN.out.1 HBr.out HSr.out).mono ?_
      rintro e w4 ⟨rfl, m, rfl⟩
      have HB4 : Hid (Below w2.heap.size w2 (wr.drewN m)) := below_drawsX hBw.out m
      have HO4 : Hid (Own (wr.drewN m) g (Ss.getD k [])) := hO.out.below hO.out.lt (below_drawsX (Below.refl _ _) m)
      generalize wr.drewN m = w4 at *
      go_wp2_with fail
      refine (patched_good w2 (Ss.getD k []) (Ss.getD (k + 1) []) n np g (some ⟨gp, 0, none⟩) (H4.out k (by omega)) (H4.out (k + 1) (by omega)) hn.out HNP.out (fun h => by cases h) w4 HB4.out hg HO4.out HOp.out.row).mono ?_
      rintro e w5 ⟨g5, rfl, hg5, O5, b5⟩
      obtain ⟨n2, hn2⟩ : ∃ n2, n2 = (Ss.getD (k + 1) []).length := ⟨_, rfl⟩
      have HN2 : Hid ((Ss.getD (k + 1) []).length = n2) := hn2.symm
      have HO5 : Hid (Own w5 g5 (Ss.getD (k + 1) [])) := O5
      have HB5 : Hid (Below w2.heap.size w2 w5) := b5
      rw [← hn2]
      clear hn2 O5 b5 hO hBw HBr HSr
      go_wp2
      go_roundw
      case rel => exact ⟨k + 1, g5, n2, by omega, by go_num, rfl, HN2, hg5, HO5, HB5⟩
      case measure => simp [intOf]; omega
    · obtain rfl : k = i := by omega
      go_wp2
      go_ret2
      exact ⟨g, by rw [hn.out]; rfl, hg, hO.out, hBw.out⟩
end Go.Proofs.YtlckjbangdnejaaDoor
