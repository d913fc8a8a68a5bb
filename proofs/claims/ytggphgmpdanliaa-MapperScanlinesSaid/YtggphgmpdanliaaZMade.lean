/-
  What made answers of a shape.
-/
import Derived.Test.YtggphgmpdanliaaZCar
import Derived.Test.YtggphgmpdanliaaYG
set_option linter.unusedSimpArgs false
set_option linter.unusedVariables false
namespace Go.Proofs.Ytggphgmpdanliaa
open Go.RowKit Classical
set_option maxRecDepth 100000 in
set_option maxHeartbeats 1000000 in
theorem made_any (w : World) (mp sub ram nv pr ch : Int) (vert four : Bool) (hpr : -9223372036854775808 ≤ pr ∧ pr ≤ 9223372036854775807) (hch : -9223372036854775808 ≤ ch ∧ ch ≤ 9223372036854775807) :
    Calls Try.prog 15 #[.agg #[.int .i64 mp, .int .i64 sub, .int .i64 ram, .int .i64 nv, .int .i64 pr, .int .i64 ch, .bool vert, .bool four]] w fun e w' => e = .returned (.tuple #[.agg (newD mp sub ram nv vert four (pr % 1081344).toNat (ch % 540672).toNat).cells, .bool true]) ∧ Below w.heap.size w w' := by
  have K1 : Hid _ := fun (W : World) => cartridge_any mp sub ram nv pr ch vert four W hpr hch
  have K2 : Hid _ := fun (W : World) => carried_any W mp sub ram nv pr ch vert four hpr hch
  have pb : (pr % 1081344).toNat ≤ 2000000 := by omega
  have cb : (ch % 540672).toNat ≤ 2000000 := by omega
  have NW : Hid _ := fun (cs : Array Value) (x1 x2 : Option Addr) (k1 k2 : Nat) (C : IsN cs mp sub ram nv vert four x1 x2 (pr % 1081344).toNat (ch % 540672).toNat k1 k2) (W : World) => new_any cs mp sub ram nv vert four x1 x2 _ _ k1 k2 C W pb cb
  have DL : Hid ((newD mp sub ram nv vert four (pr % 1081344).toNat (ch % 540672).toNat).r.length = 8) := newD_len ..
  have CV : Hid (carB mp sub (pr % 1081344).toNat (ch % 540672).toNat = true → (newD mp sub ram nv vert four (pr % 1081344).toNat (ch % 540672).toNat).Ok ∧ (newD mp sub ram nv vert four (pr % 1081344).toNat (ch % 540672).toNat).kind = mp ∧ newE mp sub (pr % 1081344).toNat (ch % 540672).toNat = 0) := fun h => by
    have e : newD mp sub ram nv vert four (pr % 1081344).toNat (ch % 540672).toNat = newK mp sub ram nv vert four (pr % 1081344).toNat (ch % 540672).toNat := if_pos h
    rw [e]
    refine ⟨newK_ok ram nv vert four h, (newK_is ..).kind, ?_⟩
    simp only [carB, Bool.and_eq_true] at h
    unfold newE
    rw [if_pos h.1, if_pos (by simp [h.2.1, h.2.2])]
  have CN : Hid (carB mp sub (pr % 1081344).toNat (ch % 540672).toNat = false → newE mp sub (pr % 1081344).toNat (ch % 540672).toNat = 20 ∨ newE mp sub (pr % 1081344).toNat (ch % 540672).toNat = 21) := fun h => by
    unfold newE
    cases hl : lst mp sub
    · exact .inl rfl
    · right
      rw [if_pos rfl]
      cases hh : (okP (pr % 1081344).toNat && okC (ch % 540672).toNat)
      · rfl
      · simp [carB, hl, hh] at h
  obtain ⟨D, hD⟩ : ∃ D, newD mp sub ram nv vert four (pr % 1081344).toNat (ch % 540672).toNat = D := ⟨_, rfl⟩
  rw [hD] at NW DL CV ⊢
  obtain ⟨ev, hev⟩ : ∃ x, newE mp sub (pr % 1081344).toNat (ch % 540672).toNat = x := ⟨_, rfl⟩
  rw [hev] at NW CV CN
  obtain ⟨cv, hcv⟩ : ∃ x, carB mp sub (pr % 1081344).toNat (ch % 540672).toNat = x := ⟨_, rfl⟩
  rw [hcv] at K2 CV CN
  clear hD hev hcv pb cb hpr hch
  go_enter Try.func15, Try.ntmps15
  go_upto_region 1 with fail
  change Code.wp _ _ _ _ ((w.alloc (.cells #[.int .i64 mp, .int .i64 sub, .int .i64 ram, .int .i64 nv, .int .i64 pr, .int .i64 ch, .bool vert, .bool four] 23)).alloc (.cells Z31 28))
  have s0 : G w [(w.heap.size, #[.int .i64 mp, .int .i64 sub, .int .i64 ram, .int .i64 nv, .int .i64 pr, .int .i64 ch, .bool vert, .bool four], 23), (w.heap.size + 1, Z31, 28)] ((w.alloc (.cells #[.int .i64 mp, .int .i64 sub, .int .i64 ram, .int .i64 nv, .int .i64 pr, .int .i64 ch, .bool vert, .bool four] 23)).alloc (.cells Z31 28)) := G.start2 w _ _ _ _
  generalize (w.alloc (.cells #[.int .i64 mp, .int .i64 sub, .int .i64 ram, .int .i64 nv, .int .i64 pr, .int .i64 ch, .bool vert, .bool four] 23)).alloc (.cells Z31 28) = W0 at *
  have sh := (s0.blk (w.heap.size) #[.int .i64 mp, .int .i64 sub, .int .i64 ram, .int .i64 nv, .int .i64 pr, .int .i64 ch, .bool vert, .bool four] 23 (by simp)).range
  go_wp2_with (refine wpList_load_mid rfl 23 _ rfl (w.heap.size) 0 rfl (#[.int .i64 mp, .int .i64 sub, .int .i64 ram, .int .i64 nv, .int .i64 pr, .int .i64 ch, .bool vert, .bool four] : Array Value).toList _ sh Try.underlying23 rfl (by kernel_rfl) ?_)
  refine (K1.out W0).mono ?_
  rintro e W1 ⟨cc, x1, x2, k1, k2, rfl, CC, hb1⟩
  replace s0 := s0.on hb1
  have NC : Hid _ := fun W => NW.out cc x1 x2 k1 k2 CC W
  clear hb1 sh K1 NW CC
  go_wp2_with fail
  refine (NC.out W1).mono ?_
  rintro e W2 ⟨rfl, hb2⟩
  replace s0 := s0.on hb2
  clear hb2 NC
  have h2lt : w.heap.size + 1 < W2.heap.size := (s0.blk (w.heap.size + 1) Z31 28 (by simp)).lt
  have n3 : Blk (W2.alloc (.cells Z31 28)) W2.heap.size Z31 28 := Blk.new W2 _ _
  have s1 : G w [(W2.heap.size, D.cells, 28), (w.heap.size, #[.int .i64 mp, .int .i64 sub, .int .i64 ram, .int .i64 nv, .int .i64 pr, .int .i64 ch, .bool vert, .bool four], 23), (w.heap.size + 1, Z31, 28)] ((W2.alloc (.cells Z31 28)).setCells W2.heap.size 0 D.cells.toList) :=
    s0.more (z := .cells Z31 28) (n3.setAll _ (isB D DL.out).size) (setCells_below s0.2.size _ _ _ _ (s0.2.alloc s0.2.size _)) (fun b' cs' t' hb hB => hB.otherCells hb _ _)
  go_upto_region 2 with (refine wpList_store_mid rfl 28 _ _ rfl W2.heap.size 0 D.cells rfl rfl (by exact Blk.there n3 _ (by rw [(isB D DL.out).size]; rfl)) (infoB' D DL.out) (isB D DL.out).one ?_)
  change Code.wp _ _ _ _ ((W2.alloc (.cells Z31 28)).setCells W2.heap.size 0 D.cells.toList)
  clear n3 s0
  have s0 := s1
  clear s1
  generalize (W2.alloc (.cells Z31 28)).setCells W2.heap.size 0 D.cells.toList = W3 at *
  generalize W2.heap.size = m at *
  have sh := (s0.blk (w.heap.size) #[.int .i64 mp, .int .i64 sub, .int .i64 ram, .int .i64 nv, .int .i64 pr, .int .i64 ch, .bool vert, .bool four] 23 (by simp)).range
  go_wp2_with (refine wpList_load_mid rfl 23 _ rfl (w.heap.size) 0 rfl (#[.int .i64 mp, .int .i64 sub, .int .i64 ram, .int .i64 nv, .int .i64 pr, .int .i64 ch, .bool vert, .bool four] : Array Value).toList _ sh Try.underlying23 rfl (by kernel_rfl) ?_)
  refine (K2.out W3).mono ?_
  rintro e W4 ⟨rfl, hb4⟩
  replace s0 := s0.on hb4
  clear hb4 sh K2
  cases cv
  · rcases CN.out rfl with rfl | rfl
    all_goals
      have z7 := s0.blk (w.heap.size + 1) Z31 28 (by simp)
      have b7 := s0.2
      clear CV CN
      go_wp2_with (first
        | (refine wpList_load_mid rfl 28 _ rfl (m) 0 rfl (D).cells.toList _ (s0.blk (m) (D).cells 28 (by simp)).range Try.underlying28 rfl (by rw [Array.length_toList]; exact infoB' _ DL.out) ?_)
        | (refine wpList_store_mid rfl 28 _ _ rfl (w.heap.size + 1) 0 D.cells rfl rfl (by exact Blk.there z7 _ (by rw [(isB D DL.out).size]; rfl)) (infoB' D DL.out) (isB D DL.out).one ?_))
      exact ret_agg2 (m := w.heap.size + 1) (L := D.cells) (x := .bool true) Try.results15 (by rfl) (by rfl) (z7.setAll _ (isB D DL.out).size) Try.underlying28 rfl (infoB' D DL.out) ⟨rfl, setCells_below (Nat.le_succ _) _ _ _ _ b7⟩
  · obtain ⟨OD, hk, rfl⟩ := CV.out rfl
    have VA : Hid _ := fun W => (OD.val ▸ valid_any W D DL.out : Calls Try.prog 26 #[.agg D.cells] W fun e w' => e = .returned (.bool true) ∧ Below W.heap.size W w')
    have CD : Hid (D.cells[0]? = some (.int .i64 mp)) := (isB D DL.out).h0.trans (by rw [hk])
    have ne2 : ∀ p ∈ [(m, D.cells, 28), (w.heap.size, #[.int .i64 mp, .int .i64 sub, .int .i64 ram, .int .i64 nv, .int .i64 pr, .int .i64 ch, .bool vert, .bool four], 23)], p.1 ≠ w.heap.size + 1 := fun p hp => by
      simp only [List.mem_cons, List.not_mem_nil, or_false] at hp
      rcases hp with rfl | rfl
      · show m ≠ w.heap.size + 1; omega
      · show w.heap.size ≠ w.heap.size + 1; omega
    clear CV CN OD hk
    go_upto_region 3 with fail
    have s9 : G w [(m, D.cells, 28), (w.heap.size, #[.int .i64 mp, .int .i64 sub, .int .i64 ram, .int .i64 nv, .int .i64 pr, .int .i64 ch, .bool vert, .bool four], 23)] W4.drew ∧ ∃ q, Blk W4.drew (w.heap.size + 1) q 28 ∧ q.size = 31 := ⟨(s0.sub (by simp)).drew, Z31, (s0.blk (w.heap.size + 1) Z31 28 (by simp)).drew, rfl⟩
    clear s0
    refine wp_region_held (S := fun v => G w [(m, D.cells, 28), (w.heap.size, #[.int .i64 mp, .int .i64 sub, .int .i64 ram, .int .i64 nv, .int .i64 pr, .int .i64 ch, .bool vert, .bool four], 23)] v ∧ ∃ q, Blk v (w.heap.size + 1) q 28 ∧ q.size = 31) (by kernel_rfl) ?_
    refine takeH (i := 0) (v := .agg (D).cells.toList.toArray) ⟨#[.agg #[.int .i64 mp, .int .i64 sub, .int .i64 ram, .int .i64 nv, .int .i64 pr, .int .i64 ch, .bool vert, .bool four], .pointer (some ⟨w.heap.size, 0, none⟩), .pointer (some ⟨w.heap.size + 1, 0, none⟩), .bool false, .pointer (some ⟨m, 0, none⟩), .int .i64 0, .tuple #[.agg D.cells, .int .i64 0], .agg #[.int .i64 mp, .int .i64 sub, .int .i64 ram, .int .i64 nv, .int .i64 pr, .int .i64 ch, .bool vert, .bool four], .agg cc, .tuple #[.agg D.cells, .int .i64 0], .agg D.cells, .int .i64 0, .agg #[.int .i64 mp, .int .i64 sub, .int .i64 ram, .int .i64 nv, .int .i64 pr, .int .i64 ch, .bool vert, .bool four], .bool true, .agg (D).cells, undef, undef, undef, undef, undef, undef, undef, undef, undef, undef, undef, undef, undef, undef, undef, undef, undef, undef, undef, undef], []⟩ rfl (by kernel_rfl) (by kernel_rfl) (by kernel_rfl) (fun _ _ _ h => h) (yieldsIf_load_mid (by kernel_rfl) 28 (.tmp 4) rfl m 0 (by kernel_rfl) (D).cells.toList _ (fun v hv => Blk.range (hv.1.blk m (D).cells 28 (by simp))) Try.underlying28 rfl (by rw [Array.length_toList]; exact infoB' D DL.out)) s9 (by kernel_rfl) ?_
    refine takeH (i := 1) (v := .int .i64 0) ⟨#[.agg #[.int .i64 mp, .int .i64 sub, .int .i64 ram, .int .i64 nv, .int .i64 pr, .int .i64 ch, .bool vert, .bool four], .pointer (some ⟨w.heap.size, 0, none⟩), .pointer (some ⟨w.heap.size + 1, 0, none⟩), .bool false, .pointer (some ⟨m, 0, none⟩), .int .i64 0, .tuple #[.agg D.cells, .int .i64 0], .agg #[.int .i64 mp, .int .i64 sub, .int .i64 ram, .int .i64 nv, .int .i64 pr, .int .i64 ch, .bool vert, .bool four], .agg cc, .tuple #[.agg D.cells, .int .i64 0], .agg D.cells, .int .i64 0, .agg #[.int .i64 mp, .int .i64 sub, .int .i64 ram, .int .i64 nv, .int .i64 pr, .int .i64 ch, .bool vert, .bool four], .bool true, .agg (D).cells, .int .i64 0, undef, undef, undef, undef, undef, undef, undef, undef, undef, undef, undef, undef, undef, undef, undef, undef, undef, undef, undef], []⟩ rfl (by kernel_rfl) (by kernel_rfl) (by kernel_rfl) (fun _ _ _ h => h) (.inl ⟨by kernel_rfl, fun _ _ => by kernel_rfl⟩) s9 (by kernel_rfl) ?_
    refine takeH (i := 2) (v := .bool true) ⟨#[.agg #[.int .i64 mp, .int .i64 sub, .int .i64 ram, .int .i64 nv, .int .i64 pr, .int .i64 ch, .bool vert, .bool four], .pointer (some ⟨w.heap.size, 0, none⟩), .pointer (some ⟨w.heap.size + 1, 0, none⟩), .bool false, .pointer (some ⟨m, 0, none⟩), .int .i64 0, .tuple #[.agg D.cells, .int .i64 0], .agg #[.int .i64 mp, .int .i64 sub, .int .i64 ram, .int .i64 nv, .int .i64 pr, .int .i64 ch, .bool vert, .bool four], .agg cc, .tuple #[.agg D.cells, .int .i64 0], .agg D.cells, .int .i64 0, .agg #[.int .i64 mp, .int .i64 sub, .int .i64 ram, .int .i64 nv, .int .i64 pr, .int .i64 ch, .bool vert, .bool four], .bool true, .agg (D).cells, .int .i64 0, .bool true, undef, undef, undef, undef, undef, undef, undef, undef, undef, undef, undef, undef, undef, undef, undef, undef, undef, undef], []⟩ rfl (by kernel_rfl) (by kernel_rfl) (by kernel_rfl) (fun _ _ _ h => h) (.inl ⟨by kernel_rfl, fun v _ => exec_eqlI (a := 0) (b := 0) rfl (by kernel_rfl) (by kernel_rfl) Try.underlying62 rfl⟩) s9 (by kernel_rfl) ?_
    refine takeH (i := 3) (v := .bool true) ⟨#[.agg #[.int .i64 mp, .int .i64 sub, .int .i64 ram, .int .i64 nv, .int .i64 pr, .int .i64 ch, .bool vert, .bool four], .pointer (some ⟨w.heap.size, 0, none⟩), .pointer (some ⟨w.heap.size + 1, 0, none⟩), .bool false, .pointer (some ⟨m, 0, none⟩), .int .i64 0, .tuple #[.agg D.cells, .int .i64 0], .agg #[.int .i64 mp, .int .i64 sub, .int .i64 ram, .int .i64 nv, .int .i64 pr, .int .i64 ch, .bool vert, .bool four], .agg cc, .tuple #[.agg D.cells, .int .i64 0], .agg D.cells, .int .i64 0, .agg #[.int .i64 mp, .int .i64 sub, .int .i64 ram, .int .i64 nv, .int .i64 pr, .int .i64 ch, .bool vert, .bool four], .bool true, .agg (D).cells, .int .i64 0, .bool true, .bool true, undef, undef, undef, undef, undef, undef, undef, undef, undef, undef, undef, undef, undef, undef, undef, undef, undef], []⟩ rfl (by kernel_rfl) (by kernel_rfl) (by kernel_rfl) (fun _ _ _ h => h) (.inl ⟨by kernel_rfl, fun _ _ => by kernel_rfl⟩) s9 (by kernel_rfl) ?_
    refine takeH (i := 4) (v := .agg (D).cells.toList.toArray) ⟨#[.agg #[.int .i64 mp, .int .i64 sub, .int .i64 ram, .int .i64 nv, .int .i64 pr, .int .i64 ch, .bool vert, .bool four], .pointer (some ⟨w.heap.size, 0, none⟩), .pointer (some ⟨w.heap.size + 1, 0, none⟩), .bool false, .pointer (some ⟨m, 0, none⟩), .int .i64 0, .tuple #[.agg D.cells, .int .i64 0], .agg #[.int .i64 mp, .int .i64 sub, .int .i64 ram, .int .i64 nv, .int .i64 pr, .int .i64 ch, .bool vert, .bool four], .agg cc, .tuple #[.agg D.cells, .int .i64 0], .agg D.cells, .int .i64 0, .agg #[.int .i64 mp, .int .i64 sub, .int .i64 ram, .int .i64 nv, .int .i64 pr, .int .i64 ch, .bool vert, .bool four], .bool true, .agg (D).cells, .int .i64 0, .bool true, .bool true, .agg (D).cells, undef, undef, undef, undef, undef, undef, undef, undef, undef, undef, undef, undef, undef, undef, undef, undef], []⟩ rfl (by kernel_rfl) (by kernel_rfl) (by kernel_rfl) (fun _ _ _ h => h) (yieldsIf_load_mid (by kernel_rfl) 28 (.tmp 4) rfl m 0 (by kernel_rfl) (D).cells.toList _ (fun v hv => Blk.range (hv.1.blk m (D).cells 28 (by simp))) Try.underlying28 rfl (by rw [Array.length_toList]; exact infoB' D DL.out)) s9 (by kernel_rfl) ?_
    refine wpAnyH_all (rs := [5]) (by kernel_rfl) (by simp) ?_
    intro i hi
    obtain rfl : i = 5 := by simpa using hi
    refine wpOp_contract (f := 26) rfl (by kernel_rfl) (by kernel_rfl) (VA.out _) ⟨#[.agg #[.int .i64 mp, .int .i64 sub, .int .i64 ram, .int .i64 nv, .int .i64 pr, .int .i64 ch, .bool vert, .bool four], .pointer (some ⟨w.heap.size, 0, none⟩), .pointer (some ⟨w.heap.size + 1, 0, none⟩), .bool false, .pointer (some ⟨m, 0, none⟩), .int .i64 0, .tuple #[.agg D.cells, .int .i64 0], .agg #[.int .i64 mp, .int .i64 sub, .int .i64 ram, .int .i64 nv, .int .i64 pr, .int .i64 ch, .bool vert, .bool four], .agg cc, .tuple #[.agg D.cells, .int .i64 0], .agg D.cells, .int .i64 0, .agg #[.int .i64 mp, .int .i64 sub, .int .i64 ram, .int .i64 nv, .int .i64 pr, .int .i64 ch, .bool vert, .bool four], .bool true, .agg (D).cells, .int .i64 0, .bool true, .bool true, .agg (D).cells, .bool true, undef, undef, undef, undef, undef, undef, undef, undef, undef, undef, undef, undef, undef, undef, undef], []⟩ (by kernel_rfl) ?_
    intro Wq1 hbq1
    have sq1 : (fun v => G w [(m, D.cells, 28), (w.heap.size, #[.int .i64 mp, .int .i64 sub, .int .i64 ram, .int .i64 nv, .int .i64 pr, .int .i64 ch, .bool vert, .bool four], 23)] v ∧ ∃ q, Blk v (w.heap.size + 1) q 28 ∧ q.size = 31) Wq1 := ⟨s9.1.on hbq1, s9.2.elim fun q h => ⟨q, h.1.below h.1.lt hbq1, h.2⟩⟩
    clear hi hbq1
    refine ⟨sq1, ?_⟩
    refine takeH (i := 6) (v := .bool true) ⟨#[.agg #[.int .i64 mp, .int .i64 sub, .int .i64 ram, .int .i64 nv, .int .i64 pr, .int .i64 ch, .bool vert, .bool four], .pointer (some ⟨w.heap.size, 0, none⟩), .pointer (some ⟨w.heap.size + 1, 0, none⟩), .bool false, .pointer (some ⟨m, 0, none⟩), .int .i64 0, .tuple #[.agg D.cells, .int .i64 0], .agg #[.int .i64 mp, .int .i64 sub, .int .i64 ram, .int .i64 nv, .int .i64 pr, .int .i64 ch, .bool vert, .bool four], .agg cc, .tuple #[.agg D.cells, .int .i64 0], .agg D.cells, .int .i64 0, .agg #[.int .i64 mp, .int .i64 sub, .int .i64 ram, .int .i64 nv, .int .i64 pr, .int .i64 ch, .bool vert, .bool four], .bool true, .agg (D).cells, .int .i64 0, .bool true, .bool true, .agg (D).cells, .bool true, .bool true, undef, undef, undef, undef, undef, undef, undef, undef, undef, undef, undef, undef, undef, undef], []⟩ rfl (by kernel_rfl) (by kernel_rfl) (by kernel_rfl) (fun _ _ _ h => h) (.inl ⟨by kernel_rfl, fun _ _ => by kernel_rfl⟩) sq1 (by kernel_rfl) ?_
    refine takeH (i := 7) (v := .bool true) ⟨#[.agg #[.int .i64 mp, .int .i64 sub, .int .i64 ram, .int .i64 nv, .int .i64 pr, .int .i64 ch, .bool vert, .bool four], .pointer (some ⟨w.heap.size, 0, none⟩), .pointer (some ⟨w.heap.size + 1, 0, none⟩), .bool false, .pointer (some ⟨m, 0, none⟩), .int .i64 0, .tuple #[.agg D.cells, .int .i64 0], .agg #[.int .i64 mp, .int .i64 sub, .int .i64 ram, .int .i64 nv, .int .i64 pr, .int .i64 ch, .bool vert, .bool four], .agg cc, .tuple #[.agg D.cells, .int .i64 0], .agg D.cells, .int .i64 0, .agg #[.int .i64 mp, .int .i64 sub, .int .i64 ram, .int .i64 nv, .int .i64 pr, .int .i64 ch, .bool vert, .bool four], .bool true, .agg (D).cells, .int .i64 0, .bool true, .bool true, .agg (D).cells, .bool true, .bool true, .bool true, undef, undef, undef, undef, undef, undef, undef, undef, undef, undef, undef, undef, undef], []⟩ rfl (by kernel_rfl) (by kernel_rfl) (by kernel_rfl) (fun _ _ _ h => h) (.inl ⟨by kernel_rfl, fun _ _ => by kernel_rfl⟩) sq1 (by kernel_rfl) ?_
    refine takeH (i := 8) (v := .pointer (some ⟨m, 0, none⟩)) ⟨#[.agg #[.int .i64 mp, .int .i64 sub, .int .i64 ram, .int .i64 nv, .int .i64 pr, .int .i64 ch, .bool vert, .bool four], .pointer (some ⟨w.heap.size, 0, none⟩), .pointer (some ⟨w.heap.size + 1, 0, none⟩), .bool false, .pointer (some ⟨m, 0, none⟩), .int .i64 0, .tuple #[.agg D.cells, .int .i64 0], .agg #[.int .i64 mp, .int .i64 sub, .int .i64 ram, .int .i64 nv, .int .i64 pr, .int .i64 ch, .bool vert, .bool four], .agg cc, .tuple #[.agg D.cells, .int .i64 0], .agg D.cells, .int .i64 0, .agg #[.int .i64 mp, .int .i64 sub, .int .i64 ram, .int .i64 nv, .int .i64 pr, .int .i64 ch, .bool vert, .bool four], .bool true, .agg (D).cells, .int .i64 0, .bool true, .bool true, .agg (D).cells, .bool true, .bool true, .bool true, .pointer (some ⟨m, 0, none⟩), undef, undef, undef, undef, undef, undef, undef, undef, undef, undef, undef, undef], []⟩ rfl (by kernel_rfl) (by kernel_rfl) (by kernel_rfl) (fun _ _ _ h => h) (.inl ⟨by kernel_rfl, fun _ _ => by kernel_rfl⟩) sq1 (by kernel_rfl) ?_
    refine takeH (i := 9) (v := .int .i64 mp) ⟨#[.agg #[.int .i64 mp, .int .i64 sub, .int .i64 ram, .int .i64 nv, .int .i64 pr, .int .i64 ch, .bool vert, .bool four], .pointer (some ⟨w.heap.size, 0, none⟩), .pointer (some ⟨w.heap.size + 1, 0, none⟩), .bool false, .pointer (some ⟨m, 0, none⟩), .int .i64 0, .tuple #[.agg D.cells, .int .i64 0], .agg #[.int .i64 mp, .int .i64 sub, .int .i64 ram, .int .i64 nv, .int .i64 pr, .int .i64 ch, .bool vert, .bool four], .agg cc, .tuple #[.agg D.cells, .int .i64 0], .agg D.cells, .int .i64 0, .agg #[.int .i64 mp, .int .i64 sub, .int .i64 ram, .int .i64 nv, .int .i64 pr, .int .i64 ch, .bool vert, .bool four], .bool true, .agg (D).cells, .int .i64 0, .bool true, .bool true, .agg (D).cells, .bool true, .bool true, .bool true, .pointer (some ⟨m, 0, none⟩), .int .i64 mp, undef, undef, undef, undef, undef, undef, undef, undef, undef, undef, undef], []⟩ rfl (by kernel_rfl) (by kernel_rfl) (by kernel_rfl) (fun _ _ _ h => h) (.inl ⟨by kernel_rfl, fun v hv => by have c : v.cell? ⟨m, 0, none⟩ = some (.int .i64 mp) := ((hv.1.blk m D.cells 28 (by simp)).cell 0).trans CD.out; go_simp⟩) sq1 (by kernel_rfl) ?_
    refine takeH (i := 10) (v := .pointer (some ⟨w.heap.size, 0, none⟩)) ⟨#[.agg #[.int .i64 mp, .int .i64 sub, .int .i64 ram, .int .i64 nv, .int .i64 pr, .int .i64 ch, .bool vert, .bool four], .pointer (some ⟨w.heap.size, 0, none⟩), .pointer (some ⟨w.heap.size + 1, 0, none⟩), .bool false, .pointer (some ⟨m, 0, none⟩), .int .i64 0, .tuple #[.agg D.cells, .int .i64 0], .agg #[.int .i64 mp, .int .i64 sub, .int .i64 ram, .int .i64 nv, .int .i64 pr, .int .i64 ch, .bool vert, .bool four], .agg cc, .tuple #[.agg D.cells, .int .i64 0], .agg D.cells, .int .i64 0, .agg #[.int .i64 mp, .int .i64 sub, .int .i64 ram, .int .i64 nv, .int .i64 pr, .int .i64 ch, .bool vert, .bool four], .bool true, .agg (D).cells, .int .i64 0, .bool true, .bool true, .agg (D).cells, .bool true, .bool true, .bool true, .pointer (some ⟨m, 0, none⟩), .int .i64 mp, .pointer (some ⟨w.heap.size, 0, none⟩), undef, undef, undef, undef, undef, undef, undef, undef, undef, undef], []⟩ rfl (by kernel_rfl) (by kernel_rfl) (by kernel_rfl) (fun _ _ _ h => h) (.inl ⟨by kernel_rfl, fun _ _ => by kernel_rfl⟩) sq1 (by kernel_rfl) ?_
    refine takeH (i := 11) (v := .int .i64 mp) ⟨#[.agg #[.int .i64 mp, .int .i64 sub, .int .i64 ram, .int .i64 nv, .int .i64 pr, .int .i64 ch, .bool vert, .bool four], .pointer (some ⟨w.heap.size, 0, none⟩), .pointer (some ⟨w.heap.size + 1, 0, none⟩), .bool false, .pointer (some ⟨m, 0, none⟩), .int .i64 0, .tuple #[.agg D.cells, .int .i64 0], .agg #[.int .i64 mp, .int .i64 sub, .int .i64 ram, .int .i64 nv, .int .i64 pr, .int .i64 ch, .bool vert, .bool four], .agg cc, .tuple #[.agg D.cells, .int .i64 0], .agg D.cells, .int .i64 0, .agg #[.int .i64 mp, .int .i64 sub, .int .i64 ram, .int .i64 nv, .int .i64 pr, .int .i64 ch, .bool vert, .bool four], .bool true, .agg (D).cells, .int .i64 0, .bool true, .bool true, .agg (D).cells, .bool true, .bool true, .bool true, .pointer (some ⟨m, 0, none⟩), .int .i64 mp, .pointer (some ⟨w.heap.size, 0, none⟩), .int .i64 mp, undef, undef, undef, undef, undef, undef, undef, undef, undef], []⟩ rfl (by kernel_rfl) (by kernel_rfl) (by kernel_rfl) (fun _ _ _ h => h) (.inl ⟨by kernel_rfl, fun v hv => by have c : v.cell? ⟨w.heap.size, 0, none⟩ = some (.int .i64 mp) := (hv.1.blk (w.heap.size) #[.int .i64 mp, .int .i64 sub, .int .i64 ram, .int .i64 nv, .int .i64 pr, .int .i64 ch, .bool vert, .bool four] 23 (by simp)).cell 0; go_simp⟩) sq1 (by kernel_rfl) ?_
    refine takeH (i := 12) (v := .bool true) ⟨#[.agg #[.int .i64 mp, .int .i64 sub, .int .i64 ram, .int .i64 nv, .int .i64 pr, .int .i64 ch, .bool vert, .bool four], .pointer (some ⟨w.heap.size, 0, none⟩), .pointer (some ⟨w.heap.size + 1, 0, none⟩), .bool false, .pointer (some ⟨m, 0, none⟩), .int .i64 0, .tuple #[.agg D.cells, .int .i64 0], .agg #[.int .i64 mp, .int .i64 sub, .int .i64 ram, .int .i64 nv, .int .i64 pr, .int .i64 ch, .bool vert, .bool four], .agg cc, .tuple #[.agg D.cells, .int .i64 0], .agg D.cells, .int .i64 0, .agg #[.int .i64 mp, .int .i64 sub, .int .i64 ram, .int .i64 nv, .int .i64 pr, .int .i64 ch, .bool vert, .bool four], .bool true, .agg (D).cells, .int .i64 0, .bool true, .bool true, .agg (D).cells, .bool true, .bool true, .bool true, .pointer (some ⟨m, 0, none⟩), .int .i64 mp, .pointer (some ⟨w.heap.size, 0, none⟩), .int .i64 mp, .bool true, undef, undef, undef, undef, undef, undef, undef, undef], []⟩ rfl (by kernel_rfl) (by kernel_rfl) (by kernel_rfl) (fun _ _ _ h => h) (.inl ⟨by kernel_rfl, fun v _ => exec_eqlI (a := mp) (b := mp) rfl (by kernel_rfl) (by kernel_rfl) Try.underlying3 (by simp)⟩) sq1 (by kernel_rfl) ?_
    refine takeH (i := 13) (v := .bool true) ⟨#[.agg #[.int .i64 mp, .int .i64 sub, .int .i64 ram, .int .i64 nv, .int .i64 pr, .int .i64 ch, .bool vert, .bool four], .pointer (some ⟨w.heap.size, 0, none⟩), .pointer (some ⟨w.heap.size + 1, 0, none⟩), .bool false, .pointer (some ⟨m, 0, none⟩), .int .i64 0, .tuple #[.agg D.cells, .int .i64 0], .agg #[.int .i64 mp, .int .i64 sub, .int .i64 ram, .int .i64 nv, .int .i64 pr, .int .i64 ch, .bool vert, .bool four], .agg cc, .tuple #[.agg D.cells, .int .i64 0], .agg D.cells, .int .i64 0, .agg #[.int .i64 mp, .int .i64 sub, .int .i64 ram, .int .i64 nv, .int .i64 pr, .int .i64 ch, .bool vert, .bool four], .bool true, .agg (D).cells, .int .i64 0, .bool true, .bool true, .agg (D).cells, .bool true, .bool true, .bool true, .pointer (some ⟨m, 0, none⟩), .int .i64 mp, .pointer (some ⟨w.heap.size, 0, none⟩), .int .i64 mp, .bool true, .bool true, undef, undef, undef, undef, undef, undef, undef], []⟩ rfl (by kernel_rfl) (by kernel_rfl) (by kernel_rfl) (fun _ _ _ h => h) (.inl ⟨by kernel_rfl, fun _ _ => by kernel_rfl⟩) sq1 (by kernel_rfl) ?_
    refine wpAnyH_all (rs := [14]) (by kernel_rfl) (by simp) ?_
    intro i hi
    obtain rfl : i = 14 := by simpa using hi
    refine wpOp_store rfl (by kernel_rfl) 28 (.tmp 2) (.tmp 14) rfl (w.heap.size + 1) 0 (.agg (D).cells) (D.cells) (by kernel_rfl) (by kernel_rfl) rfl (sq1.2.elim fun q h => by have e : D.cells.size = q.size := (isB D DL.out).size.trans h.2.symm; rw [e]; exact h.1.there _ rfl) (infoB' D DL.out) ((isB D DL.out).one) ⟨#[.agg #[.int .i64 mp, .int .i64 sub, .int .i64 ram, .int .i64 nv, .int .i64 pr, .int .i64 ch, .bool vert, .bool four], .pointer (some ⟨w.heap.size, 0, none⟩), .pointer (some ⟨w.heap.size + 1, 0, none⟩), .bool false, .pointer (some ⟨m, 0, none⟩), .int .i64 0, .tuple #[.agg D.cells, .int .i64 0], .agg #[.int .i64 mp, .int .i64 sub, .int .i64 ram, .int .i64 nv, .int .i64 pr, .int .i64 ch, .bool vert, .bool four], .agg cc, .tuple #[.agg D.cells, .int .i64 0], .agg D.cells, .int .i64 0, .agg #[.int .i64 mp, .int .i64 sub, .int .i64 ram, .int .i64 nv, .int .i64 pr, .int .i64 ch, .bool vert, .bool four], .bool true, .agg (D).cells, .int .i64 0, .bool true, .bool true, .agg (D).cells, .bool true, .bool true, .bool true, .pointer (some ⟨m, 0, none⟩), .int .i64 mp, .pointer (some ⟨w.heap.size, 0, none⟩), .int .i64 mp, .bool true, .bool true, undef, undef, undef, undef, undef, undef, undef], []⟩ (by kernel_rfl) ?_
    intro Wq2 eqW
    have sq2 : (fun v => Blk v (w.heap.size + 1) D.cells 28 ∧ G w [(m, D.cells, 28), (w.heap.size, #[.int .i64 mp, .int .i64 sub, .int .i64 ram, .int .i64 nv, .int .i64 pr, .int .i64 ch, .bool vert, .bool four], 23)] v) Wq2 := by rw [eqW]; exact sq1.2.elim fun q h => ⟨h.1.setAll _ ((isB D DL.out).size.trans h.2.symm), ⟨fun p hp => (sq1.1.1 p hp).otherCells (ne2 p hp) _ _, setCells_below (Nat.le_succ _) _ _ _ _ sq1.1.2⟩⟩

    clear hi eqW
    have sq2w : (fun v => G w [(m, D.cells, 28), (w.heap.size, #[.int .i64 mp, .int .i64 sub, .int .i64 ram, .int .i64 nv, .int .i64 pr, .int .i64 ch, .bool vert, .bool four], 23)] v ∧ ∃ q, Blk v (w.heap.size + 1) q 28 ∧ q.size = 31) Wq2 := ⟨sq2.2, D.cells, sq2.1, (isB D DL.out).size⟩
    refine ⟨sq2w, ?_⟩
    refine takeH (i := 15) (v := .bool true) ⟨#[.agg #[.int .i64 mp, .int .i64 sub, .int .i64 ram, .int .i64 nv, .int .i64 pr, .int .i64 ch, .bool vert, .bool four], .pointer (some ⟨w.heap.size, 0, none⟩), .pointer (some ⟨w.heap.size + 1, 0, none⟩), .bool true, .pointer (some ⟨m, 0, none⟩), .int .i64 0, .tuple #[.agg D.cells, .int .i64 0], .agg #[.int .i64 mp, .int .i64 sub, .int .i64 ram, .int .i64 nv, .int .i64 pr, .int .i64 ch, .bool vert, .bool four], .agg cc, .tuple #[.agg D.cells, .int .i64 0], .agg D.cells, .int .i64 0, .agg #[.int .i64 mp, .int .i64 sub, .int .i64 ram, .int .i64 nv, .int .i64 pr, .int .i64 ch, .bool vert, .bool four], .bool true, .agg (D).cells, .int .i64 0, .bool true, .bool true, .agg (D).cells, .bool true, .bool true, .bool true, .pointer (some ⟨m, 0, none⟩), .int .i64 mp, .pointer (some ⟨w.heap.size, 0, none⟩), .int .i64 mp, .bool true, .bool true, undef, undef, undef, undef, undef, undef, undef], []⟩ rfl (by kernel_rfl) (by kernel_rfl) (by kernel_rfl) (fun _ _ _ h => h) (.inl ⟨by kernel_rfl, fun _ _ => by kernel_rfl⟩) sq2w (by kernel_rfl) ?_
    refine wpAnyH_done (by kernel_rfl) ?_ _
    have z7 := sq2.1
    have b7 := sq2.2.2
    go_wp2
    exact ret_agg2 (m := w.heap.size + 1) (L := D.cells) (x := .bool true) Try.results15 (by rfl) (by rfl) z7 Try.underlying28 rfl (infoB' D DL.out) ⟨rfl, b7⟩
end Go.Proofs.Ytggphgmpdanliaa
