/-
  The law MapperEpochs returns true.
-/
import Derived.Test.YtggphgmpdanliaaZEpo0
import Derived.Test.YtggphgmpdanliaaZIns0
import Derived.Test.YtggphgmpdanliaaZStill
set_option linter.unusedSimpArgs false
set_option linter.unusedVariables false
namespace Go.Proofs.Ytggphgmpdanliaa
open Go.RowKit Classical
theorem ux0 : ∃ D0 d1 : Bd, newD 2 0 0 0 false false ((65536 : Int) % 1081344).toNat ((0 : Int) % 540672).toNat = D0 ∧ D0.Ok ∧ viewC D0 = #[.int .i64 0, .int .i64 1, .int .i64 6, .int .i64 7, .int .i64 0] ∧ D0.epoch = 0 ∧ wrA D0 32768 2 0 5 = d1 ∧ d1.Ok ∧ viewC d1 = #[.int .i64 4, .int .i64 5, .int .i64 6, .int .i64 7, .int .i64 0] ∧ d1.epoch = 1 :=
  have o : (newD 2 0 0 0 false false ((65536 : Int) % 1081344).toNat ((0 : Int) % 540672).toNat).Ok := (newD_car 0 0 false false (by kernel_rfl)).1
  ⟨_, _, rfl, o, by kernel_rfl, by kernel_rfl, rfl, wrA_okk o 32768 2 0 5 (by decide) (by decide) (by decide) (by decide) (by decide), by kernel_rfl, by kernel_rfl⟩
set_option maxRecDepth 100000 in
set_option maxHeartbeats 1000000 in
theorem epochs_law (w : World) (mp sub ram nv pr ch : Int) (vert four : Bool) (hpr : -9223372036854775808 ≤ pr ∧ pr ≤ 9223372036854775807) (hch : -9223372036854775808 ≤ ch ∧ ch ≤ 9223372036854775807) (a : Option Addr) (len cap : Nat) (q : Nat → Sp) (sb so : Nat) (hlen : len ≤ 9223372036854775807) (hS : Scr w a len q sb so) :
    Calls Try.prog 10 #[.agg #[.int .i64 mp, .int .i64 sub, .int .i64 ram, .int .i64 nv, .int .i64 pr, .int .i64 ch, .bool vert, .bool four], .slice a len cap] w fun e w' => e = .returned (.bool true) ∧ Below w.heap.size w w' := by
  have M0 : Hid _ := fun (W : World) => made_any W 2 0 0 0 65536 0 false false (by decide) (by decide)
  obtain ⟨D0, d1, h0, o0, v0, e0, h1, o1, v1, e1⟩ := ux0
  rw [h0] at M0
  have WN0 : Hid _ := fun (W : World) => windows_any W D0 o0
  have WN1 : Hid _ := fun (W : World) => windows_any W d1 o1
  have WR : Hid _ := fun (W : World) => write_all W D0 32768 2 0 5 o0.wf (by decide) (by decide) (by decide) (by decide) (by decide) (by decide)
  rw [h1] at WR
  have DL0 : Hid _ := o0.wf.rlen
  have DL1 : Hid _ := o1.wf.rlen
  have V0 : Hid _ := v0
  have V1 : Hid _ := v1
  have E0 : Hid _ := e0
  have E1 : Hid _ := e1
  rw [V0.out] at WN0
  rw [V1.out] at WN1
  have q0 : Hid _ := fun (W : World) => (show (binOp .neq 53 (.agg #[.int .i64 0, .int .i64 1, .int .i64 6, .int .i64 7, .int .i64 0]) (.agg #[.int .i64 0, .int .i64 1, .int .i64 6, .int .i64 7, .int .i64 0])).run Try.prog W = .ok (.bool false) W by have h := neqW W D0 D0; rw [V0.out, alikeB_refl] at h; exact h)
  have q1 : Hid _ := fun (W : World) => (show (binOp .neq 53 (.agg #[.int .i64 4, .int .i64 5, .int .i64 6, .int .i64 7, .int .i64 0]) (.agg #[.int .i64 4, .int .i64 5, .int .i64 6, .int .i64 7, .int .i64 0])).run Try.prog W = .ok (.bool false) W by have h := neqW W d1 d1; rw [V1.out, alikeB_refl] at h; exact h)
  clear h0 o0 v0 e0 h1 o1 v1 e1 V0 V1
  have MA : Hid _ := fun (W : World) => made_any W mp sub ram nv pr ch vert four hpr hch
  have CR : Hid _ := fun (W : World) => carried_any W mp sub ram nv pr ch vert four hpr hch
  have DL : Hid ((newD mp sub ram nv vert four (pr % 1081344).toNat (ch % 540672).toNat).r.length = 8) := newD_len ..
  have CV : Hid (carB mp sub (pr % 1081344).toNat (ch % 540672).toNat = true → (newD mp sub ram nv vert four (pr % 1081344).toNat (ch % 540672).toNat).Ok ∧ IsNew (newD mp sub ram nv vert four (pr % 1081344).toNat (ch % 540672).toNat) mp sub ram nv vert four (pr % 1081344).toNat (ch % 540672).toNat) := fun h => newD_car ram nv vert four h
  obtain ⟨D, hD⟩ : ∃ D, newD mp sub ram nv vert four (pr % 1081344).toNat (ch % 540672).toNat = D := ⟨_, rfl⟩
  rw [hD] at MA DL CV
  obtain ⟨cv, hcv⟩ : ∃ x, carB mp sub (pr % 1081344).toNat (ch % 540672).toNat = x := ⟨_, rfl⟩
  rw [hcv] at CR CV
  clear hD hcv
  go_enter Try.func10, Try.ntmps10
  go_upto_region 1 with fail
  have s0 : G w [(w.heap.size, #[.int .i64 mp, .int .i64 sub, .int .i64 ram, .int .i64 nv, .int .i64 pr, .int .i64 ch, .bool vert, .bool four], 23)] (w.alloc (.cells #[.int .i64 mp, .int .i64 sub, .int .i64 ram, .int .i64 nv, .int .i64 pr, .int .i64 ch, .bool vert, .bool four] 23)) := G.start w _ _
  generalize w.alloc (.cells #[.int .i64 mp, .int .i64 sub, .int .i64 ram, .int .i64 nv, .int .i64 pr, .int .i64 ch, .bool vert, .bool four] 23) = W0 at *
  go_wp2_with fail
  refine (M0.out _).mono ?_
  rintro e W2 ⟨rfl, hbq⟩
  replace s0 := s0.on hbq
  clear hbq M0
  have hlm : w.heap.size < W2.heap.size := (s0.blk (w.heap.size) #[.int .i64 mp, .int .i64 sub, .int .i64 ram, .int .i64 nv, .int .i64 pr, .int .i64 ch, .bool vert, .bool four] 23 (by simp)).lt
  go_upto_region 2 with (refine wpList_store_mid rfl 28 _ _ rfl W2.heap.size 0 (D0).cells rfl rfl (newB_there W2 (D0) DL0.out) (infoB' (D0) DL0.out) (isB (D0) DL0.out).one ?_)
  change Code.wp _ _ _ _ ((W2.alloc (.cells Z31 28)).setCells W2.heap.size 0 D0.cells.toList)
  replace s0 := G.newB s0 (d := D0) DL0.out
  generalize (W2.alloc (.cells Z31 28)).setCells W2.heap.size 0 D0.cells.toList = W3 at *
  generalize W2.heap.size = m at *
  have ldm : Hid _ := (s0.blk m D0.cells 28 (by simp)).range
  go_wp2_with (refine wpList_load_want (by kernel_rfl) 28 _ rfl (m) 0 rfl (D0).cells.toList _ ldm.out Try.underlying28 rfl (by rw [Array.length_toList]; exact infoB' _ DL0.out) ?_)
  refine (WN0.out _).mono ?_
  rintro e W4 ⟨rfl, hbq⟩
  replace s0 := s0.on hbq
  clear hbq ldm WN0
  have g23 : W4.cell? ⟨m, 30, none⟩ = some (.int .i64 0) := ((s0.blk m D0.cells 28 (by simp)).cell 30).trans ((isB D0 DL0.out).h30.trans (by rw [E0.out]))
  have qn := q0.out
  clear q0 E0
  go_upto_region 4 with fail
  clear qn g23
  have ldm : Hid _ := (s0.blk m D0.cells 28 (by simp)).range
  go_wp2_with (refine wpList_load_mid rfl 28 _ rfl m 0 rfl (D0).cells.toList _ ldm.out Try.underlying28 rfl (by rw [Array.length_toList]; exact infoB' _ DL0.out) ?_)
  refine (WR.out _).mono ?_
  rintro e W5 ⟨rfl, hbq⟩
  replace s0 := s0.on hbq
  clear hbq ldm WR
  have s3 := s0.setB DL0.out DL1.out (by omega) (by intro p hp; simp only [List.mem_cons, List.not_mem_nil, or_false] at hp; subst hp; dsimp only; omega)
  have stm : Hid _ := setB_there (s0.blk m D0.cells 28 (by simp)) DL0.out DL1.out
  clear s0
  go_upto_region 5 with (refine wpList_store_mid rfl 28 _ _ rfl m 0 d1.cells rfl rfl stm.out (infoB' _ DL1.out) (isB _ DL1.out).one ?_)
  have s0 := s3
  clear s3 stm
  generalize W5.setCells m 0 d1.cells.toList = W6 at *
  have ldm : Hid _ := (s0.blk m d1.cells 28 (by simp)).range
  go_wp2_with (refine wpList_load_mid rfl 28 _ rfl m 0 rfl (d1).cells.toList _ ldm.out Try.underlying28 rfl (by rw [Array.length_toList]; exact infoB' _ DL1.out) ?_)
  refine (WN1.out _).mono ?_
  rintro e W7 ⟨rfl, hbq⟩
  replace s0 := s0.on hbq
  clear hbq ldm WN1
  have g23 : W7.cell? ⟨m, 30, none⟩ = some (.int .i64 1) := ((s0.blk m d1.cells 28 (by simp)).cell 30).trans ((isB d1 DL1.out).h30.trans (by rw [E1.out]))
  have qn := q1.out
  clear q1 E1
  go_upto_region 7 with fail
  clear qn g23
  go_wp2_with (refine wpList_load_mid rfl 23 _ rfl (w.heap.size) 0 rfl (#[.int .i64 mp, .int .i64 sub, .int .i64 ram, .int .i64 nv, .int .i64 pr, .int .i64 ch, .bool vert, .bool four] : Array Value).toList _ (s0.blk (w.heap.size) #[.int .i64 mp, .int .i64 sub, .int .i64 ram, .int .i64 nv, .int .i64 pr, .int .i64 ch, .bool vert, .bool four] 23 (by simp)).range Try.underlying23 rfl (by kernel_rfl) ?_)
  refine (MA.out _).mono ?_
  rintro e W8 ⟨rfl, hbq⟩
  replace s0 := s0.on hbq
  clear hbq MA
  have s3 := s0.setB DL1.out DL.out (by omega) (by intro p hp; simp only [List.mem_cons, List.not_mem_nil, or_false] at hp; subst hp; dsimp only; omega)
  have stm : Hid _ := setB_there (s0.blk m d1.cells 28 (by simp)) DL1.out DL.out
  clear s0
  go_upto_region 8 with (refine wpList_store_mid rfl 28 _ _ rfl m 0 D.cells rfl rfl stm.out (infoB' _ DL.out) (isB _ DL.out).one ?_)
  have s0 := s3
  clear s3 stm
  generalize W8.setCells m 0 D.cells.toList = W9 at *
  have c0 : W9.cell? ⟨w.heap.size, 0, none⟩ = some (.int .i64 mp) := (s0.blk (w.heap.size) #[.int .i64 mp, .int .i64 sub, .int .i64 ram, .int .i64 nv, .int .i64 pr, .int .i64 ch, .bool vert, .bool four] 23 (by simp)).cell 0
  have c1 : W9.cell? ⟨w.heap.size, 1, none⟩ = some (.int .i64 sub) := (s0.blk (w.heap.size) #[.int .i64 mp, .int .i64 sub, .int .i64 ram, .int .i64 nv, .int .i64 pr, .int .i64 ch, .bool vert, .bool four] 23 (by simp)).cell 1
  have c2 : W9.cell? ⟨w.heap.size, 2, none⟩ = some (.int .i64 ram) := (s0.blk (w.heap.size) #[.int .i64 mp, .int .i64 sub, .int .i64 ram, .int .i64 nv, .int .i64 pr, .int .i64 ch, .bool vert, .bool four] 23 (by simp)).cell 2
  have c3 : W9.cell? ⟨w.heap.size, 3, none⟩ = some (.int .i64 nv) := (s0.blk (w.heap.size) #[.int .i64 mp, .int .i64 sub, .int .i64 ram, .int .i64 nv, .int .i64 pr, .int .i64 ch, .bool vert, .bool four] 23 (by simp)).cell 3
  have c4 : W9.cell? ⟨w.heap.size, 4, none⟩ = some (.int .i64 pr) := (s0.blk (w.heap.size) #[.int .i64 mp, .int .i64 sub, .int .i64 ram, .int .i64 nv, .int .i64 pr, .int .i64 ch, .bool vert, .bool four] 23 (by simp)).cell 4
  have c5 : W9.cell? ⟨w.heap.size, 5, none⟩ = some (.int .i64 ch) := (s0.blk (w.heap.size) #[.int .i64 mp, .int .i64 sub, .int .i64 ram, .int .i64 nv, .int .i64 pr, .int .i64 ch, .bool vert, .bool four] 23 (by simp)).cell 5
  have c6 : W9.cell? ⟨w.heap.size, 6, none⟩ = some (.bool vert) := (s0.blk (w.heap.size) #[.int .i64 mp, .int .i64 sub, .int .i64 ram, .int .i64 nv, .int .i64 pr, .int .i64 ch, .bool vert, .bool four] 23 (by simp)).cell 6
  have c7 : W9.cell? ⟨w.heap.size, 7, none⟩ = some (.bool four) := (s0.blk (w.heap.size) #[.int .i64 mp, .int .i64 sub, .int .i64 ram, .int .i64 nv, .int .i64 pr, .int .i64 ch, .bool vert, .bool four] 23 (by simp)).cell 7
  go_wp2_with fail
  refine (CR.out _).mono ?_
  rintro e Wa ⟨rfl, hbq⟩
  replace s0 := s0.on hbq
  clear hbq CR c0 c1 c2 c3 c4 c5 c6 c7
  cases cv
  · clear CV
    go_wp2
    go_ret
    exact ⟨rfl, s0.2⟩
  obtain ⟨OD, ND9⟩ := CV.out rfl
  clear CV
  have EZ : Hid _ := ND9.epoch
  clear ND9
  go_wp2
  go_loopw [7, 8] (fun x i wr => ∃ (k : Nat) (b : Bd) (ep : Int), k ≤ len ∧ i = .int .i64 k ∧ x = .int .i64 ep ∧ b.epoch = ep ∧ 0 ≤ ep ∧ ep ≤ k ∧ (k : Int) ≤ 1099511627776 ∧ b.Ok ∧ G w [(m, b.cells, 28), (w.heap.size, #[.int .i64 mp, .int .i64 sub, .int .i64 ram, .int .i64 nv, .int .i64 pr, .int .i64 ch, .bool vert, .bool four], 23)] wr) (fun _ i _ => len - (intOf i).toNat)
  case atStart => exact ⟨0, D, 0, by omega, rfl, rfl, EZ.out, by omega, by omega, by omega, OD, s0⟩
  case round =>
    clear s0 DL DL0 DL1 OD EZ
    obtain ⟨k, b, ep, hk, rfl, rfl, hep, t0, t1, kb, ob, s0⟩ := hrel
    by_cases hlt : k < len ∧ (k : Int) < 1099511627776
    · have hl2 := hlt.2
      have hlt := hlt.1
      have hd9 : decide ((k : Int) < 1099511627776) = true := decide_eq_true hl2
      obtain ⟨rfl, hsb⟩ := hS.at_ (by omega)
      have R : Hid _ := hS.cells k hlt
      have sok := hS.ok k hlt
      have hSH : Hid (Scr _ _ _ _ _ _) := hS
      clear hS
      generalize q k = s at *
      go_upto_region 14 with fail
      have BL : Hid _ := ob.wf.rlen
      have WB : Hid _ := fun (W : World) => windows_any W b ob
      have ldm : Hid _ := (s0.blk m b.cells 28 (by simp)).range
      go_wp2_with (refine wpList_load_mid rfl 28 _ rfl m 0 rfl (b).cells.toList _ ldm.out Try.underlying28 rfl (by rw [Array.length_toList]; exact infoB' _ BL.out) ?_)
      refine (WB.out _).mono ?_
      rintro e W5 ⟨rfl, hbx⟩
      replace s0 := s0.on hbx
      clear hbx ldm WB
      have th : Hid _ := (Blk.new W5 #[.int .i64 0, .int .i64 0, .int .i64 0, .int .i64 0, .int .i64 0] 53).there (viewC b).size rfl
      have hmw : m < W5.heap.size := (s0.blk m b.cells 28 (by simp)).lt
      go_upto_region 15 with (refine wpList_store_mid rfl 53 _ _ rfl W5.heap.size 0 (viewC b) rfl rfl th.out Try.info5 (by kernel_rfl) ?_)
      change Code.wp _ _ _ _ ((W5.alloc (.cells #[.int .i64 0, .int .i64 0, .int .i64 0, .int .i64 0, .int .i64 0] 53)).setCells W5.heap.size 0 (viewC b).toList)
      have s1 := s0.more (z := .cells #[.int .i64 0, .int .i64 0, .int .i64 0, .int .i64 0, .int .i64 0] 53) ((Blk.new W5 #[.int .i64 0, .int .i64 0, .int .i64 0, .int .i64 0, .int .i64 0] 53).setAll (viewC b) rfl) (setCells_below s0.2.size _ _ _ _ (s0.2.alloc s0.2.size _)) (fun b' cs' t' hb hB => hB.otherCells hb _ _)
      clear s0 th
      generalize (W5.alloc (.cells #[.int .i64 0, .int .i64 0, .int .i64 0, .int .i64 0, .int .i64 0] 53)).setCells W5.heap.size 0 (viewC b).toList = W6 at *
      generalize W5.heap.size = wb at *
      have s0 : G w [(m, b.cells, 28), (wb, viewC b, 53), (w.heap.size, #[.int .i64 mp, .int .i64 sub, .int .i64 ram, .int .i64 nv, .int .i64 pr, .int .i64 ch, .bool vert, .bool four], 23)] W6 := s1.sub (by simp)
      clear s1 BL
      replace s0 := s0.drew
      have BL : Hid _ := ob.wf.rlen
      have DN : Hid _ := fun (W : World) => done_any W b s ob.wf sok
      have od := doneB_ok ob sok
      have fd := doneB_fix b s
      have EP := doneB_epoch ob s (by omega)
      generalize doneB b s = d at *
      obtain ⟨na, hal⟩ : ∃ x, (!alikeB b d) = x := ⟨_, rfl⟩
      have EPH : Hid (d.epoch = ep + if na then 1 else 0) := by unfold Hid; rw [EP, hep, ← hal]; cases alikeB b d <;> rfl
      have HAL : Hid _ := hal
      clear hal EP hep
      have L9 : Hid _ := od.wf.rlen
      refine wp_region_still_tail 5 (by kernel_rfl) (by kernel_rfl) ?_
      simp only [List.take_succ_cons, List.take_zero, List.drop_succ_cons, List.drop_zero]
      change wpStill _ _ W6.drew _ _ _
      have RG : Hid (W6.drew.rangeAt sb (so + k * 6) s.cells.toList) := G.range s0 hsb R.out
      refine stillT (yieldsIf_load_mid (by kernel_rfl) 28 (.tmp 5) rfl m 0 (by kernel_rfl) (b).cells.toList _ (fun v hv => by rw [hv]; exact (s0.blk m (b).cells 28 (by simp)).range) Try.underlying28 rfl (by rw [Array.length_toList]; exact infoB' b BL.out)) ⟨#[.agg #[.int .i64 mp, .int .i64 sub, .int .i64 ram, .int .i64 nv, .int .i64 pr, .int .i64 ch, .bool vert, .bool four], .slice (some ⟨sb, so, none⟩) len cap, .pointer (some ⟨w.heap.size, 0, none⟩), undef, u4, .pointer (some ⟨m, 0, none⟩), .bool true, .int .i64 ep, .int .i64 k, .pointer (some ⟨wb, 0, none⟩), .tuple #[.agg D0.cells, .bool true], .agg #[.int .i64 2, .int .i64 0, .int .i64 0, .int .i64 0, .int .i64 65536, .int .i64 0, .bool false, .bool false], .tuple #[.agg D0.cells, .bool true], .agg D0.cells, .bool true, .bool true, .bool false, .bool false, .agg D0.cells, .agg #[.int .i64 0, .int .i64 1, .int .i64 6, .int .i64 7, .int .i64 0], .agg #[.int .i64 0, .int .i64 1, .int .i64 6, .int .i64 7, .int .i64 0], .bool false, .bool false, .bool false, .pointer (some ⟨m, 30, none⟩), .int .i64 0, .bool false, .bool false, .agg D0.cells, .agg d1.cells, .agg d1.cells, .agg #[.int .i64 4, .int .i64 5, .int .i64 6, .int .i64 7, .int .i64 0], .agg #[.int .i64 4, .int .i64 5, .int .i64 6, .int .i64 7, .int .i64 0], .bool false, .bool false, .pointer (some ⟨m, 30, none⟩), .int .i64 1, .bool false, .bool false, .tuple #[.agg D.cells, .bool true], .agg #[.int .i64 mp, .int .i64 sub, .int .i64 ram, .int .i64 nv, .int .i64 pr, .int .i64 ch, .bool vert, .bool four], .tuple #[.agg D.cells, .bool true], .agg D.cells, .bool true, .bool true, .bool false, .bool false, .agg #[.int .i64 mp, .int .i64 sub, .int .i64 ram, .int .i64 nv, .int .i64 pr, .int .i64 ch, .bool vert, .bool four], .bool true, .bool false, .bool false, undef, .int .i64 k, .slice (some ⟨sb, so, none⟩) len cap, .int .i64 len, .bool true, .bool true, .int .i64 k, .bool true, .bool true, u60, u61, .agg b.cells, .agg (viewC b), .agg (b).cells, u65, u66, u67, u68, u69, u70, u71, u72, u73, u74, u75, u76, u77, u78, u79], []⟩ (by kernel_rfl) ?_
      refine stillT (v := .slice (some ⟨sb, so, none⟩) len cap) (.inl ⟨by kernel_rfl, fun _ _ => by kernel_rfl⟩) ⟨#[.agg #[.int .i64 mp, .int .i64 sub, .int .i64 ram, .int .i64 nv, .int .i64 pr, .int .i64 ch, .bool vert, .bool four], .slice (some ⟨sb, so, none⟩) len cap, .pointer (some ⟨w.heap.size, 0, none⟩), undef, u4, .pointer (some ⟨m, 0, none⟩), .bool true, .int .i64 ep, .int .i64 k, .pointer (some ⟨wb, 0, none⟩), .tuple #[.agg D0.cells, .bool true], .agg #[.int .i64 2, .int .i64 0, .int .i64 0, .int .i64 0, .int .i64 65536, .int .i64 0, .bool false, .bool false], .tuple #[.agg D0.cells, .bool true], .agg D0.cells, .bool true, .bool true, .bool false, .bool false, .agg D0.cells, .agg #[.int .i64 0, .int .i64 1, .int .i64 6, .int .i64 7, .int .i64 0], .agg #[.int .i64 0, .int .i64 1, .int .i64 6, .int .i64 7, .int .i64 0], .bool false, .bool false, .bool false, .pointer (some ⟨m, 30, none⟩), .int .i64 0, .bool false, .bool false, .agg D0.cells, .agg d1.cells, .agg d1.cells, .agg #[.int .i64 4, .int .i64 5, .int .i64 6, .int .i64 7, .int .i64 0], .agg #[.int .i64 4, .int .i64 5, .int .i64 6, .int .i64 7, .int .i64 0], .bool false, .bool false, .pointer (some ⟨m, 30, none⟩), .int .i64 1, .bool false, .bool false, .tuple #[.agg D.cells, .bool true], .agg #[.int .i64 mp, .int .i64 sub, .int .i64 ram, .int .i64 nv, .int .i64 pr, .int .i64 ch, .bool vert, .bool four], .tuple #[.agg D.cells, .bool true], .agg D.cells, .bool true, .bool true, .bool false, .bool false, .agg #[.int .i64 mp, .int .i64 sub, .int .i64 ram, .int .i64 nv, .int .i64 pr, .int .i64 ch, .bool vert, .bool four], .bool true, .bool false, .bool false, undef, .int .i64 k, .slice (some ⟨sb, so, none⟩) len cap, .int .i64 len, .bool true, .bool true, .int .i64 k, .bool true, .bool true, u60, u61, .agg b.cells, .agg (viewC b), .agg (b).cells, .slice (some ⟨sb, so, none⟩) len cap, u66, u67, u68, u69, u70, u71, u72, u73, u74, u75, u76, u77, u78, u79], []⟩ (by kernel_rfl) ?_
      refine stillT (v := .int .i64 k) (.inl ⟨by kernel_rfl, fun _ _ => by kernel_rfl⟩) ⟨#[.agg #[.int .i64 mp, .int .i64 sub, .int .i64 ram, .int .i64 nv, .int .i64 pr, .int .i64 ch, .bool vert, .bool four], .slice (some ⟨sb, so, none⟩) len cap, .pointer (some ⟨w.heap.size, 0, none⟩), undef, u4, .pointer (some ⟨m, 0, none⟩), .bool true, .int .i64 ep, .int .i64 k, .pointer (some ⟨wb, 0, none⟩), .tuple #[.agg D0.cells, .bool true], .agg #[.int .i64 2, .int .i64 0, .int .i64 0, .int .i64 0, .int .i64 65536, .int .i64 0, .bool false, .bool false], .tuple #[.agg D0.cells, .bool true], .agg D0.cells, .bool true, .bool true, .bool false, .bool false, .agg D0.cells, .agg #[.int .i64 0, .int .i64 1, .int .i64 6, .int .i64 7, .int .i64 0], .agg #[.int .i64 0, .int .i64 1, .int .i64 6, .int .i64 7, .int .i64 0], .bool false, .bool false, .bool false, .pointer (some ⟨m, 30, none⟩), .int .i64 0, .bool false, .bool false, .agg D0.cells, .agg d1.cells, .agg d1.cells, .agg #[.int .i64 4, .int .i64 5, .int .i64 6, .int .i64 7, .int .i64 0], .agg #[.int .i64 4, .int .i64 5, .int .i64 6, .int .i64 7, .int .i64 0], .bool false, .bool false, .pointer (some ⟨m, 30, none⟩), .int .i64 1, .bool false, .bool false, .tuple #[.agg D.cells, .bool true], .agg #[.int .i64 mp, .int .i64 sub, .int .i64 ram, .int .i64 nv, .int .i64 pr, .int .i64 ch, .bool vert, .bool four], .tuple #[.agg D.cells, .bool true], .agg D.cells, .bool true, .bool true, .bool false, .bool false, .agg #[.int .i64 mp, .int .i64 sub, .int .i64 ram, .int .i64 nv, .int .i64 pr, .int .i64 ch, .bool vert, .bool four], .bool true, .bool false, .bool false, undef, .int .i64 k, .slice (some ⟨sb, so, none⟩) len cap, .int .i64 len, .bool true, .bool true, .int .i64 k, .bool true, .bool true, u60, u61, .agg b.cells, .agg (viewC b), .agg (b).cells, .slice (some ⟨sb, so, none⟩) len cap, .int .i64 k, u67, u68, u69, u70, u71, u72, u73, u74, u75, u76, u77, u78, u79], []⟩ (by kernel_rfl) ?_
      refine stillT (v := .pointer (some ⟨sb, so + k * 6, none⟩)) (.inl ⟨by kernel_rfl, fun _ _ => exec_idx (cap := cap) rfl (by kernel_rfl) (by kernel_rfl) hlt⟩) ⟨#[.agg #[.int .i64 mp, .int .i64 sub, .int .i64 ram, .int .i64 nv, .int .i64 pr, .int .i64 ch, .bool vert, .bool four], .slice (some ⟨sb, so, none⟩) len cap, .pointer (some ⟨w.heap.size, 0, none⟩), undef, u4, .pointer (some ⟨m, 0, none⟩), .bool true, .int .i64 ep, .int .i64 k, .pointer (some ⟨wb, 0, none⟩), .tuple #[.agg D0.cells, .bool true], .agg #[.int .i64 2, .int .i64 0, .int .i64 0, .int .i64 0, .int .i64 65536, .int .i64 0, .bool false, .bool false], .tuple #[.agg D0.cells, .bool true], .agg D0.cells, .bool true, .bool true, .bool false, .bool false, .agg D0.cells, .agg #[.int .i64 0, .int .i64 1, .int .i64 6, .int .i64 7, .int .i64 0], .agg #[.int .i64 0, .int .i64 1, .int .i64 6, .int .i64 7, .int .i64 0], .bool false, .bool false, .bool false, .pointer (some ⟨m, 30, none⟩), .int .i64 0, .bool false, .bool false, .agg D0.cells, .agg d1.cells, .agg d1.cells, .agg #[.int .i64 4, .int .i64 5, .int .i64 6, .int .i64 7, .int .i64 0], .agg #[.int .i64 4, .int .i64 5, .int .i64 6, .int .i64 7, .int .i64 0], .bool false, .bool false, .pointer (some ⟨m, 30, none⟩), .int .i64 1, .bool false, .bool false, .tuple #[.agg D.cells, .bool true], .agg #[.int .i64 mp, .int .i64 sub, .int .i64 ram, .int .i64 nv, .int .i64 pr, .int .i64 ch, .bool vert, .bool four], .tuple #[.agg D.cells, .bool true], .agg D.cells, .bool true, .bool true, .bool false, .bool false, .agg #[.int .i64 mp, .int .i64 sub, .int .i64 ram, .int .i64 nv, .int .i64 pr, .int .i64 ch, .bool vert, .bool four], .bool true, .bool false, .bool false, undef, .int .i64 k, .slice (some ⟨sb, so, none⟩) len cap, .int .i64 len, .bool true, .bool true, .int .i64 k, .bool true, .bool true, u60, u61, .agg b.cells, .agg (viewC b), .agg (b).cells, .slice (some ⟨sb, so, none⟩) len cap, .int .i64 k, .pointer (some ⟨sb, so + k * 6, none⟩), u68, u69, u70, u71, u72, u73, u74, u75, u76, u77, u78, u79], []⟩ (by kernel_rfl) ?_
      refine stillT (yieldsIf_load_mid (by kernel_rfl) 34 (.tmp 67) rfl sb (so + k * 6) (by kernel_rfl) s.cells.toList _ (fun v hv => by rw [hv]; exact RG.out) Try.underlying34 rfl (by exact infoSp)) ⟨#[.agg #[.int .i64 mp, .int .i64 sub, .int .i64 ram, .int .i64 nv, .int .i64 pr, .int .i64 ch, .bool vert, .bool four], .slice (some ⟨sb, so, none⟩) len cap, .pointer (some ⟨w.heap.size, 0, none⟩), undef, u4, .pointer (some ⟨m, 0, none⟩), .bool true, .int .i64 ep, .int .i64 k, .pointer (some ⟨wb, 0, none⟩), .tuple #[.agg D0.cells, .bool true], .agg #[.int .i64 2, .int .i64 0, .int .i64 0, .int .i64 0, .int .i64 65536, .int .i64 0, .bool false, .bool false], .tuple #[.agg D0.cells, .bool true], .agg D0.cells, .bool true, .bool true, .bool false, .bool false, .agg D0.cells, .agg #[.int .i64 0, .int .i64 1, .int .i64 6, .int .i64 7, .int .i64 0], .agg #[.int .i64 0, .int .i64 1, .int .i64 6, .int .i64 7, .int .i64 0], .bool false, .bool false, .bool false, .pointer (some ⟨m, 30, none⟩), .int .i64 0, .bool false, .bool false, .agg D0.cells, .agg d1.cells, .agg d1.cells, .agg #[.int .i64 4, .int .i64 5, .int .i64 6, .int .i64 7, .int .i64 0], .agg #[.int .i64 4, .int .i64 5, .int .i64 6, .int .i64 7, .int .i64 0], .bool false, .bool false, .pointer (some ⟨m, 30, none⟩), .int .i64 1, .bool false, .bool false, .tuple #[.agg D.cells, .bool true], .agg #[.int .i64 mp, .int .i64 sub, .int .i64 ram, .int .i64 nv, .int .i64 pr, .int .i64 ch, .bool vert, .bool four], .tuple #[.agg D.cells, .bool true], .agg D.cells, .bool true, .bool true, .bool false, .bool false, .agg #[.int .i64 mp, .int .i64 sub, .int .i64 ram, .int .i64 nv, .int .i64 pr, .int .i64 ch, .bool vert, .bool four], .bool true, .bool false, .bool false, undef, .int .i64 k, .slice (some ⟨sb, so, none⟩) len cap, .int .i64 len, .bool true, .bool true, .int .i64 k, .bool true, .bool true, u60, u61, .agg b.cells, .agg (viewC b), .agg (b).cells, .slice (some ⟨sb, so, none⟩) len cap, .int .i64 k, .pointer (some ⟨sb, so + k * 6, none⟩), .agg s.cells, u69, u70, u71, u72, u73, u74, u75, u76, u77, u78, u79], []⟩ (by kernel_rfl) ?_
      refine wpStill_nil ?_
      clear RG
      go_wp2_with fail
      refine (DN.out _).mono ?_
      rintro e W8 ⟨rfl, hb8⟩
      replace s0 := s0.on hb8
      clear hb8 DN
      have s3 := s0.setB BL.out L9.out (by omega) (by intro p hp; simp only [List.mem_cons, List.not_mem_nil, or_false] at hp; rcases hp with rfl | rfl <;> (dsimp only; omega))
      have stm : Hid _ := setB_there (s0.blk m b.cells 28 (by simp)) BL.out L9.out
      clear s0
      go_upto_region 16 with (refine wpList_store_mid rfl 28 _ _ rfl m 0 d.cells rfl rfl stm.out (infoB' _ L9.out) (isB _ L9.out).one ?_)
      have s0 := s3
      clear s3 stm BL
      generalize W8.setCells m 0 d.cells.toList = W9 at *
      have WD : Hid _ := fun (W : World) => windows_any W d od
      have OZ : Hid _ := od
      clear od fd ob
      replace s0 := s0.drew
      refine wp_region_held (S := G w [(m, d.cells, 28), (wb, viewC b, 53), (w.heap.size, #[.int .i64 mp, .int .i64 sub, .int .i64 ram, .int .i64 nv, .int .i64 pr, .int .i64 ch, .bool vert, .bool four], 23)]) (by kernel_rfl) ?_
      refine takeH (i := 0) (v := .agg (d).cells.toList.toArray) ⟨#[.agg #[.int .i64 mp, .int .i64 sub, .int .i64 ram, .int .i64 nv, .int .i64 pr, .int .i64 ch, .bool vert, .bool four], .slice (some ⟨sb, so, none⟩) len cap, .pointer (some ⟨w.heap.size, 0, none⟩), undef, u4, .pointer (some ⟨m, 0, none⟩), .bool true, .int .i64 ep, .int .i64 k, .pointer (some ⟨wb, 0, none⟩), .tuple #[.agg D0.cells, .bool true], .agg #[.int .i64 2, .int .i64 0, .int .i64 0, .int .i64 0, .int .i64 65536, .int .i64 0, .bool false, .bool false], .tuple #[.agg D0.cells, .bool true], .agg D0.cells, .bool true, .bool true, .bool false, .bool false, .agg D0.cells, .agg #[.int .i64 0, .int .i64 1, .int .i64 6, .int .i64 7, .int .i64 0], .agg #[.int .i64 0, .int .i64 1, .int .i64 6, .int .i64 7, .int .i64 0], .bool false, .bool false, .bool false, .pointer (some ⟨m, 30, none⟩), .int .i64 0, .bool false, .bool false, .agg D0.cells, .agg d1.cells, .agg d1.cells, .agg #[.int .i64 4, .int .i64 5, .int .i64 6, .int .i64 7, .int .i64 0], .agg #[.int .i64 4, .int .i64 5, .int .i64 6, .int .i64 7, .int .i64 0], .bool false, .bool false, .pointer (some ⟨m, 30, none⟩), .int .i64 1, .bool false, .bool false, .tuple #[.agg D.cells, .bool true], .agg #[.int .i64 mp, .int .i64 sub, .int .i64 ram, .int .i64 nv, .int .i64 pr, .int .i64 ch, .bool vert, .bool four], .tuple #[.agg D.cells, .bool true], .agg D.cells, .bool true, .bool true, .bool false, .bool false, .agg #[.int .i64 mp, .int .i64 sub, .int .i64 ram, .int .i64 nv, .int .i64 pr, .int .i64 ch, .bool vert, .bool four], .bool true, .bool false, .bool false, undef, .int .i64 k, .slice (some ⟨sb, so, none⟩) len cap, .int .i64 len, .bool true, .bool true, .int .i64 k, .bool true, .bool true, u60, u61, .agg b.cells, .agg (viewC b), .agg (b).cells, .slice (some ⟨sb, so, none⟩) len cap, .int .i64 k, .pointer (some ⟨sb, so + k * 6, none⟩), .agg s.cells, .agg d.cells, .agg (d).cells, u71, u72, u73, u74, u75, u76, u77, u78, u79], []⟩ rfl (by kernel_rfl) (by kernel_rfl) (by kernel_rfl) (fun _ _ _ h => h) (yieldsIf_load_mid (by kernel_rfl) 28 (.tmp 5) rfl m 0 (by kernel_rfl) (d).cells.toList _ (fun v hv => Blk.range (hv.blk m (d).cells 28 (by simp))) Try.underlying28 rfl (by rw [Array.length_toList]; exact infoB' d L9.out)) s0 (by kernel_rfl) ?_
      refine takeH (i := 2) (v := .agg (viewC b).toList.toArray) ⟨#[.agg #[.int .i64 mp, .int .i64 sub, .int .i64 ram, .int .i64 nv, .int .i64 pr, .int .i64 ch, .bool vert, .bool four], .slice (some ⟨sb, so, none⟩) len cap, .pointer (some ⟨w.heap.size, 0, none⟩), undef, u4, .pointer (some ⟨m, 0, none⟩), .bool true, .int .i64 ep, .int .i64 k, .pointer (some ⟨wb, 0, none⟩), .tuple #[.agg D0.cells, .bool true], .agg #[.int .i64 2, .int .i64 0, .int .i64 0, .int .i64 0, .int .i64 65536, .int .i64 0, .bool false, .bool false], .tuple #[.agg D0.cells, .bool true], .agg D0.cells, .bool true, .bool true, .bool false, .bool false, .agg D0.cells, .agg #[.int .i64 0, .int .i64 1, .int .i64 6, .int .i64 7, .int .i64 0], .agg #[.int .i64 0, .int .i64 1, .int .i64 6, .int .i64 7, .int .i64 0], .bool false, .bool false, .bool false, .pointer (some ⟨m, 30, none⟩), .int .i64 0, .bool false, .bool false, .agg D0.cells, .agg d1.cells, .agg d1.cells, .agg #[.int .i64 4, .int .i64 5, .int .i64 6, .int .i64 7, .int .i64 0], .agg #[.int .i64 4, .int .i64 5, .int .i64 6, .int .i64 7, .int .i64 0], .bool false, .bool false, .pointer (some ⟨m, 30, none⟩), .int .i64 1, .bool false, .bool false, .tuple #[.agg D.cells, .bool true], .agg #[.int .i64 mp, .int .i64 sub, .int .i64 ram, .int .i64 nv, .int .i64 pr, .int .i64 ch, .bool vert, .bool four], .tuple #[.agg D.cells, .bool true], .agg D.cells, .bool true, .bool true, .bool false, .bool false, .agg #[.int .i64 mp, .int .i64 sub, .int .i64 ram, .int .i64 nv, .int .i64 pr, .int .i64 ch, .bool vert, .bool four], .bool true, .bool false, .bool false, undef, .int .i64 k, .slice (some ⟨sb, so, none⟩) len cap, .int .i64 len, .bool true, .bool true, .int .i64 k, .bool true, .bool true, u60, u61, .agg b.cells, .agg (viewC b), .agg (b).cells, .slice (some ⟨sb, so, none⟩) len cap, .int .i64 k, .pointer (some ⟨sb, so + k * 6, none⟩), .agg s.cells, .agg d.cells, .agg (d).cells, u71, .agg (viewC b), u73, u74, u75, u76, u77, u78, u79], []⟩ rfl (by kernel_rfl) (by kernel_rfl) (by kernel_rfl) (fun _ _ _ h => h) (yieldsIf_load_mid (by kernel_rfl) 53 (.tmp 9) rfl wb 0 (by kernel_rfl) (viewC b).toList _ (fun v hv => Blk.range (hv.blk wb (viewC b) 53 (by simp))) Try.underlying53 rfl (by rw [Array.length_toList]; exact Try.info5)) s0 (by kernel_rfl) ?_
      refine wpAnyH_all (rs := [1]) (by kernel_rfl) (by simp) ?_
      intro i hi
      obtain rfl : i = 1 := by simpa using hi
      refine wpOp_contract (f := 27) rfl (by kernel_rfl) (by kernel_rfl) (WD.out _) ⟨#[.agg #[.int .i64 mp, .int .i64 sub, .int .i64 ram, .int .i64 nv, .int .i64 pr, .int .i64 ch, .bool vert, .bool four], .slice (some ⟨sb, so, none⟩) len cap, .pointer (some ⟨w.heap.size, 0, none⟩), undef, u4, .pointer (some ⟨m, 0, none⟩), .bool true, .int .i64 ep, .int .i64 k, .pointer (some ⟨wb, 0, none⟩), .tuple #[.agg D0.cells, .bool true], .agg #[.int .i64 2, .int .i64 0, .int .i64 0, .int .i64 0, .int .i64 65536, .int .i64 0, .bool false, .bool false], .tuple #[.agg D0.cells, .bool true], .agg D0.cells, .bool true, .bool true, .bool false, .bool false, .agg D0.cells, .agg #[.int .i64 0, .int .i64 1, .int .i64 6, .int .i64 7, .int .i64 0], .agg #[.int .i64 0, .int .i64 1, .int .i64 6, .int .i64 7, .int .i64 0], .bool false, .bool false, .bool false, .pointer (some ⟨m, 30, none⟩), .int .i64 0, .bool false, .bool false, .agg D0.cells, .agg d1.cells, .agg d1.cells, .agg #[.int .i64 4, .int .i64 5, .int .i64 6, .int .i64 7, .int .i64 0], .agg #[.int .i64 4, .int .i64 5, .int .i64 6, .int .i64 7, .int .i64 0], .bool false, .bool false, .pointer (some ⟨m, 30, none⟩), .int .i64 1, .bool false, .bool false, .tuple #[.agg D.cells, .bool true], .agg #[.int .i64 mp, .int .i64 sub, .int .i64 ram, .int .i64 nv, .int .i64 pr, .int .i64 ch, .bool vert, .bool four], .tuple #[.agg D.cells, .bool true], .agg D.cells, .bool true, .bool true, .bool false, .bool false, .agg #[.int .i64 mp, .int .i64 sub, .int .i64 ram, .int .i64 nv, .int .i64 pr, .int .i64 ch, .bool vert, .bool four], .bool true, .bool false, .bool false, undef, .int .i64 k, .slice (some ⟨sb, so, none⟩) len cap, .int .i64 len, .bool true, .bool true, .int .i64 k, .bool true, .bool true, u60, u61, .agg b.cells, .agg (viewC b), .agg (b).cells, .slice (some ⟨sb, so, none⟩) len cap, .int .i64 k, .pointer (some ⟨sb, so + k * 6, none⟩), .agg s.cells, .agg d.cells, .agg (d).cells, .agg (viewC d), .agg (viewC b), u73, u74, u75, u76, u77, u78, u79], []⟩ (by kernel_rfl) ?_
      intro Wq1 hbq1
      have sq1 := s0.on hbq1
      clear hi hbq1
      refine ⟨sq1, ?_⟩
      refine takeH (i := 3) (v := .bool na) ⟨#[.agg #[.int .i64 mp, .int .i64 sub, .int .i64 ram, .int .i64 nv, .int .i64 pr, .int .i64 ch, .bool vert, .bool four], .slice (some ⟨sb, so, none⟩) len cap, .pointer (some ⟨w.heap.size, 0, none⟩), undef, u4, .pointer (some ⟨m, 0, none⟩), .bool true, .int .i64 ep, .int .i64 k, .pointer (some ⟨wb, 0, none⟩), .tuple #[.agg D0.cells, .bool true], .agg #[.int .i64 2, .int .i64 0, .int .i64 0, .int .i64 0, .int .i64 65536, .int .i64 0, .bool false, .bool false], .tuple #[.agg D0.cells, .bool true], .agg D0.cells, .bool true, .bool true, .bool false, .bool false, .agg D0.cells, .agg #[.int .i64 0, .int .i64 1, .int .i64 6, .int .i64 7, .int .i64 0], .agg #[.int .i64 0, .int .i64 1, .int .i64 6, .int .i64 7, .int .i64 0], .bool false, .bool false, .bool false, .pointer (some ⟨m, 30, none⟩), .int .i64 0, .bool false, .bool false, .agg D0.cells, .agg d1.cells, .agg d1.cells, .agg #[.int .i64 4, .int .i64 5, .int .i64 6, .int .i64 7, .int .i64 0], .agg #[.int .i64 4, .int .i64 5, .int .i64 6, .int .i64 7, .int .i64 0], .bool false, .bool false, .pointer (some ⟨m, 30, none⟩), .int .i64 1, .bool false, .bool false, .tuple #[.agg D.cells, .bool true], .agg #[.int .i64 mp, .int .i64 sub, .int .i64 ram, .int .i64 nv, .int .i64 pr, .int .i64 ch, .bool vert, .bool four], .tuple #[.agg D.cells, .bool true], .agg D.cells, .bool true, .bool true, .bool false, .bool false, .agg #[.int .i64 mp, .int .i64 sub, .int .i64 ram, .int .i64 nv, .int .i64 pr, .int .i64 ch, .bool vert, .bool four], .bool true, .bool false, .bool false, undef, .int .i64 k, .slice (some ⟨sb, so, none⟩) len cap, .int .i64 len, .bool true, .bool true, .int .i64 k, .bool true, .bool true, u60, u61, .agg b.cells, .agg (viewC b), .agg (b).cells, .slice (some ⟨sb, so, none⟩) len cap, .int .i64 k, .pointer (some ⟨sb, so + k * 6, none⟩), .agg s.cells, .agg d.cells, .agg (d).cells, .agg (viewC d), .agg (viewC b), .bool na, u74, u75, u76, u77, u78, u79], []⟩ rfl (by kernel_rfl) (by kernel_rfl) (by kernel_rfl) (fun _ _ _ h => h) (.inl ⟨by kernel_rfl, fun v _ => exec_neqW (a := d) (b := b) rfl (by kernel_rfl) (by kernel_rfl) HAL.out⟩) sq1 (by kernel_rfl) ?_
      refine wpAnyH_done (by kernel_rfl) ?_ _
      have s9 := sq1
      clear sq1 WD
      have hk9 : (k : Int) + 1 ≤ 9223372036854775807 := by omega
      have he9 : ep + 1 ≤ 9223372036854775807 := by omega
      clear HAL
      rcases (show na = true ∨ na = false by cases na <;> simp) with rfl | rfl
      · have e9 : d.epoch = ep + 1 := by rw [EPH.out]; simp
        have g23 : _ = some (Value.int .i64 (ep + 1)) := ((s9.blk m d.cells 28 (by simp)).cell 30).trans ((isB d L9.out).h30.trans (by rw [e9]))
        have E9 : Hid _ := e9
        have sH : Hid (G _ _ _) := s9
        clear s9 e9 EPH
        go_wp2
        go_roundw
        case rel => first | exact ⟨k + 1, d, ep + 1, by omega, by go_num, rfl, E9.out, by omega, by omega, by omega, OZ.out, G.sub sH.out (by simp)⟩ | ((repeat apply Exists.intro); refine ⟨?_, rfl⟩; exact ⟨k + 1, d, ep + 1, by omega, by go_num, rfl, E9.out, by omega, by omega, by omega, OZ.out, G.sub sH.out (by simp)⟩)
        case measure => simp [intOf]; omega
      · have e9 : d.epoch = ep := by rw [EPH.out]; simp
        have g23 : _ = some (Value.int .i64 (ep)) := ((s9.blk m d.cells 28 (by simp)).cell 30).trans ((isB d L9.out).h30.trans (by rw [e9]))
        have E9 : Hid _ := e9
        have sH : Hid (G _ _ _) := s9
        clear s9 e9 EPH
        go_wp2
        go_roundw
        case rel => first | exact ⟨k + 1, d, ep, by omega, by go_num, rfl, E9.out, by omega, by omega, by omega, OZ.out, G.sub sH.out (by simp)⟩ | ((repeat apply Exists.intro); refine ⟨?_, rfl⟩; exact ⟨k + 1, d, ep, by omega, by go_num, rfl, E9.out, by omega, by omega, by omega, OZ.out, G.sub sH.out (by simp)⟩)
        case measure => simp [intOf]; omega
    · have hcase : k = len ∨ (k < len ∧ (k : Int) = 1099511627776) := by omega
      rcases hcase with rfl | ⟨h1, h2⟩
      · go_wp2
        go_ret
        exact ⟨rfl, s0.2⟩
      · have hd8 : decide ((k : Int) < len) = true := decide_eq_true (by omega)
        have hd9 : decide ((k : Int) < 1099511627776) = false := decide_eq_false (by omega)
        clear h2
        go_wp2
        go_ret
        exact ⟨rfl, s0.2⟩
end Go.Proofs.Ytggphgmpdanliaa
