/-
  The law MapperPlays returns true.
-/
import Derived.Test.YtggphgmpdanliaaZLaw
import Derived.Test.YtggphgmpdanliaaZDone
import Derived.Test.YtggphgmpdanliaaYSeen
import Derived.Test.YtggphgmpdanliaaYRW3
import Derived.Test.YtggphgmpdanliaaYArg2
set_option linter.unusedSimpArgs false
set_option linter.unusedVariables false
namespace Go.Proofs.Ytggphgmpdanliaa
open Go.RowKit Classical
set_option maxRecDepth 100000 in
set_option maxHeartbeats 1000000 in
theorem plays_law (w : World) (mp sub ram nv pr ch : Int) (vert four : Bool) (hpr : -9223372036854775808 ≤ pr ∧ pr ≤ 9223372036854775807) (hch : -9223372036854775808 ≤ ch ∧ ch ≤ 9223372036854775807) (a : Option Addr) (len cap : Nat) (q : Nat → Sp) (sb so : Nat) (hlen : len ≤ 9223372036854775807) (hS : Scr w a len q sb so) :
    Calls Try.prog 14 #[.agg #[.int .i64 mp, .int .i64 sub, .int .i64 ram, .int .i64 nv, .int .i64 pr, .int .i64 ch, .bool vert, .bool four], .slice a len cap] w fun e w' => e = .returned (.bool true) ∧ Below w.heap.size w w' := by
  have K1 : Hid _ := fun (W : World) => cartridge_any mp sub ram nv pr ch vert four W hpr hch
  have pb : (pr % 1081344).toNat ≤ 2000000 := by omega
  have cb : (ch % 540672).toNat ≤ 2000000 := by omega
  have NW : Hid _ := fun (cs : Array Value) (x1 x2 : Option Addr) (k1 k2 : Nat) (C : IsN cs mp sub ram nv vert four x1 x2 (pr % 1081344).toNat (ch % 540672).toNat k1 k2) (W : World) => new_any cs mp sub ram nv vert four x1 x2 _ _ k1 k2 C W pb cb
  have NR : Hid _ := fun (cs : Array Value) (x1 x2 : Option Addr) (k1 k2 : Nat) (C : IsN cs mp sub ram nv vert four x1 x2 (pr % 1081344).toNat (ch % 540672).toNat k1 k2) (W : World) => rnew_any cs mp sub ram nv vert four x1 x2 _ _ k1 k2 C W pb cb
  have DW := newD_wf mp sub ram nv vert four (pr % 1081344).toNat (ch % 540672).toNat
  obtain ⟨D, hD⟩ : ∃ D, newD mp sub ram nv vert four (pr % 1081344).toNat (ch % 540672).toNat = D := ⟨_, rfl⟩
  obtain ⟨ev, hev⟩ : ∃ x, newE mp sub (pr % 1081344).toNat (ch % 540672).toNat = x := ⟨_, rfl⟩
  rw [hD, hev] at NW NR DW
  obtain ⟨DW, DV⟩ := DW
  have DL : Hid (D.r.length = 8) := DW.rlen
  have DWH : Hid _ := DW
  have DVH : Hid _ := DV
  clear hD hev pb cb hpr hch DW DV
  go_enter Try.func14, Try.ntmps14
  go_upto_region 1 with fail
  have s0 : G w [(w.heap.size, #[.int .i64 mp, .int .i64 sub, .int .i64 ram, .int .i64 nv, .int .i64 pr, .int .i64 ch, .bool vert, .bool four], 23)] (w.alloc (.cells #[.int .i64 mp, .int .i64 sub, .int .i64 ram, .int .i64 nv, .int .i64 pr, .int .i64 ch, .bool vert, .bool four] 23)) := G.start w _ _
  generalize w.alloc (.cells #[.int .i64 mp, .int .i64 sub, .int .i64 ram, .int .i64 nv, .int .i64 pr, .int .i64 ch, .bool vert, .bool four] 23) = W0 at *
  go_wp2_with (refine wpList_load_mid rfl 23 _ rfl (w.heap.size) 0 rfl (#[.int .i64 mp, .int .i64 sub, .int .i64 ram, .int .i64 nv, .int .i64 pr, .int .i64 ch, .bool vert, .bool four] : Array Value).toList _ (s0.blk (w.heap.size) #[.int .i64 mp, .int .i64 sub, .int .i64 ram, .int .i64 nv, .int .i64 pr, .int .i64 ch, .bool vert, .bool four] 23 (by simp)).range Try.underlying23 rfl (by kernel_rfl) ?_)
  refine (K1.out _).mono ?_
  rintro e Wa ⟨ccm1, x1, x2, k1, k2, rfl, CC, hbq⟩
  replace s0 := s0.on hbq
  have NC : Hid _ := fun W => NW.out ccm1 x1 x2 k1 k2 CC W
  clear hbq CC
  go_wp2_with fail
  refine (NC.out _).mono ?_
  rintro e W2 ⟨rfl, hbq⟩
  replace s0 := s0.on hbq
  clear hbq NC
  have hlm1 : w.heap.size < W2.heap.size := (s0.blk (w.heap.size) #[.int .i64 mp, .int .i64 sub, .int .i64 ram, .int .i64 nv, .int .i64 pr, .int .i64 ch, .bool vert, .bool four] 23 (by simp)).lt
  go_upto_region 2 with (refine wpList_store_mid rfl 28 _ _ rfl W2.heap.size 0 (D).cells rfl rfl (newB_there W2 (D) DL.out) (infoB' (D) DL.out) (isB (D) DL.out).one ?_)
  change Code.wp _ _ _ _ ((W2.alloc (.cells Z31 28)).setCells W2.heap.size 0 D.cells.toList)
  replace s0 := G.newB s0 (d := D) DL.out
  generalize (W2.alloc (.cells Z31 28)).setCells W2.heap.size 0 D.cells.toList = W2n at *
  generalize W2.heap.size = m1 at *
  go_wp2_with (refine wpList_load_mid rfl 23 _ rfl (w.heap.size) 0 rfl (#[.int .i64 mp, .int .i64 sub, .int .i64 ram, .int .i64 nv, .int .i64 pr, .int .i64 ch, .bool vert, .bool four] : Array Value).toList _ (s0.blk (w.heap.size) #[.int .i64 mp, .int .i64 sub, .int .i64 ram, .int .i64 nv, .int .i64 pr, .int .i64 ch, .bool vert, .bool four] 23 (by simp)).range Try.underlying23 rfl (by kernel_rfl) ?_)
  refine (K1.out _).mono ?_
  rintro e Wa ⟨ccm2, x1, x2, k1, k2, rfl, CC, hbq⟩
  replace s0 := s0.on hbq
  have NC : Hid _ := fun W => NR.out ccm2 x1 x2 k1 k2 CC W
  clear hbq CC
  go_wp2_with fail
  refine (NC.out _).mono ?_
  rintro e W4 ⟨rfl, hbq⟩
  replace s0 := s0.on hbq
  clear hbq NC
  have hm12 : m1 < W4.heap.size := (s0.blk m1 D.cells 28 (by simp)).lt
  have hlm2 : w.heap.size < W4.heap.size := (s0.blk (w.heap.size) #[.int .i64 mp, .int .i64 sub, .int .i64 ram, .int .i64 nv, .int .i64 pr, .int .i64 ch, .bool vert, .bool four] 23 (by simp)).lt
  go_upto_region 3 with (refine wpList_store_mid rfl 28 _ _ rfl W4.heap.size 0 (D).cells rfl rfl (newB_there W4 (D) DL.out) (infoB' (D) DL.out) (isB (D) DL.out).one ?_)
  change Code.wp _ _ _ _ ((W4.alloc (.cells Z31 28)).setCells W4.heap.size 0 D.cells.toList)
  replace s0 := G.newB s0 (d := D) DL.out
  generalize (W4.alloc (.cells Z31 28)).setCells W4.heap.size 0 D.cells.toList = W4n at *
  generalize W4.heap.size = m2 at *
  have qn := fun (W : World) => (show (binOp .neq 28 (.agg (D).cells) (.agg (D).cells)).run Try.prog W = .ok (.bool false) W by rw [Try.neqB W (D) (D) DL.out DL.out]; simp)
  have lo : G w [(m2, D.cells, 28), (m1, D.cells, 28), (w.heap.size, #[.int .i64 mp, .int .i64 sub, .int .i64 ram, .int .i64 nv, .int .i64 pr, .int .i64 ch, .bool vert, .bool four], 23)] W4n := s0
  have hne : m1 ≠ m2 := Nat.ne_of_lt hm12
  go_upto_region 5 with (first
    | (refine wpList_load_mid rfl 28 _ rfl m1 0 rfl (D).cells.toList _ (s0.blk m1 (D).cells 28 (by simp)).range Try.underlying28 rfl (by rw [Array.length_toList]; exact infoB' _ DL.out) ?_)
    | (refine wpList_load_mid rfl 28 _ rfl m2 0 rfl (D).cells.toList _ (s0.blk m2 (D).cells 28 (by simp)).range Try.underlying28 rfl (by rw [Array.length_toList]; exact infoB' _ DL.out) ?_))
  clear qn lo K1 NW NR
  go_wp2
  go_loopw [9] (fun i wr => ∃ (k : Nat) (b : Bd), k ≤ len ∧ i = .int .i64 k ∧ b.Wf ∧ validB b = (ev == 0) ∧ G w [(m2, b.cells, 28), (m1, b.cells, 28), (w.heap.size, #[.int .i64 mp, .int .i64 sub, .int .i64 ram, .int .i64 nv, .int .i64 pr, .int .i64 ch, .bool vert, .bool four], 23)] wr) (fun i _ => len - (intOf i).toNat)
  case atStart => exact ⟨0, D, by omega, rfl, DWH.out, DVH.out, s0⟩
  case round =>
    clear s0 DL DWH DVH
    obtain ⟨k, b, hk, rfl, bw, bv, s0⟩ := hrel
    by_cases hlt : k < len
    · obtain ⟨rfl, hsb⟩ := hS.at_ (by omega)
      have R : Hid _ := G.range s0 hsb (hS.cells k hlt)
      have sok := hS.ok k hlt
      have hSH : Hid (Scr _ _ _ _ _ _) := hS
      clear hS
      generalize q k = s at *
      have R2 : Hid (wr.rangeAt sb (so + k * 6) [.int .i64 s.k, .int .u16 s.a, .int .u8 s.v, .int .u8 s.u, .int .i64 s.c, .int .i64 s.n]) := R.out
      clear R
      go_upto_region 9 with (refine wpList_load_mid rfl 34 _ rfl sb (so + k * 6) rfl [.int .i64 s.k, .int .u16 s.a, .int .u8 s.v, .int .u8 s.u, .int .i64 s.c, .int .i64 s.n] _ R2.out Try.underlying34 rfl (by kernel_rfl) ?_)
      have hnb : m2 < wr.heap.size := (s0.blk m2 b.cells 28 (by simp)).lt
      replace s0 := s0.new s.cells 34
      change Code.wp _ _ _ _ (wr.alloc (.cells s.cells 34))
      generalize wr.alloc (.cells s.cells 34) = W5 at *
      generalize wr.heap.size = nb at *
      clear R2
      have g0 : W5.cell? ⟨nb, 0, none⟩ = some (.int .i64 s.k) := (s0.blk nb s.cells 34 (by simp)).cell 0
      go_upto_if 43 with fail
      go_cut [] (fun wx => ∃ d : Bd, d.Wf ∧ validB d = (ev == 0) ∧ G w [(m1, d.cells, 28), (m2, d.cells, 28), (w.heap.size, #[.int .i64 mp, .int .i64 sub, .int .i64 ram, .int .i64 nv, .int .i64 pr, .int .i64 ch, .bool vert, .bool four], 23), (nb, s.cells, 34)] wx)
      case first =>
        clear g0
        by_cases hk : s.k = 0
        · have c1 : Hid _ := fun (W : World) => write_all W b s.a s.v s.u s.c bw sok.a.2 sok.v.1 sok.v.2 sok.u.1 sok.u.2 sok.c.2
          have c2 : Hid _ := fun (W : World) => rwrite_all W b s.a s.v s.u s.c bw sok.a.2 sok.v.1 sok.v.2 sok.u.1 sok.u.2 sok.c.2
          have dW : Hid _ := wrA_wf bw s.a s.v s.u s.c sok.v.1 sok.v.2 sok.u.1 sok.u.2 sok.c.2
          have dV : Hid (validB (wrA b s.a s.v s.u s.c) = (ev == 0)) := (wrA_valid bw _ _ _ _ sok.v.1 sok.v.2 sok.u.1 sok.u.2 sok.c.2).trans bv
          have dL : Hid _ := dW.out.rlen
          have BL : Hid _ := bw.rlen
          generalize wrA b s.a s.v s.u s.c = d at *
          have hkb : (s.k == 0) = true := by simpa using hk
          clear hk bw bv sok
          have ldm : Hid _ := (s0.blk m1 b.cells 28 (by simp)).range
          have g0 : _ = some (Value.int .i64 s.k) := (s0.blk nb s.cells 34 (by simp)).cell 0
          have g1 : _ = some (Value.int .u16 s.a) := (s0.blk nb s.cells 34 (by simp)).cell 1
          have g2 : _ = some (Value.int .u8 s.v) := (s0.blk nb s.cells 34 (by simp)).cell 2
          have g3 : _ = some (Value.int .u8 s.u) := (s0.blk nb s.cells 34 (by simp)).cell 3
          have g4 : _ = some (Value.int .i64 s.c) := (s0.blk nb s.cells 34 (by simp)).cell 4
          have g5 : _ = some (Value.int .i64 s.n) := (s0.blk nb s.cells 34 (by simp)).cell 5
          go_wp2_with (refine wpList_load_mid rfl 28 _ rfl m1 0 rfl b.cells.toList _ ldm.out Try.underlying28 rfl (by rw [Array.length_toList]; exact infoB' _ BL.out) ?_)
          refine (c1.out _).mono ?_
          rintro e Wx ⟨rfl, hbx⟩
          replace s0 := s0.on hbx
          clear hbx ldm
          clear g0 g1 g2 g3 g4 g5
          have s1 : G w [(m1, b.cells, 28), (m2, b.cells, 28), (w.heap.size, #[.int .i64 mp, .int .i64 sub, .int .i64 ram, .int .i64 nv, .int .i64 pr, .int .i64 ch, .bool vert, .bool four], 23), (nb, s.cells, 34)] Wx := s0.sub (by simp)
          have s2 := s1.setB BL.out dL.out (by omega) (by intro p hp; simp only [List.mem_cons, List.not_mem_nil, or_false] at hp; rcases hp with rfl | rfl | rfl <;> (dsimp only; omega))
          have stm : Hid _ := setB_there (s1.blk m1 b.cells 28 (by simp)) BL.out dL.out
          clear s1 s0
          go_upto_region 11 with (refine wpList_store_mid rfl 28 _ _ rfl m1 0 d.cells rfl rfl stm.out (infoB' _ dL.out) (isB _ dL.out).one ?_)
          have s0 := s2
          clear s2 stm
          generalize Wx.setCells m1 0 d.cells.toList = Wy at *
          have ldm : Hid _ := (s0.blk m2 b.cells 28 (by simp)).range
          have g0 : _ = some (Value.int .i64 s.k) := (s0.blk nb s.cells 34 (by simp)).cell 0
          have g1 : _ = some (Value.int .u16 s.a) := (s0.blk nb s.cells 34 (by simp)).cell 1
          have g2 : _ = some (Value.int .u8 s.v) := (s0.blk nb s.cells 34 (by simp)).cell 2
          have g3 : _ = some (Value.int .u8 s.u) := (s0.blk nb s.cells 34 (by simp)).cell 3
          have g4 : _ = some (Value.int .i64 s.c) := (s0.blk nb s.cells 34 (by simp)).cell 4
          have g5 : _ = some (Value.int .i64 s.n) := (s0.blk nb s.cells 34 (by simp)).cell 5
          go_wp2_with (refine wpList_load_mid rfl 28 _ rfl m2 0 rfl b.cells.toList _ ldm.out Try.underlying28 rfl (by rw [Array.length_toList]; exact infoB' _ BL.out) ?_)
          refine (c2.out _).mono ?_
          rintro e Wx ⟨rfl, hbx⟩
          replace s0 := s0.on hbx
          clear hbx ldm
          clear g0 g1 g2 g3 g4 g5
          have s1 : G w [(m2, b.cells, 28), (m1, d.cells, 28), (w.heap.size, #[.int .i64 mp, .int .i64 sub, .int .i64 ram, .int .i64 nv, .int .i64 pr, .int .i64 ch, .bool vert, .bool four], 23), (nb, s.cells, 34)] Wx := s0.sub (by simp)
          have s2 := s1.setB BL.out dL.out (by omega) (by intro p hp; simp only [List.mem_cons, List.not_mem_nil, or_false] at hp; rcases hp with rfl | rfl | rfl <;> (dsimp only; omega))
          have stm : Hid _ := setB_there (s1.blk m2 b.cells 28 (by simp)) BL.out dL.out
          clear s1 s0
          go_wp2_with (refine wpList_store_mid rfl 28 _ _ rfl m2 0 d.cells rfl rfl stm.out (infoB' _ dL.out) (isB _ dL.out).one ?_)
          simp only [Act.put]
          go_meet
          exact ⟨d, dW.out, dV.out, s2.sub (by simp)⟩
        · have c1 : Hid _ := fun (W : World) => clock_all W b s.n bw sok.n.2
          have c2 : Hid _ := fun (W : World) => rclock_all W b s.n bw sok.n.2
          have dW : Hid _ := clockA_wf bw s.n
          have dV : Hid (validB (clockA b s.n) = (ev == 0)) := (clockA_valid bw s.n).trans bv
          have dL : Hid _ := dW.out.rlen
          have BL : Hid _ := bw.rlen
          generalize clockA b s.n = d at *
          have hkb : (s.k == 0) = false := by simpa using hk
          clear hk bw bv sok
          have ldm : Hid _ := (s0.blk m1 b.cells 28 (by simp)).range
          have g0 : _ = some (Value.int .i64 s.k) := (s0.blk nb s.cells 34 (by simp)).cell 0
          have g1 : _ = some (Value.int .u16 s.a) := (s0.blk nb s.cells 34 (by simp)).cell 1
          have g2 : _ = some (Value.int .u8 s.v) := (s0.blk nb s.cells 34 (by simp)).cell 2
          have g3 : _ = some (Value.int .u8 s.u) := (s0.blk nb s.cells 34 (by simp)).cell 3
          have g4 : _ = some (Value.int .i64 s.c) := (s0.blk nb s.cells 34 (by simp)).cell 4
          have g5 : _ = some (Value.int .i64 s.n) := (s0.blk nb s.cells 34 (by simp)).cell 5
          go_wp2_with (refine wpList_load_mid rfl 28 _ rfl m1 0 rfl b.cells.toList _ ldm.out Try.underlying28 rfl (by rw [Array.length_toList]; exact infoB' _ BL.out) ?_)
          refine (c1.out _).mono ?_
          rintro e Wx ⟨rfl, hbx⟩
          replace s0 := s0.on hbx
          clear hbx ldm
          clear g0 g1 g2 g3 g4 g5
          have s1 : G w [(m1, b.cells, 28), (m2, b.cells, 28), (w.heap.size, #[.int .i64 mp, .int .i64 sub, .int .i64 ram, .int .i64 nv, .int .i64 pr, .int .i64 ch, .bool vert, .bool four], 23), (nb, s.cells, 34)] Wx := s0.sub (by simp)
          have s2 := s1.setB BL.out dL.out (by omega) (by intro p hp; simp only [List.mem_cons, List.not_mem_nil, or_false] at hp; rcases hp with rfl | rfl | rfl <;> (dsimp only; omega))
          have stm : Hid _ := setB_there (s1.blk m1 b.cells 28 (by simp)) BL.out dL.out
          clear s1 s0
          go_upto_region 13 with (refine wpList_store_mid rfl 28 _ _ rfl m1 0 d.cells rfl rfl stm.out (infoB' _ dL.out) (isB _ dL.out).one ?_)
          have s0 := s2
          clear s2 stm
          generalize Wx.setCells m1 0 d.cells.toList = Wy at *
          have ldm : Hid _ := (s0.blk m2 b.cells 28 (by simp)).range
          have g0 : _ = some (Value.int .i64 s.k) := (s0.blk nb s.cells 34 (by simp)).cell 0
          have g1 : _ = some (Value.int .u16 s.a) := (s0.blk nb s.cells 34 (by simp)).cell 1
          have g2 : _ = some (Value.int .u8 s.v) := (s0.blk nb s.cells 34 (by simp)).cell 2
          have g3 : _ = some (Value.int .u8 s.u) := (s0.blk nb s.cells 34 (by simp)).cell 3
          have g4 : _ = some (Value.int .i64 s.c) := (s0.blk nb s.cells 34 (by simp)).cell 4
          have g5 : _ = some (Value.int .i64 s.n) := (s0.blk nb s.cells 34 (by simp)).cell 5
          go_wp2_with (refine wpList_load_mid rfl 28 _ rfl m2 0 rfl b.cells.toList _ ldm.out Try.underlying28 rfl (by rw [Array.length_toList]; exact infoB' _ BL.out) ?_)
          refine (c2.out _).mono ?_
          rintro e Wx ⟨rfl, hbx⟩
          replace s0 := s0.on hbx
          clear hbx ldm
          clear g0 g1 g2 g3 g4 g5
          have s1 : G w [(m2, b.cells, 28), (m1, d.cells, 28), (w.heap.size, #[.int .i64 mp, .int .i64 sub, .int .i64 ram, .int .i64 nv, .int .i64 pr, .int .i64 ch, .bool vert, .bool four], 23), (nb, s.cells, 34)] Wx := s0.sub (by simp)
          have s2 := s1.setB BL.out dL.out (by omega) (by intro p hp; simp only [List.mem_cons, List.not_mem_nil, or_false] at hp; rcases hp with rfl | rfl | rfl <;> (dsimp only; omega))
          have stm : Hid _ := setB_there (s1.blk m2 b.cells 28 (by simp)) BL.out dL.out
          clear s1 s0
          go_wp2_with (refine wpList_store_mid rfl 28 _ _ rfl m2 0 d.cells rfl rfl stm.out (infoB' _ dL.out) (isB _ dL.out).one ?_)
          simp only [Act.put]
          go_meet
          exact ⟨d, dW.out, dV.out, s2.sub (by simp)⟩
      case rest =>
        clear s0 g0 bw bv
        obtain ⟨d, dw, dv, s0⟩ := hcut
        go_upto_region 14 with fail
        have DL9 : Hid _ := dw.rlen
        obtain ⟨iv, I1', I2'⟩ := toIrq_both d dw
        have I1 : Hid _ := I1'
        have I2 : Hid _ := I2'
        have SN : Hid _ := fun (W : World) => seen_any W d s.a dw sok.a.1 sok.a.2
        have VA : Hid _ := fun (W : World) => (dv ▸ valid_any W d dw.rlen : Calls Try.prog 26 #[.agg d.cells] W fun e w' => e = .returned (.bool (ev == 0)) ∧ Below W.heap.size W w')
        have dvk := dv
        clear I1' I2' dv
        replace s0 := s0.drew
        refine wp_region_held (S := G w [(m1, d.cells, 28), (m2, d.cells, 28), (w.heap.size, #[.int .i64 mp, .int .i64 sub, .int .i64 ram, .int .i64 nv, .int .i64 pr, .int .i64 ch, .bool vert, .bool four], 23), (nb, s.cells, 34)]) (by kernel_rfl) ?_
        refine takeH (i := 0) (v := .agg (d).cells.toList.toArray) ⟨#[.agg #[.int .i64 mp, .int .i64 sub, .int .i64 ram, .int .i64 nv, .int .i64 pr, .int .i64 ch, .bool vert, .bool four], .slice (some ⟨sb, so, none⟩) len cap, .pointer (some ⟨w.heap.size, 0, none⟩), undef, u4, .pointer (some ⟨m1, 0, none⟩), .int .i64 ev, .pointer (some ⟨m2, 0, none⟩), .int .i64 ev, .int .i64 k, .pointer (some ⟨nb, 0, none⟩), .tuple #[.agg D.cells, .int .i64 ev], .agg #[.int .i64 mp, .int .i64 sub, .int .i64 ram, .int .i64 nv, .int .i64 pr, .int .i64 ch, .bool vert, .bool four], .agg ccm1, .tuple #[.agg D.cells, .int .i64 ev], .agg D.cells, .int .i64 ev, .tuple #[.agg D.cells, .int .i64 ev], .agg #[.int .i64 mp, .int .i64 sub, .int .i64 ram, .int .i64 nv, .int .i64 pr, .int .i64 ch, .bool vert, .bool four], .agg ccm2, .tuple #[.agg D.cells, .int .i64 ev], .agg D.cells, .int .i64 ev, .agg D.cells, .agg D.cells, .bool false, .bool false, .int .i64 ev, .int .i64 ev, .bool false, .bool false, u31, u32, u33, u34, u35, u36, u37, u38, u39, u40, u41, u42, u43, u44, u45, u46, u47, u48, u49, u50, u51, u52, u53, u54, u55, u56, u57, u58, u59, u60, u61, u62, u63, u64, u65, u66, u67, u68, u69, u70, u71, .agg (d).cells, u73, u74, u75, u76, u77, u78, u79, u80, u81, u82, u83, u84, u85, u86, u87, u88, u89, u90, u91, u92, u93], []⟩ rfl (by kernel_rfl) (by kernel_rfl) (by kernel_rfl) (fun _ _ _ h => h) (yieldsIf_load_mid (by kernel_rfl) 28 (.tmp 5) rfl m1 0 (by kernel_rfl) (d).cells.toList _ (fun v hv => Blk.range (hv.blk m1 (d).cells 28 (by simp))) Try.underlying28 rfl (by rw [Array.length_toList]; exact infoB' d DL9.out)) s0 (by kernel_rfl) ?_
        refine takeH (i := 1) (v := .agg (d).cells.toList.toArray) ⟨#[.agg #[.int .i64 mp, .int .i64 sub, .int .i64 ram, .int .i64 nv, .int .i64 pr, .int .i64 ch, .bool vert, .bool four], .slice (some ⟨sb, so, none⟩) len cap, .pointer (some ⟨w.heap.size, 0, none⟩), undef, u4, .pointer (some ⟨m1, 0, none⟩), .int .i64 ev, .pointer (some ⟨m2, 0, none⟩), .int .i64 ev, .int .i64 k, .pointer (some ⟨nb, 0, none⟩), .tuple #[.agg D.cells, .int .i64 ev], .agg #[.int .i64 mp, .int .i64 sub, .int .i64 ram, .int .i64 nv, .int .i64 pr, .int .i64 ch, .bool vert, .bool four], .agg ccm1, .tuple #[.agg D.cells, .int .i64 ev], .agg D.cells, .int .i64 ev, .tuple #[.agg D.cells, .int .i64 ev], .agg #[.int .i64 mp, .int .i64 sub, .int .i64 ram, .int .i64 nv, .int .i64 pr, .int .i64 ch, .bool vert, .bool four], .agg ccm2, .tuple #[.agg D.cells, .int .i64 ev], .agg D.cells, .int .i64 ev, .agg D.cells, .agg D.cells, .bool false, .bool false, .int .i64 ev, .int .i64 ev, .bool false, .bool false, u31, u32, u33, u34, u35, u36, u37, u38, u39, u40, u41, u42, u43, u44, u45, u46, u47, u48, u49, u50, u51, u52, u53, u54, u55, u56, u57, u58, u59, u60, u61, u62, u63, u64, u65, u66, u67, u68, u69, u70, u71, .agg (d).cells, .agg (d).cells, u74, u75, u76, u77, u78, u79, u80, u81, u82, u83, u84, u85, u86, u87, u88, u89, u90, u91, u92, u93], []⟩ rfl (by kernel_rfl) (by kernel_rfl) (by kernel_rfl) (fun _ _ _ h => h) (yieldsIf_load_mid (by kernel_rfl) 28 (.tmp 7) rfl m2 0 (by kernel_rfl) (d).cells.toList _ (fun v hv => Blk.range (hv.blk m2 (d).cells 28 (by simp))) Try.underlying28 rfl (by rw [Array.length_toList]; exact infoB' d DL9.out)) s0 (by kernel_rfl) ?_
        refine takeH (i := 2) (v := .bool false) ⟨#[.agg #[.int .i64 mp, .int .i64 sub, .int .i64 ram, .int .i64 nv, .int .i64 pr, .int .i64 ch, .bool vert, .bool four], .slice (some ⟨sb, so, none⟩) len cap, .pointer (some ⟨w.heap.size, 0, none⟩), undef, u4, .pointer (some ⟨m1, 0, none⟩), .int .i64 ev, .pointer (some ⟨m2, 0, none⟩), .int .i64 ev, .int .i64 k, .pointer (some ⟨nb, 0, none⟩), .tuple #[.agg D.cells, .int .i64 ev], .agg #[.int .i64 mp, .int .i64 sub, .int .i64 ram, .int .i64 nv, .int .i64 pr, .int .i64 ch, .bool vert, .bool four], .agg ccm1, .tuple #[.agg D.cells, .int .i64 ev], .agg D.cells, .int .i64 ev, .tuple #[.agg D.cells, .int .i64 ev], .agg #[.int .i64 mp, .int .i64 sub, .int .i64 ram, .int .i64 nv, .int .i64 pr, .int .i64 ch, .bool vert, .bool four], .agg ccm2, .tuple #[.agg D.cells, .int .i64 ev], .agg D.cells, .int .i64 ev, .agg D.cells, .agg D.cells, .bool false, .bool false, .int .i64 ev, .int .i64 ev, .bool false, .bool false, u31, u32, u33, u34, u35, u36, u37, u38, u39, u40, u41, u42, u43, u44, u45, u46, u47, u48, u49, u50, u51, u52, u53, u54, u55, u56, u57, u58, u59, u60, u61, u62, u63, u64, u65, u66, u67, u68, u69, u70, u71, .agg (d).cells, .agg (d).cells, .bool false, u75, u76, u77, u78, u79, u80, u81, u82, u83, u84, u85, u86, u87, u88, u89, u90, u91, u92, u93], []⟩ rfl (by kernel_rfl) (by kernel_rfl) (by kernel_rfl) (fun _ _ _ h => h) (.inl ⟨by kernel_rfl, fun v _ => exec_neqB rfl (by kernel_rfl) (by kernel_rfl) DL9.out DL9.out (by simp)⟩) s0 (by kernel_rfl) ?_
        refine takeH (i := 3) (v := .bool false) ⟨#[.agg #[.int .i64 mp, .int .i64 sub, .int .i64 ram, .int .i64 nv, .int .i64 pr, .int .i64 ch, .bool vert, .bool four], .slice (some ⟨sb, so, none⟩) len cap, .pointer (some ⟨w.heap.size, 0, none⟩), undef, u4, .pointer (some ⟨m1, 0, none⟩), .int .i64 ev, .pointer (some ⟨m2, 0, none⟩), .int .i64 ev, .int .i64 k, .pointer (some ⟨nb, 0, none⟩), .tuple #[.agg D.cells, .int .i64 ev], .agg #[.int .i64 mp, .int .i64 sub, .int .i64 ram, .int .i64 nv, .int .i64 pr, .int .i64 ch, .bool vert, .bool four], .agg ccm1, .tuple #[.agg D.cells, .int .i64 ev], .agg D.cells, .int .i64 ev, .tuple #[.agg D.cells, .int .i64 ev], .agg #[.int .i64 mp, .int .i64 sub, .int .i64 ram, .int .i64 nv, .int .i64 pr, .int .i64 ch, .bool vert, .bool four], .agg ccm2, .tuple #[.agg D.cells, .int .i64 ev], .agg D.cells, .int .i64 ev, .agg D.cells, .agg D.cells, .bool false, .bool false, .int .i64 ev, .int .i64 ev, .bool false, .bool false, u31, u32, u33, u34, u35, u36, u37, u38, u39, u40, u41, u42, u43, u44, u45, u46, u47, u48, u49, u50, u51, u52, u53, u54, u55, u56, u57, u58, u59, u60, u61, u62, u63, u64, u65, u66, u67, u68, u69, u70, u71, .agg (d).cells, .agg (d).cells, .bool false, .bool false, u76, u77, u78, u79, u80, u81, u82, u83, u84, u85, u86, u87, u88, u89, u90, u91, u92, u93], []⟩ rfl (by kernel_rfl) (by kernel_rfl) (by kernel_rfl) (fun _ _ _ h => h) (.inl ⟨by kernel_rfl, fun _ _ => by kernel_rfl⟩) s0 (by kernel_rfl) ?_
        refine takeH (i := 4) (v := .agg (d).cells.toList.toArray) ⟨#[.agg #[.int .i64 mp, .int .i64 sub, .int .i64 ram, .int .i64 nv, .int .i64 pr, .int .i64 ch, .bool vert, .bool four], .slice (some ⟨sb, so, none⟩) len cap, .pointer (some ⟨w.heap.size, 0, none⟩), undef, u4, .pointer (some ⟨m1, 0, none⟩), .int .i64 ev, .pointer (some ⟨m2, 0, none⟩), .int .i64 ev, .int .i64 k, .pointer (some ⟨nb, 0, none⟩), .tuple #[.agg D.cells, .int .i64 ev], .agg #[.int .i64 mp, .int .i64 sub, .int .i64 ram, .int .i64 nv, .int .i64 pr, .int .i64 ch, .bool vert, .bool four], .agg ccm1, .tuple #[.agg D.cells, .int .i64 ev], .agg D.cells, .int .i64 ev, .tuple #[.agg D.cells, .int .i64 ev], .agg #[.int .i64 mp, .int .i64 sub, .int .i64 ram, .int .i64 nv, .int .i64 pr, .int .i64 ch, .bool vert, .bool four], .agg ccm2, .tuple #[.agg D.cells, .int .i64 ev], .agg D.cells, .int .i64 ev, .agg D.cells, .agg D.cells, .bool false, .bool false, .int .i64 ev, .int .i64 ev, .bool false, .bool false, u31, u32, u33, u34, u35, u36, u37, u38, u39, u40, u41, u42, u43, u44, u45, u46, u47, u48, u49, u50, u51, u52, u53, u54, u55, u56, u57, u58, u59, u60, u61, u62, u63, u64, u65, u66, u67, u68, u69, u70, u71, .agg (d).cells, .agg (d).cells, .bool false, .bool false, .agg (d).cells, u77, u78, u79, u80, u81, u82, u83, u84, u85, u86, u87, u88, u89, u90, u91, u92, u93], []⟩ rfl (by kernel_rfl) (by kernel_rfl) (by kernel_rfl) (fun _ _ _ h => h) (yieldsIf_load_mid (by kernel_rfl) 28 (.tmp 5) rfl m1 0 (by kernel_rfl) (d).cells.toList _ (fun v hv => Blk.range (hv.blk m1 (d).cells 28 (by simp))) Try.underlying28 rfl (by rw [Array.length_toList]; exact infoB' d DL9.out)) s0 (by kernel_rfl) ?_
        refine takeH (i := 6) (v := .agg (d).cells.toList.toArray) ⟨#[.agg #[.int .i64 mp, .int .i64 sub, .int .i64 ram, .int .i64 nv, .int .i64 pr, .int .i64 ch, .bool vert, .bool four], .slice (some ⟨sb, so, none⟩) len cap, .pointer (some ⟨w.heap.size, 0, none⟩), undef, u4, .pointer (some ⟨m1, 0, none⟩), .int .i64 ev, .pointer (some ⟨m2, 0, none⟩), .int .i64 ev, .int .i64 k, .pointer (some ⟨nb, 0, none⟩), .tuple #[.agg D.cells, .int .i64 ev], .agg #[.int .i64 mp, .int .i64 sub, .int .i64 ram, .int .i64 nv, .int .i64 pr, .int .i64 ch, .bool vert, .bool four], .agg ccm1, .tuple #[.agg D.cells, .int .i64 ev], .agg D.cells, .int .i64 ev, .tuple #[.agg D.cells, .int .i64 ev], .agg #[.int .i64 mp, .int .i64 sub, .int .i64 ram, .int .i64 nv, .int .i64 pr, .int .i64 ch, .bool vert, .bool four], .agg ccm2, .tuple #[.agg D.cells, .int .i64 ev], .agg D.cells, .int .i64 ev, .agg D.cells, .agg D.cells, .bool false, .bool false, .int .i64 ev, .int .i64 ev, .bool false, .bool false, u31, u32, u33, u34, u35, u36, u37, u38, u39, u40, u41, u42, u43, u44, u45, u46, u47, u48, u49, u50, u51, u52, u53, u54, u55, u56, u57, u58, u59, u60, u61, u62, u63, u64, u65, u66, u67, u68, u69, u70, u71, .agg (d).cells, .agg (d).cells, .bool false, .bool false, .agg (d).cells, u77, .agg (d).cells, u79, u80, u81, u82, u83, u84, u85, u86, u87, u88, u89, u90, u91, u92, u93], []⟩ rfl (by kernel_rfl) (by kernel_rfl) (by kernel_rfl) (fun _ _ _ h => h) (yieldsIf_load_mid (by kernel_rfl) 28 (.tmp 7) rfl m2 0 (by kernel_rfl) (d).cells.toList _ (fun v hv => Blk.range (hv.blk m2 (d).cells 28 (by simp))) Try.underlying28 rfl (by rw [Array.length_toList]; exact infoB' d DL9.out)) s0 (by kernel_rfl) ?_
        refine wpAnyH_all (rs := [5]) (by kernel_rfl) (by simp) ?_
        intro i hi
        obtain rfl : i = 5 := by simpa using hi
        refine wpOp_contract (f := 25) rfl (by kernel_rfl) (by kernel_rfl) (I1.out _) ⟨#[.agg #[.int .i64 mp, .int .i64 sub, .int .i64 ram, .int .i64 nv, .int .i64 pr, .int .i64 ch, .bool vert, .bool four], .slice (some ⟨sb, so, none⟩) len cap, .pointer (some ⟨w.heap.size, 0, none⟩), undef, u4, .pointer (some ⟨m1, 0, none⟩), .int .i64 ev, .pointer (some ⟨m2, 0, none⟩), .int .i64 ev, .int .i64 k, .pointer (some ⟨nb, 0, none⟩), .tuple #[.agg D.cells, .int .i64 ev], .agg #[.int .i64 mp, .int .i64 sub, .int .i64 ram, .int .i64 nv, .int .i64 pr, .int .i64 ch, .bool vert, .bool four], .agg ccm1, .tuple #[.agg D.cells, .int .i64 ev], .agg D.cells, .int .i64 ev, .tuple #[.agg D.cells, .int .i64 ev], .agg #[.int .i64 mp, .int .i64 sub, .int .i64 ram, .int .i64 nv, .int .i64 pr, .int .i64 ch, .bool vert, .bool four], .agg ccm2, .tuple #[.agg D.cells, .int .i64 ev], .agg D.cells, .int .i64 ev, .agg D.cells, .agg D.cells, .bool false, .bool false, .int .i64 ev, .int .i64 ev, .bool false, .bool false, u31, u32, u33, u34, u35, u36, u37, u38, u39, u40, u41, u42, u43, u44, u45, u46, u47, u48, u49, u50, u51, u52, u53, u54, u55, u56, u57, u58, u59, u60, u61, u62, u63, u64, u65, u66, u67, u68, u69, u70, u71, .agg (d).cells, .agg (d).cells, .bool false, .bool false, .agg (d).cells, .int .i64 iv, .agg (d).cells, u79, u80, u81, u82, u83, u84, u85, u86, u87, u88, u89, u90, u91, u92, u93], []⟩ (by kernel_rfl) ?_
        intro Wq1 hbq1
        have sq1 := s0.on hbq1
        clear hi hbq1
        refine ⟨sq1, ?_⟩
        refine wpAnyH_all (rs := [7]) (by kernel_rfl) (by simp) ?_
        intro i hi
        obtain rfl : i = 7 := by simpa using hi
        refine wpOp_contract (f := 38) rfl (by kernel_rfl) (by kernel_rfl) (I2.out _) ⟨#[.agg #[.int .i64 mp, .int .i64 sub, .int .i64 ram, .int .i64 nv, .int .i64 pr, .int .i64 ch, .bool vert, .bool four], .slice (some ⟨sb, so, none⟩) len cap, .pointer (some ⟨w.heap.size, 0, none⟩), undef, u4, .pointer (some ⟨m1, 0, none⟩), .int .i64 ev, .pointer (some ⟨m2, 0, none⟩), .int .i64 ev, .int .i64 k, .pointer (some ⟨nb, 0, none⟩), .tuple #[.agg D.cells, .int .i64 ev], .agg #[.int .i64 mp, .int .i64 sub, .int .i64 ram, .int .i64 nv, .int .i64 pr, .int .i64 ch, .bool vert, .bool four], .agg ccm1, .tuple #[.agg D.cells, .int .i64 ev], .agg D.cells, .int .i64 ev, .tuple #[.agg D.cells, .int .i64 ev], .agg #[.int .i64 mp, .int .i64 sub, .int .i64 ram, .int .i64 nv, .int .i64 pr, .int .i64 ch, .bool vert, .bool four], .agg ccm2, .tuple #[.agg D.cells, .int .i64 ev], .agg D.cells, .int .i64 ev, .agg D.cells, .agg D.cells, .bool false, .bool false, .int .i64 ev, .int .i64 ev, .bool false, .bool false, u31, u32, u33, u34, u35, u36, u37, u38, u39, u40, u41, u42, u43, u44, u45, u46, u47, u48, u49, u50, u51, u52, u53, u54, u55, u56, u57, u58, u59, u60, u61, u62, u63, u64, u65, u66, u67, u68, u69, u70, u71, .agg (d).cells, .agg (d).cells, .bool false, .bool false, .agg (d).cells, .int .i64 iv, .agg (d).cells, .int .i64 iv, u80, u81, u82, u83, u84, u85, u86, u87, u88, u89, u90, u91, u92, u93], []⟩ (by kernel_rfl) ?_
        intro Wq2 hbq2
        have sq2 := sq1.on hbq2
        clear hi hbq2
        refine ⟨sq2, ?_⟩
        refine takeH (i := 8) (v := .bool false) ⟨#[.agg #[.int .i64 mp, .int .i64 sub, .int .i64 ram, .int .i64 nv, .int .i64 pr, .int .i64 ch, .bool vert, .bool four], .slice (some ⟨sb, so, none⟩) len cap, .pointer (some ⟨w.heap.size, 0, none⟩), undef, u4, .pointer (some ⟨m1, 0, none⟩), .int .i64 ev, .pointer (some ⟨m2, 0, none⟩), .int .i64 ev, .int .i64 k, .pointer (some ⟨nb, 0, none⟩), .tuple #[.agg D.cells, .int .i64 ev], .agg #[.int .i64 mp, .int .i64 sub, .int .i64 ram, .int .i64 nv, .int .i64 pr, .int .i64 ch, .bool vert, .bool four], .agg ccm1, .tuple #[.agg D.cells, .int .i64 ev], .agg D.cells, .int .i64 ev, .tuple #[.agg D.cells, .int .i64 ev], .agg #[.int .i64 mp, .int .i64 sub, .int .i64 ram, .int .i64 nv, .int .i64 pr, .int .i64 ch, .bool vert, .bool four], .agg ccm2, .tuple #[.agg D.cells, .int .i64 ev], .agg D.cells, .int .i64 ev, .agg D.cells, .agg D.cells, .bool false, .bool false, .int .i64 ev, .int .i64 ev, .bool false, .bool false, u31, u32, u33, u34, u35, u36, u37, u38, u39, u40, u41, u42, u43, u44, u45, u46, u47, u48, u49, u50, u51, u52, u53, u54, u55, u56, u57, u58, u59, u60, u61, u62, u63, u64, u65, u66, u67, u68, u69, u70, u71, .agg (d).cells, .agg (d).cells, .bool false, .bool false, .agg (d).cells, .int .i64 iv, .agg (d).cells, .int .i64 iv, .bool false, u81, u82, u83, u84, u85, u86, u87, u88, u89, u90, u91, u92, u93], []⟩ rfl (by kernel_rfl) (by kernel_rfl) (by kernel_rfl) (fun _ _ _ h => h) (.inl ⟨by kernel_rfl, fun v _ => exec_neqI (a := iv) (b := iv) rfl (by kernel_rfl) (by kernel_rfl) Try.underlying3 (by simp)⟩) sq2 (by kernel_rfl) ?_
        refine takeH (i := 9) (v := .bool false) ⟨#[.agg #[.int .i64 mp, .int .i64 sub, .int .i64 ram, .int .i64 nv, .int .i64 pr, .int .i64 ch, .bool vert, .bool four], .slice (some ⟨sb, so, none⟩) len cap, .pointer (some ⟨w.heap.size, 0, none⟩), undef, u4, .pointer (some ⟨m1, 0, none⟩), .int .i64 ev, .pointer (some ⟨m2, 0, none⟩), .int .i64 ev, .int .i64 k, .pointer (some ⟨nb, 0, none⟩), .tuple #[.agg D.cells, .int .i64 ev], .agg #[.int .i64 mp, .int .i64 sub, .int .i64 ram, .int .i64 nv, .int .i64 pr, .int .i64 ch, .bool vert, .bool four], .agg ccm1, .tuple #[.agg D.cells, .int .i64 ev], .agg D.cells, .int .i64 ev, .tuple #[.agg D.cells, .int .i64 ev], .agg #[.int .i64 mp, .int .i64 sub, .int .i64 ram, .int .i64 nv, .int .i64 pr, .int .i64 ch, .bool vert, .bool four], .agg ccm2, .tuple #[.agg D.cells, .int .i64 ev], .agg D.cells, .int .i64 ev, .agg D.cells, .agg D.cells, .bool false, .bool false, .int .i64 ev, .int .i64 ev, .bool false, .bool false, u31, u32, u33, u34, u35, u36, u37, u38, u39, u40, u41, u42, u43, u44, u45, u46, u47, u48, u49, u50, u51, u52, u53, u54, u55, u56, u57, u58, u59, u60, u61, u62, u63, u64, u65, u66, u67, u68, u69, u70, u71, .agg (d).cells, .agg (d).cells, .bool false, .bool false, .agg (d).cells, .int .i64 iv, .agg (d).cells, .int .i64 iv, .bool false, .bool false, u82, u83, u84, u85, u86, u87, u88, u89, u90, u91, u92, u93], []⟩ rfl (by kernel_rfl) (by kernel_rfl) (by kernel_rfl) (fun _ _ _ h => h) (.inl ⟨by kernel_rfl, fun _ _ => by kernel_rfl⟩) sq2 (by kernel_rfl) ?_
        refine takeH (i := 10) (v := .bool false) ⟨#[.agg #[.int .i64 mp, .int .i64 sub, .int .i64 ram, .int .i64 nv, .int .i64 pr, .int .i64 ch, .bool vert, .bool four], .slice (some ⟨sb, so, none⟩) len cap, .pointer (some ⟨w.heap.size, 0, none⟩), undef, u4, .pointer (some ⟨m1, 0, none⟩), .int .i64 ev, .pointer (some ⟨m2, 0, none⟩), .int .i64 ev, .int .i64 k, .pointer (some ⟨nb, 0, none⟩), .tuple #[.agg D.cells, .int .i64 ev], .agg #[.int .i64 mp, .int .i64 sub, .int .i64 ram, .int .i64 nv, .int .i64 pr, .int .i64 ch, .bool vert, .bool four], .agg ccm1, .tuple #[.agg D.cells, .int .i64 ev], .agg D.cells, .int .i64 ev, .tuple #[.agg D.cells, .int .i64 ev], .agg #[.int .i64 mp, .int .i64 sub, .int .i64 ram, .int .i64 nv, .int .i64 pr, .int .i64 ch, .bool vert, .bool four], .agg ccm2, .tuple #[.agg D.cells, .int .i64 ev], .agg D.cells, .int .i64 ev, .agg D.cells, .agg D.cells, .bool false, .bool false, .int .i64 ev, .int .i64 ev, .bool false, .bool false, u31, u32, u33, u34, u35, u36, u37, u38, u39, u40, u41, u42, u43, u44, u45, u46, u47, u48, u49, u50, u51, u52, u53, u54, u55, u56, u57, u58, u59, u60, u61, u62, u63, u64, u65, u66, u67, u68, u69, u70, u71, .agg (d).cells, .agg (d).cells, .bool false, .bool false, .agg (d).cells, .int .i64 iv, .agg (d).cells, .int .i64 iv, .bool false, .bool false, .bool false, u83, u84, u85, u86, u87, u88, u89, u90, u91, u92, u93], []⟩ rfl (by kernel_rfl) (by kernel_rfl) (by kernel_rfl) (fun _ _ _ h => h) (.inl ⟨by kernel_rfl, fun _ _ => by kernel_rfl⟩) sq2 (by kernel_rfl) ?_
        refine takeH (i := 11) (v := .agg (d).cells.toList.toArray) ⟨#[.agg #[.int .i64 mp, .int .i64 sub, .int .i64 ram, .int .i64 nv, .int .i64 pr, .int .i64 ch, .bool vert, .bool four], .slice (some ⟨sb, so, none⟩) len cap, .pointer (some ⟨w.heap.size, 0, none⟩), undef, u4, .pointer (some ⟨m1, 0, none⟩), .int .i64 ev, .pointer (some ⟨m2, 0, none⟩), .int .i64 ev, .int .i64 k, .pointer (some ⟨nb, 0, none⟩), .tuple #[.agg D.cells, .int .i64 ev], .agg #[.int .i64 mp, .int .i64 sub, .int .i64 ram, .int .i64 nv, .int .i64 pr, .int .i64 ch, .bool vert, .bool four], .agg ccm1, .tuple #[.agg D.cells, .int .i64 ev], .agg D.cells, .int .i64 ev, .tuple #[.agg D.cells, .int .i64 ev], .agg #[.int .i64 mp, .int .i64 sub, .int .i64 ram, .int .i64 nv, .int .i64 pr, .int .i64 ch, .bool vert, .bool four], .agg ccm2, .tuple #[.agg D.cells, .int .i64 ev], .agg D.cells, .int .i64 ev, .agg D.cells, .agg D.cells, .bool false, .bool false, .int .i64 ev, .int .i64 ev, .bool false, .bool false, u31, u32, u33, u34, u35, u36, u37, u38, u39, u40, u41, u42, u43, u44, u45, u46, u47, u48, u49, u50, u51, u52, u53, u54, u55, u56, u57, u58, u59, u60, u61, u62, u63, u64, u65, u66, u67, u68, u69, u70, u71, .agg (d).cells, .agg (d).cells, .bool false, .bool false, .agg (d).cells, .int .i64 iv, .agg (d).cells, .int .i64 iv, .bool false, .bool false, .bool false, .agg (d).cells, u84, u85, u86, u87, u88, u89, u90, u91, u92, u93], []⟩ rfl (by kernel_rfl) (by kernel_rfl) (by kernel_rfl) (fun _ _ _ h => h) (yieldsIf_load_mid (by kernel_rfl) 28 (.tmp 5) rfl m1 0 (by kernel_rfl) (d).cells.toList _ (fun v hv => Blk.range (hv.blk m1 (d).cells 28 (by simp))) Try.underlying28 rfl (by rw [Array.length_toList]; exact infoB' d DL9.out)) sq2 (by kernel_rfl) ?_
        refine takeH (i := 12) (v := .pointer (some ⟨nb, 1, none⟩)) ⟨#[.agg #[.int .i64 mp, .int .i64 sub, .int .i64 ram, .int .i64 nv, .int .i64 pr, .int .i64 ch, .bool vert, .bool four], .slice (some ⟨sb, so, none⟩) len cap, .pointer (some ⟨w.heap.size, 0, none⟩), undef, u4, .pointer (some ⟨m1, 0, none⟩), .int .i64 ev, .pointer (some ⟨m2, 0, none⟩), .int .i64 ev, .int .i64 k, .pointer (some ⟨nb, 0, none⟩), .tuple #[.agg D.cells, .int .i64 ev], .agg #[.int .i64 mp, .int .i64 sub, .int .i64 ram, .int .i64 nv, .int .i64 pr, .int .i64 ch, .bool vert, .bool four], .agg ccm1, .tuple #[.agg D.cells, .int .i64 ev], .agg D.cells, .int .i64 ev, .tuple #[.agg D.cells, .int .i64 ev], .agg #[.int .i64 mp, .int .i64 sub, .int .i64 ram, .int .i64 nv, .int .i64 pr, .int .i64 ch, .bool vert, .bool four], .agg ccm2, .tuple #[.agg D.cells, .int .i64 ev], .agg D.cells, .int .i64 ev, .agg D.cells, .agg D.cells, .bool false, .bool false, .int .i64 ev, .int .i64 ev, .bool false, .bool false, u31, u32, u33, u34, u35, u36, u37, u38, u39, u40, u41, u42, u43, u44, u45, u46, u47, u48, u49, u50, u51, u52, u53, u54, u55, u56, u57, u58, u59, u60, u61, u62, u63, u64, u65, u66, u67, u68, u69, u70, u71, .agg (d).cells, .agg (d).cells, .bool false, .bool false, .agg (d).cells, .int .i64 iv, .agg (d).cells, .int .i64 iv, .bool false, .bool false, .bool false, .agg (d).cells, .pointer (some ⟨nb, 1, none⟩), u85, u86, u87, u88, u89, u90, u91, u92, u93], []⟩ rfl (by kernel_rfl) (by kernel_rfl) (by kernel_rfl) (fun _ _ _ h => h) (.inl ⟨by kernel_rfl, fun _ _ => by kernel_rfl⟩) sq2 (by kernel_rfl) ?_
        refine takeH (i := 13) (v := .int .u16 s.a) ⟨#[.agg #[.int .i64 mp, .int .i64 sub, .int .i64 ram, .int .i64 nv, .int .i64 pr, .int .i64 ch, .bool vert, .bool four], .slice (some ⟨sb, so, none⟩) len cap, .pointer (some ⟨w.heap.size, 0, none⟩), undef, u4, .pointer (some ⟨m1, 0, none⟩), .int .i64 ev, .pointer (some ⟨m2, 0, none⟩), .int .i64 ev, .int .i64 k, .pointer (some ⟨nb, 0, none⟩), .tuple #[.agg D.cells, .int .i64 ev], .agg #[.int .i64 mp, .int .i64 sub, .int .i64 ram, .int .i64 nv, .int .i64 pr, .int .i64 ch, .bool vert, .bool four], .agg ccm1, .tuple #[.agg D.cells, .int .i64 ev], .agg D.cells, .int .i64 ev, .tuple #[.agg D.cells, .int .i64 ev], .agg #[.int .i64 mp, .int .i64 sub, .int .i64 ram, .int .i64 nv, .int .i64 pr, .int .i64 ch, .bool vert, .bool four], .agg ccm2, .tuple #[.agg D.cells, .int .i64 ev], .agg D.cells, .int .i64 ev, .agg D.cells, .agg D.cells, .bool false, .bool false, .int .i64 ev, .int .i64 ev, .bool false, .bool false, u31, u32, u33, u34, u35, u36, u37, u38, u39, u40, u41, u42, u43, u44, u45, u46, u47, u48, u49, u50, u51, u52, u53, u54, u55, u56, u57, u58, u59, u60, u61, u62, u63, u64, u65, u66, u67, u68, u69, u70, u71, .agg (d).cells, .agg (d).cells, .bool false, .bool false, .agg (d).cells, .int .i64 iv, .agg (d).cells, .int .i64 iv, .bool false, .bool false, .bool false, .agg (d).cells, .pointer (some ⟨nb, 1, none⟩), .int .u16 s.a, u86, u87, u88, u89, u90, u91, u92, u93], []⟩ rfl (by kernel_rfl) (by kernel_rfl) (by kernel_rfl) (fun _ _ _ h => h) (.inl ⟨by kernel_rfl, fun v hv => by have c : v.cell? ⟨nb, 1, none⟩ = some (.int .u16 s.a) := (hv.blk nb s.cells 34 (by simp)).cell 1; go_simp⟩) sq2 (by kernel_rfl) ?_
        refine wpAnyH_all (rs := [14]) (by kernel_rfl) (by simp) ?_
        intro i hi
        obtain rfl : i = 14 := by simpa using hi
        refine wpOp_contract (f := 28) rfl (by kernel_rfl) (by kernel_rfl) (SN.out _) ⟨#[.agg #[.int .i64 mp, .int .i64 sub, .int .i64 ram, .int .i64 nv, .int .i64 pr, .int .i64 ch, .bool vert, .bool four], .slice (some ⟨sb, so, none⟩) len cap, .pointer (some ⟨w.heap.size, 0, none⟩), undef, u4, .pointer (some ⟨m1, 0, none⟩), .int .i64 ev, .pointer (some ⟨m2, 0, none⟩), .int .i64 ev, .int .i64 k, .pointer (some ⟨nb, 0, none⟩), .tuple #[.agg D.cells, .int .i64 ev], .agg #[.int .i64 mp, .int .i64 sub, .int .i64 ram, .int .i64 nv, .int .i64 pr, .int .i64 ch, .bool vert, .bool four], .agg ccm1, .tuple #[.agg D.cells, .int .i64 ev], .agg D.cells, .int .i64 ev, .tuple #[.agg D.cells, .int .i64 ev], .agg #[.int .i64 mp, .int .i64 sub, .int .i64 ram, .int .i64 nv, .int .i64 pr, .int .i64 ch, .bool vert, .bool four], .agg ccm2, .tuple #[.agg D.cells, .int .i64 ev], .agg D.cells, .int .i64 ev, .agg D.cells, .agg D.cells, .bool false, .bool false, .int .i64 ev, .int .i64 ev, .bool false, .bool false, u31, u32, u33, u34, u35, u36, u37, u38, u39, u40, u41, u42, u43, u44, u45, u46, u47, u48, u49, u50, u51, u52, u53, u54, u55, u56, u57, u58, u59, u60, u61, u62, u63, u64, u65, u66, u67, u68, u69, u70, u71, .agg (d).cells, .agg (d).cells, .bool false, .bool false, .agg (d).cells, .int .i64 iv, .agg (d).cells, .int .i64 iv, .bool false, .bool false, .bool false, .agg (d).cells, .pointer (some ⟨nb, 1, none⟩), .int .u16 s.a, .bool true, u87, u88, u89, u90, u91, u92, u93], []⟩ (by kernel_rfl) ?_
        intro Wq3 hbq3
        have sq3 := sq2.on hbq3
        clear hi hbq3
        refine ⟨sq3, ?_⟩
        refine takeH (i := 15) (v := .bool false) ⟨#[.agg #[.int .i64 mp, .int .i64 sub, .int .i64 ram, .int .i64 nv, .int .i64 pr, .int .i64 ch, .bool vert, .bool four], .slice (some ⟨sb, so, none⟩) len cap, .pointer (some ⟨w.heap.size, 0, none⟩), undef, u4, .pointer (some ⟨m1, 0, none⟩), .int .i64 ev, .pointer (some ⟨m2, 0, none⟩), .int .i64 ev, .int .i64 k, .pointer (some ⟨nb, 0, none⟩), .tuple #[.agg D.cells, .int .i64 ev], .agg #[.int .i64 mp, .int .i64 sub, .int .i64 ram, .int .i64 nv, .int .i64 pr, .int .i64 ch, .bool vert, .bool four], .agg ccm1, .tuple #[.agg D.cells, .int .i64 ev], .agg D.cells, .int .i64 ev, .tuple #[.agg D.cells, .int .i64 ev], .agg #[.int .i64 mp, .int .i64 sub, .int .i64 ram, .int .i64 nv, .int .i64 pr, .int .i64 ch, .bool vert, .bool four], .agg ccm2, .tuple #[.agg D.cells, .int .i64 ev], .agg D.cells, .int .i64 ev, .agg D.cells, .agg D.cells, .bool false, .bool false, .int .i64 ev, .int .i64 ev, .bool false, .bool false, u31, u32, u33, u34, u35, u36, u37, u38, u39, u40, u41, u42, u43, u44, u45, u46, u47, u48, u49, u50, u51, u52, u53, u54, u55, u56, u57, u58, u59, u60, u61, u62, u63, u64, u65, u66, u67, u68, u69, u70, u71, .agg (d).cells, .agg (d).cells, .bool false, .bool false, .agg (d).cells, .int .i64 iv, .agg (d).cells, .int .i64 iv, .bool false, .bool false, .bool false, .agg (d).cells, .pointer (some ⟨nb, 1, none⟩), .int .u16 s.a, .bool true, .bool false, u88, u89, u90, u91, u92, u93], []⟩ rfl (by kernel_rfl) (by kernel_rfl) (by kernel_rfl) (fun _ _ _ h => h) (.inl ⟨by kernel_rfl, fun _ _ => by kernel_rfl⟩) sq3 (by kernel_rfl) ?_
        refine takeH (i := 16) (v := .bool false) ⟨#[.agg #[.int .i64 mp, .int .i64 sub, .int .i64 ram, .int .i64 nv, .int .i64 pr, .int .i64 ch, .bool vert, .bool four], .slice (some ⟨sb, so, none⟩) len cap, .pointer (some ⟨w.heap.size, 0, none⟩), undef, u4, .pointer (some ⟨m1, 0, none⟩), .int .i64 ev, .pointer (some ⟨m2, 0, none⟩), .int .i64 ev, .int .i64 k, .pointer (some ⟨nb, 0, none⟩), .tuple #[.agg D.cells, .int .i64 ev], .agg #[.int .i64 mp, .int .i64 sub, .int .i64 ram, .int .i64 nv, .int .i64 pr, .int .i64 ch, .bool vert, .bool four], .agg ccm1, .tuple #[.agg D.cells, .int .i64 ev], .agg D.cells, .int .i64 ev, .tuple #[.agg D.cells, .int .i64 ev], .agg #[.int .i64 mp, .int .i64 sub, .int .i64 ram, .int .i64 nv, .int .i64 pr, .int .i64 ch, .bool vert, .bool four], .agg ccm2, .tuple #[.agg D.cells, .int .i64 ev], .agg D.cells, .int .i64 ev, .agg D.cells, .agg D.cells, .bool false, .bool false, .int .i64 ev, .int .i64 ev, .bool false, .bool false, u31, u32, u33, u34, u35, u36, u37, u38, u39, u40, u41, u42, u43, u44, u45, u46, u47, u48, u49, u50, u51, u52, u53, u54, u55, u56, u57, u58, u59, u60, u61, u62, u63, u64, u65, u66, u67, u68, u69, u70, u71, .agg (d).cells, .agg (d).cells, .bool false, .bool false, .agg (d).cells, .int .i64 iv, .agg (d).cells, .int .i64 iv, .bool false, .bool false, .bool false, .agg (d).cells, .pointer (some ⟨nb, 1, none⟩), .int .u16 s.a, .bool true, .bool false, .bool false, u89, u90, u91, u92, u93], []⟩ rfl (by kernel_rfl) (by kernel_rfl) (by kernel_rfl) (fun _ _ _ h => h) (.inl ⟨by kernel_rfl, fun _ _ => by kernel_rfl⟩) sq3 (by kernel_rfl) ?_
        refine wpAnyH_done (by kernel_rfl) ?_ _
        have s7 := sq3
        clear sq3 I1 I2 SN
        go_upto_region 16 with fail
        have ldm : Hid _ := (s7.blk m1 d.cells 28 (by simp)).range
        have hk9 : (k : Int) + 1 ≤ 9223372036854775807 := by omega
        have sH : Hid (G _ _ _) := s7
        go_wp2_with (refine wpList_load_mid rfl 28 _ rfl m1 0 rfl d.cells.toList _ ldm.out Try.underlying28 rfl (by rw [Array.length_toList]; exact infoB' _ DL9.out) ?_)
        refine (VA.out _).mono ?_
        rintro e Wz ⟨rfl, hbz⟩
        have s8 := G.on sH.out hbz
        have DVH : Hid _ := dvk
        have s8H : Hid (G _ _ _) := s8
        have DWH : Hid _ := dw
        clear hbz s7 sH ldm s8 VA dvk dw
        cases hz : (ev == 0)
        all_goals
          go_wp2
          go_roundw
          case rel => exact ⟨k + 1, d, by omega, by go_num, DWH.out, DVH.out, G.sub s8H.out (by simp)⟩
          case measure => simp [intOf]; omega
    · have hkn : k = len := by omega
      subst hkn
      go_wp2
      go_ret
      exact ⟨rfl, s0.2⟩
end Go.Proofs.Ytggphgmpdanliaa
