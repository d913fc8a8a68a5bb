/-
  The law MapperSerial returns true.
-/
import Derived.Test.YtggphgmpdanliaaZSerB
import Derived.Test.YtggphgmpdanliaaYCel
set_option linter.unusedSimpArgs false
set_option linter.unusedVariables false
namespace Go.Proofs.Ytggphgmpdanliaa
open Go.RowKit Classical
set_option maxRecDepth 100000 in
set_option maxHeartbeats 1000000 in
theorem serial_law (w : World) (mp sub ram nv pr ch : Int) (vert four : Bool) (hpr : -9223372036854775808 ≤ pr ∧ pr ≤ 9223372036854775807) (hch : -9223372036854775808 ≤ ch ∧ ch ≤ 9223372036854775807) (a : Option Addr) (len cap : Nat) (q : Nat → Sp) (sb so : Nat) (hlen : len ≤ 9223372036854775807) (hS : Scr w a len q sb so) (addr n gap : Int) (ha : 0 ≤ addr ∧ addr ≤ 65535) :
    Calls Try.prog 6 #[.agg #[.int .i64 mp, .int .i64 sub, .int .i64 ram, .int .i64 nv, .int .i64 pr, .int .i64 ch, .bool vert, .bool four], .slice a len cap, .int .u16 addr, .int .i64 n, .int .i64 gap] w fun e w' => e = .returned (.bool true) ∧ Below w.heap.size w w' := by
  have MA : Hid _ := fun (W : World) => made_any W 1 0 ram nv 262144 131072 vert four (by decide) (by decide)
  have CB : carB 1 0 ((262144 : Int) % 1081344).toNat ((131072 : Int) % 540672).toNat = true := by decide +kernel
  obtain ⟨OD, ND9⟩ := newD_car ram nv vert four CB
  have LD := newD_last 1 0 ram nv vert four ((262144 : Int) % 1081344).toNat ((131072 : Int) % 540672).toNat
  obtain ⟨D, hD⟩ : ∃ D, newD 1 0 ram nv vert four ((262144 : Int) % 1081344).toNat ((131072 : Int) % 540672).toNat = D := ⟨_, rfl⟩
  rw [hD] at MA OD ND9 LD
  have KD : Hid (D.kind = 1) := ND9.kind
  have DL : Hid _ := OD.wf.rlen
  clear hD ND9 CB
  go_enter Try.func6, Try.ntmps6
  go_upto_region 5 with fail
  have s0 : G w [(w.heap.size, #[.int .i64 1, .int .i64 0, .int .i64 ram, .int .i64 nv, .int .i64 262144, .int .i64 131072, .bool vert, .bool four], 23)] (w.alloc (.cells #[.int .i64 1, .int .i64 0, .int .i64 ram, .int .i64 nv, .int .i64 262144, .int .i64 131072, .bool vert, .bool four] 23)) := G.start w _ _
  change Code.wp _ _ _ _ (w.alloc (.cells #[.int .i64 1, .int .i64 0, .int .i64 ram, .int .i64 nv, .int .i64 262144, .int .i64 131072, .bool vert, .bool four] 23))
  generalize w.alloc (.cells #[.int .i64 1, .int .i64 0, .int .i64 ram, .int .i64 nv, .int .i64 262144, .int .i64 131072, .bool vert, .bool four] 23) = W0 at *
  go_wp2_with (refine wpList_load_mid rfl 23 _ rfl (w.heap.size) 0 rfl [.int .i64 1, .int .i64 0, .int .i64 ram, .int .i64 nv, .int .i64 262144, .int .i64 131072, .bool vert, .bool four] _ (s0.blk (w.heap.size) #[.int .i64 1, .int .i64 0, .int .i64 ram, .int .i64 nv, .int .i64 262144, .int .i64 131072, .bool vert, .bool four] 23 (by simp)).range Try.underlying23 rfl (by kernel_rfl) ?_)
  refine (MA.out _).mono ?_
  rintro e W2 ⟨rfl, hbq⟩
  replace s0 := s0.on hbq
  clear hbq MA
  have hlm : w.heap.size < W2.heap.size := (s0.blk (w.heap.size) #[.int .i64 1, .int .i64 0, .int .i64 ram, .int .i64 nv, .int .i64 262144, .int .i64 131072, .bool vert, .bool four] 23 (by simp)).lt
  go_upto_region 6 with (refine wpList_store_mid rfl 28 _ _ rfl W2.heap.size 0 (D).cells rfl rfl (newB_there W2 (D) DL.out) (infoB' (D) DL.out) (isB (D) DL.out).one ?_)
  change Code.wp _ _ _ _ ((W2.alloc (.cells Z31 28)).setCells W2.heap.size 0 D.cells.toList)
  replace s0 := G.newB s0 (d := D) DL.out
  generalize (W2.alloc (.cells Z31 28)).setCells W2.heap.size 0 D.cells.toList = W3 at *
  generalize W2.heap.size = m at *
  go_upto_region 9 with fail
  go_loopw [13] (fun i wr => ∃ (k : Nat) (b : Bd), k ≤ len ∧ i = .int .i64 k ∧ b.Ok ∧ b.kind = 1 ∧ b.last ≤ 16777215 ∧ G w [(m, b.cells, 28), (w.heap.size, #[.int .i64 1, .int .i64 0, .int .i64 ram, .int .i64 nv, .int .i64 262144, .int .i64 131072, .bool vert, .bool four], 23)] wr) (fun i _ => len - (intOf i).toNat)
  case atStart => exact ⟨0, D, by omega, rfl, OD, KD.out, LD, s0⟩
  case round =>
    clear s0 OD KD LD DL
    obtain ⟨k, b, hk, rfl, ob, kb, lb, s0⟩ := hrel
    by_cases hlt : k < len
    · obtain ⟨rfl, hsb⟩ := hS.at_ (by omega)
      have R : Hid _ := G.range s0 hsb (hS.cells k hlt)
      have sok := hS.ok k hlt
      have hSH : Hid (Scr _ _ _ _ _ _) := hS
      clear hS
      generalize q k = s at *
      have R2 : Hid (wr.rangeAt sb (so + k * 6) [.int .i64 s.k, .int .u16 s.a, .int .u8 s.v, .int .u8 s.u, .int .i64 s.c, .int .i64 s.n]) := R.out
      clear R
      go_upto_region 12 with (refine wpList_load_mid rfl 34 _ rfl sb (so + k * 6) rfl [.int .i64 s.k, .int .u16 s.a, .int .u8 s.v, .int .u8 s.u, .int .i64 s.c, .int .i64 s.n] _ R2.out Try.underlying34 rfl (by kernel_rfl) ?_)
      have hnb : m < wr.heap.size := (s0.blk m b.cells 28 (by simp)).lt
      replace s0 := s0.new s.cells 34
      change Code.wp _ _ _ _ (wr.alloc (.cells s.cells 34))
      generalize wr.alloc (.cells s.cells 34) = W5 at *
      generalize wr.heap.size = nb at *
      clear R2
      have f0 : W5.frozen? ⟨nb, 0, none⟩ = false := (s0.blk nb s.cells 34 (by simp)).free 0
      have g0 : W5.cell? ⟨nb, 0, none⟩ = some (.int .i64 s.k) := (s0.blk nb s.cells 34 (by simp)).cell 0
      go_upto_region 13 with fail
      replace s0 := s0.cellG (by omega) (by intro p hp; simp only [List.mem_cons, List.not_mem_nil, or_false] at hp; rcases hp with rfl | rfl <;> (dsimp only; omega)) 0 (.int .i64 0) (ds := ({ s with k := 0 } : Sp).cells) rfl
      clear f0 g0
      generalize W5.setCell ⟨nb, 0, none⟩ (.int .i64 0) = W6 at *
      have f4 : W6.frozen? ⟨nb, 4, none⟩ = false := (s0.blk nb ({ s with k := 0 } : Sp).cells 34 (by simp)).free 4
      have g4 : W6.cell? ⟨nb, 4, none⟩ = some (.int .i64 s.c) := (s0.blk nb ({ s with k := 0 } : Sp).cells 34 (by simp)).cell 4
      have an := and24i s.c
      have cc0 : 0 ≤ s.c % 16777216 := by omega
      have cc1 : s.c % 16777216 ≤ 16777215 := by omega
      generalize s.c % 16777216 = cc at *
      go_upto_region 14 with fail
      replace s0 := s0.cellG (by omega) (by intro p hp; simp only [List.mem_cons, List.not_mem_nil, or_false] at hp; rcases hp with rfl | rfl <;> (dsimp only; omega)) 4 (.int .i64 cc) (ds := ({ s with k := 0, c := cc } : Sp).cells) rfl
      clear f4 g4 an
      generalize W6.setCell ⟨nb, 4, none⟩ (.int .i64 cc) = W7 at *
      have so2 : ({ s with k := 0, c := cc } : Sp).Ok := (Sp.masked sok cc0 cc1).1
      have cx : ({ s with k := 0, c := cc } : Sp).c ≤ 16777215 := cc1
      generalize ({ s with k := 0, c := cc } : Sp) = s2 at *
      have DN : Hid _ := fun (W : World) => done_any W b s2 ob.wf so2
      have od := doneB_ok ob so2
      have fd := doneB_fix b s2
      have ld := doneB_last ob lb cx
      generalize doneB b s2 = d at *
      have BL : Hid _ := ob.wf.rlen
      have L9 : Hid _ := od.wf.rlen
      have ldm : Hid _ := (s0.blk m b.cells 28 (by simp)).range
      have lds : Hid _ := (s0.blk nb s2.cells 34 (by simp)).range
      go_wp2_with (first
        | (refine wpList_load_mid rfl 28 _ rfl m 0 rfl b.cells.toList _ ldm.out Try.underlying28 rfl (by rw [Array.length_toList]; exact infoB' _ BL.out) ?_)
        | (refine wpList_load_mid rfl 34 _ rfl nb 0 rfl s2.cells.toList _ lds.out Try.underlying34 rfl (by exact infoSp) ?_))
      refine (DN.out _).mono ?_
      rintro e W8 ⟨rfl, hb8⟩
      replace s0 := s0.on hb8
      clear hb8 DN ldm lds
      have s1 : G w [(m, b.cells, 28), (w.heap.size, #[.int .i64 1, .int .i64 0, .int .i64 ram, .int .i64 nv, .int .i64 262144, .int .i64 131072, .bool vert, .bool four], 23)] W8 := s0.sub (by simp)
      have s3 := s1.setB BL.out L9.out (by omega) (by intro p hp; simp only [List.mem_cons, List.not_mem_nil, or_false] at hp; subst hp; (dsimp only; omega))
      have stm : Hid _ := setB_there (s1.blk m b.cells 28 (by simp)) BL.out L9.out
      clear s0 s1
      go_upto_region 10 with (refine wpList_store_mid rfl 28 _ _ rfl m 0 d.cells rfl rfl stm.out (infoB' _ L9.out) (isB _ L9.out).one ?_)
      have s0 := s3
      clear s3 stm BL
      generalize W8.setCells m 0 d.cells.toList = W9 at *
      have hk9 : (k : Int) + 1 ≤ 9223372036854775807 := by omega
      have KD9 : Hid (d.kind = 1) := fd.1.trans kb
      have LD9 : Hid _ := ld
      have OD9 : Hid _ := od
      clear fd ld od ob kb lb cx so2
      go_wp2
      go_roundw
      case rel => exact ⟨k + 1, d, by omega, by go_num, OD9.out, KD9.out, LD9.out, s0⟩
      case measure => simp [intOf]; omega
    · have hkn : k = len := by omega
      subst hkn
      have BL : Hid _ := ob.wf.rlen
      obtain ⟨A, hA⟩ : ∃ A, bits .or .u16 addr 32768 = A := ⟨_, rfl⟩
      have AB := orHigh ha.1 ha.2
      rw [hA] at AB
      obtain ⟨A0, A1⟩ := AB
      have n5 := and5i n
      have nn0 : 0 ≤ n % 32 := by omega
      have nn1 : n % 32 ≤ 31 := by omega
      generalize n % 32 = nn at *
      have g5 := and16i gap
      have gg0 : 0 ≤ gap % 65536 := by omega
      have gg1 : gap % 65536 ≤ 65535 := by omega
      generalize gap % 65536 = gg at *
      go_upto_region 19 with fail
      clear n5 g5 hA
      obtain ⟨gp, hgp⟩ : ∃ gp, 2 + gg = gp := ⟨_, rfl⟩
      have gp0 : 2 ≤ gp := by omega
      have gp1 : gp ≤ 131072 := by omega
      rw [hgp]
      clear hgp gg0 gg1
      have WI : Hid _ := want_is ob kb lb (a := A) (n := nn) (gap := gp) A0 nn0 nn1 gp0 gp1
      have LI : Hid _ := lost_is ob kb lb (a := A) (n := nn) A0
      have L1 : Hid _ := fun (W : World) => load_any W b ob A nn 33554432 gp A1 nn0 nn1 (by decide) (by decide) ⟨by omega, gp1⟩
      have L2 : Hid _ := fun (W : World) => load_any W b ob A nn 33554432 1 A1 nn0 nn1 (by decide) (by decide) ⟨by decide, by decide⟩
      have X1 : Hid _ := (ldB_ok ob A nn 33554432 gp (by decide) ⟨by omega, gp1⟩ 5 (by decide)).wf.rlen
      have Y1 : Hid _ := (ldB_ok ob A nn 33554432 1 (by decide) ⟨by decide, by decide⟩ 5 (by decide)).wf.rlen
      generalize ldB b A nn 33554432 gp 5 = x at *
      generalize ldB b A nn 33554432 1 5 = y at *
      clear ob kb lb
      go_wp2_with (refine wpList_load_mid rfl 28 _ rfl m 0 rfl (b).cells.toList _ (s0.blk m (b).cells 28 (by simp)).range Try.underlying28 rfl (by rw [Array.length_toList]; exact infoB' _ BL.out) ?_)
      refine (L1.out _).mono ?_
      rintro e Wa ⟨rfl, hbq⟩
      replace s0 := s0.on hbq
      clear hbq L1
      go_upto_region 20 with (first
        | (refine wpList_store_mid rfl 28 _ _ rfl Wa.heap.size 0 (x).cells rfl rfl (newB_there Wa (x) X1.out) (infoB' (x) X1.out) (isB (x) X1.out).one ?_))
      change Code.wp _ _ _ _ ((Wa.alloc (.cells Z31 28)).setCells Wa.heap.size 0 (x).cells.toList)
      have hlt_mc := (s0.blk m b.cells 28 (by simp)).lt
      replace s0 := G.newB s0 (d := x) X1.out
      generalize (Wa.alloc (.cells Z31 28)).setCells Wa.heap.size 0 (x).cells.toList = Wb at *
      generalize Wa.heap.size = mc at *
      go_upto_region 21 with (first
        | (refine wpList_load_mid rfl 28 _ rfl m 0 rfl (b).cells.toList _ (s0.blk m (b).cells 28 (by simp)).range Try.underlying28 rfl (by rw [Array.length_toList]; exact infoB' _ BL.out) ?_)
        | (refine wpList_store_mid rfl 28 _ _ rfl Wb.heap.size 0 (b).cells rfl rfl (newB_there Wb (b) BL.out) (infoB' (b) BL.out) (isB (b) BL.out).one ?_))
      change Code.wp _ _ _ _ ((Wb.alloc (.cells Z31 28)).setCells Wb.heap.size 0 (b).cells.toList)
      have hlt_mw := (s0.blk m b.cells 28 (by simp)).lt
      have hlt_mcw := (s0.blk mc x.cells 28 (by simp)).lt
      replace s0 := G.newB s0 (d := b) BL.out
      generalize (Wb.alloc (.cells Z31 28)).setCells Wb.heap.size 0 (b).cells.toList = Wc at *
      generalize Wb.heap.size = mw at *
      obtain ⟨C, hC⟩ : ∃ C, bits .or .u8 b.ctrl 12 = C := ⟨_, rfl⟩
      have c8 : Wc.cell? ⟨m, 8, none⟩ = some (.int .u8 b.ctrl) := ((s0.blk m b.cells 28 (by simp)).cell 8).trans (isB b BL.out).h8
      have f8 : Wc.frozen? ⟨mw, 8, none⟩ = false := (s0.blk mw b.cells 28 (by simp)).free 8
      have w8 : Wc.cell? ⟨mw, 8, none⟩ = some (.int .u8 b.ctrl) := ((s0.blk mw b.cells 28 (by simp)).cell 8).trans (isB b BL.out).h8
      go_upto_region 22 with fail
      replace s0 := s0.cellB (d := { b with ctrl := C }) (by omega) (by intro p hp; simp only [List.mem_cons, List.not_mem_nil, or_false] at hp; rcases hp with rfl | rfl | rfl <;> (dsimp only; omega)) 8 (.int .u8 C) (cellsW_8 BL.out C)
      clear c8 f8 w8
      generalize Wc.setCell ⟨mw, 8, none⟩ (.int .u8 C) = Wd at *
      have CH : Hid (bits .or .u8 b.ctrl 12 = C) := hC
      clear hC
      go_upto_block 2 with fail
      have AQ0 : 4 ≤ A / 8192 := by omega
      have AQ1 : A / 8192 ≤ 7 := by omega
      go_cut [] (fun wx => G w [(mw, (wantR b A nn).cells, 28), (mc, x.cells, 28), (m, b.cells, 28), (w.heap.size, #[.int .i64 1, .int .i64 0, .int .i64 ram, .int .i64 nv, .int .i64 262144, .int .i64 131072, .bool vert, .bool four], 23)] wx)
      case first =>
        rcases (show A / 8192 = 4 ∨ A / 8192 = 5 ∨ A / 8192 = 6 ∨ A / 8192 = 7 by omega) with h | h | h | h
        · have EW : Hid (wantR b A nn = { b with ctrl := nn }) := by
            unfold Hid wantR
            rw [if_pos (by omega)]
          have AQ : A / 8192 = 4 := h
          clear h AQ0 AQ1
          have fz : Wd.frozen? ⟨mw, 8, none⟩ = false := (s0.blk mw ({ b with ctrl := C } : Bd).cells 28 (by simp)).free 8
          have cz : Wd.cell? ⟨mw, 8, none⟩ = some (.int .u8 C) := ((s0.blk mw ({ b with ctrl := C } : Bd).cells 28 (by simp)).cell 8).trans (isB ({ b with ctrl := C } : Bd) BL.out).h8
          have s5 := s0.cellB (d := { b with ctrl := nn }) (by omega) (by intro p hp; simp only [List.mem_cons, List.not_mem_nil, or_false] at hp; rcases hp with rfl | rfl | rfl <;> (dsimp only; omega)) 8 (.int .u8 nn) (cellsW_8 (b := ({ b with ctrl := C } : Bd)) BL.out nn)
          have S5 : Hid (G _ _ _) := s5
          clear s5 s0
          go_wp2
          go_meet
          rw [EW.out]
          exact S5.out
        · have EW : Hid (wantR b A nn = { b with ctrl := C, chrA := nn }) := by
            unfold Hid wantR
            rw [if_neg (by omega), if_pos (by omega), CH.out]
          have AQ : A / 8192 = 5 := h
          clear h AQ0 AQ1
          have fz : Wd.frozen? ⟨mw, 9, none⟩ = false := (s0.blk mw ({ b with ctrl := C } : Bd).cells 28 (by simp)).free 9
          have cz : Wd.cell? ⟨mw, 9, none⟩ = some (.int .u8 b.chrA) := ((s0.blk mw ({ b with ctrl := C } : Bd).cells 28 (by simp)).cell 9).trans (isB ({ b with ctrl := C } : Bd) BL.out).h9
          have s5 := s0.cellB (d := { b with ctrl := C, chrA := nn }) (by omega) (by intro p hp; simp only [List.mem_cons, List.not_mem_nil, or_false] at hp; rcases hp with rfl | rfl | rfl <;> (dsimp only; omega)) 9 (.int .u8 nn) (cellsW_9 (b := ({ b with ctrl := C } : Bd)) BL.out nn)
          have S5 : Hid (G _ _ _) := s5
          clear s5 s0
          go_wp2
          go_meet
          rw [EW.out]
          exact S5.out
        · have EW : Hid (wantR b A nn = { b with ctrl := C, chrB := nn }) := by
            unfold Hid wantR
            rw [if_neg (by omega), if_neg (by omega), if_pos (by omega), CH.out]
          have AQ : A / 8192 = 6 := h
          clear h AQ0 AQ1
          have fz : Wd.frozen? ⟨mw, 10, none⟩ = false := (s0.blk mw ({ b with ctrl := C } : Bd).cells 28 (by simp)).free 10
          have cz : Wd.cell? ⟨mw, 10, none⟩ = some (.int .u8 b.chrB) := ((s0.blk mw ({ b with ctrl := C } : Bd).cells 28 (by simp)).cell 10).trans (isB ({ b with ctrl := C } : Bd) BL.out).h10
          have s5 := s0.cellB (d := { b with ctrl := C, chrB := nn }) (by omega) (by intro p hp; simp only [List.mem_cons, List.not_mem_nil, or_false] at hp; rcases hp with rfl | rfl | rfl <;> (dsimp only; omega)) 10 (.int .u8 nn) (cellsW_10 (b := ({ b with ctrl := C } : Bd)) BL.out nn)
          have S5 : Hid (G _ _ _) := s5
          clear s5 s0
          go_wp2
          go_meet
          rw [EW.out]
          exact S5.out
        · have EW : Hid (wantR b A nn = { b with ctrl := C, prgR := nn }) := by
            unfold Hid wantR
            rw [if_neg (by omega), if_neg (by omega), if_neg (by omega), CH.out]
          have AQ : A / 8192 = 7 := h
          clear h AQ0 AQ1
          have fz : Wd.frozen? ⟨mw, 11, none⟩ = false := (s0.blk mw ({ b with ctrl := C } : Bd).cells 28 (by simp)).free 11
          have cz : Wd.cell? ⟨mw, 11, none⟩ = some (.int .u8 b.prgR) := ((s0.blk mw ({ b with ctrl := C } : Bd).cells 28 (by simp)).cell 11).trans (isB ({ b with ctrl := C } : Bd) BL.out).h11
          have s5 := s0.cellB (d := { b with ctrl := C, prgR := nn }) (by omega) (by intro p hp; simp only [List.mem_cons, List.not_mem_nil, or_false] at hp; rcases hp with rfl | rfl | rfl <;> (dsimp only; omega)) 11 (.int .u8 nn) (cellsW_11 (b := ({ b with ctrl := C } : Bd)) BL.out nn)
          have S5 : Hid (G _ _ _) := s5
          clear s5 s0
          go_wp2
          go_meet
          rw [EW.out]
          exact S5.out
      case rest =>
        clear s0
        have s0 := hcut
        clear hcut
        have WL : Hid ((wantR b A nn).r.length = 8) := by unfold Hid; rw [wantR_len]; exact BL.out
        have fz : wc.frozen? ⟨mw, 7, none⟩ = false := (s0.blk mw (wantR b A nn).cells 28 (by simp)).free 7
        have cz : wc.cell? ⟨mw, 7, none⟩ = some (.int .u8 (wantR b A nn).shift) := ((s0.blk mw (wantR b A nn).cells 28 (by simp)).cell 7).trans (isB (wantR b A nn) WL.out).h7
        go_upto_region 31 with fail
        replace s0 := s0.cellB (d := ({ wantR b A nn with shift := 16 } : Bd)) (by omega) (by intro p hp; simp only [List.mem_cons, List.not_mem_nil, or_false] at hp; rcases hp with rfl | rfl | rfl <;> (dsimp only; omega)) 7 (.int .u8 16) (cellsW_7 (b := (wantR b A nn)) WL.out _)
        clear fz cz
        generalize wc.setCell ⟨mw, 7, none⟩ (.int .u8 16) = We at *
        have fz : We.frozen? ⟨mw, 12, none⟩ = false := (s0.blk mw ({ wantR b A nn with shift := 16 } : Bd).cells 28 (by simp)).free 12
        have cz : We.cell? ⟨mw, 12, none⟩ = some (.int .i64 (wantR b A nn).last) := ((s0.blk mw ({ wantR b A nn with shift := 16 } : Bd).cells 28 (by simp)).cell 12).trans (isB ({ wantR b A nn with shift := 16 } : Bd) WL.out).h12
        go_upto_region 32 with fail
        replace s0 := s0.cellB (d := ({ wantR b A nn with shift := 16, last := 33554432 + 5 * gp } : Bd)) (by omega) (by intro p hp; simp only [List.mem_cons, List.not_mem_nil, or_false] at hp; rcases hp with rfl | rfl | rfl <;> (dsimp only; omega)) 12 (.int .i64 (33554432 + 5 * gp)) (cellsW_12 (b := ({ wantR b A nn with shift := 16 } : Bd)) WL.out _)
        clear fz cz
        generalize We.setCell ⟨mw, 12, none⟩ (.int .i64 (33554432 + 5 * gp)) = Wf at *
        have fz : Wf.frozen? ⟨mw, 30, none⟩ = false := (s0.blk mw ({ wantR b A nn with shift := 16, last := 33554432 + 5 * gp } : Bd).cells 28 (by simp)).free 30
        have cz : Wf.cell? ⟨mw, 30, none⟩ = some (.int .i64 (wantR b A nn).epoch) := ((s0.blk mw ({ wantR b A nn with shift := 16, last := 33554432 + 5 * gp } : Bd).cells 28 (by simp)).cell 30).trans (isB ({ wantR b A nn with shift := 16, last := 33554432 + 5 * gp } : Bd) WL.out).h30
        have cx : Wf.cell? ⟨mc, 30, none⟩ = some (.int .i64 x.epoch) := ((s0.blk mc x.cells 28 (by simp)).cell 30).trans (isB x X1.out).h30
        go_upto_region 33 with fail
        replace s0 := s0.cellB (d := ({ wantR b A nn with shift := 16, last := 33554432 + 5 * gp, epoch := x.epoch } : Bd)) (by omega) (by intro p hp; simp only [List.mem_cons, List.not_mem_nil, or_false] at hp; rcases hp with rfl | rfl | rfl <;> (dsimp only; omega)) 30 (.int .i64 x.epoch) (cellsW_30 (b := ({ wantR b A nn with shift := 16, last := 33554432 + 5 * gp } : Bd)) WL.out _)
        clear fz cz
        generalize Wf.setCell ⟨mw, 30, none⟩ (.int .i64 x.epoch) = Wg at *
        clear cx
        have e5 : ({ wantR b A nn with shift := 16, last := 33554432 + 5 * gp, epoch := x.epoch } : Bd) = x := WI.out.symm
        rw [e5] at s0
        clear e5 WI
        have qn := fun (W : World) => (show (binOp .neq 28 (.agg x.cells) (.agg x.cells)).run Try.prog W = .ok (.bool false) W by rw [Try.neqB W x x X1.out X1.out]; simp)
        go_wp2_with (first
          | (refine wpList_load_mid rfl 28 _ rfl mc 0 rfl (x).cells.toList _ (s0.blk mc (x).cells 28 (by simp)).range Try.underlying28 rfl (by rw [Array.length_toList]; exact infoB' _ X1.out) ?_)
          | (refine wpList_load_mid rfl 28 _ rfl mw 0 rfl (x).cells.toList _ (s0.blk mw (x).cells 28 (by simp)).range Try.underlying28 rfl (by rw [Array.length_toList]; exact infoB' _ X1.out) ?_)
          | (refine wpList_load_mid rfl 28 _ rfl m 0 rfl (b).cells.toList _ (s0.blk m (b).cells 28 (by simp)).range Try.underlying28 rfl (by rw [Array.length_toList]; exact infoB' _ BL.out) ?_))
        refine (L2.out _).mono ?_
        rintro e Wh ⟨rfl, hbq⟩
        replace s0 := s0.on hbq
        clear hbq L2 qn
        go_upto_region 36 with (first
          | (refine wpList_store_mid rfl 28 _ _ rfl Wh.heap.size 0 (y).cells rfl rfl (newB_there Wh (y) Y1.out) (infoB' (y) Y1.out) (isB (y) Y1.out).one ?_))
        change Code.wp _ _ _ _ ((Wh.alloc (.cells Z31 28)).setCells Wh.heap.size 0 (y).cells.toList)
        have hlt_ml := (s0.blk m b.cells 28 (by simp)).lt
        replace s0 := G.newB s0 (d := y) Y1.out
        generalize (Wh.alloc (.cells Z31 28)).setCells Wh.heap.size 0 (y).cells.toList = Wi at *
        generalize Wh.heap.size = ml at *
        obtain ⟨y1, y2, y3, y4, y5, y6⟩ := LI.out
        clear LI
        obtain ⟨C, hC⟩ : ∃ C, bits .or .u8 b.ctrl 12 = C := ⟨_, rfl⟩
        rw [hC] at y5
        have l7 : Wi.cell? ⟨ml, 7, none⟩ = some (.int .u8 16) := ((s0.blk ml y.cells 28 (by simp)).cell 7).trans ((isB y Y1.out).h7.trans (by rw [y1]))
        have l11 : Wi.cell? ⟨ml, 11, none⟩ = some (.int .u8 b.prgR) := ((s0.blk ml y.cells 28 (by simp)).cell 11).trans ((isB y Y1.out).h11.trans (by rw [y2]))
        have l9 : Wi.cell? ⟨ml, 9, none⟩ = some (.int .u8 b.chrA) := ((s0.blk ml y.cells 28 (by simp)).cell 9).trans ((isB y Y1.out).h9.trans (by rw [y3]))
        have l10 : Wi.cell? ⟨ml, 10, none⟩ = some (.int .u8 b.chrB) := ((s0.blk ml y.cells 28 (by simp)).cell 10).trans ((isB y Y1.out).h10.trans (by rw [y4]))
        have l8 : Wi.cell? ⟨ml, 8, none⟩ = some (.int .u8 C) := ((s0.blk ml y.cells 28 (by simp)).cell 8).trans ((isB y Y1.out).h8.trans (by rw [y5]))
        have l12 : Wi.cell? ⟨ml, 12, none⟩ = some (.int .i64 33554437) := ((s0.blk ml y.cells 28 (by simp)).cell 12).trans ((isB y Y1.out).h12.trans (by rw [y6]))
        have m11 : Wi.cell? ⟨m, 11, none⟩ = some (.int .u8 b.prgR) := ((s0.blk m b.cells 28 (by simp)).cell 11).trans (isB b BL.out).h11
        have m9 : Wi.cell? ⟨m, 9, none⟩ = some (.int .u8 b.chrA) := ((s0.blk m b.cells 28 (by simp)).cell 9).trans (isB b BL.out).h9
        have m10 : Wi.cell? ⟨m, 10, none⟩ = some (.int .u8 b.chrB) := ((s0.blk m b.cells 28 (by simp)).cell 10).trans (isB b BL.out).h10
        have m8 : Wi.cell? ⟨m, 8, none⟩ = some (.int .u8 b.ctrl) := ((s0.blk m b.cells 28 (by simp)).cell 8).trans (isB b BL.out).h8
        have SZ : Hid (G _ _ _) := s0
        clear s0 y1 y2 y3 y4 y5 y6
        go_wp2
        go_ret
        exact ⟨rfl, SZ.out.2⟩
end Go.Proofs.Ytggphgmpdanliaa
