/-
  What the document's Write does to every board.
-/
import Derived.Test.YtggphgmpdanliaaYRW0
import Derived.Test.YtggphgmpdanliaaYRW1
import Derived.Test.YtggphgmpdanliaaYRW2
import Derived.Test.YtggphgmpdanliaaYWr
set_option linter.unusedSimpArgs false
set_option linter.unusedVariables false
namespace Go.Proofs.Ytggphgmpdanliaa
open Go.RowKit Classical
/-- What lies in memory while the document's Write goes on: the board, its result, the board as it was. -/
structure Tri (w : World) (nw : Nat) (b d : Bd) (v : World) : Prop where
  pr : Pair w d v
  was : Blk v nw b.cells 28
  gt : w.heap.size + 1 < nw
theorem Tri.on {w v v' : World} {nw : Nat} {b d : Bd} (h : Tri w nw b d v) (hb : Below v.heap.size v v') : Tri w nw b d v' := ⟨h.pr.on hb, h.was.below h.was.lt hb, h.gt⟩
theorem Tri.drew {w v : World} {nw : Nat} {b d : Bd} (h : Tri w nw b d v) : Tri w nw b d v.drew := ⟨h.pr.drew, h.was, h.gt⟩
theorem Tri.set {w v : World} {nw : Nat} {b d d' : Bd} (h : Tri w nw b d v) (k : Nat) (x : Value) (e : d.cells.setIfInBounds k x = d'.cells) : Tri w nw b d' (v.setCell ⟨w.heap.size, k, none⟩ x) :=
  ⟨h.pr.set k x e, h.was.other (by have := h.gt; omega) k x, h.gt⟩
theorem Tri.all {w v : World} {nw : Nat} {b d d' : Bd} (h : Tri w nw b d v) (hd : d.r.length = 8) (hd' : d'.r.length = 8) : Tri w nw b d' (v.setCells w.heap.size 0 d'.cells.toList) :=
  ⟨⟨h.pr.blk.setAll _ ((isB d' hd').size.trans (isB d hd).size.symm), h.pr.res.otherCells (by omega) _ _, setCells_below (Nat.le_refl _) _ _ _ _ h.pr.bel⟩, h.was.otherCells (by have := h.gt; omega) _ _, h.gt⟩
set_option maxRecDepth 100000 in
set_option maxHeartbeats 1000000 in
theorem rwrite_in (w : World) (b : Bd) (a v u c : Int) (a0 : 32768 ≤ a) (a1 : a ≤ 65535) (v0 : 0 ≤ v) (v1 : v ≤ 255) (u0 : 0 ≤ u) (u1 : u ≤ 255) (c0 : 0 ≤ c) (c1 : c ≤ 9223372036854775807) (o : b.Ok) :
    Calls Try.prog 18 #[.agg b.cells, .int .u16 a, .int .u8 v, .int .u8 u, .int .i64 c] w fun e w' => e = .returned (.agg (wrB b a v u c).cells) ∧ Below w.heap.size w w' := by
  have HR : Hid _ := o.wf.rlen
  have VA : Hid _ := fun W => (o.val ▸ refValid_any W b o.wf : Calls Try.prog 42 #[.agg b.cells] W fun e w' => e = .returned (.bool true) ∧ Below W.heap.size W w')
  have OD := wrK_ok o a v u c v0 v1 u0 u1 c0 c1
  have FX := wrK_fix b a v u c
  have SM : Hid _ := fun W => rsame_any W b (wrK b a v u c) o OD
  have EW : Hid (wrB b a v u c = if alikeB b (wrK b a v u c) then wrK b a v u c else { wrK b a v u c with epoch := upB b.epoch }) := rfl
  have WK : Hid (wrK b a v u c = if b.kind = 1 then wr1 b a v c else if b.kind = 4 then wr4 b a v else if b.kind = 0 then b else wrL b v u) := rfl
  obtain ⟨d, hd⟩ : ∃ d, wrK b a v u c = d := ⟨_, rfl⟩
  rw [hd] at OD FX SM EW WK
  have EE : Hid (d.epoch = b.epoch) := FX.2.2.2.2.2.2.2
  have DLn : Hid (d.r.length = 8) := OD.wf.rlen
  have e0 : 0 ≤ d.epoch := OD.e0
  have e1 : d.epoch ≤ 4611686018427387904 := OD.e1
  have OK : Hid _ := o
  have x0 : decide (a < 32768) = false := decide_eq_false (by omega)
  have x1 : decide (c < 0) = false := decide_eq_false (by omega)
  have C := isB b o.wf.rlen
  have CD : Hid _ := isB d OD.wf.rlen
  clear hd FX o OD
  go_enter Try.func18, Try.ntmps18
  go_upto_region 1 with fail
  change Code.wp _ _ _ _ ((w.alloc (.cells b.cells 28)).alloc (.cells Z31 28))
  have p0 : Pair w b ((w.alloc (.cells b.cells 28)).alloc (.cells Z31 28)) := Pair.start w b
  generalize ((w.alloc (.cells b.cells 28)).alloc (.cells Z31 28)) = W0 at *
  go_wp2_with (refine wpList_load_mid rfl 28 _ rfl (w.heap.size) 0 rfl (b).cells.toList _ p0.blk.range Try.underlying28 rfl (by rw [Array.length_toList]; exact infoB' _ HR.out) ?_)
  refine (VA.out W0).mono ?_
  rintro e W1 ⟨rfl, hb1⟩
  replace p0 := p0.on hb1
  clear hb1 VA
  have hlt : w.heap.size + 1 < W1.heap.size := p0.res.lt
  have n3 : Blk (W1.alloc (.cells Z31 28)) W1.heap.size Z31 28 := Blk.new W1 _ _
  have t0 : Tri w W1.heap.size b b ((W1.alloc (.cells Z31 28)).setCells W1.heap.size 0 b.cells.toList) := ⟨⟨(p0.blk.old _).otherCells (by omega) _ _, (p0.res.old _).otherCells (by omega) _ _, setCells_below (by omega) _ _ _ _ (p0.bel.alloc (by omega) _)⟩, n3.setAll _ ((isB b HR.out).size), hlt⟩
  go_upto_region 4 with (first
    | (refine wpList_load_mid rfl 28 _ rfl (w.heap.size) 0 rfl (b).cells.toList _ p0.blk.range Try.underlying28 rfl (by rw [Array.length_toList]; exact infoB' _ HR.out) ?_)
    | (refine wpList_store_mid rfl 28 _ _ rfl (W1.heap.size) 0 (b).cells rfl rfl (by exact Blk.there n3 _ (by rw [(isB _ HR.out).size]; first | rfl | exact ((isB _ HR.out).size).symm)) (infoB' _ HR.out) (isB _ HR.out).one ?_))
  clear n3 p0
  change Code.wp _ _ _ _ ((W1.alloc (.cells Z31 28)).setCells W1.heap.size 0 b.cells.toList)
  generalize (W1.alloc (.cells Z31 28)).setCells W1.heap.size 0 b.cells.toList = W2 at *
  generalize W1.heap.size = nw at *
  have k0 := (t0.pr.blk.cell 0).trans C.h0
  go_upto_block 0 with fail
  go_cut [] (fun wx => Tri w nw b d wx)
  case first =>
    have hf := t0.pr.blk.free
    rcases OK.out.kd with hk | hk | hk | hk | hk | hk
    · have ED : d = b := by rw [WK.out, hk]; rfl
      have kb1 : (b.kind == 1) = false := by rw [hk]; decide
      have kb2 : (b.kind == 2) = false := by rw [hk]; decide
      have kb3 : (b.kind == 3) = false := by rw [hk]; decide
      have kb7 : (b.kind == 7) = false := by rw [hk]; decide
      have kb4 : (b.kind == 4) = false := by rw [hk]; decide
      clear hf SM EW WK OK CD hk
      go_wp2
      go_meet
      rw [ED]
      exact t0
    · have k12 := (t0.pr.blk.cell 12).trans C.h12
      obtain ⟨s0, s1, -, -, -, -, lz⟩ := OK.out.r1 hk
      have tB : Tri w nw b { b with last := c } (W2.setCell ⟨w.heap.size, 12, none⟩ (.int .i64 c)) := t0.set 12 (.int .i64 c) (cellsW_12 HR.out _)
      have ED : Hid (d = wr1 b a v c) := by unfold Hid; rw [WK.out, hk]; rfl
      have kb1 : (b.kind == 1) = true := by rw [hk]; decide
      have kb2 : (b.kind == 2) = false := by rw [hk]; decide
      have kb3 : (b.kind == 3) = false := by rw [hk]; decide
      have kb7 : (b.kind == 7) = false := by rw [hk]; decide
      have kb4 : (b.kind == 4) = false := by rw [hk]; decide
      clear SM EW WK hk
      by_cases hl : c - 1 = b.last
      · have E2 : Hid (d = { b with last := c }) := by unfold Hid; rw [ED.out]; simp [wr1, hl]
        have h1 : decide (0 < c) = true := decide_eq_true (by omega)
        have h2 : (c - 1 == b.last) = true := by simpa using hl
        have tF : Hid (Tri w nw b { b with last := c } _) := tB
        clear t0 tB ED hl lz OK CD
        go_wp2
        go_meet
        rw [E2.out]
        exact tF.out
      · have E2 : Hid (d = bitB { b with last := c } a v) := by unfold Hid bitB; rw [ED.out]; simp only [wr1, hl, if_false]
        have BT0 : Hid _ := fun W => rbit_any W { b with last := c } a v HR.out (by show 0 ≤ b.shift; omega) s1 a0 a1 v0 v1
        rw [← E2.out] at BT0
        obtain ⟨b9, hb9⟩ : ∃ b9 : Bd, { b with last := c } = b9 := ⟨_, rfl⟩
        have L9 : Hid (b9.r.length = 8) := by unfold Hid; rw [← hb9]; exact HR.out
        rw [hb9] at tB BT0
        have h2 : (c - 1 == b.last) = false := by simpa using hl
        have tH : Hid (Tri _ _ _ _ _) := tB
        have bR : Hid _ := tB.pr.blk.range
        clear t0 tB ED hl lz OK E2 hb9
        have hc : decide (0 < c) = true ∨ decide (0 < c) = false := by cases decide (0 < c) <;> simp
        rcases hc with hc | hc
        all_goals
          go_wp2_with (refine wpList_load_mid rfl 28 _ rfl (w.heap.size) 0 rfl b9.cells.toList _ bR.out Try.underlying28 rfl (by rw [Array.length_toList]; exact infoB' _ L9.out) ?_)
          refine (BT0.out _).mono ?_
          rintro e W4 ⟨rfl, hb4⟩
          have t4 := Tri.on tH.out hb4
          have tF : Hid (Tri w nw b d _) := t4.all L9.out DLn.out
          have z4 : Hid _ := t4.pr.blk
          clear t4 hb4 bR tH BT0
          have Hs : Hid _ := CD.out.size
          have H1 : Hid _ := CD.out.one
          clear CD
          generalize hL : d.cells = L at *
          go_wp2_with (refine wpList_store_mid rfl 28 _ _ rfl (w.heap.size) 0 L rfl rfl (by exact Blk.there z4.out _ (by rw [Hs.out]; exact (isB _ L9.out).size)) (by rw [Hs.out]; exact Try.infoBoard) H1.out ?_)
          simp only [Act.put]
          go_meet
          exact tF.out
    · have k1 := (t0.pr.blk.cell 1).trans C.h1
      have k13 := (t0.pr.blk.cell 13).trans C.h13
      have ED : Hid (d = wrL b v u) := by unfold Hid; rw [WK.out, hk]; rfl
      have kb1 : (b.kind == 1) = false := by rw [hk]; decide
      have kb2 : (b.kind == 2) = true := by rw [hk]; decide
      have kb3 : (b.kind == 3) = false := by rw [hk]; decide
      have kb7 : (b.kind == 7) = false := by rw [hk]; decide
      have kb4 : (b.kind == 4) = false := by rw [hk]; decide
      clear SM EW WK CD hk
      by_cases h2 : b.sub = 2
      · have E2 : Hid (d = { b with latch := bits .and .u8 v u }) := by unfold Hid; rw [ED.out]; simp [wrL, h2]
        rw [h2] at k1
        have tF : Hid (Tri w nw b { b with latch := bits .and .u8 v u } _) := t0.set 13 (.int .u8 (bits .and .u8 v u)) (cellsW_13 HR.out _)
        clear t0 ED h2
        go_wp2
        go_meet
        rw [E2.out]
        exact tF.out
      · have E2 : Hid (d = { b with latch := v }) := by unfold Hid; rw [ED.out]; simp [wrL, h2]
        have hb2 : (b.sub == 2) = false := by simpa using h2
        have tF : Hid (Tri w nw b { b with latch := v } _) := t0.set 13 (.int .u8 v) (cellsW_13 HR.out _)
        clear t0 ED h2
        go_wp2
        go_meet
        rw [E2.out]
        exact tF.out
    · have k1 := (t0.pr.blk.cell 1).trans C.h1
      have k13 := (t0.pr.blk.cell 13).trans C.h13
      have ED : Hid (d = wrL b v u) := by unfold Hid; rw [WK.out, hk]; rfl
      have kb1 : (b.kind == 1) = false := by rw [hk]; decide
      have kb2 : (b.kind == 2) = false := by rw [hk]; decide
      have kb3 : (b.kind == 3) = true := by rw [hk]; decide
      have kb7 : (b.kind == 7) = false := by rw [hk]; decide
      have kb4 : (b.kind == 4) = false := by rw [hk]; decide
      clear SM EW WK CD hk
      by_cases h2 : b.sub = 2
      · have E2 : Hid (d = { b with latch := bits .and .u8 v u }) := by unfold Hid; rw [ED.out]; simp [wrL, h2]
        rw [h2] at k1
        have tF : Hid (Tri w nw b { b with latch := bits .and .u8 v u } _) := t0.set 13 (.int .u8 (bits .and .u8 v u)) (cellsW_13 HR.out _)
        clear t0 ED h2
        go_wp2
        go_meet
        rw [E2.out]
        exact tF.out
      · have E2 : Hid (d = { b with latch := v }) := by unfold Hid; rw [ED.out]; simp [wrL, h2]
        have hb2 : (b.sub == 2) = false := by simpa using h2
        have tF : Hid (Tri w nw b { b with latch := v } _) := t0.set 13 (.int .u8 v) (cellsW_13 HR.out _)
        clear t0 ED h2
        go_wp2
        go_meet
        rw [E2.out]
        exact tF.out
    · have s0 := OK.out.wf.sel.1
      have s1 := OK.out.wf.sel.2
      have E2 : Hid (d = wr4 b a v) := by unfold Hid; rw [WK.out, hk]; rfl
      have BT0 : Hid _ := fun W => rreg_any W b a v HR.out s0 s1 a0 a1 v0 v1
      rw [← E2.out] at BT0
      have tH : Hid (Tri _ _ _ _ _) := t0
      have bR : Hid _ := t0.pr.blk.range
      have kb1 : (b.kind == 1) = false := by rw [hk]; decide
      have kb2 : (b.kind == 2) = false := by rw [hk]; decide
      have kb3 : (b.kind == 3) = false := by rw [hk]; decide
      have kb7 : (b.kind == 7) = false := by rw [hk]; decide
      have kb4 : (b.kind == 4) = true := by rw [hk]; decide
      clear t0 OK E2 SM EW WK hk
      go_wp2_with (refine wpList_load_mid rfl 28 _ rfl (w.heap.size) 0 rfl b.cells.toList _ bR.out Try.underlying28 rfl (by rw [Array.length_toList]; exact infoB' _ HR.out) ?_)
      refine (BT0.out _).mono ?_
      rintro e W4 ⟨rfl, hb4⟩
      have t4 := Tri.on tH.out hb4
      have tF : Hid (Tri w nw b d _) := t4.all HR.out DLn.out
      have z4 : Hid _ := t4.pr.blk
      clear t4 hb4 bR tH BT0
      have Hs : Hid _ := CD.out.size
      have H1 : Hid _ := CD.out.one
      clear CD
      generalize hL : d.cells = L at *
      go_wp2_with (refine wpList_store_mid rfl 28 _ _ rfl (w.heap.size) 0 L rfl rfl (by exact Blk.there z4.out _ (by rw [Hs.out]; exact (isB _ HR.out).size)) (by rw [Hs.out]; exact Try.infoBoard) H1.out ?_)
      simp only [Act.put]
      go_meet
      exact tF.out
    · have k1 := (t0.pr.blk.cell 1).trans C.h1
      have k13 := (t0.pr.blk.cell 13).trans C.h13
      have ED : Hid (d = wrL b v u) := by unfold Hid; rw [WK.out, hk]; rfl
      have kb1 : (b.kind == 1) = false := by rw [hk]; decide
      have kb2 : (b.kind == 2) = false := by rw [hk]; decide
      have kb3 : (b.kind == 3) = false := by rw [hk]; decide
      have kb7 : (b.kind == 7) = true := by rw [hk]; decide
      have kb4 : (b.kind == 4) = false := by rw [hk]; decide
      clear SM EW WK CD hk
      by_cases h2 : b.sub = 2
      · have E2 : Hid (d = { b with latch := bits .and .u8 v u }) := by unfold Hid; rw [ED.out]; simp [wrL, h2]
        rw [h2] at k1
        have tF : Hid (Tri w nw b { b with latch := bits .and .u8 v u } _) := t0.set 13 (.int .u8 (bits .and .u8 v u)) (cellsW_13 HR.out _)
        clear t0 ED h2
        go_wp2
        go_meet
        rw [E2.out]
        exact tF.out
      · have E2 : Hid (d = { b with latch := v }) := by unfold Hid; rw [ED.out]; simp [wrL, h2]
        have hb2 : (b.sub == 2) = false := by simpa using h2
        have tF : Hid (Tri w nw b { b with latch := v } _) := t0.set 13 (.int .u8 v) (cellsW_13 HR.out _)
        clear t0 ED h2
        go_wp2
        go_meet
        rw [E2.out]
        exact tF.out
  case rest =>
    clear t0 k0 C WK
    have t1 : Tri w nw b d _ := hcut
    clear hcut
    have h30 := (t1.pr.blk.cell 30).trans CD.out.h30
    have hf := t1.pr.blk.free
    go_wp2_with (first
      | (refine wpList_load_mid rfl 28 _ rfl (nw) 0 rfl (b).cells.toList _ t1.was.range Try.underlying28 rfl (by rw [Array.length_toList]; exact infoB' _ HR.out) ?_)
      | (refine wpList_load_mid rfl 28 _ rfl (w.heap.size) 0 rfl (d).cells.toList _ t1.pr.blk.range Try.underlying28 rfl (by rw [Array.length_toList]; exact infoB' _ DLn.out) ?_))
    refine (SM.out _).mono ?_
    rintro e W5 ⟨rfl, hb5⟩
    replace t1 := t1.on hb5
    clear hb5 SM h30 hf
    have h30 := (t1.pr.blk.cell 30).trans CD.out.h30
    have hf := t1.pr.blk.free
    cases hal : alikeB b d
    · have AL : Hid _ := hal
      clear hal
      by_cases hn : d.epoch < 4611686018427387904
      · have EF : Hid (wrB b a v u c = { d with epoch := d.epoch + 1 }) := by unfold Hid; rw [EW.out, AL.out, ← EE.out, upB, if_pos hn]; rfl
        have hnb : decide (d.epoch < 4611686018427387904) = true := decide_eq_true hn
        have pF : Hid (Pair w { d with epoch := d.epoch + 1 } _) := t1.pr.set 30 (.int .i64 (d.epoch + 1)) (cellsW_30 DLn.out _)
        have DL : Hid (({ d with epoch := d.epoch + 1 } : Bd).r.length = 8) := DLn.out
        obtain ⟨dz, hdz⟩ : ∃ x : Bd, { d with epoch := d.epoch + 1 } = x := ⟨_, rfl⟩
        rw [hdz] at pF DL EF
        clear hdz t1 EW AL EE
        go_upto_region 20 with fail
        have Hs : Hid _ := (isB (dz) DL.out).size
        have H1 : Hid _ := (isB (dz) DL.out).one
        have bR : Hid _ := (Pair.blk pF.out).range
        have zR : Hid _ := Pair.res pF.out
        have bB : Hid _ := Pair.bel pF.out
        clear pF DL
        generalize hL : dz.cells = L at *
        have HL : Hid _ := hL
        clear hL
        go_wp2_with (first
          | (refine wpList_load_mid rfl 28 _ rfl w.heap.size 0 rfl L.toList _ bR.out Try.underlying28 rfl (by rw [Array.length_toList, Hs.out]; exact Try.infoBoard) ?_)
          | (refine wpList_store_mid rfl 28 _ _ rfl (w.heap.size + 1) 0 L rfl rfl (by exact Blk.there zR.out _ Hs.out.symm) (by rw [Hs.out]; exact Try.infoBoard) H1.out ?_))
        exact ret_agg (m := w.heap.size + 1) (L := L) Try.results18 (by rfl) (Blk.setAll zR.out _ Hs.out) Try.underlying28 rfl (by rw [Hs.out]; exact Try.infoBoard) ⟨by rw [EF.out, HL.out], setCells_below (Nat.le_succ _) _ _ _ _ bB.out⟩
      · have EF : Hid (wrB b a v u c = d) := by unfold Hid; rw [EW.out, AL.out, ← EE.out, upB, if_neg hn]; rfl
        have hnb : decide (d.epoch < 4611686018427387904) = false := decide_eq_false hn
        have pF : Hid (Pair w d _) := t1.pr
        have DL : Hid (d.r.length = 8) := DLn.out
        clear t1 EW AL EE hn
        go_upto_region 20 with fail
        clear CD
        have Hs : Hid _ := (isB (d) DL.out).size
        have H1 : Hid _ := (isB (d) DL.out).one
        have bR : Hid _ := (Pair.blk pF.out).range
        have zR : Hid _ := Pair.res pF.out
        have bB : Hid _ := Pair.bel pF.out
        clear pF DL
        generalize hL : d.cells = L at *
        have HL : Hid _ := hL
        clear hL
        go_wp2_with (first
          | (refine wpList_load_mid rfl 28 _ rfl w.heap.size 0 rfl L.toList _ bR.out Try.underlying28 rfl (by rw [Array.length_toList, Hs.out]; exact Try.infoBoard) ?_)
          | (refine wpList_store_mid rfl 28 _ _ rfl (w.heap.size + 1) 0 L rfl rfl (by exact Blk.there zR.out _ Hs.out.symm) (by rw [Hs.out]; exact Try.infoBoard) H1.out ?_))
        exact ret_agg (m := w.heap.size + 1) (L := L) Try.results18 (by rfl) (Blk.setAll zR.out _ Hs.out) Try.underlying28 rfl (by rw [Hs.out]; exact Try.infoBoard) ⟨by rw [EF.out, HL.out], setCells_below (Nat.le_succ _) _ _ _ _ bB.out⟩
    · have EF : Hid (wrB b a v u c = d) := by unfold Hid; rw [EW.out, hal]; rfl
      have pF : Hid (Pair w d _) := t1.pr
      have DL : Hid (d.r.length = 8) := DLn.out
      clear t1 EW EE hal
      go_upto_region 20 with fail
      clear CD
      have Hs : Hid _ := (isB (d) DL.out).size
      have H1 : Hid _ := (isB (d) DL.out).one
      have bR : Hid _ := (Pair.blk pF.out).range
      have zR : Hid _ := Pair.res pF.out
      have bB : Hid _ := Pair.bel pF.out
      clear pF DL
      generalize hL : d.cells = L at *
      have HL : Hid _ := hL
      clear hL
      go_wp2_with (first
        | (refine wpList_load_mid rfl 28 _ rfl w.heap.size 0 rfl L.toList _ bR.out Try.underlying28 rfl (by rw [Array.length_toList, Hs.out]; exact Try.infoBoard) ?_)
        | (refine wpList_store_mid rfl 28 _ _ rfl (w.heap.size + 1) 0 L rfl rfl (by exact Blk.there zR.out _ Hs.out.symm) (by rw [Hs.out]; exact Try.infoBoard) H1.out ?_))
      exact ret_agg (m := w.heap.size + 1) (L := L) Try.results18 (by rfl) (Blk.setAll zR.out _ Hs.out) Try.underlying28 rfl (by rw [Hs.out]; exact Try.infoBoard) ⟨by rw [EF.out, HL.out], setCells_below (Nat.le_succ _) _ _ _ _ bB.out⟩
set_option maxRecDepth 100000 in
set_option maxHeartbeats 1000000 in
theorem rwrite_same (w : World) (b : Bd) (a v u c : Int) (B : b.Wf) (h : validB b = false ∨ a < 32768 ∨ c < 0) :
    Calls Try.prog 18 #[.agg b.cells, .int .u16 a, .int .u8 v, .int .u8 u, .int .i64 c] w fun e w' => e = .returned (.agg b.cells) ∧ Below w.heap.size w w' := by
  have VA : Hid _ := fun W => refValid_any W b B
  have HR : Hid _ := B.rlen
  obtain ⟨vb, hvb⟩ : ∃ x, validB b = x := ⟨_, rfl⟩
  rw [hvb] at VA h
  have HV : Hid _ := h
  clear h hvb B
  go_enter Try.func18, Try.ntmps18
  go_upto_region 1 with fail
  change Code.wp _ _ _ _ ((w.alloc (.cells b.cells 28)).alloc (.cells Z31 28))
  have p0 : Pair w b ((w.alloc (.cells b.cells 28)).alloc (.cells Z31 28)) := Pair.start w b
  generalize ((w.alloc (.cells b.cells 28)).alloc (.cells Z31 28)) = W0 at *
  go_wp2_with (refine wpList_load_mid rfl 28 _ rfl (w.heap.size) 0 rfl (b).cells.toList _ p0.blk.range Try.underlying28 rfl (by rw [Array.length_toList]; exact infoB' _ HR.out) ?_)
  refine (VA.out W0).mono ?_
  rintro e W1 ⟨rfl, hb1⟩
  replace p0 := p0.on hb1
  have pF : Hid (Pair w b W1) := p0
  have DL : Hid (b.r.length = 8) := HR.out
  clear hb1 VA p0
  have EF : Hid (b = b) := rfl
  obtain ⟨d, hd⟩ : ∃ d : Bd, b = d := ⟨_, rfl⟩
  rw [hd] at pF DL
  have hz : vb = false ∨ (vb = true ∧ a < 32768) ∨ (vb = true ∧ ¬ a < 32768 ∧ c < 0) := by
    cases vb
    · exact .inl rfl
    · rcases HV.out with h | h | h
      · cases h
      · exact .inr (.inl ⟨rfl, h⟩)
      · by_cases ha : a < 32768
        · exact .inr (.inl ⟨rfl, ha⟩)
        · exact .inr (.inr ⟨rfl, ha, h⟩)
  clear HV
  have HD : Hid _ := hd
  rcases hz with rfl | ⟨rfl, ha⟩ | ⟨rfl, ha, hc⟩
  · go_upto_region 2 with fail
    have Hs : Hid _ := (isB (d) DL.out).size
    have H1 : Hid _ := (isB (d) DL.out).one
    have bR : Hid _ := (Pair.blk pF.out).range
    have zR : Hid _ := Pair.res pF.out
    have bB : Hid _ := Pair.bel pF.out
    clear pF DL
    generalize hL : d.cells = L at *
    have HL : Hid _ := hL
    clear hL
    go_wp2_with (first
      | (refine wpList_load_mid rfl 28 _ rfl w.heap.size 0 rfl L.toList _ bR.out Try.underlying28 rfl (by rw [Array.length_toList, Hs.out]; exact Try.infoBoard) ?_)
      | (refine wpList_store_mid rfl 28 _ _ rfl (w.heap.size + 1) 0 L rfl rfl (by exact Blk.there zR.out _ Hs.out.symm) (by rw [Hs.out]; exact Try.infoBoard) H1.out ?_))
    exact ret_agg (m := w.heap.size + 1) (L := L) Try.results18 (by rfl) (Blk.setAll zR.out _ Hs.out) Try.underlying28 rfl (by rw [Hs.out]; exact Try.infoBoard) ⟨by rw [HD.out, HL.out], setCells_below (Nat.le_succ _) _ _ _ _ bB.out⟩
  · have x0 : decide (a < 32768) = true := decide_eq_true ha
    clear ha
    go_upto_region 2 with fail
    have Hs : Hid _ := (isB (d) DL.out).size
    have H1 : Hid _ := (isB (d) DL.out).one
    have bR : Hid _ := (Pair.blk pF.out).range
    have zR : Hid _ := Pair.res pF.out
    have bB : Hid _ := Pair.bel pF.out
    clear pF DL
    generalize hL : d.cells = L at *
    have HL : Hid _ := hL
    clear hL
    go_wp2_with (first
      | (refine wpList_load_mid rfl 28 _ rfl w.heap.size 0 rfl L.toList _ bR.out Try.underlying28 rfl (by rw [Array.length_toList, Hs.out]; exact Try.infoBoard) ?_)
      | (refine wpList_store_mid rfl 28 _ _ rfl (w.heap.size + 1) 0 L rfl rfl (by exact Blk.there zR.out _ Hs.out.symm) (by rw [Hs.out]; exact Try.infoBoard) H1.out ?_))
    exact ret_agg (m := w.heap.size + 1) (L := L) Try.results18 (by rfl) (Blk.setAll zR.out _ Hs.out) Try.underlying28 rfl (by rw [Hs.out]; exact Try.infoBoard) ⟨by rw [HD.out, HL.out], setCells_below (Nat.le_succ _) _ _ _ _ bB.out⟩
  · have x0 : decide (a < 32768) = false := decide_eq_false ha
    have x1 : decide (c < 0) = true := decide_eq_true hc
    clear ha hc
    go_upto_region 2 with fail
    have Hs : Hid _ := (isB (d) DL.out).size
    have H1 : Hid _ := (isB (d) DL.out).one
    have bR : Hid _ := (Pair.blk pF.out).range
    have zR : Hid _ := Pair.res pF.out
    have bB : Hid _ := Pair.bel pF.out
    clear pF DL
    generalize hL : d.cells = L at *
    have HL : Hid _ := hL
    clear hL
    go_wp2_with (first
      | (refine wpList_load_mid rfl 28 _ rfl w.heap.size 0 rfl L.toList _ bR.out Try.underlying28 rfl (by rw [Array.length_toList, Hs.out]; exact Try.infoBoard) ?_)
      | (refine wpList_store_mid rfl 28 _ _ rfl (w.heap.size + 1) 0 L rfl rfl (by exact Blk.there zR.out _ Hs.out.symm) (by rw [Hs.out]; exact Try.infoBoard) H1.out ?_))
    exact ret_agg (m := w.heap.size + 1) (L := L) Try.results18 (by rfl) (Blk.setAll zR.out _ Hs.out) Try.underlying28 rfl (by rw [Hs.out]; exact Try.infoBoard) ⟨by rw [HD.out, HL.out], setCells_below (Nat.le_succ _) _ _ _ _ bB.out⟩
theorem rwrite_all (w : World) (b : Bd) (a v u c : Int) (B : b.Wf) (a1 : a ≤ 65535) (v0 : 0 ≤ v) (v1 : v ≤ 255) (u0 : 0 ≤ u) (u1 : u ≤ 255) (c1 : c ≤ 9223372036854775807) :
    Calls Try.prog 18 #[.agg b.cells, .int .u16 a, .int .u8 v, .int .u8 u, .int .i64 c] w fun e w' => e = .returned (.agg (wrA b a v u c).cells) ∧ Below w.heap.size w w' := by
  unfold wrA
  by_cases h : validB b = true ∧ 32768 ≤ a ∧ 0 ≤ c
  · rw [if_pos h]
    exact rwrite_in w b a v u c h.2.1 a1 v0 v1 u0 u1 h.2.2 c1 (Bd.ok B h.1)
  · rw [if_neg h]
    refine rwrite_same w b a v u c B ?_
    cases hv : validB b
    · exact .inl rfl
    · rw [hv] at h
      have : ¬ (32768 ≤ a ∧ 0 ≤ c) := fun g => h ⟨rfl, g⟩
      omega
end Go.Proofs.Ytggphgmpdanliaa
