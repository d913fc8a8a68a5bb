/-
  What the document's bit does to an MMC1.
-/
import Derived.Test.YtggphgmpdanliaaYCel
import Derived.Test.YtggphgmpdanliaaYA
set_option linter.unusedSimpArgs false
set_option linter.unusedVariables false
namespace Go.Proofs.Ytggphgmpdanliaa
open Go.RowKit Classical
/-- What the document's bit makes of a board. -/
def bitB (b : Bd) (a v : Int) : Bd := if 128 ≤ v then { b with shift := 16, ctrl := bits .or .u8 b.ctrl 12 } else pushB b a v
set_option maxRecDepth 100000 in
set_option maxHeartbeats 1000000 in
theorem rbit_any (w : World) (b : Bd) (a v : Int) (hr : b.r.length = 8) (s0 : 0 ≤ b.shift) (s1 : b.shift ≤ 31) (a0 : 32768 ≤ a) (a1 : a ≤ 65535) (v0 : 0 ≤ v) (v1 : v ≤ 255) :
    Calls Try.prog 43 #[.agg b.cells, .int .u16 a, .int .u8 v] w fun e w' => e = .returned (.agg (bitB b a v).cells) ∧ Below w.heap.size w w' := by
  have HR : Hid _ := hr
  have e128 := bit128 v0 v1
  have q1 : b.shift.tdiv 2 = b.shift / 2 := Int.tdiv_eq_ediv_of_nonneg s0
  have q2 : v.tmod 2 = v % 2 := Int.tmod_eq_emod_of_nonneg v0
  have q3 : b.shift.tmod 2 = b.shift % 2 := Int.tmod_eq_emod_of_nonneg s0
  have q4 : a.tdiv 8192 = a / 8192 := Int.tdiv_eq_ediv_of_nonneg (by omega)
  have y0 : 0 ≤ v % 2 := by omega
  have y1 : v % 2 ≤ 1 := by omega
  have z0 : 0 ≤ b.shift / 2 := by omega
  have z1 : b.shift / 2 ≤ 15 := by omega
  have SH : Hid (bitB b a v = if 128 ≤ v then { b with shift := 16, ctrl := bits .or .u8 b.ctrl 12 } else pushB b a v) := rfl
  have PS : Hid (pushB b a v = if b.shift % 2 = 0 then { b with shift := b.shift / 2 + v % 2 * 16 } else if a / 8192 % 4 = 0 then { b with shift := 16, ctrl := b.shift / 2 + v % 2 * 16 } else if a / 8192 % 4 = 1 then { b with shift := 16, chrA := b.shift / 2 + v % 2 * 16 } else if a / 8192 % 4 = 2 then { b with shift := 16, chrB := b.shift / 2 + v % 2 * 16 } else { b with shift := 16, prgR := b.shift / 2 + v % 2 * 16 }) := rfl
  have C := isB b hr
  have VV : Hid _ := (⟨v0, v1⟩ : 0 ≤ v ∧ v ≤ 255)
  have AH : Hid _ := (⟨a0, a1⟩ : 32768 ≤ a ∧ a ≤ 65535)
  have XH : Hid _ := s1
  clear hr
  go_enter Try.func43, Try.ntmps43
  go_upto_region 1 with fail
  change Code.wp _ _ _ _ ((w.alloc (.cells b.cells 28)).alloc (.cells Z31 28))
  have p0 : Pair w b ((w.alloc (.cells b.cells 28)).alloc (.cells Z31 28)) := Pair.start w b
  generalize ((w.alloc (.cells b.cells 28)).alloc (.cells Z31 28)) = W0 at *
  have d7 := (p0.blk.cell 7).trans C.h7
  have d8 := (p0.blk.cell 8).trans C.h8
  have d9 := (p0.blk.cell 9).trans C.h9
  have d10 := (p0.blk.cell 10).trans C.h10
  have d11 := (p0.blk.cell 11).trans C.h11
  have f7 := p0.blk.free
  clear C
  by_cases h : 128 ≤ v
  · have EF : Hid (bitB b a v = { b with shift := 16, ctrl := bits .or .u8 b.ctrl 12 }) := by unfold Hid; rw [SH.out, if_pos h]
    rw [show v / 128 % 2 = 1 by omega] at e128
    clear SH PS h q1 q2 q3 q4
    have pF : Hid (Pair w ({ b with shift := 16, ctrl := bits .or .u8 b.ctrl 12 }) _) := (Pair.set (Pair.set p0 7 (.int .u8 16) (cellsW_7 (b := b) HR.out _)) 8 (.int .u8 (bits .or .u8 b.ctrl 12)) (cellsW_8 (b := { b with shift := 16 }) HR.out _))
    have DL : Hid (({ b with shift := 16, ctrl := bits .or .u8 b.ctrl 12 }).r.length = 8) := HR.out
    obtain ⟨d, hd⟩ : ∃ d : Bd, { b with shift := 16, ctrl := bits .or .u8 b.ctrl 12 } = d := ⟨_, rfl⟩
    rw [hd] at pF DL EF
    clear hd p0 
    go_upto_region 4 with fail
    have Hs : Hid _ := (isB (d) DL.out).size
    have H1 : Hid _ := (isB (d) DL.out).one
    have bR : Hid _ := (Pair.blk pF.out).range
    have zR : Hid _ := Pair.res pF.out
    have bB : Hid _ := Pair.bel pF.out
    clear pF DL
    generalize hL : d.cells = L at *
    have HL : Hid _ := hL
    clear hL
    go_wp2_with (first
      | (refine wpList_load_mid rfl 28 _ rfl w.heap.size 0 rfl L.toList _ bR.out Try.underlying28 rfl (by rw [Array.length_toList, Hs.out]; exact Try.infoBoard) ?_)
      | (refine wpList_store_mid rfl 28 _ _ rfl (w.heap.size + 1) 0 L rfl rfl (by exact Blk.there zR.out _ Hs.out.symm) (by rw [Hs.out]; exact Try.infoBoard) H1.out ?_))
    exact ret_agg (m := w.heap.size + 1) (L := L) Try.results43 (by rfl) (Blk.setAll zR.out _ Hs.out) Try.underlying28 rfl (by rw [Hs.out]; exact Try.infoBoard) ⟨by rw [EF.out, HL.out], setCells_below (Nat.le_succ _) _ _ _ _ bB.out⟩
  have E0 : Hid (bitB b a v = pushB b a v) := by unfold Hid; rw [SH.out, if_neg h]
  rw [show v / 128 % 2 = 0 by omega] at e128
  clear SH
  by_cases g : b.shift % 2 = 0
  · have EF : Hid (bitB b a v = { b with shift := b.shift / 2 + v % 2 * 16 }) := by unfold Hid; rw [E0.out, PS.out, if_pos g]
    rw [g] at q3
    have tt0 : 0 ≤ b.shift / 2 + v % 2 * 16 := by omega
    have tt1 : b.shift / 2 + v % 2 * 16 ≤ 255 := by omega
    clear PS E0 h g q4
    have pF : Hid (Pair w ({ b with shift := b.shift / 2 + v % 2 * 16 }) _) := (Pair.set p0 7 (.int .u8 (b.shift / 2 + v % 2 * 16)) (cellsW_7 (b := b) HR.out _))
    have DL : Hid (({ b with shift := b.shift / 2 + v % 2 * 16 }).r.length = 8) := HR.out
    obtain ⟨d, hd⟩ : ∃ d : Bd, { b with shift := b.shift / 2 + v % 2 * 16 } = d := ⟨_, rfl⟩
    rw [hd] at pF DL EF
    clear hd p0 
    go_upto_region 8 with fail
    have Hs : Hid _ := (isB (d) DL.out).size
    have H1 : Hid _ := (isB (d) DL.out).one
    have bR : Hid _ := (Pair.blk pF.out).range
    have zR : Hid _ := Pair.res pF.out
    have bB : Hid _ := Pair.bel pF.out
    clear pF DL
    generalize hL : d.cells = L at *
    have HL : Hid _ := hL
    clear hL
    go_wp2_with (first
      | (refine wpList_load_mid rfl 28 _ rfl w.heap.size 0 rfl L.toList _ bR.out Try.underlying28 rfl (by rw [Array.length_toList, Hs.out]; exact Try.infoBoard) ?_)
      | (refine wpList_store_mid rfl 28 _ _ rfl (w.heap.size + 1) 0 L rfl rfl (by exact Blk.there zR.out _ Hs.out.symm) (by rw [Hs.out]; exact Try.infoBoard) H1.out ?_))
    exact ret_agg (m := w.heap.size + 1) (L := L) Try.results43 (by rfl) (Blk.setAll zR.out _ Hs.out) Try.underlying28 rfl (by rw [Hs.out]; exact Try.infoBoard) ⟨by rw [EF.out, HL.out], setCells_below (Nat.le_succ _) _ _ _ _ bB.out⟩
  rw [show b.shift % 2 = 1 by omega] at q3
  have ad : a / 8192 = 4 ∨ a / 8192 = 5 ∨ a / 8192 = 6 ∨ a / 8192 = 7 := by omega
  have tt0 : 0 ≤ b.shift / 2 + v % 2 * 16 := by omega
  have tt1 : b.shift / 2 + v % 2 * 16 ≤ 255 := by omega
  rcases ad with ad | ad | ad | ad
  · have EF : Hid (bitB b a v = { b with shift := 16, ctrl := b.shift / 2 + v % 2 * 16 }) := by unfold Hid; rw [E0.out, PS.out, if_neg g, ad]; rfl
    rw [ad] at q4
    clear PS E0 h g ad
    have pF : Hid (Pair w ({ b with shift := 16, ctrl := b.shift / 2 + v % 2 * 16 }) _) := (Pair.set (Pair.set p0 7 (.int .u8 16) (cellsW_7 (b := b) HR.out _)) 8 (.int .u8 (b.shift / 2 + v % 2 * 16)) (cellsW_8 (b := { b with shift := 16 }) HR.out _))
    have DL : Hid (({ b with shift := 16, ctrl := b.shift / 2 + v % 2 * 16 }).r.length = 8) := HR.out
    obtain ⟨d, hd⟩ : ∃ d : Bd, { b with shift := 16, ctrl := b.shift / 2 + v % 2 * 16 } = d := ⟨_, rfl⟩
    rw [hd] at pF DL EF
    clear hd p0 
    go_upto_region 19 with fail
    have Hs : Hid _ := (isB (d) DL.out).size
    have H1 : Hid _ := (isB (d) DL.out).one
    have bR : Hid _ := (Pair.blk pF.out).range
    have zR : Hid _ := Pair.res pF.out
    have bB : Hid _ := Pair.bel pF.out
    clear pF DL
    generalize hL : d.cells = L at *
    have HL : Hid _ := hL
    clear hL
    go_wp2_with (first
      | (refine wpList_load_mid rfl 28 _ rfl w.heap.size 0 rfl L.toList _ bR.out Try.underlying28 rfl (by rw [Array.length_toList, Hs.out]; exact Try.infoBoard) ?_)
      | (refine wpList_store_mid rfl 28 _ _ rfl (w.heap.size + 1) 0 L rfl rfl (by exact Blk.there zR.out _ Hs.out.symm) (by rw [Hs.out]; exact Try.infoBoard) H1.out ?_))
    exact ret_agg (m := w.heap.size + 1) (L := L) Try.results43 (by rfl) (Blk.setAll zR.out _ Hs.out) Try.underlying28 rfl (by rw [Hs.out]; exact Try.infoBoard) ⟨by rw [EF.out, HL.out], setCells_below (Nat.le_succ _) _ _ _ _ bB.out⟩
  · have EF : Hid (bitB b a v = { b with shift := 16, chrA := b.shift / 2 + v % 2 * 16 }) := by unfold Hid; rw [E0.out, PS.out, if_neg g, ad]; rfl
    rw [ad] at q4
    clear PS E0 h g ad
    have pF : Hid (Pair w ({ b with shift := 16, chrA := b.shift / 2 + v % 2 * 16 }) _) := (Pair.set (Pair.set p0 7 (.int .u8 16) (cellsW_7 (b := b) HR.out _)) 9 (.int .u8 (b.shift / 2 + v % 2 * 16)) (cellsW_9 (b := { b with shift := 16 }) HR.out _))
    have DL : Hid (({ b with shift := 16, chrA := b.shift / 2 + v % 2 * 16 }).r.length = 8) := HR.out
    obtain ⟨d, hd⟩ : ∃ d : Bd, { b with shift := 16, chrA := b.shift / 2 + v % 2 * 16 } = d := ⟨_, rfl⟩
    rw [hd] at pF DL EF
    clear hd p0 
    go_upto_region 19 with fail
    have Hs : Hid _ := (isB (d) DL.out).size
    have H1 : Hid _ := (isB (d) DL.out).one
    have bR : Hid _ := (Pair.blk pF.out).range
    have zR : Hid _ := Pair.res pF.out
    have bB : Hid _ := Pair.bel pF.out
    clear pF DL
    generalize hL : d.cells = L at *
    have HL : Hid _ := hL
    clear hL
    go_wp2_with (first
      | (refine wpList_load_mid rfl 28 _ rfl w.heap.size 0 rfl L.toList _ bR.out Try.underlying28 rfl (by rw [Array.length_toList, Hs.out]; exact Try.infoBoard) ?_)
      | (refine wpList_store_mid rfl 28 _ _ rfl (w.heap.size + 1) 0 L rfl rfl (by exact Blk.there zR.out _ Hs.out.symm) (by rw [Hs.out]; exact Try.infoBoard) H1.out ?_))
    exact ret_agg (m := w.heap.size + 1) (L := L) Try.results43 (by rfl) (Blk.setAll zR.out _ Hs.out) Try.underlying28 rfl (by rw [Hs.out]; exact Try.infoBoard) ⟨by rw [EF.out, HL.out], setCells_below (Nat.le_succ _) _ _ _ _ bB.out⟩
  · have EF : Hid (bitB b a v = { b with shift := 16, chrB := b.shift / 2 + v % 2 * 16 }) := by unfold Hid; rw [E0.out, PS.out, if_neg g, ad]; rfl
    rw [ad] at q4
    clear PS E0 h g ad
    have pF : Hid (Pair w ({ b with shift := 16, chrB := b.shift / 2 + v % 2 * 16 }) _) := (Pair.set (Pair.set p0 7 (.int .u8 16) (cellsW_7 (b := b) HR.out _)) 10 (.int .u8 (b.shift / 2 + v % 2 * 16)) (cellsW_10 (b := { b with shift := 16 }) HR.out _))
    have DL : Hid (({ b with shift := 16, chrB := b.shift / 2 + v % 2 * 16 }).r.length = 8) := HR.out
    obtain ⟨d, hd⟩ : ∃ d : Bd, { b with shift := 16, chrB := b.shift / 2 + v % 2 * 16 } = d := ⟨_, rfl⟩
    rw [hd] at pF DL EF
    clear hd p0 
    go_upto_region 19 with fail
    have Hs : Hid _ := (isB (d) DL.out).size
    have H1 : Hid _ := (isB (d) DL.out).one
    have bR : Hid _ := (Pair.blk pF.out).range
    have zR : Hid _ := Pair.res pF.out
    have bB : Hid _ := Pair.bel pF.out
    clear pF DL
    generalize hL : d.cells = L at *
    have HL : Hid _ := hL
    clear hL
    go_wp2_with (first
      | (refine wpList_load_mid rfl 28 _ rfl w.heap.size 0 rfl L.toList _ bR.out Try.underlying28 rfl (by rw [Array.length_toList, Hs.out]; exact Try.infoBoard) ?_)
      | (refine wpList_store_mid rfl 28 _ _ rfl (w.heap.size + 1) 0 L rfl rfl (by exact Blk.there zR.out _ Hs.out.symm) (by rw [Hs.out]; exact Try.infoBoard) H1.out ?_))
    exact ret_agg (m := w.heap.size + 1) (L := L) Try.results43 (by rfl) (Blk.setAll zR.out _ Hs.out) Try.underlying28 rfl (by rw [Hs.out]; exact Try.infoBoard) ⟨by rw [EF.out, HL.out], setCells_below (Nat.le_succ _) _ _ _ _ bB.out⟩
  · have EF : Hid (bitB b a v = { b with shift := 16, prgR := b.shift / 2 + v % 2 * 16 }) := by unfold Hid; rw [E0.out, PS.out, if_neg g, ad]; rfl
    rw [ad] at q4
    clear PS E0 h g ad
    have pF : Hid (Pair w ({ b with shift := 16, prgR := b.shift / 2 + v % 2 * 16 }) _) := (Pair.set (Pair.set p0 7 (.int .u8 16) (cellsW_7 (b := b) HR.out _)) 11 (.int .u8 (b.shift / 2 + v % 2 * 16)) (cellsW_11 (b := { b with shift := 16 }) HR.out _))
    have DL : Hid (({ b with shift := 16, prgR := b.shift / 2 + v % 2 * 16 }).r.length = 8) := HR.out
    obtain ⟨d, hd⟩ : ∃ d : Bd, { b with shift := 16, prgR := b.shift / 2 + v % 2 * 16 } = d := ⟨_, rfl⟩
    rw [hd] at pF DL EF
    clear hd p0 
    go_upto_region 19 with fail
    have Hs : Hid _ := (isB (d) DL.out).size
    have H1 : Hid _ := (isB (d) DL.out).one
    have bR : Hid _ := (Pair.blk pF.out).range
    have zR : Hid _ := Pair.res pF.out
    have bB : Hid _ := Pair.bel pF.out
    clear pF DL
    generalize hL : d.cells = L at *
    have HL : Hid _ := hL
    clear hL
    go_wp2_with (first
      | (refine wpList_load_mid rfl 28 _ rfl w.heap.size 0 rfl L.toList _ bR.out Try.underlying28 rfl (by rw [Array.length_toList, Hs.out]; exact Try.infoBoard) ?_)
      | (refine wpList_store_mid rfl 28 _ _ rfl (w.heap.size + 1) 0 L rfl rfl (by exact Blk.there zR.out _ Hs.out.symm) (by rw [Hs.out]; exact Try.infoBoard) H1.out ?_))
    exact ret_agg (m := w.heap.size + 1) (L := L) Try.results43 (by rfl) (Blk.setAll zR.out _ Hs.out) Try.underlying28 rfl (by rw [Hs.out]; exact Try.infoBoard) ⟨by rw [EF.out, HL.out], setCells_below (Nat.le_succ _) _ _ _ _ bB.out⟩
end Go.Proofs.Ytggphgmpdanliaa
