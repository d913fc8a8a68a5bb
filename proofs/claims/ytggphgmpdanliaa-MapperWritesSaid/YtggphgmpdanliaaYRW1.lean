/-
  What the document's register does to an MMC3.
-/
import Derived.Test.YtggphgmpdanliaaYCel
import Derived.Test.YtggphgmpdanliaaYA
set_option linter.unusedSimpArgs false
set_option linter.unusedVariables false
namespace Go.Proofs.Ytggphgmpdanliaa
open Go.RowKit Classical
set_option maxRecDepth 100000 in
set_option maxHeartbeats 1000000 in
theorem rreg_any (w : World) (b : Bd) (a v : Int) (hr : b.r.length = 8) (s0 : 0 ≤ b.sel) (s1 : b.sel ≤ 255) (a0 : 32768 ≤ a) (a1 : a ≤ 65535) (v0 : 0 ≤ v) (v1 : v ≤ 255) :
    Calls Try.prog 44 #[.agg b.cells, .int .u16 a, .int .u8 v] w fun e w' => e = .returned (.agg (wr4 b a v).cells) ∧ Below w.heap.size w w' := by
  have HR : Hid _ := hr
  have q1 : a.tmod 2 = a % 2 := Int.tmod_eq_emod_of_nonneg (by omega)
  have q2 : a.tdiv 8192 = a / 8192 := Int.tdiv_eq_ediv_of_nonneg (by omega)
  have q3 : b.sel.tmod 8 = b.sel % 8 := Int.tmod_eq_emod_of_nonneg s0
  have q4 : v.tmod 2 = v % 2 := Int.tmod_eq_emod_of_nonneg v0
  have y0 : 0 ≤ v % 2 := by omega
  have y1 : v % 2 ≤ 1 := by omega
  have wu : Hid (wr4 b a v = (if a / 8192 % 4 = 0 then (if a % 2 = 0 then { b with sel := bits .and .u8 v 199 } else { b with r := b.r.set (b.sel % 8).toNat v })
    else if a / 8192 % 4 = 1 then (if a % 2 = 0 then { b with turn := v % 2 } else { b with guard := bits .and .u8 v 192 })
    else if a / 8192 % 4 = 2 then (if a % 2 = 0 then { b with iLatch := v } else { b with iCount := 0, iLoad := true })
    else if a % 2 = 0 then { b with iOn := false, irq := false } else { b with iOn := true })) := rfl
  have C := isB b hr
  have ad : a / 8192 = 4 ∨ a / 8192 = 5 ∨ a / 8192 = 6 ∨ a / 8192 = 7 := by omega
  have ao : a % 2 = 0 ∨ a % 2 = 1 := by omega
  have ADH : Hid _ := ad
  have AOH : Hid _ := ao
  clear hr ad ao
  go_enter Try.func44, Try.ntmps44
  go_upto_region 1 with fail
  change Code.wp _ _ _ _ ((w.alloc (.cells b.cells 28)).alloc (.cells Z31 28))
  have p0 : Pair w b ((w.alloc (.cells b.cells 28)).alloc (.cells Z31 28)) := Pair.start w b
  generalize ((w.alloc (.cells b.cells 28)).alloc (.cells Z31 28)) = W0 at *
  have hcell := p0.blk.cell
  have d14 := (p0.blk.cell 14).trans C.h14
  have f7 := p0.blk.free
  have CH : Hid _ := C
  clear C
  have ad := ADH.out
  have ao := AOH.out
  clear ADH AOH
  rcases ad with ad | ad | ad | ad <;> rcases ao with ao | ao
  · have EF : Hid (wr4 b a v = { b with sel := bits .and .u8 v 199 }) := by unfold Hid; rw [wu.out, ad, ao]; rfl
    rw [ad] at q2
    rw [ao] at q1
    clear wu ad ao hcell CH
    have pF : Hid (Pair w ({ b with sel := bits .and .u8 v 199 }) _) := (Pair.set p0 14 (.int .u8 (bits .and .u8 v 199)) (cellsW_14 (b := b) HR.out _))
    have DL : Hid (({ b with sel := bits .and .u8 v 199 }).r.length = 8) := HR.out
    obtain ⟨d, hd⟩ : ∃ d : Bd, { b with sel := bits .and .u8 v 199 } = d := ⟨_, rfl⟩
    rw [hd] at pF DL EF
    clear hd p0 
    go_upto_region 20 with fail
    have Hs : Hid _ := (isB (d) DL.out).size
    have H1 : Hid _ := (isB (d) DL.out).one
    have bR : Hid _ := (Pair.blk pF.out).range
    have zR : Hid _ := Pair.res pF.out
    have bB : Hid _ := Pair.bel pF.out
    clear pF DL
    generalize hL : d.cells = L at *
    have HL : Hid _ := hL
    clear hL
    go_wp2_with (first
      | (refine wpList_load_mid rfl 28 _ rfl w.heap.size 0 rfl L.toList _ bR.out Try.underlying28 rfl (by rw [Array.length_toList, Hs.out]; exact Try.infoBoard) ?_)
      | (refine wpList_store_mid rfl 28 _ _ rfl (w.heap.size + 1) 0 L rfl rfl (by exact Blk.there zR.out _ Hs.out.symm) (by rw [Hs.out]; exact Try.infoBoard) H1.out ?_))
    exact ret_agg (m := w.heap.size + 1) (L := L) Try.results44 (by rfl) (Blk.setAll zR.out _ Hs.out) Try.underlying28 rfl (by rw [Hs.out]; exact Try.infoBoard) ⟨by rw [EF.out, HL.out], setCells_below (Nat.le_succ _) _ _ _ _ bB.out⟩
  · have E0 : Hid (wr4 b a v = { b with r := b.r.set (b.sel % 8).toNat v }) := by unfold Hid; rw [wu.out, ad, ao]; rfl
    rw [ad] at q2
    rw [ao] at q1
    clear wu ad ao hcell
    have sm : b.sel % 8 = 0 ∨ b.sel % 8 = 1 ∨ b.sel % 8 = 2 ∨ b.sel % 8 = 3 ∨ b.sel % 8 = 4 ∨ b.sel % 8 = 5 ∨ b.sel % 8 = 6 ∨ b.sel % 8 = 7 := by omega
    rcases sm with sm | sm | sm | sm | sm | sm | sm | sm
    · have EF : Hid (wr4 b a v = { b with r := b.r.set 0 v }) := by unfold Hid; rw [E0.out, sm]; rfl
      rw [sm] at q3
      have d15 := (p0.blk.cell 15).trans (CH.out.r 0 (by decide))
      clear E0 sm CH
      have pF : Hid (Pair w ({ b with r := b.r.set 0 v }) _) := (Pair.set p0 15 (.int .u8 v) (cellsW_15 (b := b) HR.out _))
      have DL : Hid (({ b with r := b.r.set 0 v }).r.length = 8) := (List.length_set ..).trans HR.out
      obtain ⟨d, hd⟩ : ∃ d : Bd, { b with r := b.r.set 0 v } = d := ⟨_, rfl⟩
      rw [hd] at pF DL EF
      clear hd p0 
      go_upto_region 20 with fail
      have Hs : Hid _ := (isB (d) DL.out).size
      have H1 : Hid _ := (isB (d) DL.out).one
      have bR : Hid _ := (Pair.blk pF.out).range
      have zR : Hid _ := Pair.res pF.out
      have bB : Hid _ := Pair.bel pF.out
      clear pF DL
      generalize hL : d.cells = L at *
      have HL : Hid _ := hL
      clear hL
      go_wp2_with (first
        | (refine wpList_load_mid rfl 28 _ rfl w.heap.size 0 rfl L.toList _ bR.out Try.underlying28 rfl (by rw [Array.length_toList, Hs.out]; exact Try.infoBoard) ?_)
        | (refine wpList_store_mid rfl 28 _ _ rfl (w.heap.size + 1) 0 L rfl rfl (by exact Blk.there zR.out _ Hs.out.symm) (by rw [Hs.out]; exact Try.infoBoard) H1.out ?_))
      exact ret_agg (m := w.heap.size + 1) (L := L) Try.results44 (by rfl) (Blk.setAll zR.out _ Hs.out) Try.underlying28 rfl (by rw [Hs.out]; exact Try.infoBoard) ⟨by rw [EF.out, HL.out], setCells_below (Nat.le_succ _) _ _ _ _ bB.out⟩
    · have EF : Hid (wr4 b a v = { b with r := b.r.set 1 v }) := by unfold Hid; rw [E0.out, sm]; rfl
      rw [sm] at q3
      have d16 := (p0.blk.cell 16).trans (CH.out.r 1 (by decide))
      clear E0 sm CH
      have pF : Hid (Pair w ({ b with r := b.r.set 1 v }) _) := (Pair.set p0 16 (.int .u8 v) (cellsW_16 (b := b) HR.out _))
      have DL : Hid (({ b with r := b.r.set 1 v }).r.length = 8) := (List.length_set ..).trans HR.out
      obtain ⟨d, hd⟩ : ∃ d : Bd, { b with r := b.r.set 1 v } = d := ⟨_, rfl⟩
      rw [hd] at pF DL EF
      clear hd p0 
      go_upto_region 20 with fail
      have Hs : Hid _ := (isB (d) DL.out).size
      have H1 : Hid _ := (isB (d) DL.out).one
      have bR : Hid _ := (Pair.blk pF.out).range
      have zR : Hid _ := Pair.res pF.out
      have bB : Hid _ := Pair.bel pF.out
      clear pF DL
      generalize hL : d.cells = L at *
      have HL : Hid _ := hL
      clear hL
      go_wp2_with (first
        | (refine wpList_load_mid rfl 28 _ rfl w.heap.size 0 rfl L.toList _ bR.out Try.underlying28 rfl (by rw [Array.length_toList, Hs.out]; exact Try.infoBoard) ?_)
        | (refine wpList_store_mid rfl 28 _ _ rfl (w.heap.size + 1) 0 L rfl rfl (by exact Blk.there zR.out _ Hs.out.symm) (by rw [Hs.out]; exact Try.infoBoard) H1.out ?_))
      exact ret_agg (m := w.heap.size + 1) (L := L) Try.results44 (by rfl) (Blk.setAll zR.out _ Hs.out) Try.underlying28 rfl (by rw [Hs.out]; exact Try.infoBoard) ⟨by rw [EF.out, HL.out], setCells_below (Nat.le_succ _) _ _ _ _ bB.out⟩
    · have EF : Hid (wr4 b a v = { b with r := b.r.set 2 v }) := by unfold Hid; rw [E0.out, sm]; rfl
      rw [sm] at q3
      have d17 := (p0.blk.cell 17).trans (CH.out.r 2 (by decide))
      clear E0 sm CH
      have pF : Hid (Pair w ({ b with r := b.r.set 2 v }) _) := (Pair.set p0 17 (.int .u8 v) (cellsW_17 (b := b) HR.out _))
      have DL : Hid (({ b with r := b.r.set 2 v }).r.length = 8) := (List.length_set ..).trans HR.out
      obtain ⟨d, hd⟩ : ∃ d : Bd, { b with r := b.r.set 2 v } = d := ⟨_, rfl⟩
      rw [hd] at pF DL EF
      clear hd p0 
      go_upto_region 20 with fail
      have Hs : Hid _ := (isB (d) DL.out).size
      have H1 : Hid _ := (isB (d) DL.out).one
      have bR : Hid _ := (Pair.blk pF.out).range
      have zR : Hid _ := Pair.res pF.out
      have bB : Hid _ := Pair.bel pF.out
      clear pF DL
      generalize hL : d.cells = L at *
      have HL : Hid _ := hL
      clear hL
      go_wp2_with (first
        | (refine wpList_load_mid rfl 28 _ rfl w.heap.size 0 rfl L.toList _ bR.out Try.underlying28 rfl (by rw [Array.length_toList, Hs.out]; exact Try.infoBoard) ?_)
        | (refine wpList_store_mid rfl 28 _ _ rfl (w.heap.size + 1) 0 L rfl rfl (by exact Blk.there zR.out _ Hs.out.symm) (by rw [Hs.out]; exact Try.infoBoard) H1.out ?_))
      exact ret_agg (m := w.heap.size + 1) (L := L) Try.results44 (by rfl) (Blk.setAll zR.out _ Hs.out) Try.underlying28 rfl (by rw [Hs.out]; exact Try.infoBoard) ⟨by rw [EF.out, HL.out], setCells_below (Nat.le_succ _) _ _ _ _ bB.out⟩
    · have EF : Hid (wr4 b a v = { b with r := b.r.set 3 v }) := by unfold Hid; rw [E0.out, sm]; rfl
      rw [sm] at q3
      have d18 := (p0.blk.cell 18).trans (CH.out.r 3 (by decide))
      clear E0 sm CH
      have pF : Hid (Pair w ({ b with r := b.r.set 3 v }) _) := (Pair.set p0 18 (.int .u8 v) (cellsW_18 (b := b) HR.out _))
      have DL : Hid (({ b with r := b.r.set 3 v }).r.length = 8) := (List.length_set ..).trans HR.out
      obtain ⟨d, hd⟩ : ∃ d : Bd, { b with r := b.r.set 3 v } = d := ⟨_, rfl⟩
      rw [hd] at pF DL EF
      clear hd p0 
      go_upto_region 20 with fail
      have Hs : Hid _ := (isB (d) DL.out).size
      have H1 : Hid _ := (isB (d) DL.out).one
      have bR : Hid _ := (Pair.blk pF.out).range
      have zR : Hid _ := Pair.res pF.out
      have bB : Hid _ := Pair.bel pF.out
      clear pF DL
      generalize hL : d.cells = L at *
      have HL : Hid _ := hL
      clear hL
      go_wp2_with (first
        | (refine wpList_load_mid rfl 28 _ rfl w.heap.size 0 rfl L.toList _ bR.out Try.underlying28 rfl (by rw [Array.length_toList, Hs.out]; exact Try.infoBoard) ?_)
        | (refine wpList_store_mid rfl 28 _ _ rfl (w.heap.size + 1) 0 L rfl rfl (by exact Blk.there zR.out _ Hs.out.symm) (by rw [Hs.out]; exact Try.infoBoard) H1.out ?_))
      exact ret_agg (m := w.heap.size + 1) (L := L) Try.results44 (by rfl) (Blk.setAll zR.out _ Hs.out) Try.underlying28 rfl (by rw [Hs.out]; exact Try.infoBoard) ⟨by rw [EF.out, HL.out], setCells_below (Nat.le_succ _) _ _ _ _ bB.out⟩
    · have EF : Hid (wr4 b a v = { b with r := b.r.set 4 v }) := by unfold Hid; rw [E0.out, sm]; rfl
      rw [sm] at q3
      have d19 := (p0.blk.cell 19).trans (CH.out.r 4 (by decide))
      clear E0 sm CH
      have pF : Hid (Pair w ({ b with r := b.r.set 4 v }) _) := (Pair.set p0 19 (.int .u8 v) (cellsW_19 (b := b) HR.out _))
      have DL : Hid (({ b with r := b.r.set 4 v }).r.length = 8) := (List.length_set ..).trans HR.out
      obtain ⟨d, hd⟩ : ∃ d : Bd, { b with r := b.r.set 4 v } = d := ⟨_, rfl⟩
      rw [hd] at pF DL EF
      clear hd p0 
      go_upto_region 20 with fail
      have Hs : Hid _ := (isB (d) DL.out).size
      have H1 : Hid _ := (isB (d) DL.out).one
      have bR : Hid _ := (Pair.blk pF.out).range
      have zR : Hid _ := Pair.res pF.out
      have bB : Hid _ := Pair.bel pF.out
      clear pF DL
      generalize hL : d.cells = L at *
      have HL : Hid _ := hL
      clear hL
      go_wp2_with (first
        | (refine wpList_load_mid rfl 28 _ rfl w.heap.size 0 rfl L.toList _ bR.out Try.underlying28 rfl (by rw [Array.length_toList, Hs.out]; exact Try.infoBoard) ?_)
        | (refine wpList_store_mid rfl 28 _ _ rfl (w.heap.size + 1) 0 L rfl rfl (by exact Blk.there zR.out _ Hs.out.symm) (by rw [Hs.out]; exact Try.infoBoard) H1.out ?_))
      exact ret_agg (m := w.heap.size + 1) (L := L) Try.results44 (by rfl) (Blk.setAll zR.out _ Hs.out) Try.underlying28 rfl (by rw [Hs.out]; exact Try.infoBoard) ⟨by rw [EF.out, HL.out], setCells_below (Nat.le_succ _) _ _ _ _ bB.out⟩
    · have EF : Hid (wr4 b a v = { b with r := b.r.set 5 v }) := by unfold Hid; rw [E0.out, sm]; rfl
      rw [sm] at q3
      have d20 := (p0.blk.cell 20).trans (CH.out.r 5 (by decide))
      clear E0 sm CH
      have pF : Hid (Pair w ({ b with r := b.r.set 5 v }) _) := (Pair.set p0 20 (.int .u8 v) (cellsW_20 (b := b) HR.out _))
      have DL : Hid (({ b with r := b.r.set 5 v }).r.length = 8) := (List.length_set ..).trans HR.out
      obtain ⟨d, hd⟩ : ∃ d : Bd, { b with r := b.r.set 5 v } = d := ⟨_, rfl⟩
      rw [hd] at pF DL EF
      clear hd p0 
      go_upto_region 20 with fail
      have Hs : Hid _ := (isB (d) DL.out).size
      have H1 : Hid _ := (isB (d) DL.out).one
      have bR : Hid _ := (Pair.blk pF.out).range
      have zR : Hid _ := Pair.res pF.out
      have bB : Hid _ := Pair.bel pF.out
      clear pF DL
      generalize hL : d.cells = L at *
      have HL : Hid _ := hL
      clear hL
      go_wp2_with (first
        | (refine wpList_load_mid rfl 28 _ rfl w.heap.size 0 rfl L.toList _ bR.out Try.underlying28 rfl (by rw [Array.length_toList, Hs.out]; exact Try.infoBoard) ?_)
        | (refine wpList_store_mid rfl 28 _ _ rfl (w.heap.size + 1) 0 L rfl rfl (by exact Blk.there zR.out _ Hs.out.symm) (by rw [Hs.out]; exact Try.infoBoard) H1.out ?_))
      exact ret_agg (m := w.heap.size + 1) (L := L) Try.results44 (by rfl) (Blk.setAll zR.out _ Hs.out) Try.underlying28 rfl (by rw [Hs.out]; exact Try.infoBoard) ⟨by rw [EF.out, HL.out], setCells_below (Nat.le_succ _) _ _ _ _ bB.out⟩
    · have EF : Hid (wr4 b a v = { b with r := b.r.set 6 v }) := by unfold Hid; rw [E0.out, sm]; rfl
      rw [sm] at q3
      have d21 := (p0.blk.cell 21).trans (CH.out.r 6 (by decide))
      clear E0 sm CH
      have pF : Hid (Pair w ({ b with r := b.r.set 6 v }) _) := (Pair.set p0 21 (.int .u8 v) (cellsW_21 (b := b) HR.out _))
      have DL : Hid (({ b with r := b.r.set 6 v }).r.length = 8) := (List.length_set ..).trans HR.out
      obtain ⟨d, hd⟩ : ∃ d : Bd, { b with r := b.r.set 6 v } = d := ⟨_, rfl⟩
      rw [hd] at pF DL EF
      clear hd p0 
      go_upto_region 20 with fail
      have Hs : Hid _ := (isB (d) DL.out).size
      have H1 : Hid _ := (isB (d) DL.out).one
      have bR : Hid _ := (Pair.blk pF.out).range
      have zR : Hid _ := Pair.res pF.out
      have bB : Hid _ := Pair.bel pF.out
      clear pF DL
      generalize hL : d.cells = L at *
      have HL : Hid _ := hL
      clear hL
      go_wp2_with (first
        | (refine wpList_load_mid rfl 28 _ rfl w.heap.size 0 rfl L.toList _ bR.out Try.underlying28 rfl (by rw [Array.length_toList, Hs.out]; exact Try.infoBoard) ?_)
        | (refine wpList_store_mid rfl 28 _ _ rfl (w.heap.size + 1) 0 L rfl rfl (by exact Blk.there zR.out _ Hs.out.symm) (by rw [Hs.out]; exact Try.infoBoard) H1.out ?_))
      exact ret_agg (m := w.heap.size + 1) (L := L) Try.results44 (by rfl) (Blk.setAll zR.out _ Hs.out) Try.underlying28 rfl (by rw [Hs.out]; exact Try.infoBoard) ⟨by rw [EF.out, HL.out], setCells_below (Nat.le_succ _) _ _ _ _ bB.out⟩
    · have EF : Hid (wr4 b a v = { b with r := b.r.set 7 v }) := by unfold Hid; rw [E0.out, sm]; rfl
      rw [sm] at q3
      have d22 := (p0.blk.cell 22).trans (CH.out.r 7 (by decide))
      clear E0 sm CH
      have pF : Hid (Pair w ({ b with r := b.r.set 7 v }) _) := (Pair.set p0 22 (.int .u8 v) (cellsW_22 (b := b) HR.out _))
      have DL : Hid (({ b with r := b.r.set 7 v }).r.length = 8) := (List.length_set ..).trans HR.out
      obtain ⟨d, hd⟩ : ∃ d : Bd, { b with r := b.r.set 7 v } = d := ⟨_, rfl⟩
      rw [hd] at pF DL EF
      clear hd p0 
      go_upto_region 20 with fail
      have Hs : Hid _ := (isB (d) DL.out).size
      have H1 : Hid _ := (isB (d) DL.out).one
      have bR : Hid _ := (Pair.blk pF.out).range
      have zR : Hid _ := Pair.res pF.out
      have bB : Hid _ := Pair.bel pF.out
      clear pF DL
      generalize hL : d.cells = L at *
      have HL : Hid _ := hL
      clear hL
      go_wp2_with (first
        | (refine wpList_load_mid rfl 28 _ rfl w.heap.size 0 rfl L.toList _ bR.out Try.underlying28 rfl (by rw [Array.length_toList, Hs.out]; exact Try.infoBoard) ?_)
        | (refine wpList_store_mid rfl 28 _ _ rfl (w.heap.size + 1) 0 L rfl rfl (by exact Blk.there zR.out _ Hs.out.symm) (by rw [Hs.out]; exact Try.infoBoard) H1.out ?_))
      exact ret_agg (m := w.heap.size + 1) (L := L) Try.results44 (by rfl) (Blk.setAll zR.out _ Hs.out) Try.underlying28 rfl (by rw [Hs.out]; exact Try.infoBoard) ⟨by rw [EF.out, HL.out], setCells_below (Nat.le_succ _) _ _ _ _ bB.out⟩
  · have EF : Hid (wr4 b a v = { b with turn := v % 2 }) := by unfold Hid; rw [wu.out, ad, ao]; rfl
    rw [ad] at q2
    rw [ao] at q1
    have d23 := (p0.blk.cell 23).trans CH.out.h23
    clear wu ad ao hcell CH
    have pF : Hid (Pair w ({ b with turn := v % 2 }) _) := (Pair.set p0 23 (.int .u8 (v % 2)) (cellsW_23 (b := b) HR.out _))
    have DL : Hid (({ b with turn := v % 2 }).r.length = 8) := HR.out
    obtain ⟨d, hd⟩ : ∃ d : Bd, { b with turn := v % 2 } = d := ⟨_, rfl⟩
    rw [hd] at pF DL EF
    clear hd p0 
    go_upto_region 20 with fail
    have Hs : Hid _ := (isB (d) DL.out).size
    have H1 : Hid _ := (isB (d) DL.out).one
    have bR : Hid _ := (Pair.blk pF.out).range
    have zR : Hid _ := Pair.res pF.out
    have bB : Hid _ := Pair.bel pF.out
    clear pF DL
    generalize hL : d.cells = L at *
    have HL : Hid _ := hL
    clear hL
    go_wp2_with (first
      | (refine wpList_load_mid rfl 28 _ rfl w.heap.size 0 rfl L.toList _ bR.out Try.underlying28 rfl (by rw [Array.length_toList, Hs.out]; exact Try.infoBoard) ?_)
      | (refine wpList_store_mid rfl 28 _ _ rfl (w.heap.size + 1) 0 L rfl rfl (by exact Blk.there zR.out _ Hs.out.symm) (by rw [Hs.out]; exact Try.infoBoard) H1.out ?_))
    exact ret_agg (m := w.heap.size + 1) (L := L) Try.results44 (by rfl) (Blk.setAll zR.out _ Hs.out) Try.underlying28 rfl (by rw [Hs.out]; exact Try.infoBoard) ⟨by rw [EF.out, HL.out], setCells_below (Nat.le_succ _) _ _ _ _ bB.out⟩
  · have EF : Hid (wr4 b a v = { b with guard := bits .and .u8 v 192 }) := by unfold Hid; rw [wu.out, ad, ao]; rfl
    rw [ad] at q2
    rw [ao] at q1
    have d24 := (p0.blk.cell 24).trans CH.out.h24
    clear wu ad ao hcell CH
    have pF : Hid (Pair w ({ b with guard := bits .and .u8 v 192 }) _) := (Pair.set p0 24 (.int .u8 (bits .and .u8 v 192)) (cellsW_24 (b := b) HR.out _))
    have DL : Hid (({ b with guard := bits .and .u8 v 192 }).r.length = 8) := HR.out
    obtain ⟨d, hd⟩ : ∃ d : Bd, { b with guard := bits .and .u8 v 192 } = d := ⟨_, rfl⟩
    rw [hd] at pF DL EF
    clear hd p0 
    go_upto_region 20 with fail
    have Hs : Hid _ := (isB (d) DL.out).size
    have H1 : Hid _ := (isB (d) DL.out).one
    have bR : Hid _ := (Pair.blk pF.out).range
    have zR : Hid _ := Pair.res pF.out
    have bB : Hid _ := Pair.bel pF.out
    clear pF DL
    generalize hL : d.cells = L at *
    have HL : Hid _ := hL
    clear hL
    go_wp2_with (first
      | (refine wpList_load_mid rfl 28 _ rfl w.heap.size 0 rfl L.toList _ bR.out Try.underlying28 rfl (by rw [Array.length_toList, Hs.out]; exact Try.infoBoard) ?_)
      | (refine wpList_store_mid rfl 28 _ _ rfl (w.heap.size + 1) 0 L rfl rfl (by exact Blk.there zR.out _ Hs.out.symm) (by rw [Hs.out]; exact Try.infoBoard) H1.out ?_))
    exact ret_agg (m := w.heap.size + 1) (L := L) Try.results44 (by rfl) (Blk.setAll zR.out _ Hs.out) Try.underlying28 rfl (by rw [Hs.out]; exact Try.infoBoard) ⟨by rw [EF.out, HL.out], setCells_below (Nat.le_succ _) _ _ _ _ bB.out⟩
  · have EF : Hid (wr4 b a v = { b with iLatch := v }) := by unfold Hid; rw [wu.out, ad, ao]; rfl
    rw [ad] at q2
    rw [ao] at q1
    have d25 := (p0.blk.cell 25).trans CH.out.h25
    clear wu ad ao hcell CH
    have pF : Hid (Pair w ({ b with iLatch := v }) _) := (Pair.set p0 25 (.int .u8 v) (cellsW_25 (b := b) HR.out _))
    have DL : Hid (({ b with iLatch := v }).r.length = 8) := HR.out
    obtain ⟨d, hd⟩ : ∃ d : Bd, { b with iLatch := v } = d := ⟨_, rfl⟩
    rw [hd] at pF DL EF
    clear hd p0 
    go_upto_region 20 with fail
    have Hs : Hid _ := (isB (d) DL.out).size
    have H1 : Hid _ := (isB (d) DL.out).one
    have bR : Hid _ := (Pair.blk pF.out).range
    have zR : Hid _ := Pair.res pF.out
    have bB : Hid _ := Pair.bel pF.out
    clear pF DL
    generalize hL : d.cells = L at *
    have HL : Hid _ := hL
    clear hL
    go_wp2_with (first
      | (refine wpList_load_mid rfl 28 _ rfl w.heap.size 0 rfl L.toList _ bR.out Try.underlying28 rfl (by rw [Array.length_toList, Hs.out]; exact Try.infoBoard) ?_)
      | (refine wpList_store_mid rfl 28 _ _ rfl (w.heap.size + 1) 0 L rfl rfl (by exact Blk.there zR.out _ Hs.out.symm) (by rw [Hs.out]; exact Try.infoBoard) H1.out ?_))
    exact ret_agg (m := w.heap.size + 1) (L := L) Try.results44 (by rfl) (Blk.setAll zR.out _ Hs.out) Try.underlying28 rfl (by rw [Hs.out]; exact Try.infoBoard) ⟨by rw [EF.out, HL.out], setCells_below (Nat.le_succ _) _ _ _ _ bB.out⟩
  · have EF : Hid (wr4 b a v = { b with iCount := 0, iLoad := true }) := by unfold Hid; rw [wu.out, ad, ao]; rfl
    rw [ad] at q2
    rw [ao] at q1
    have d26 := (p0.blk.cell 26).trans CH.out.h26
    have d27 := (p0.blk.cell 27).trans CH.out.h27
    clear wu ad ao hcell CH
    have pF : Hid (Pair w ({ b with iCount := 0, iLoad := true }) _) := (Pair.set (Pair.set p0 26 (.int .u8 0) (cellsW_26 (b := b) HR.out _)) 27 (.bool true) (cellsW_27 (b := { b with iCount := 0 }) HR.out _))
    have DL : Hid (({ b with iCount := 0, iLoad := true }).r.length = 8) := HR.out
    obtain ⟨d, hd⟩ : ∃ d : Bd, { b with iCount := 0, iLoad := true } = d := ⟨_, rfl⟩
    rw [hd] at pF DL EF
    clear hd p0 
    go_upto_region 20 with fail
    have Hs : Hid _ := (isB (d) DL.out).size
    have H1 : Hid _ := (isB (d) DL.out).one
    have bR : Hid _ := (Pair.blk pF.out).range
    have zR : Hid _ := Pair.res pF.out
    have bB : Hid _ := Pair.bel pF.out
    clear pF DL
    generalize hL : d.cells = L at *
    have HL : Hid _ := hL
    clear hL
    go_wp2_with (first
      | (refine wpList_load_mid rfl 28 _ rfl w.heap.size 0 rfl L.toList _ bR.out Try.underlying28 rfl (by rw [Array.length_toList, Hs.out]; exact Try.infoBoard) ?_)
      | (refine wpList_store_mid rfl 28 _ _ rfl (w.heap.size + 1) 0 L rfl rfl (by exact Blk.there zR.out _ Hs.out.symm) (by rw [Hs.out]; exact Try.infoBoard) H1.out ?_))
    exact ret_agg (m := w.heap.size + 1) (L := L) Try.results44 (by rfl) (Blk.setAll zR.out _ Hs.out) Try.underlying28 rfl (by rw [Hs.out]; exact Try.infoBoard) ⟨by rw [EF.out, HL.out], setCells_below (Nat.le_succ _) _ _ _ _ bB.out⟩
  · have EF : Hid (wr4 b a v = { b with iOn := false, irq := false }) := by unfold Hid; rw [wu.out, ad, ao]; rfl
    rw [ad] at q2
    rw [ao] at q1
    have d28 := (p0.blk.cell 28).trans CH.out.h28
    have d29 := (p0.blk.cell 29).trans CH.out.h29
    clear wu ad ao hcell CH
    have pF : Hid (Pair w ({ b with iOn := false, irq := false }) _) := (Pair.set (Pair.set p0 28 (.bool false) (cellsW_28 (b := b) HR.out _)) 29 (.bool false) (cellsW_29 (b := { b with iOn := false }) HR.out _))
    have DL : Hid (({ b with iOn := false, irq := false }).r.length = 8) := HR.out
    obtain ⟨d, hd⟩ : ∃ d : Bd, { b with iOn := false, irq := false } = d := ⟨_, rfl⟩
    rw [hd] at pF DL EF
    clear hd p0 
    go_upto_region 20 with fail
    have Hs : Hid _ := (isB (d) DL.out).size
    have H1 : Hid _ := (isB (d) DL.out).one
    have bR : Hid _ := (Pair.blk pF.out).range
    have zR : Hid _ := Pair.res pF.out
    have bB : Hid _ := Pair.bel pF.out
    clear pF DL
    generalize hL : d.cells = L at *
    have HL : Hid _ := hL
    clear hL
    go_wp2_with (first
      | (refine wpList_load_mid rfl 28 _ rfl w.heap.size 0 rfl L.toList _ bR.out Try.underlying28 rfl (by rw [Array.length_toList, Hs.out]; exact Try.infoBoard) ?_)
      | (refine wpList_store_mid rfl 28 _ _ rfl (w.heap.size + 1) 0 L rfl rfl (by exact Blk.there zR.out _ Hs.out.symm) (by rw [Hs.out]; exact Try.infoBoard) H1.out ?_))
    exact ret_agg (m := w.heap.size + 1) (L := L) Try.results44 (by rfl) (Blk.setAll zR.out _ Hs.out) Try.underlying28 rfl (by rw [Hs.out]; exact Try.infoBoard) ⟨by rw [EF.out, HL.out], setCells_below (Nat.le_succ _) _ _ _ _ bB.out⟩
  · have EF : Hid (wr4 b a v = { b with iOn := true }) := by unfold Hid; rw [wu.out, ad, ao]; rfl
    rw [ad] at q2
    rw [ao] at q1
    have d28 := (p0.blk.cell 28).trans CH.out.h28
    clear wu ad ao hcell CH
    have pF : Hid (Pair w ({ b with iOn := true }) _) := (Pair.set p0 28 (.bool true) (cellsW_28 (b := b) HR.out _))
    have DL : Hid (({ b with iOn := true }).r.length = 8) := HR.out
    obtain ⟨d, hd⟩ : ∃ d : Bd, { b with iOn := true } = d := ⟨_, rfl⟩
    rw [hd] at pF DL EF
    clear hd p0 
    go_upto_region 20 with fail
    have Hs : Hid _ := (isB (d) DL.out).size
    have H1 : Hid _ := (isB (d) DL.out).one
    have bR : Hid _ := (Pair.blk pF.out).range
    have zR : Hid _ := Pair.res pF.out
    have bB : Hid _ := Pair.bel pF.out
    clear pF DL
    generalize hL : d.cells = L at *
    have HL : Hid _ := hL
    clear hL
    go_wp2_with (first
      | (refine wpList_load_mid rfl 28 _ rfl w.heap.size 0 rfl L.toList _ bR.out Try.underlying28 rfl (by rw [Array.length_toList, Hs.out]; exact Try.infoBoard) ?_)
      | (refine wpList_store_mid rfl 28 _ _ rfl (w.heap.size + 1) 0 L rfl rfl (by exact Blk.there zR.out _ Hs.out.symm) (by rw [Hs.out]; exact Try.infoBoard) H1.out ?_))
    exact ret_agg (m := w.heap.size + 1) (L := L) Try.results44 (by rfl) (Blk.setAll zR.out _ Hs.out) Try.underlying28 rfl (by rw [Hs.out]; exact Try.infoBoard) ⟨by rw [EF.out, HL.out], setCells_below (Nat.le_succ _) _ _ _ _ bB.out⟩
end Go.Proofs.Ytggphgmpdanliaa
