/-
  What Valid answers of every video memory on every board, the code's and the document's.
-/
import Derived.Test.YtecaipakaaongaaXvValid
set_option linter.unusedSimpArgs false
set_option linter.unusedVariables false
namespace Go.Proofs.Ytecaipakaaongaa
open Go.RowKit Classical
theorem yieldsVd {ops : Array Oper} {S : World → Prop} {op : Oper} {a : Act} (hw : Region.wanted op (yielded ops a.tmps) = true) (x : Operand) (ho : op.op = .load 28 x)
    (b : Nat) (hx : a.eval x = .pointer (some ⟨b, 0, none⟩)) (cs : Array Value) (hS : ∀ w, S w → Blk w b cs 28) (hs : cs.size = 12585) : YieldsIf Try.prog ops S op (.agg cs) a := by
  have h := yieldsIf_load_mid (P := Try.prog) (ops := ops) (S := S) hw 28 x ho b 0 hx cs.toList _ (fun v hv => Blk.range' (hS v hv)) Try.underlying28 rfl (by rw [Array.length_toList, hs]; exact Try.infoVid)
  rw [Array.toArray_toList] at h
  exact h
set_option maxRecDepth 100000 in
set_option maxHeartbeats 2000000 in
theorem cvalid_any (cs : Array Value) (f : Nat → Nat) (F : Fok f) (V : Vid cs f) (b : Bd) (B : b.Wf) (w : World) :
    Calls Try.prog 11 #[.agg cs, .agg b.cells] w fun e w' => e = .returned (.bool (valF f b)) ∧ Below w.heap.size w w' := by
  have VA := fun (p : Nat) (W : World) (h : Hid (Blk W p cs 28)) => vvalid_any cs f F V b B.rlen p W h.out
  have C := isB b B.rlen
  generalize b.cells = bc at *
  have hbs : Hid (bc.size = 31) := C.size
  have hb6 : Hid (bc[6]? = some (.bool b.chrRam)) := C.h6
  clear C
  have IB : Hid ((Try.prog.info? 37).map (·.size) = some 31) := (by kernel_rfl : (Try.prog.info? 37).map (·.size) = some 31)
  have I8 : Hid ((Try.prog.info? 28).map (·.size) = some 12585) := Try.infoVid
  have VS : Hid (cs.size = 12585) := V.1
  generalize valF f b = vf at *
  go_enter Try.func11, Try.ntmps11
  go_upto_region 1 with fail
  have BV : Hid (Blk ((w.alloc (.cells cs 28)).alloc (.cells bc 37)) w.heap.size cs 28) := (Blk.new w cs _).old _
  have BB : Hid (Blk ((w.alloc (.cells cs 28)).alloc (.cells bc 37)) (w.heap.size + 1) bc 37) := by
    have := Blk.new (w.alloc (.cells cs 28)) bc 37
    rwa [World.size_alloc] at this
  have L0 : Hid (Below w.heap.size w ((w.alloc (.cells cs 28)).alloc (.cells bc 37))) := below_allocs _ _
  generalize ((w.alloc (.cells cs 28)).alloc (.cells bc 37)) = W at *
  go_wp2_with (first
    | (refine wpList_load_want (by rfl) 37 _ rfl (w.heap.size + 1) 0 rfl bc.toList _ (Blk.range' BB.out) Try.underlying37 rfl (by rw [Array.length_toList, hbs.out]; exact IB.out) ?_; rw [Array.toArray_toList])
    | (go_at_call 25; refine (VA _ _ BV).mono ?_; rintro e w2 ⟨rfl, hbw⟩; have L2 : Hid (Below w.heap.size w w2) := L0.out.trans (hbw.mono (Nat.le_of_lt (Blk.lt BV.out))); clear hbw))
  go_ret
  exact ⟨rfl, L2.out⟩
set_option maxRecDepth 100000 in
set_option maxHeartbeats 2000000 in
theorem rvalid8_any (cs : Array Value) (f : Nat → Nat) (F : Fok f) (V : Vid cs f) (b : Bd) (B : b.Wf) (w : World) :
    Calls Try.prog 12 #[.agg cs, .agg b.cells] w fun e w' => e = .returned (.bool (valF f b)) ∧ Below w.heap.size w w' := by
  have RA := fun (W : World) => refValid_any W b B
  have OA := fun (W : World) => own_any cs f F V W
  have C := isB b B.rlen
  generalize b.cells = bc at *
  have hbs : Hid (bc.size = 31) := C.size
  have hb6 : Hid (bc[6]? = some (.bool b.chrRam)) := C.h6
  clear C
  have IB : Hid ((Try.prog.info? 37).map (·.size) = some 31) := (by kernel_rfl : (Try.prog.info? 37).map (·.size) = some 31)
  have I8 : Hid ((Try.prog.info? 28).map (·.size) = some 12585) := Try.infoVid
  have VS : Hid (cs.size = 12585) := V.1
  have RC : Hid (∀ W, Blk W w.heap.size cs 28 → W.rangeAt w.heap.size 4385 (chrC f).toList) := fun W h => V.range h 4385 8192 (by decide)
  have EQ := eqChr f
  have CL : Hid ((chrC f).toList.length = 8192) := chrC_len f
  have IC : Hid ((Try.prog.info? 25).map (·.size) = some 8192) := (by kernel_rfl : (Try.prog.info? 25).map (·.size) = some 8192)
  have ZS : Hid (Try.zeroCells25.size = 8192) := Try.zeroCells25_size
  generalize chrC f = A at RC EQ CL
  have HVF : Hid (valF f b = (fitF f && (validB b && (b.chrRam || chrZ f)))) := rfl
  generalize valF f b = vf at *
  generalize chrZ f = z at *
  go_enter Try.func12, Try.ntmps12
  go_upto_region 1 with fail
  have BV : Hid (Blk ((w.alloc (.cells cs 28)).alloc (.cells bc 37)) w.heap.size cs 28) := (Blk.new w cs _).old _
  have BB : Hid (Blk ((w.alloc (.cells cs 28)).alloc (.cells bc 37)) (w.heap.size + 1) bc 37) := by
    have := Blk.new (w.alloc (.cells cs 28)) bc 37
    rwa [World.size_alloc] at this
  have L0 : Hid (Below w.heap.size w ((w.alloc (.cells cs 28)).alloc (.cells bc 37))) := below_allocs _ _
  generalize ((w.alloc (.cells cs 28)).alloc (.cells bc 37)) = W at *
  generalize validB b = vb at *
  generalize fitF f = ff at *
  refine wp_region_list ?_
  dsimp only
  cases vb
  · with_reducible refine pl_take (v := .agg bc) (yieldsBd (by kernel_rfl) (.tmp 3) rfl (w.heap.size + 1) (by kernel_rfl) bc (fun v hv => by rw [hv]; exact BB.out) hbs.out) ⟨#[.agg cs, .agg bc, .pointer (some ⟨w.heap.size, 0, none⟩), .pointer (some ⟨w.heap.size + 1, 0, none⟩), .bool false, undef, .agg bc, undef, undef, undef, undef, undef, undef, undef, undef, undef, undef, undef, undef, undef, undef], []⟩ (by kernel_rfl) ?_
    with_reducible refine plCall (f := 26) (v := .bool false) (by kernel_rfl) (by kernel_rfl) (RA _) ⟨#[.agg cs, .agg bc, .pointer (some ⟨w.heap.size, 0, none⟩), .pointer (some ⟨w.heap.size + 1, 0, none⟩), .bool false, undef, .agg bc, .bool false, undef, undef, undef, undef, undef, undef, undef, undef, undef, undef, undef, undef, undef], []⟩ (by kernel_rfl) ?_
    intro w2 hbw
    have L2 : Hid (Below w.heap.size w w2) := L0.out.trans (hbw.mono (Nat.le_of_lt (Blk.lt BV.out)))
    have BV2 : Hid (Blk w2 w.heap.size cs 28) := BV.out.below BV.out.lt hbw
    have BB2 : Hid (Blk w2 (w.heap.size + 1) bc 37) := BB.out.below BB.out.lt hbw
    clear hbw
    with_reducible refine pl_yes (v := .bool true) (by kernel_rfl) (fun _ _ => by kernel_rfl) ⟨#[.agg cs, .agg bc, .pointer (some ⟨w.heap.size, 0, none⟩), .pointer (some ⟨w.heap.size + 1, 0, none⟩), .bool false, undef, .agg bc, .bool false, .bool true, undef, undef, undef, undef, undef, undef, undef, undef, undef, undef, undef, undef], []⟩ (by kernel_rfl) ?_
    with_reducible refine pl_yes (v := .bool true) (by kernel_rfl) (fun _ _ => by kernel_rfl) ⟨#[.agg cs, .agg bc, .pointer (some ⟨w.heap.size, 0, none⟩), .pointer (some ⟨w.heap.size + 1, 0, none⟩), .bool false, undef, .agg bc, .bool false, .bool true, .bool true, undef, undef, undef, undef, undef, undef, undef, undef, undef, undef, undef], []⟩ (by kernel_rfl) ?_
    with_reducible refine pl_no (v := undef) (by kernel_rfl) rfl ⟨#[.agg cs, .agg bc, .pointer (some ⟨w.heap.size, 0, none⟩), .pointer (some ⟨w.heap.size + 1, 0, none⟩), .bool false, undef, .agg bc, .bool false, .bool true, .bool true, undef, undef, undef, undef, undef, undef, undef, undef, undef, undef, undef], []⟩ (by kernel_rfl) ?_
    with_reducible refine pl_no (v := undef) (by kernel_rfl) rfl ⟨#[.agg cs, .agg bc, .pointer (some ⟨w.heap.size, 0, none⟩), .pointer (some ⟨w.heap.size + 1, 0, none⟩), .bool false, undef, .agg bc, .bool false, .bool true, .bool true, undef, undef, undef, undef, undef, undef, undef, undef, undef, undef, undef], []⟩ (by kernel_rfl) ?_
    with_reducible refine pl_no (v := undef) (by kernel_rfl) rfl ⟨#[.agg cs, .agg bc, .pointer (some ⟨w.heap.size, 0, none⟩), .pointer (some ⟨w.heap.size + 1, 0, none⟩), .bool false, undef, .agg bc, .bool false, .bool true, .bool true, undef, undef, undef, undef, undef, undef, undef, undef, undef, undef, undef], []⟩ (by kernel_rfl) ?_
    with_reducible refine pl_yes (v := .bool true) (by kernel_rfl) (fun _ _ => by kernel_rfl) ⟨#[.agg cs, .agg bc, .pointer (some ⟨w.heap.size, 0, none⟩), .pointer (some ⟨w.heap.size + 1, 0, none⟩), .bool false, undef, .agg bc, .bool false, .bool true, .bool true, undef, undef, undef, .bool true, undef, undef, undef, undef, undef, undef, undef], []⟩ (by kernel_rfl) ?_
    refine wpList_nil ?_
    clear RA OA
    clear EQ
    go_wp2
    go_ret
    exact ⟨by rw [HVF.out]; simp, L2.out⟩
  · cases ff
    · with_reducible refine pl_take (v := .agg bc) (yieldsBd (by kernel_rfl) (.tmp 3) rfl (w.heap.size + 1) (by kernel_rfl) bc (fun v hv => by rw [hv]; exact BB.out) hbs.out) ⟨#[.agg cs, .agg bc, .pointer (some ⟨w.heap.size, 0, none⟩), .pointer (some ⟨w.heap.size + 1, 0, none⟩), .bool false, undef, .agg bc, undef, undef, undef, undef, undef, undef, undef, undef, undef, undef, undef, undef, undef, undef], []⟩ (by kernel_rfl) ?_
      with_reducible refine plCall (f := 26) (v := .bool true) (by kernel_rfl) (by kernel_rfl) (RA _) ⟨#[.agg cs, .agg bc, .pointer (some ⟨w.heap.size, 0, none⟩), .pointer (some ⟨w.heap.size + 1, 0, none⟩), .bool false, undef, .agg bc, .bool true, undef, undef, undef, undef, undef, undef, undef, undef, undef, undef, undef, undef, undef], []⟩ (by kernel_rfl) ?_
      intro w2 hbw
      have L2 : Hid (Below w.heap.size w w2) := L0.out.trans (hbw.mono (Nat.le_of_lt (Blk.lt BV.out)))
      have BV2 : Hid (Blk w2 w.heap.size cs 28) := BV.out.below BV.out.lt hbw
      have BB2 : Hid (Blk w2 (w.heap.size + 1) bc 37) := BB.out.below BB.out.lt hbw
      clear hbw
      with_reducible refine pl_yes (v := .bool false) (by kernel_rfl) (fun _ _ => by kernel_rfl) ⟨#[.agg cs, .agg bc, .pointer (some ⟨w.heap.size, 0, none⟩), .pointer (some ⟨w.heap.size + 1, 0, none⟩), .bool false, undef, .agg bc, .bool true, .bool false, undef, undef, undef, undef, undef, undef, undef, undef, undef, undef, undef, undef], []⟩ (by kernel_rfl) ?_
      with_reducible refine pl_yes (v := .bool false) (by kernel_rfl) (fun _ _ => by kernel_rfl) ⟨#[.agg cs, .agg bc, .pointer (some ⟨w.heap.size, 0, none⟩), .pointer (some ⟨w.heap.size + 1, 0, none⟩), .bool false, undef, .agg bc, .bool true, .bool false, .bool false, undef, undef, undef, undef, undef, undef, undef, undef, undef, undef, undef], []⟩ (by kernel_rfl) ?_
      with_reducible refine pl_take (v := .agg cs) (yieldsVd (by kernel_rfl) (.tmp 2) rfl w.heap.size (by kernel_rfl) cs (fun v hv => by rw [hv]; exact BV2.out) VS.out) ⟨#[.agg cs, .agg bc, .pointer (some ⟨w.heap.size, 0, none⟩), .pointer (some ⟨w.heap.size + 1, 0, none⟩), .bool false, undef, .agg bc, .bool true, .bool false, .bool false, .agg cs, undef, undef, undef, undef, undef, undef, undef, undef, undef, undef], []⟩ (by kernel_rfl) ?_
      with_reducible refine plCall (f := 23) (v := .bool false) (by kernel_rfl) (by kernel_rfl) (OA _) ⟨#[.agg cs, .agg bc, .pointer (some ⟨w.heap.size, 0, none⟩), .pointer (some ⟨w.heap.size + 1, 0, none⟩), .bool false, undef, .agg bc, .bool true, .bool false, .bool false, .agg cs, .bool false, undef, undef, undef, undef, undef, undef, undef, undef, undef], []⟩ (by kernel_rfl) ?_
      intro w3 hbw
      have L3 : Hid (Below w.heap.size w w3) := L2.out.trans (hbw.mono (Nat.le_of_lt (Blk.lt BV2.out)))
      have c6 : Hid (w3.cell? ⟨w.heap.size + 1, 6, none⟩ = some (.bool b.chrRam)) := ((BB2.out.below BB2.out.lt hbw).cell 6).trans hb6.out
      have BV3 : Hid (Blk w3 w.heap.size cs 28) := BV2.out.below BV2.out.lt hbw
      clear hbw
      with_reducible refine pl_yes (v := .bool true) (by kernel_rfl) (fun _ _ => by kernel_rfl) ⟨#[.agg cs, .agg bc, .pointer (some ⟨w.heap.size, 0, none⟩), .pointer (some ⟨w.heap.size + 1, 0, none⟩), .bool false, undef, .agg bc, .bool true, .bool false, .bool false, .agg cs, .bool false, .bool true, undef, undef, undef, undef, undef, undef, undef, undef], []⟩ (by kernel_rfl) ?_
      with_reducible refine pl_yes (v := .bool true) (by kernel_rfl) (fun _ _ => by kernel_rfl) ⟨#[.agg cs, .agg bc, .pointer (some ⟨w.heap.size, 0, none⟩), .pointer (some ⟨w.heap.size + 1, 0, none⟩), .bool false, undef, .agg bc, .bool true, .bool false, .bool false, .agg cs, .bool false, .bool true, .bool true, undef, undef, undef, undef, undef, undef, undef], []⟩ (by kernel_rfl) ?_
      refine wpList_nil ?_
      clear RA OA
      clear EQ
      go_wp2
      go_ret
      exact ⟨by rw [HVF.out]; simp, L3.out⟩
    · with_reducible refine pl_take (v := .agg bc) (yieldsBd (by kernel_rfl) (.tmp 3) rfl (w.heap.size + 1) (by kernel_rfl) bc (fun v hv => by rw [hv]; exact BB.out) hbs.out) ⟨#[.agg cs, .agg bc, .pointer (some ⟨w.heap.size, 0, none⟩), .pointer (some ⟨w.heap.size + 1, 0, none⟩), .bool false, undef, .agg bc, undef, undef, undef, undef, undef, undef, undef, undef, undef, undef, undef, undef, undef, undef], []⟩ (by kernel_rfl) ?_
      with_reducible refine plCall (f := 26) (v := .bool true) (by kernel_rfl) (by kernel_rfl) (RA _) ⟨#[.agg cs, .agg bc, .pointer (some ⟨w.heap.size, 0, none⟩), .pointer (some ⟨w.heap.size + 1, 0, none⟩), .bool false, undef, .agg bc, .bool true, undef, undef, undef, undef, undef, undef, undef, undef, undef, undef, undef, undef, undef], []⟩ (by kernel_rfl) ?_
      intro w2 hbw
      have L2 : Hid (Below w.heap.size w w2) := L0.out.trans (hbw.mono (Nat.le_of_lt (Blk.lt BV.out)))
      have BV2 : Hid (Blk w2 w.heap.size cs 28) := BV.out.below BV.out.lt hbw
      have BB2 : Hid (Blk w2 (w.heap.size + 1) bc 37) := BB.out.below BB.out.lt hbw
      clear hbw
      with_reducible refine pl_yes (v := .bool false) (by kernel_rfl) (fun _ _ => by kernel_rfl) ⟨#[.agg cs, .agg bc, .pointer (some ⟨w.heap.size, 0, none⟩), .pointer (some ⟨w.heap.size + 1, 0, none⟩), .bool false, undef, .agg bc, .bool true, .bool false, undef, undef, undef, undef, undef, undef, undef, undef, undef, undef, undef, undef], []⟩ (by kernel_rfl) ?_
      with_reducible refine pl_yes (v := .bool false) (by kernel_rfl) (fun _ _ => by kernel_rfl) ⟨#[.agg cs, .agg bc, .pointer (some ⟨w.heap.size, 0, none⟩), .pointer (some ⟨w.heap.size + 1, 0, none⟩), .bool false, undef, .agg bc, .bool true, .bool false, .bool false, undef, undef, undef, undef, undef, undef, undef, undef, undef, undef, undef], []⟩ (by kernel_rfl) ?_
      with_reducible refine pl_take (v := .agg cs) (yieldsVd (by kernel_rfl) (.tmp 2) rfl w.heap.size (by kernel_rfl) cs (fun v hv => by rw [hv]; exact BV2.out) VS.out) ⟨#[.agg cs, .agg bc, .pointer (some ⟨w.heap.size, 0, none⟩), .pointer (some ⟨w.heap.size + 1, 0, none⟩), .bool false, undef, .agg bc, .bool true, .bool false, .bool false, .agg cs, undef, undef, undef, undef, undef, undef, undef, undef, undef, undef], []⟩ (by kernel_rfl) ?_
      with_reducible refine plCall (f := 23) (v := .bool true) (by kernel_rfl) (by kernel_rfl) (OA _) ⟨#[.agg cs, .agg bc, .pointer (some ⟨w.heap.size, 0, none⟩), .pointer (some ⟨w.heap.size + 1, 0, none⟩), .bool false, undef, .agg bc, .bool true, .bool false, .bool false, .agg cs, .bool true, undef, undef, undef, undef, undef, undef, undef, undef, undef], []⟩ (by kernel_rfl) ?_
      intro w3 hbw
      have L3 : Hid (Below w.heap.size w w3) := L2.out.trans (hbw.mono (Nat.le_of_lt (Blk.lt BV2.out)))
      have c6 : Hid (w3.cell? ⟨w.heap.size + 1, 6, none⟩ = some (.bool b.chrRam)) := ((BB2.out.below BB2.out.lt hbw).cell 6).trans hb6.out
      have BV3 : Hid (Blk w3 w.heap.size cs 28) := BV2.out.below BV2.out.lt hbw
      clear hbw
      with_reducible refine pl_yes (v := .bool false) (by kernel_rfl) (fun _ _ => by kernel_rfl) ⟨#[.agg cs, .agg bc, .pointer (some ⟨w.heap.size, 0, none⟩), .pointer (some ⟨w.heap.size + 1, 0, none⟩), .bool false, undef, .agg bc, .bool true, .bool false, .bool false, .agg cs, .bool true, .bool false, undef, undef, undef, undef, undef, undef, undef, undef], []⟩ (by kernel_rfl) ?_
      with_reducible refine pl_yes (v := .bool false) (by kernel_rfl) (fun _ _ => by kernel_rfl) ⟨#[.agg cs, .agg bc, .pointer (some ⟨w.heap.size, 0, none⟩), .pointer (some ⟨w.heap.size + 1, 0, none⟩), .bool false, undef, .agg bc, .bool true, .bool false, .bool false, .agg cs, .bool true, .bool false, .bool false, undef, undef, undef, undef, undef, undef, undef], []⟩ (by kernel_rfl) ?_
      refine wpList_nil ?_
      clear RA OA
      generalize b.chrRam = cr at *
      have c6' := c6.out
      cases cr
      · go_wp2_with (first
          | (refine wpList_load_mid rfl 25 _ rfl w.heap.size 4385 rfl A.toList _ (RC.out _ (BV3.out.old _)) Try.underlying25 rfl (by rw [CL.out]; exact IC.out) ?_; rw [Array.toArray_toList])
          | (refine wpList_load_mid rfl 25 _ rfl w3.heap.size 0 rfl Try.zeroCells25.toList _ (Blk.range' (Blk.new w3 _ _)) Try.underlying25 rfl (by rw [Array.length_toList, ZS.out]; exact IC.out) ?_; rw [Array.toArray_toList]))
        go_ret
        exact ⟨by rw [HVF.out]; simp, L3.out.alloc L3.out.size _⟩
      · go_wp2
        go_ret
        exact ⟨by rw [HVF.out]; simp, L3.out⟩
end Go.Proofs.Ytecaipakaaongaa
