/-
  What peek, Peek and Poke answer.
-/
import Derived.Test.YtecaipakaaongaaXVU
import Derived.Test.YtecaipakaaongaaXVW
set_option linter.unusedSimpArgs false
set_option linter.unusedVariables false
namespace Go.Proofs.Ytecaipakaaongaa
open Go.RowKit Classical
set_option maxRecDepth 100000 in
set_option maxHeartbeats 2000000 in
theorem peek_any (cs : Array Value) (f : Nat → Nat) (V : Vid cs f) (b : Bd) (B : b.Wf) (hval : validB b = true) (L : List Nat) (g n C : Nat) (hC : n < C) (a : Nat) (ha : a < 65536) (p : Nat) (w : World) (hb : Blk w p cs 28) (hl : Lst w g n L) :
    Calls Try.prog 37 #[.pointer (some ⟨p, 0, none⟩), .agg b.cells, .slice (some ⟨g, 0, none⟩) n C, .int .u16 (a : Nat)] w fun e w' => e = .returned (.int .u8 (atF f b L (a % 16384) : Nat)) ∧ Below w.heap.size w w' := by
  have RA : Hid (∀ W, Below w.heap.size w W → Calls Try.prog 39 #[.pointer (some ⟨p, 0, none⟩), .agg b.cells, .slice (some ⟨g, 0, none⟩) n C, .int .u16 (a : Nat)] W fun e w' => ∃ x m l, e = .returned (.tuple #[x, .int .i64 (l : Nat)]) ∧ Rn W x m l (fun k => atF f b L ((a + k) % 16384)) ∧ Below W.heap.size W w') :=
    fun W h => runAt_any cs f V b B hval L g n C hC a ha p W (hb.below (Blk.lt hb) h) (hl.below h)
  have C0 := isB b B.rlen
  generalize b.cells = bc at *
  have hbs : Hid (bc.size = 31) := C0.size
  obtain ⟨y, hy⟩ : ∃ y, y = atF f b L (a % 16384) := ⟨_, rfl⟩
  rw [← hy]
  have HY : Hid (y = atF f b L ((a + 0) % 16384)) := hy
  clear C0 hb hl V B hval hy
  have IB : Hid ((Try.prog.info? 37).map (·.size) = some 31) := (by kernel_rfl : (Try.prog.info? 37).map (·.size) = some 31)
  have BB : Hid (Blk (w.alloc (.cells bc 37)) w.heap.size bc 37) := Blk.new w bc _
  have L0 : Hid (Below w.heap.size w (w.alloc (.cells bc 37))) := (Below.refl _ _).alloc (Nat.le_refl _) _
  go_enter Try.func37, Try.ntmps37
  go_upto_region 1 with fail
  generalize w.alloc (.cells bc 37) = W at *
  have RA := RA.out W L0.out
  go_upto_region 2 with (first
    | (refine wpList_load_want (by rfl) 37 _ rfl w.heap.size 0 rfl bc.toList _ (Blk.range' BB.out) Try.underlying37 rfl (by rw [Array.length_toList, hbs.out]; exact IB.out) ?_; rw [Array.toArray_toList])
    | (go_at_call 39; refine RA.mono ?_; rintro e w3 ⟨x, m, l, rfl, R, hbw⟩; have L3 : Hid (Below w.heap.size w w3) := L0.out.trans (hbw.mono (Nat.le_of_lt (Blk.lt BB.out)))))
  obtain ⟨hml, hl0, hl1, ⟨ad, c, rfl, hS⟩, hz⟩ := R
  by_cases h0 : m = 0
  · subst h0
    have e : y = 0 := HY.out.trans (hz 0 (Nat.le_refl _) hl0)
    subst e
    clear hz hS hml RA hbw HY
    go_wp2
    go_ret
    exact ⟨rfl, L3.out⟩
  · obtain ⟨g2, o, rfl, hg2, hc⟩ := hS (by omega)
    have cc : w3.cell? ⟨g2, o, none⟩ = some (.int .u8 (y : Nat)) := by rw [HY.out]; exact (hbw.cell (p := ⟨g2, o + 0, none⟩) hg2).trans (hc 0 (by omega))
    have mI : ((m : Int) == 0) = false := by simp; omega
    have m0 : 0 < (m : Int) := by omega
    clear hz hS hml RA hbw hc HY
    go_wp2
    go_ret
    exact ⟨rfl, L3.out⟩
def pkF (f : Nat → Nat) (b : Bd) (L : List Nat) (a : Nat) : Nat := if valF f b = true then atF f b L (a % 16384) else 0
def pokV (f : Nat → Nat) (b : Bd) (a v : Nat) : Nat → Nat := if valF f b = true then pokF f b a v else f
set_option maxRecDepth 100000 in
set_option maxHeartbeats 2000000 in
theorem Peek_bad (cs : Array Value) (f : Nat → Nat) (F : Fok f) (V : Vid cs f) (b : Bd) (B : b.Wf) (hval : valF f b = false) (L : List Nat) (g n C : Nat) (hC : n < C) (a : Nat) (ha : a < 65536) (w : World) (hl : Lst w g n L) :
    Calls Try.prog 15 #[.agg cs, .agg b.cells, .slice (some ⟨g, 0, none⟩) n C, .int .u16 (a : Nat)] w fun e w' => e = .returned (.int .u8 0) ∧ Below w.heap.size w w' := by
  have VA := fun (W : World) (h : Hid (Blk W w.heap.size cs 28)) => vvalid_any cs f F V b B.rlen w.heap.size W h.out
  rw [hval] at VA

  have C := isB b B.rlen
  generalize b.cells = bc at *
  have hbs : Hid (bc.size = 31) := C.size
  have h6 : Hid (bc[6]? = some (.bool b.chrRam)) := C.h6
  clear C
  have IB : Hid ((Try.prog.info? 37).map (·.size) = some 31) := (by kernel_rfl : (Try.prog.info? 37).map (·.size) = some 31)
  have I8 : Hid ((Try.prog.info? 28).map (·.size) = some 12585) := Try.infoVid
  clear h6 hval hl B V F
  go_enter Try.func15, Try.ntmps15
  go_upto_region 1 with fail
  have BV : Hid (Blk ((w.alloc (.cells cs 28)).alloc (.cells bc 37)) w.heap.size cs 28) := (Blk.new w cs _).old _
  have BB : Hid (Blk ((w.alloc (.cells cs 28)).alloc (.cells bc 37)) (w.heap.size + 1) bc 37) := by
    have := Blk.new (w.alloc (.cells cs 28)) bc 37
    rwa [World.size_alloc] at this
  have L0 : Hid (Below w.heap.size w ((w.alloc (.cells cs 28)).alloc (.cells bc 37))) := below_allocs _ _
  generalize ((w.alloc (.cells cs 28)).alloc (.cells bc 37)) = w2 at *
  go_wp2_with (first
    | (refine wpList_load_want (by rfl) 37 _ rfl (w.heap.size + 1) 0 rfl bc.toList _ (Blk.range' BB.out) Try.underlying37 rfl (by rw [Array.length_toList, hbs.out]; exact IB.out) ?_; rw [Array.toArray_toList])
    | (go_at_call 25; refine (VA _ BV).mono ?_; rintro e w3 ⟨rfl, hbw⟩; have L3 : Hid (Below w.heap.size w w3) := L0.out.trans (hbw.mono (Nat.le_of_lt (Blk.lt BV.out))); have BV2 : Hid (Blk w3 w.heap.size cs 28) := BV.out.below BV.out.lt hbw; have BB2 : Hid (Blk w3 (w.heap.size + 1) bc 37) := BB.out.below BB.out.lt hbw; clear hbw VA BV BB L0))
  go_ret
  exact ⟨rfl, L3.out⟩
set_option maxRecDepth 100000 in
set_option maxHeartbeats 2000000 in
theorem Peek_good (cs : Array Value) (f : Nat → Nat) (F : Fok f) (V : Vid cs f) (b : Bd) (B : b.Wf) (hval : valF f b = true) (L : List Nat) (g n C : Nat) (hC : n < C) (a : Nat) (ha : a < 65536) (w : World) (hl : Lst w g n L) :
    Calls Try.prog 15 #[.agg cs, .agg b.cells, .slice (some ⟨g, 0, none⟩) n C, .int .u16 (a : Nat)] w fun e w' => e = .returned (.int .u8 (atF f b L (a % 16384) : Nat)) ∧ Below w.heap.size w w' := by
  have VA := fun (W : World) (h : Hid (Blk W w.heap.size cs 28)) => vvalid_any cs f F V b B.rlen w.heap.size W h.out
  rw [hval] at VA
  have PA := fun (W : World) (h : Hid (Blk W w.heap.size cs 28)) (h2 : Hid (Below w.heap.size w W)) => peek_any cs f V b B (valF_facts hval).2.2 L g n C hC a ha w.heap.size W h.out (hl.below h2.out)
  generalize atF f b L (a % 16384) = y at *
  have C := isB b B.rlen
  generalize b.cells = bc at *
  have hbs : Hid (bc.size = 31) := C.size
  have h6 : Hid (bc[6]? = some (.bool b.chrRam)) := C.h6
  clear C
  have IB : Hid ((Try.prog.info? 37).map (·.size) = some 31) := (by kernel_rfl : (Try.prog.info? 37).map (·.size) = some 31)
  have I8 : Hid ((Try.prog.info? 28).map (·.size) = some 12585) := Try.infoVid
  clear h6 hval hl B V F
  go_enter Try.func15, Try.ntmps15
  go_upto_region 1 with fail
  have BV : Hid (Blk ((w.alloc (.cells cs 28)).alloc (.cells bc 37)) w.heap.size cs 28) := (Blk.new w cs _).old _
  have BB : Hid (Blk ((w.alloc (.cells cs 28)).alloc (.cells bc 37)) (w.heap.size + 1) bc 37) := by
    have := Blk.new (w.alloc (.cells cs 28)) bc 37
    rwa [World.size_alloc] at this
  have L0 : Hid (Below w.heap.size w ((w.alloc (.cells cs 28)).alloc (.cells bc 37))) := below_allocs _ _
  generalize ((w.alloc (.cells cs 28)).alloc (.cells bc 37)) = w2 at *
  go_wp2_with (first
    | (refine wpList_load_want (by rfl) 37 _ rfl (w.heap.size + 1) 0 rfl bc.toList _ (Blk.range' BB.out) Try.underlying37 rfl (by rw [Array.length_toList, hbs.out]; exact IB.out) ?_; rw [Array.toArray_toList])
    | (go_at_call 25; refine (VA _ BV).mono ?_; rintro e w3 ⟨rfl, hbw⟩; have L3 : Hid (Below w.heap.size w w3) := L0.out.trans (hbw.mono (Nat.le_of_lt (Blk.lt BV.out))); have BV2 : Hid (Blk w3 w.heap.size cs 28) := BV.out.below BV.out.lt hbw; have BB2 : Hid (Blk w3 (w.heap.size + 1) bc 37) := BB.out.below BB.out.lt hbw; clear hbw VA BV BB L0)
    | (refine wpList_load_want (by rfl) 37 _ rfl (w.heap.size + 1) 0 rfl bc.toList _ (Blk.range' BB2.out) Try.underlying37 rfl (by rw [Array.length_toList, hbs.out]; exact IB.out) ?_; rw [Array.toArray_toList])
    | (go_at_call 37; refine (PA _ BV2 L3).mono ?_; rintro e w4 ⟨rfl, hbw⟩; have L4 : Hid (Below w.heap.size w w4) := L3.out.trans (hbw.mono L3.out.size); clear hbw PA))
  go_ret
  exact ⟨rfl, L4.out⟩
theorem Peek_any (cs : Array Value) (f : Nat → Nat) (F : Fok f) (V : Vid cs f) (b : Bd) (B : b.Wf) (L : List Nat) (g n C : Nat) (hC : n < C) (a : Nat) (ha : a < 65536) (w : World) (hl : Lst w g n L) :
    Calls Try.prog 15 #[.agg cs, .agg b.cells, .slice (some ⟨g, 0, none⟩) n C, .int .u16 (a : Nat)] w fun e w' => e = .returned (.int .u8 (pkF f b L a : Nat)) ∧ Below w.heap.size w w' := by
  unfold pkF
  cases h : valF f b
  · rw [if_neg (by simp)]
    exact Peek_bad cs f F V b B h L g n C hC a ha w hl
  · rw [if_pos rfl]
    exact Peek_good cs f F V b B h L g n C hC a ha w hl
set_option maxRecDepth 100000 in
set_option maxHeartbeats 2000000 in
theorem Poke_bad (cs : Array Value) (f : Nat → Nat) (F : Fok f) (V : Vid cs f) (b : Bd) (B : b.Wf) (hval : valF f b = false) (a v : Nat) (ha : a < 65536) (hv : v < 256) (w : World) :
    Calls Try.prog 17 #[.agg cs, .agg b.cells, .int .u16 (a : Nat), .int .u8 (v : Nat)] w fun e w' => ∃ cs', e = .returned (.agg cs') ∧ Vid cs' (f) ∧ Below w.heap.size w w' := by
  have VA := fun (W : World) (h : Hid (Blk W w.heap.size cs 28)) => vvalid_any cs f F V b B.rlen w.heap.size W h.out
  rw [hval] at VA
  have HV : Hid (Vid cs f) := V

  have C := isB b B.rlen
  generalize b.cells = bc at *
  have hbs : Hid (bc.size = 31) := C.size
  have h6 : Hid (bc[6]? = some (.bool b.chrRam)) := C.h6
  clear C
  have IB : Hid ((Try.prog.info? 37).map (·.size) = some 31) := (by kernel_rfl : (Try.prog.info? 37).map (·.size) = some 31)
  have I8 : Hid ((Try.prog.info? 28).map (·.size) = some 12585) := Try.infoVid
  clear h6 hval B V F
  go_enter Try.func17, Try.ntmps17
  go_upto_region 1 with fail
  obtain ⟨B0, BB, Z0, L0⟩ := three w cs bc Try.zeroCells28 28 37 28
  generalize (((w.alloc (.cells cs 28)).alloc (.cells bc 37)).alloc (.cells Try.zeroCells28 28)) = W at *
  go_upto_region 3 with (first
    | (refine wpList_load_want (by rfl) 37 _ rfl (w.heap.size + 1) 0 rfl bc.toList _ (Blk.range' BB.out) Try.underlying37 rfl (by rw [Array.length_toList, hbs.out]; exact IB.out) ?_; rw [Array.toArray_toList])
    | (go_at_call 25; refine (VA _ B0).mono ?_; rintro e w3 ⟨rfl, hbw⟩; have L2 : Hid (Below w.heap.size w w3) := L0.out.trans (hbw.mono (Nat.le_of_lt (Blk.lt B0.out))); have B2 : Hid (Blk w3 w.heap.size cs 28) := B0.out.below (Blk.lt B0.out) hbw; have BB2 : Hid (Blk w3 (w.heap.size + 1) bc 37) := BB.out.below BB.out.lt hbw; have Z2 : Hid (Blk w3 (w.heap.size + 1 + 1) Try.zeroCells28 28) := Z0.out.below (Blk.lt Z0.out) hbw; clear hbw B0 BB Z0 L0 VA))
  have B3 := B2
  have Z3 := Z2
  have L3 := L2
  have V3 := HV
  clear B2 Z2 L2 HV
  generalize cs = cs3 at *
  have VS : Hid (cs3.size = 12585) := V3.out.1
  have O3 : Hid (cs3.all (·.oneCell') = true) := V3.out.one
  go_wp2_with (first
        | (refine wpList_load_blk rfl 28 _ rfl w.heap.size rfl cs3 _ B3.out Try.underlying28 rfl (by rw [VS.out]; exact I8.out) ?_)
        | (refine wpList_store_blk rfl 28 _ _ rfl (w.heap.size + 1 + 1) Try.zeroCells28 cs3 28 rfl rfl Z3.out (VS.out.trans Try.zeroCells28_size.symm) (by rw [VS.out]; exact I8.out) O3.out w.heap.size w (by omega) L3.out ?_; intro w9 B9 L9 _))
  exact ret_vid Try.results17 rfl rfl B9 Try.underlying28 rfl (by rw [VS.out]; exact I8.out) ⟨cs3, rfl, V3.out, L9⟩
set_option maxRecDepth 100000 in
set_option maxHeartbeats 2000000 in
theorem Poke_good (cs : Array Value) (f : Nat → Nat) (F : Fok f) (V : Vid cs f) (b : Bd) (B : b.Wf) (hval : valF f b = true) (a v : Nat) (ha : a < 65536) (hv : v < 256) (w : World) :
    Calls Try.prog 17 #[.agg cs, .agg b.cells, .int .u16 (a : Nat), .int .u8 (v : Nat)] w fun e w' => ∃ cs', e = .returned (.agg cs') ∧ Vid cs' (pokF f b a v) ∧ Below w.heap.size w w' := by
  have VA := fun (W : World) (h : Hid (Blk W w.heap.size cs 28)) => vvalid_any cs f F V b B.rlen w.heap.size W h.out
  rw [hval] at VA
  have HV : Hid (Vid cs f) := V
  have PA := fun (W : World) (h : Hid (Blk W w.heap.size cs 28)) => poke_any cs f V b B (valF_facts hval).2.2 a v ha hv w.heap.size W h.out
  have C := isB b B.rlen
  generalize b.cells = bc at *
  have hbs : Hid (bc.size = 31) := C.size
  have h6 : Hid (bc[6]? = some (.bool b.chrRam)) := C.h6
  clear C
  have IB : Hid ((Try.prog.info? 37).map (·.size) = some 31) := (by kernel_rfl : (Try.prog.info? 37).map (·.size) = some 31)
  have I8 : Hid ((Try.prog.info? 28).map (·.size) = some 12585) := Try.infoVid
  clear h6 hval B V F
  go_enter Try.func17, Try.ntmps17
  go_upto_region 1 with fail
  obtain ⟨B0, BB, Z0, L0⟩ := three w cs bc Try.zeroCells28 28 37 28
  generalize (((w.alloc (.cells cs 28)).alloc (.cells bc 37)).alloc (.cells Try.zeroCells28 28)) = W at *
  go_upto_region 3 with (first
    | (refine wpList_load_want (by rfl) 37 _ rfl (w.heap.size + 1) 0 rfl bc.toList _ (Blk.range' BB.out) Try.underlying37 rfl (by rw [Array.length_toList, hbs.out]; exact IB.out) ?_; rw [Array.toArray_toList])
    | (go_at_call 25; refine (VA _ B0).mono ?_; rintro e w3 ⟨rfl, hbw⟩; have L2 : Hid (Below w.heap.size w w3) := L0.out.trans (hbw.mono (Nat.le_of_lt (Blk.lt B0.out))); have B2 : Hid (Blk w3 w.heap.size cs 28) := B0.out.below (Blk.lt B0.out) hbw; have BB2 : Hid (Blk w3 (w.heap.size + 1) bc 37) := BB.out.below BB.out.lt hbw; have Z2 : Hid (Blk w3 (w.heap.size + 1 + 1) Try.zeroCells28 28) := Z0.out.below (Blk.lt Z0.out) hbw; clear hbw B0 BB Z0 L0 VA)
    | (refine wpList_load_want (by rfl) 37 _ rfl (w.heap.size + 1) 0 rfl bc.toList _ (Blk.range' BB2.out) Try.underlying37 rfl (by rw [Array.length_toList, hbs.out]; exact IB.out) ?_; rw [Array.toArray_toList])
    | (go_at_call 31; refine (PA _ B2).mono ?_; rintro e w5 ⟨rfl, O5, cs3, b5, v5⟩; have B3 : Hid (Blk w5 w.heap.size cs3 28) := b5; have V3 : Hid (Vid cs3 (pokF f b a v)) := v5; have Z3 : Hid (Blk w5 (w.heap.size + 1 + 1) Try.zeroCells28 28) := O5.blk Z2.out (by omega); have L3 : Hid (Below w.heap.size w w5) := L2.out.trans (O5.below (Nat.le_refl _) (Nat.le_of_lt (Blk.lt B2.out))); clear b5 v5 O5 B2 Z2 L2 PA BB2))
  have VS : Hid (cs3.size = 12585) := V3.out.1
  have O3 : Hid (cs3.all (·.oneCell') = true) := V3.out.one
  go_wp2_with (first
        | (refine wpList_load_blk rfl 28 _ rfl w.heap.size rfl cs3 _ B3.out Try.underlying28 rfl (by rw [VS.out]; exact I8.out) ?_)
        | (refine wpList_store_blk rfl 28 _ _ rfl (w.heap.size + 1 + 1) Try.zeroCells28 cs3 28 rfl rfl Z3.out (VS.out.trans Try.zeroCells28_size.symm) (by rw [VS.out]; exact I8.out) O3.out w.heap.size w (by omega) L3.out ?_; intro w9 B9 L9 _))
  exact ret_vid Try.results17 rfl rfl B9 Try.underlying28 rfl (by rw [VS.out]; exact I8.out) ⟨cs3, rfl, V3.out, L9⟩
theorem Poke_any (cs : Array Value) (f : Nat → Nat) (F : Fok f) (V : Vid cs f) (b : Bd) (B : b.Wf) (a v : Nat) (ha : a < 65536) (hv : v < 256) (w : World) :
    Calls Try.prog 17 #[.agg cs, .agg b.cells, .int .u16 (a : Nat), .int .u8 (v : Nat)] w fun e w' => ∃ cs', e = .returned (.agg cs') ∧ Vid cs' (pokV f b a v) ∧ Below w.heap.size w w' := by
  unfold pokV
  cases h : valF f b
  · rw [if_neg (by simp)]
    exact Poke_bad cs f F V b B h a v ha hv w
  · rw [if_pos rfl]
    exact Poke_good cs f F V b B h a v ha hv w
end Go.Proofs.Ytecaipakaaongaa
