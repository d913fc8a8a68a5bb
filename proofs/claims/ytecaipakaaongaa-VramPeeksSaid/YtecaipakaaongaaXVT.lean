/-
  What Span answers of every video memory, list, address and length.
  What the document's Span answers of every video memory, list, address and length.
  alike of two lists that are equal; a list that is turned byte by byte; operations of the law by hand.
-/
import Derived.Test.YtecaipakaaongaaXvSpanS
import Derived.Test.YtecaipakaaongaaXvPeek
import Derived.Test.YtecaipakaaongaaXvValid2
import Derived.Test.YtecaipakaaongaaXVS
import Derived.Test.YtecaipakaaongaaXvEq
set_option linter.unusedSimpArgs false
set_option linter.unusedVariables false
namespace Go.Proofs.Ytecaipakaaongaa
open Go.RowKit Classical
set_option maxRecDepth 100000 in
set_option maxHeartbeats 2000000 in
theorem Span_lo (cs : Array Value) (f : Nat → Nat) (F : Fok f) (V : Vid cs f) (b : Bd) (B : b.Wf) (z : Int) (hz : z < 0) (L : List Nat) (g n C : Nat) (hC : n < C) (a : Nat) (ha : a < 65536) (w : World) (hl : Lst w g n L) :
    Calls Try.prog 19 #[.agg cs, .agg b.cells, .slice (some ⟨g, 0, none⟩) n C, .int .u16 (a : Nat), .int .i64 z] w fun e w' => ∃ x, e = .returned x ∧ w'.ownsRow w.heap.size 5 1 x 0 (valsV ([])) ∧ Below w.heap.size w w' := by
  have VA := fun (W : World) (h : Hid (Blk W w.heap.size cs 28)) => vvalid_any cs f F V b B.rlen w.heap.size W h.out
  have d0 : decide (z < 0) = true := decide_eq_true hz
  have C := isB b B.rlen
  generalize b.cells = bc at *
  have hbs : Hid (bc.size = 31) := C.size
  have h6 : Hid (bc[6]? = some (.bool b.chrRam)) := C.h6
  clear C
  have IB : Hid ((Try.prog.info? 37).map (·.size) = some 31) := (by kernel_rfl : (Try.prog.info? 37).map (·.size) = some 31)
  have I8 : Hid ((Try.prog.info? 28).map (·.size) = some 12585) := Try.infoVid
  clear h6 B V F
  go_enter Try.func19, Try.ntmps19
  go_upto_region 1 with fail
  have BV : Hid (Blk ((w.alloc (.cells cs 28)).alloc (.cells bc 37)) w.heap.size cs 28) := (Blk.new w cs _).old _
  have BB : Hid (Blk ((w.alloc (.cells cs 28)).alloc (.cells bc 37)) (w.heap.size + 1) bc 37) := by
    have := Blk.new (w.alloc (.cells cs 28)) bc 37
    rwa [World.size_alloc] at this
  have L0 : Hid (Below w.heap.size w ((w.alloc (.cells cs 28)).alloc (.cells bc 37))) := below_allocs _ _
  generalize ((w.alloc (.cells cs 28)).alloc (.cells bc 37)) = w2 at *
  clear hl VA
  go_wp2
  go_ret
  exact ⟨_, rfl, ⟨rfl, .inl ⟨rfl, rfl⟩⟩, L0.out⟩
set_option maxRecDepth 100000 in
set_option maxHeartbeats 2000000 in
theorem Span_hi (cs : Array Value) (f : Nat → Nat) (F : Fok f) (V : Vid cs f) (b : Bd) (B : b.Wf) (z : Int) (hz : 16384 < z) (L : List Nat) (g n C : Nat) (hC : n < C) (a : Nat) (ha : a < 65536) (w : World) (hl : Lst w g n L) :
    Calls Try.prog 19 #[.agg cs, .agg b.cells, .slice (some ⟨g, 0, none⟩) n C, .int .u16 (a : Nat), .int .i64 z] w fun e w' => ∃ x, e = .returned x ∧ w'.ownsRow w.heap.size 5 1 x 0 (valsV ([])) ∧ Below w.heap.size w w' := by
  have VA := fun (W : World) (h : Hid (Blk W w.heap.size cs 28)) => vvalid_any cs f F V b B.rlen w.heap.size W h.out
  have d0 : decide (z < 0) = false := decide_eq_false (by omega)
  have d1 : decide (16384 < z) = true := decide_eq_true hz
  have C := isB b B.rlen
  generalize b.cells = bc at *
  have hbs : Hid (bc.size = 31) := C.size
  have h6 : Hid (bc[6]? = some (.bool b.chrRam)) := C.h6
  clear C
  have IB : Hid ((Try.prog.info? 37).map (·.size) = some 31) := (by kernel_rfl : (Try.prog.info? 37).map (·.size) = some 31)
  have I8 : Hid ((Try.prog.info? 28).map (·.size) = some 12585) := Try.infoVid
  clear h6 B V F
  go_enter Try.func19, Try.ntmps19
  go_upto_region 1 with fail
  have BV : Hid (Blk ((w.alloc (.cells cs 28)).alloc (.cells bc 37)) w.heap.size cs 28) := (Blk.new w cs _).old _
  have BB : Hid (Blk ((w.alloc (.cells cs 28)).alloc (.cells bc 37)) (w.heap.size + 1) bc 37) := by
    have := Blk.new (w.alloc (.cells cs 28)) bc 37
    rwa [World.size_alloc] at this
  have L0 : Hid (Below w.heap.size w ((w.alloc (.cells cs 28)).alloc (.cells bc 37))) := below_allocs _ _
  generalize ((w.alloc (.cells cs 28)).alloc (.cells bc 37)) = w2 at *
  clear hl VA
  go_wp2
  go_ret
  exact ⟨_, rfl, ⟨rfl, .inl ⟨rfl, rfl⟩⟩, L0.out⟩
set_option maxRecDepth 100000 in
set_option maxHeartbeats 2000000 in
theorem Span_bad (cs : Array Value) (f : Nat → Nat) (F : Fok f) (V : Vid cs f) (b : Bd) (B : b.Wf) (hval : valF f b = false) (m : Nat) (hm : m ≤ 16384) (L : List Nat) (g n C : Nat) (hC : n < C) (a : Nat) (ha : a < 65536) (w : World) (hl : Lst w g n L) :
    Calls Try.prog 19 #[.agg cs, .agg b.cells, .slice (some ⟨g, 0, none⟩) n C, .int .u16 (a : Nat), .int .i64 (m : Nat)] w fun e w' => ∃ x, e = .returned x ∧ w'.ownsRow w.heap.size 5 1 x 0 (valsV ([])) ∧ Below w.heap.size w w' := by
  have VA := fun (W : World) (h : Hid (Blk W w.heap.size cs 28)) => vvalid_any cs f F V b B.rlen w.heap.size W h.out
  have d0 : decide ((m : Int) < 0) = false := decide_eq_false (by omega)
  have d1 : decide ((m : Int) > 16384) = false := decide_eq_false (by omega)
  rw [hval] at VA
  have C := isB b B.rlen
  generalize b.cells = bc at *
  have hbs : Hid (bc.size = 31) := C.size
  have h6 : Hid (bc[6]? = some (.bool b.chrRam)) := C.h6
  clear C
  have IB : Hid ((Try.prog.info? 37).map (·.size) = some 31) := (by kernel_rfl : (Try.prog.info? 37).map (·.size) = some 31)
  have I8 : Hid ((Try.prog.info? 28).map (·.size) = some 12585) := Try.infoVid
  clear h6 B V F
  go_enter Try.func19, Try.ntmps19
  go_upto_region 1 with fail
  have BV : Hid (Blk ((w.alloc (.cells cs 28)).alloc (.cells bc 37)) w.heap.size cs 28) := (Blk.new w cs _).old _
  have BB : Hid (Blk ((w.alloc (.cells cs 28)).alloc (.cells bc 37)) (w.heap.size + 1) bc 37) := by
    have := Blk.new (w.alloc (.cells cs 28)) bc 37
    rwa [World.size_alloc] at this
  have L0 : Hid (Below w.heap.size w ((w.alloc (.cells cs 28)).alloc (.cells bc 37))) := below_allocs _ _
  generalize ((w.alloc (.cells cs 28)).alloc (.cells bc 37)) = w2 at *
  refine wp_region_list ?_
  dsimp only
  with_reducible refine pl_yes (v := .int .i64 (m : Nat)) (by kernel_rfl) (fun _ _ => by kernel_rfl) ⟨#[.agg cs, .agg bc, .slice (some ⟨g, 0, none⟩) n C, .int .u16 (a : Nat), .int .i64 (m : Nat), .pointer (some ⟨w.heap.size, 0, none⟩), .pointer (some ⟨w.heap.size + 1, 0, none⟩), undef, undef, undef, .slice none 0 0, undef, undef, undef, undef, .int .i64 (m : Nat), undef, undef, undef, undef, undef, undef, undef, undef, undef, undef, undef, undef, undef, undef, undef, undef, undef, undef, undef, undef, undef, undef, undef, undef, undef, undef, undef, undef, undef, undef, undef, undef, undef, undef, undef, undef, undef, undef, undef, undef, undef, undef, undef, undef, undef], []⟩ (by kernel_rfl) ?_
  with_reducible refine pl_yes (v := .bool false) (by kernel_rfl) (fun v _ => Eq.trans (b := .ok (.value (.bool (decide ((m : Int) < 0)))) v) (by kernel_rfl) (by rw [d0])) ⟨#[.agg cs, .agg bc, .slice (some ⟨g, 0, none⟩) n C, .int .u16 (a : Nat), .int .i64 (m : Nat), .pointer (some ⟨w.heap.size, 0, none⟩), .pointer (some ⟨w.heap.size + 1, 0, none⟩), undef, undef, undef, .slice none 0 0, undef, undef, undef, undef, .int .i64 (m : Nat), .bool false, undef, undef, undef, undef, undef, undef, undef, undef, undef, undef, undef, undef, undef, undef, undef, undef, undef, undef, undef, undef, undef, undef, undef, undef, undef, undef, undef, undef, undef, undef, undef, undef, undef, undef, undef, undef, undef, undef, undef, undef, undef, undef, undef, undef], []⟩ (by kernel_rfl) ?_
  with_reducible refine pl_yes (v := .bool false) (by kernel_rfl) (fun _ _ => by kernel_rfl) ⟨#[.agg cs, .agg bc, .slice (some ⟨g, 0, none⟩) n C, .int .u16 (a : Nat), .int .i64 (m : Nat), .pointer (some ⟨w.heap.size, 0, none⟩), .pointer (some ⟨w.heap.size + 1, 0, none⟩), undef, undef, undef, .slice none 0 0, undef, undef, undef, undef, .int .i64 (m : Nat), .bool false, .bool false, undef, undef, undef, undef, undef, undef, undef, undef, undef, undef, undef, undef, undef, undef, undef, undef, undef, undef, undef, undef, undef, undef, undef, undef, undef, undef, undef, undef, undef, undef, undef, undef, undef, undef, undef, undef, undef, undef, undef, undef, undef, undef, undef], []⟩ (by kernel_rfl) ?_
  with_reducible refine pl_yes (v := .int .i64 (m : Nat)) (by kernel_rfl) (fun _ _ => by kernel_rfl) ⟨#[.agg cs, .agg bc, .slice (some ⟨g, 0, none⟩) n C, .int .u16 (a : Nat), .int .i64 (m : Nat), .pointer (some ⟨w.heap.size, 0, none⟩), .pointer (some ⟨w.heap.size + 1, 0, none⟩), undef, undef, undef, .slice none 0 0, undef, undef, undef, undef, .int .i64 (m : Nat), .bool false, .bool false, .int .i64 (m : Nat), undef, undef, undef, undef, undef, undef, undef, undef, undef, undef, undef, undef, undef, undef, undef, undef, undef, undef, undef, undef, undef, undef, undef, undef, undef, undef, undef, undef, undef, undef, undef, undef, undef, undef, undef, undef, undef, undef, undef, undef, undef, undef], []⟩ (by kernel_rfl) ?_
  with_reducible refine pl_yes (v := .bool false) (by kernel_rfl) (fun v _ => Eq.trans (b := .ok (.value (.bool (decide ((m : Int) > 16384)))) v) (by kernel_rfl) (by rw [d1])) ⟨#[.agg cs, .agg bc, .slice (some ⟨g, 0, none⟩) n C, .int .u16 (a : Nat), .int .i64 (m : Nat), .pointer (some ⟨w.heap.size, 0, none⟩), .pointer (some ⟨w.heap.size + 1, 0, none⟩), undef, undef, undef, .slice none 0 0, undef, undef, undef, undef, .int .i64 (m : Nat), .bool false, .bool false, .int .i64 (m : Nat), .bool false, undef, undef, undef, undef, undef, undef, undef, undef, undef, undef, undef, undef, undef, undef, undef, undef, undef, undef, undef, undef, undef, undef, undef, undef, undef, undef, undef, undef, undef, undef, undef, undef, undef, undef, undef, undef, undef, undef, undef, undef, undef], []⟩ (by kernel_rfl) ?_
  with_reducible refine pl_yes (v := .bool false) (by kernel_rfl) (fun _ _ => by kernel_rfl) ⟨#[.agg cs, .agg bc, .slice (some ⟨g, 0, none⟩) n C, .int .u16 (a : Nat), .int .i64 (m : Nat), .pointer (some ⟨w.heap.size, 0, none⟩), .pointer (some ⟨w.heap.size + 1, 0, none⟩), undef, undef, undef, .slice none 0 0, undef, undef, undef, undef, .int .i64 (m : Nat), .bool false, .bool false, .int .i64 (m : Nat), .bool false, .bool false, undef, undef, undef, undef, undef, undef, undef, undef, undef, undef, undef, undef, undef, undef, undef, undef, undef, undef, undef, undef, undef, undef, undef, undef, undef, undef, undef, undef, undef, undef, undef, undef, undef, undef, undef, undef, undef, undef, undef, undef], []⟩ (by kernel_rfl) ?_
  with_reducible refine pl_yes (v := .bool false) (by kernel_rfl) (fun _ _ => by kernel_rfl) ⟨#[.agg cs, .agg bc, .slice (some ⟨g, 0, none⟩) n C, .int .u16 (a : Nat), .int .i64 (m : Nat), .pointer (some ⟨w.heap.size, 0, none⟩), .pointer (some ⟨w.heap.size + 1, 0, none⟩), undef, undef, undef, .slice none 0 0, undef, undef, undef, undef, .int .i64 (m : Nat), .bool false, .bool false, .int .i64 (m : Nat), .bool false, .bool false, .bool false, undef, undef, undef, undef, undef, undef, undef, undef, undef, undef, undef, undef, undef, undef, undef, undef, undef, undef, undef, undef, undef, undef, undef, undef, undef, undef, undef, undef, undef, undef, undef, undef, undef, undef, undef, undef, undef, undef, undef], []⟩ (by kernel_rfl) ?_
  with_reducible refine pl_take (v := .agg bc) (yieldsBd (by kernel_rfl) (.tmp 6) rfl (w.heap.size + 1) (by kernel_rfl) bc (fun v hv => by rw [hv]; exact BB.out) hbs.out) ⟨#[.agg cs, .agg bc, .slice (some ⟨g, 0, none⟩) n C, .int .u16 (a : Nat), .int .i64 (m : Nat), .pointer (some ⟨w.heap.size, 0, none⟩), .pointer (some ⟨w.heap.size + 1, 0, none⟩), undef, undef, undef, .slice none 0 0, undef, undef, undef, undef, .int .i64 (m : Nat), .bool false, .bool false, .int .i64 (m : Nat), .bool false, .bool false, .bool false, .agg bc, undef, undef, undef, undef, undef, undef, undef, undef, undef, undef, undef, undef, undef, undef, undef, undef, undef, undef, undef, undef, undef, undef, undef, undef, undef, undef, undef, undef, undef, undef, undef, undef, undef, undef, undef, undef, undef, undef], []⟩ (by kernel_rfl) ?_
  with_reducible refine plCall (f := 25) (v := .bool false) (by kernel_rfl) (by kernel_rfl) (VA _ BV) ⟨#[.agg cs, .agg bc, .slice (some ⟨g, 0, none⟩) n C, .int .u16 (a : Nat), .int .i64 (m : Nat), .pointer (some ⟨w.heap.size, 0, none⟩), .pointer (some ⟨w.heap.size + 1, 0, none⟩), undef, undef, undef, .slice none 0 0, undef, undef, undef, undef, .int .i64 (m : Nat), .bool false, .bool false, .int .i64 (m : Nat), .bool false, .bool false, .bool false, .agg bc, .bool false, undef, undef, undef, undef, undef, undef, undef, undef, undef, undef, undef, undef, undef, undef, undef, undef, undef, undef, undef, undef, undef, undef, undef, undef, undef, undef, undef, undef, undef, undef, undef, undef, undef, undef, undef, undef, undef], []⟩ (by kernel_rfl) ?_
  intro w3 hbw
  have L3 : Hid (Below w.heap.size w w3) := L0.out.trans (hbw.mono (Nat.le_of_lt (Blk.lt BV.out)))
  have BV2 : Hid (Blk w3 w.heap.size cs 28) := BV.out.below BV.out.lt hbw
  have BB2 : Hid (Blk w3 (w.heap.size + 1) bc 37) := BB.out.below BB.out.lt hbw
  clear hbw VA BV BB L0
  with_reducible refine pl_yes (v := .bool true) (by kernel_rfl) (fun _ _ => by kernel_rfl) ⟨#[.agg cs, .agg bc, .slice (some ⟨g, 0, none⟩) n C, .int .u16 (a : Nat), .int .i64 (m : Nat), .pointer (some ⟨w.heap.size, 0, none⟩), .pointer (some ⟨w.heap.size + 1, 0, none⟩), undef, undef, undef, .slice none 0 0, undef, undef, undef, undef, .int .i64 (m : Nat), .bool false, .bool false, .int .i64 (m : Nat), .bool false, .bool false, .bool false, .agg bc, .bool false, .bool true, undef, undef, undef, undef, undef, undef, undef, undef, undef, undef, undef, undef, undef, undef, undef, undef, undef, undef, undef, undef, undef, undef, undef, undef, undef, undef, undef, undef, undef, undef, undef, undef, undef, undef, undef, undef], []⟩ (by kernel_rfl) ?_
  with_reducible refine pl_yes (v := .bool true) (by kernel_rfl) (fun _ _ => by kernel_rfl) ⟨#[.agg cs, .agg bc, .slice (some ⟨g, 0, none⟩) n C, .int .u16 (a : Nat), .int .i64 (m : Nat), .pointer (some ⟨w.heap.size, 0, none⟩), .pointer (some ⟨w.heap.size + 1, 0, none⟩), undef, undef, undef, .slice none 0 0, undef, undef, undef, undef, .int .i64 (m : Nat), .bool false, .bool false, .int .i64 (m : Nat), .bool false, .bool false, .bool false, .agg bc, .bool false, .bool true, .bool true, undef, undef, undef, undef, undef, undef, undef, undef, undef, undef, undef, undef, undef, undef, undef, undef, undef, undef, undef, undef, undef, undef, undef, undef, undef, undef, undef, undef, undef, undef, undef, undef, undef, undef, undef], []⟩ (by kernel_rfl) ?_
  refine wpList_nil ?_
  clear hl
  go_wp2
  go_ret
  exact ⟨_, rfl, ⟨rfl, .inl ⟨rfl, rfl⟩⟩, L3.out⟩
set_option maxRecDepth 100000 in
set_option maxHeartbeats 2000000 in
theorem Span_good (cs : Array Value) (f : Nat → Nat) (F : Fok f) (V : Vid cs f) (b : Bd) (B : b.Wf) (hval : valF f b = true) (m : Nat) (hm : m ≤ 16384) (L : List Nat) (g n C : Nat) (hC : n < C) (a : Nat) (ha : a < 65536) (w : World) (hl : Lst w g n L) :
    Calls Try.prog 19 #[.agg cs, .agg b.cells, .slice (some ⟨g, 0, none⟩) n C, .int .u16 (a : Nat), .int .i64 (m : Nat)] w fun e w' => ∃ x, e = .returned x ∧ w'.ownsRow w.heap.size 5 1 x m (valsV (spn f b L a m)) ∧ Below w.heap.size w w' := by
  have VA := fun (W : World) (h : Hid (Blk W w.heap.size cs 28)) => vvalid_any cs f F V b B.rlen w.heap.size W h.out
  have d0 : decide ((m : Int) < 0) = false := decide_eq_false (by omega)
  have d1 : decide ((m : Int) > 16384) = false := decide_eq_false (by omega)
  rw [hval] at VA
  have RA : Hid (∀ W, Below w.heap.size w W → Blk W w.heap.size cs 28 → ∀ s : Nat, s < 65536 → Calls Try.prog 39 #[.pointer (some ⟨w.heap.size, 0, none⟩), .agg b.cells, .slice (some ⟨g, 0, none⟩) n C, .int .u16 (s : Nat)] W fun e w' => ∃ x m l, e = .returned (.tuple #[x, .int .i64 (l : Nat)]) ∧ Rn W x m l (fun k => atF f b L ((s + k) % 16384)) ∧ Below W.heap.size W w') :=
    fun W h h2 s hs => runAt_any cs f V b B (valF_facts hval).2.2 L g n C hC s hs w.heap.size W h2 (hl.below h)
  obtain ⟨VV, hVV⟩ : ∃ VV : Nat → Nat, VV = fun k => atF f b L ((a + k) % 16384) := ⟨_, rfl⟩
  have HVV : Hid (∀ k, atF f b L ((a + k) % 16384) = VV k) := fun k => by rw [hVV]
  rw [show spn f b L a m = (List.range m).map VV by unfold spn; rw [hVV]]
  clear hVV hval
  have C := isB b B.rlen
  generalize b.cells = bc at *
  have hbs : Hid (bc.size = 31) := C.size
  have h6 : Hid (bc[6]? = some (.bool b.chrRam)) := C.h6
  clear C
  have IB : Hid ((Try.prog.info? 37).map (·.size) = some 31) := (by kernel_rfl : (Try.prog.info? 37).map (·.size) = some 31)
  have I8 : Hid ((Try.prog.info? 28).map (·.size) = some 12585) := Try.infoVid
  clear h6 B V F
  go_enter Try.func19, Try.ntmps19
  go_upto_region 1 with fail
  have BV : Hid (Blk ((w.alloc (.cells cs 28)).alloc (.cells bc 37)) w.heap.size cs 28) := (Blk.new w cs _).old _
  have BB : Hid (Blk ((w.alloc (.cells cs 28)).alloc (.cells bc 37)) (w.heap.size + 1) bc 37) := by
    have := Blk.new (w.alloc (.cells cs 28)) bc 37
    rwa [World.size_alloc] at this
  have L0 : Hid (Below w.heap.size w ((w.alloc (.cells cs 28)).alloc (.cells bc 37))) := below_allocs _ _
  generalize ((w.alloc (.cells cs 28)).alloc (.cells bc 37)) = w2 at *
  refine wp_region_list ?_
  dsimp only
  with_reducible refine pl_yes (v := .int .i64 (m : Nat)) (by kernel_rfl) (fun _ _ => by kernel_rfl) ⟨#[.agg cs, .agg bc, .slice (some ⟨g, 0, none⟩) n C, .int .u16 (a : Nat), .int .i64 (m : Nat), .pointer (some ⟨w.heap.size, 0, none⟩), .pointer (some ⟨w.heap.size + 1, 0, none⟩), undef, undef, undef, .slice none 0 0, undef, undef, undef, undef, .int .i64 (m : Nat), undef, undef, undef, undef, undef, undef, undef, undef, undef, undef, undef, undef, undef, undef, undef, undef, undef, undef, undef, undef, undef, undef, undef, undef, undef, undef, undef, undef, undef, undef, undef, undef, undef, undef, undef, undef, undef, undef, undef, undef, undef, undef, undef, undef, undef], []⟩ (by kernel_rfl) ?_
  with_reducible refine pl_yes (v := .bool false) (by kernel_rfl) (fun v _ => Eq.trans (b := .ok (.value (.bool (decide ((m : Int) < 0)))) v) (by kernel_rfl) (by rw [d0])) ⟨#[.agg cs, .agg bc, .slice (some ⟨g, 0, none⟩) n C, .int .u16 (a : Nat), .int .i64 (m : Nat), .pointer (some ⟨w.heap.size, 0, none⟩), .pointer (some ⟨w.heap.size + 1, 0, none⟩), undef, undef, undef, .slice none 0 0, undef, undef, undef, undef, .int .i64 (m : Nat), .bool false, undef, undef, undef, undef, undef, undef, undef, undef, undef, undef, undef, undef, undef, undef, undef, undef, undef, undef, undef, undef, undef, undef, undef, undef, undef, undef, undef, undef, undef, undef, undef, undef, undef, undef, undef, undef, undef, undef, undef, undef, undef, undef, undef, undef], []⟩ (by kernel_rfl) ?_
  with_reducible refine pl_yes (v := .bool false) (by kernel_rfl) (fun _ _ => by kernel_rfl) ⟨#[.agg cs, .agg bc, .slice (some ⟨g, 0, none⟩) n C, .int .u16 (a : Nat), .int .i64 (m : Nat), .pointer (some ⟨w.heap.size, 0, none⟩), .pointer (some ⟨w.heap.size + 1, 0, none⟩), undef, undef, undef, .slice none 0 0, undef, undef, undef, undef, .int .i64 (m : Nat), .bool false, .bool false, undef, undef, undef, undef, undef, undef, undef, undef, undef, undef, undef, undef, undef, undef, undef, undef, undef, undef, undef, undef, undef, undef, undef, undef, undef, undef, undef, undef, undef, undef, undef, undef, undef, undef, undef, undef, undef, undef, undef, undef, undef, undef, undef], []⟩ (by kernel_rfl) ?_
  with_reducible refine pl_yes (v := .int .i64 (m : Nat)) (by kernel_rfl) (fun _ _ => by kernel_rfl) ⟨#[.agg cs, .agg bc, .slice (some ⟨g, 0, none⟩) n C, .int .u16 (a : Nat), .int .i64 (m : Nat), .pointer (some ⟨w.heap.size, 0, none⟩), .pointer (some ⟨w.heap.size + 1, 0, none⟩), undef, undef, undef, .slice none 0 0, undef, undef, undef, undef, .int .i64 (m : Nat), .bool false, .bool false, .int .i64 (m : Nat), undef, undef, undef, undef, undef, undef, undef, undef, undef, undef, undef, undef, undef, undef, undef, undef, undef, undef, undef, undef, undef, undef, undef, undef, undef, undef, undef, undef, undef, undef, undef, undef, undef, undef, undef, undef, undef, undef, undef, undef, undef, undef], []⟩ (by kernel_rfl) ?_
  with_reducible refine pl_yes (v := .bool false) (by kernel_rfl) (fun v _ => Eq.trans (b := .ok (.value (.bool (decide ((m : Int) > 16384)))) v) (by kernel_rfl) (by rw [d1])) ⟨#[.agg cs, .agg bc, .slice (some ⟨g, 0, none⟩) n C, .int .u16 (a : Nat), .int .i64 (m : Nat), .pointer (some ⟨w.heap.size, 0, none⟩), .pointer (some ⟨w.heap.size + 1, 0, none⟩), undef, undef, undef, .slice none 0 0, undef, undef, undef, undef, .int .i64 (m : Nat), .bool false, .bool false, .int .i64 (m : Nat), .bool false, undef, undef, undef, undef, undef, undef, undef, undef, undef, undef, undef, undef, undef, undef, undef, undef, undef, undef, undef, undef, undef, undef, undef, undef, undef, undef, undef, undef, undef, undef, undef, undef, undef, undef, undef, undef, undef, undef, undef, undef, undef], []⟩ (by kernel_rfl) ?_
  with_reducible refine pl_yes (v := .bool false) (by kernel_rfl) (fun _ _ => by kernel_rfl) ⟨#[.agg cs, .agg bc, .slice (some ⟨g, 0, none⟩) n C, .int .u16 (a : Nat), .int .i64 (m : Nat), .pointer (some ⟨w.heap.size, 0, none⟩), .pointer (some ⟨w.heap.size + 1, 0, none⟩), undef, undef, undef, .slice none 0 0, undef, undef, undef, undef, .int .i64 (m : Nat), .bool false, .bool false, .int .i64 (m : Nat), .bool false, .bool false, undef, undef, undef, undef, undef, undef, undef, undef, undef, undef, undef, undef, undef, undef, undef, undef, undef, undef, undef, undef, undef, undef, undef, undef, undef, undef, undef, undef, undef, undef, undef, undef, undef, undef, undef, undef, undef, undef, undef, undef], []⟩ (by kernel_rfl) ?_
  with_reducible refine pl_yes (v := .bool false) (by kernel_rfl) (fun _ _ => by kernel_rfl) ⟨#[.agg cs, .agg bc, .slice (some ⟨g, 0, none⟩) n C, .int .u16 (a : Nat), .int .i64 (m : Nat), .pointer (some ⟨w.heap.size, 0, none⟩), .pointer (some ⟨w.heap.size + 1, 0, none⟩), undef, undef, undef, .slice none 0 0, undef, undef, undef, undef, .int .i64 (m : Nat), .bool false, .bool false, .int .i64 (m : Nat), .bool false, .bool false, .bool false, undef, undef, undef, undef, undef, undef, undef, undef, undef, undef, undef, undef, undef, undef, undef, undef, undef, undef, undef, undef, undef, undef, undef, undef, undef, undef, undef, undef, undef, undef, undef, undef, undef, undef, undef, undef, undef, undef, undef], []⟩ (by kernel_rfl) ?_
  with_reducible refine pl_take (v := .agg bc) (yieldsBd (by kernel_rfl) (.tmp 6) rfl (w.heap.size + 1) (by kernel_rfl) bc (fun v hv => by rw [hv]; exact BB.out) hbs.out) ⟨#[.agg cs, .agg bc, .slice (some ⟨g, 0, none⟩) n C, .int .u16 (a : Nat), .int .i64 (m : Nat), .pointer (some ⟨w.heap.size, 0, none⟩), .pointer (some ⟨w.heap.size + 1, 0, none⟩), undef, undef, undef, .slice none 0 0, undef, undef, undef, undef, .int .i64 (m : Nat), .bool false, .bool false, .int .i64 (m : Nat), .bool false, .bool false, .bool false, .agg bc, undef, undef, undef, undef, undef, undef, undef, undef, undef, undef, undef, undef, undef, undef, undef, undef, undef, undef, undef, undef, undef, undef, undef, undef, undef, undef, undef, undef, undef, undef, undef, undef, undef, undef, undef, undef, undef, undef], []⟩ (by kernel_rfl) ?_
  with_reducible refine plCall (f := 25) (v := .bool true) (by kernel_rfl) (by kernel_rfl) (VA _ BV) ⟨#[.agg cs, .agg bc, .slice (some ⟨g, 0, none⟩) n C, .int .u16 (a : Nat), .int .i64 (m : Nat), .pointer (some ⟨w.heap.size, 0, none⟩), .pointer (some ⟨w.heap.size + 1, 0, none⟩), undef, undef, undef, .slice none 0 0, undef, undef, undef, undef, .int .i64 (m : Nat), .bool false, .bool false, .int .i64 (m : Nat), .bool false, .bool false, .bool false, .agg bc, .bool true, undef, undef, undef, undef, undef, undef, undef, undef, undef, undef, undef, undef, undef, undef, undef, undef, undef, undef, undef, undef, undef, undef, undef, undef, undef, undef, undef, undef, undef, undef, undef, undef, undef, undef, undef, undef, undef], []⟩ (by kernel_rfl) ?_
  intro w3 hbw
  have L3 : Hid (Below w.heap.size w w3) := L0.out.trans (hbw.mono (Nat.le_of_lt (Blk.lt BV.out)))
  have BV2 : Hid (Blk w3 w.heap.size cs 28) := BV.out.below BV.out.lt hbw
  have BB2 : Hid (Blk w3 (w.heap.size + 1) bc 37) := BB.out.below BB.out.lt hbw
  clear hbw VA BV BB L0
  with_reducible refine pl_yes (v := .bool false) (by kernel_rfl) (fun _ _ => by kernel_rfl) ⟨#[.agg cs, .agg bc, .slice (some ⟨g, 0, none⟩) n C, .int .u16 (a : Nat), .int .i64 (m : Nat), .pointer (some ⟨w.heap.size, 0, none⟩), .pointer (some ⟨w.heap.size + 1, 0, none⟩), undef, undef, undef, .slice none 0 0, undef, undef, undef, undef, .int .i64 (m : Nat), .bool false, .bool false, .int .i64 (m : Nat), .bool false, .bool false, .bool false, .agg bc, .bool true, .bool false, undef, undef, undef, undef, undef, undef, undef, undef, undef, undef, undef, undef, undef, undef, undef, undef, undef, undef, undef, undef, undef, undef, undef, undef, undef, undef, undef, undef, undef, undef, undef, undef, undef, undef, undef, undef], []⟩ (by kernel_rfl) ?_
  with_reducible refine pl_yes (v := .bool false) (by kernel_rfl) (fun _ _ => by kernel_rfl) ⟨#[.agg cs, .agg bc, .slice (some ⟨g, 0, none⟩) n C, .int .u16 (a : Nat), .int .i64 (m : Nat), .pointer (some ⟨w.heap.size, 0, none⟩), .pointer (some ⟨w.heap.size + 1, 0, none⟩), undef, undef, undef, .slice none 0 0, undef, undef, undef, undef, .int .i64 (m : Nat), .bool false, .bool false, .int .i64 (m : Nat), .bool false, .bool false, .bool false, .agg bc, .bool true, .bool false, .bool false, undef, undef, undef, undef, undef, undef, undef, undef, undef, undef, undef, undef, undef, undef, undef, undef, undef, undef, undef, undef, undef, undef, undef, undef, undef, undef, undef, undef, undef, undef, undef, undef, undef, undef, undef], []⟩ (by kernel_rfl) ?_
  refine wpList_nil ?_
  clear hl d0 d1
  go_upto_region 4 with (refine wpList_mkV VV rfl _ rfl m hm rfl ?_; intro w4 K4 M4)
  obtain ⟨g0, hg0⟩ : ∃ g0, g0 = w3.heap.size := ⟨_, rfl⟩
  rw [← hg0] at K4 M4 ⊢
  have HG : Hid (g0 = w3.heap.size) := hg0
  have G1 : Hid (w.heap.size + 1 < g0) := by rw [HG.out]; exact BB2.out.lt
  have L4 : Hid (Below w.heap.size w w4) := L3.out.trans (M4.mono (by have := G1.out; omega))
  have BV4 : Hid (Blk w4 w.heap.size cs 28) := BV2.out.below (Nat.lt_trans (Nat.lt_succ_self _) G1.out) M4
  have BB4 : Hid (Blk w4 (w.heap.size + 1) bc 37) := BB2.out.below G1.out M4
  have K5 : Hid (Blk w4 g0 (spC VV m 0).toArray 5) := K4
  clear hg0 K4 M4 BV2 BB2 L3 HG
  go_upto_region 5 with fail
  go_loopw [12] (fun i wr => ∃ d : Nat, d ≤ m ∧ i = .int .i64 (d : Nat) ∧ Hid (Blk wr g0 (spC VV m d).toArray 5) ∧ Hid (Below g0 w4 wr)) (fun i _ => m - (intOf i).toNat)
  case atStart => exact ⟨0, Nat.zero_le _, rfl, K5, Below.refl _ _⟩
  case round =>
    obtain ⟨d, hd, rfl, HBk, LL⟩ := hrel
    have L5 : Hid (Below w.heap.size w wr) := L4.out.trans (LL.out.mono (by have := G1.out; omega))
    have BV5 : Hid (Blk wr w.heap.size cs 28) := BV4.out.below (Nat.lt_trans (Nat.lt_succ_self _) G1.out) LL.out
    have BB5 : Hid (Blk wr (w.heap.size + 1) bc 37) := BB4.out.below G1.out LL.out
    clear K5
    by_cases hlt : d < m
    · obtain ⟨s, hs⟩ : ∃ s, s = (a + d) % 65536 := ⟨_, rfl⟩
      have es : IntKind.u16.wrap ((a : Int) + (d : Int)) = (s : Int) := by rw [show ∀ n : Int, IntKind.u16.wrap n = n % 65536 from fun n => by simp [IntKind.wrap, IntKind.bits, IntKind.signed]]; omega
      have d16 : d < 65536 := by omega
      have dm : (d : Int) < (m : Int) := by omega
      have RB := RA.out wr L5.out BV5.out s (by omega)
      have HS : Hid (∀ k, (s + k) % 16384 = (a + (d + k)) % 16384) := fun k => by omega
      have HD : Hid (d < m) := hlt
      clear hs hlt
      go_upto_region 7 with (first
        | (refine wpList_load_want (by rfl) 37 _ rfl (w.heap.size + 1) 0 rfl bc.toList _ (Blk.range' BB5.out) Try.underlying37 rfl (by rw [Array.length_toList, hbs.out]; exact IB.out) ?_; rw [Array.toArray_toList])
        | (go_at_call 39; refine RB.mono ?_; rintro e w6 ⟨x, mm, l, rfl, R, hbw⟩; clear RB))
      obtain ⟨hml, hl0, hl1, hsl, hz⟩ := R
      obtain ⟨ad, cc, rfl, hS⟩ := hsl.below hbw
      have L6 : Hid (Below g0 w4 w6) := LL.out.trans (hbw.mono (by have := BB4.out.lt; have := HBk.out.lt; omega))
      have K6 : Hid (Blk w6 g0 (spC VV m d).toArray 5) := HBk.out.below HBk.out.lt hbw
      have HZ : Hid (∀ k, mm ≤ k → k < l → VV (d + k) = 0) := fun k h1 h2 => by
        have h3 := hz k h1 h2
        dsimp only at h3
        rw [HS.out, HVV.out] at h3
        exact h3
      have HSr : Hid (∀ c, c ≤ mm → 0 < c → ∃ q : Addr, ad = some q ∧ ∀ j v, (srcC c fun j => VV (d + j))[j]? = some v → w6.cell? (q.add j) = some v) := fun c h1 h2 => by
        obtain ⟨g2, o, rfl, _, hc⟩ := hS (by omega)
        refine ⟨_, rfl, fun j v hv => ?_⟩
        by_cases hj : j < c
        · rw [srcC_at _ _ _ hj] at hv
          rw [← hv, Addr.add_mid]
          have h3 := hc j (by omega)
          dsimp only at h3
          rw [HS.out, HVV.out] at h3
          exact h3
        · rw [List.getElem?_eq_none (by rw [srcC_len]; omega)] at hv; cases hv
      clear hz hS hsl hbw HBk LL BV5 BB5 L5
      obtain ⟨q, hq⟩ : ∃ q, q = m - d := ⟨_, rfl⟩
      have eq1 : (m : Int) - (d : Int) = (q : Int) := by have := HD.out; omega
      obtain ⟨l2, hl2⟩ : ∃ l2, l2 = min l q := ⟨_, rfl⟩
      have m1 : ∀ w : World, (Builtin.min_ #[3, 3] 3 #[.int .i64 (l : Nat), .int .i64 (q : Nat)]).run Try.prog w = .ok (.int .i64 (l2 : Nat)) w := fun w => by
        rw [vmin2i, show min (l : Int) (q : Nat) = (l2 : Nat) by omega]
      obtain ⟨e, he⟩ : ∃ e, e = d + l2 := ⟨_, rfl⟩
      have e1 : (d : Int) + (l2 : Int) = (e : Int) := by omega
      have eb : e ≤ 16384 ∧ e ≤ m ∧ d < e := by have := HD.out; omega
      have q16 : q < 65536 := by omega
      have e16 : e < 65536 := by omega
      have HMM : Hid (Nat.min mm (e - d) ≤ mm ∧ d + Nat.min mm (e - d) ≤ e ∧ d + Nat.min mm (e - d) ≤ m) := by
        have h1 := Nat.min_le_left mm (e - d)
        have h2 := Nat.min_le_right mm (e - d)
        unfold Hid
        change min mm (e - d) ≤ mm ∧ d + min mm (e - d) ≤ e ∧ d + min mm (e - d) ≤ m
        omega
      have HP : Hid (0 < (srcC (Nat.min mm (e - d)) fun j => VV (d + j)).length → some (⟨g0, d, none⟩ : Addr) = some ⟨g0, d, none⟩ ∧ ∃ q : Addr, ad = some q ∧ ∀ j v, (srcC (Nat.min mm (e - d)) fun j => VV (d + j))[j]? = some v → w6.cell? (q.add j) = some v) := fun h => ⟨rfl, HSr.out _ HMM.out.1 (by rw [srcC_len] at h; exact h)⟩
      have HFit : Hid (d + (srcC (Nat.min mm (e - d)) fun j => VV (d + j)).length ≤ (spC VV m d).length) := by unfold Hid; rw [srcC_len, spC_len]; exact HMM.out.2.2
      have HSp : Hid (splice (spC VV m d) d (srcC (Nat.min mm (e - d)) fun j => VV (d + j)) = spC VV m e) := spC_splice VV m d _ e HMM.out.2.1 eb.2.1 fun k h1 h2 => by
        have h3 := HZ.out (k - d)
        rw [show d + (k - d) = k by omega] at h3
        refine h3 ?_ (by omega)
        change d + min mm (e - d) ≤ k at h1
        omega
      have de : (d : Int) ≤ (e : Int) := by omega
      have em : (e : Int) ≤ (m : Int) := by omega
      have em2 : e ≤ m := by omega
      have n0 : ¬ e - d = 0 := by omega
      have n1 : ¬ e = d := by omega
      have n2 : ¬ m = d := by have := HD.out; omega
      have HE : Hid (d < e) := eb.2.2
      clear hq hl2 he eb hml hl0 hl1 HZ HSr HMM
      go_upto_region 9 with (refine wpList_copy_splice rfl _ _ _ _ rfl 5 Try.underlying29 (by kernel_rfl) (some ⟨g0, d, none⟩) ad (e - d) (e - d) mm cc rfl rfl g0 d (spC VV m d) 5 K6.out (srcC (Nat.min mm (e - d)) fun j => VV (d + j)) (srcC_len _ _) HP.out HFit.out (srcC_one _ _) g0 w4 L6.out (Nat.le_refl _) ?_; intro wq HQ LQ)
      rw [HSp.out] at HQ
      go_wp2
      go_roundw
      case rel => exact ⟨e, em2, by go_num, HQ, LQ⟩
      case measure => have := HE.out; have := HD.out; simp [intOf]; omega
    · obtain rfl : d = m := by omega
      go_wp2
      go_ret
      exact ⟨_, rfl, own_span HBk.out (by have := G1.out; omega) hm, L5.out⟩
theorem Span_any (cs : Array Value) (f : Nat → Nat) (F : Fok f) (V : Vid cs f) (b : Bd) (B : b.Wf) (L : List Nat) (g n C : Nat) (hC : n < C) (a : Nat) (ha : a < 65536) (z : Int) (w : World) (hl : Lst w g n L) :
    Calls Try.prog 19 #[.agg cs, .agg b.cells, .slice (some ⟨g, 0, none⟩) n C, .int .u16 (a : Nat), .int .i64 z] w fun e w' => ∃ x, e = .returned x ∧ w'.ownsRow w.heap.size 5 1 x (spnF f b L a z).length (valsV (spnF f b L a z)) ∧ Below w.heap.size w w' := by
  unfold spnF
  by_cases h1 : z < 0
  · rw [if_neg (by omega)]
    exact Span_lo cs f F V b B z h1 L g n C hC a ha w hl
  by_cases h2 : 16384 < z
  · rw [if_neg (by omega)]
    exact Span_hi cs f F V b B z h2 L g n C hC a ha w hl
  obtain ⟨m, rfl⟩ : ∃ m : Nat, z = (m : Int) := ⟨z.toNat, by omega⟩
  cases hv : valF f b
  · rw [if_neg (by simp)]
    exact Span_bad cs f F V b B hv m (by omega) L g n C hC a ha w hl
  · rw [if_pos ⟨rfl, by omega, by omega⟩, spn_len, Int.toNat_natCast]
    exact Span_good cs f F V b B hv m (by omega) L g n C hC a ha w hl
end Go.Proofs.Ytecaipakaaongaa
namespace Go.Proofs.Ytecaipakaaongaa
open Go.RowKit Classical
set_option maxRecDepth 100000 in
set_option maxHeartbeats 2000000 in
theorem rSpan_bad (cs : Array Value) (f : Nat → Nat) (F : Fok f) (V : Vid cs f) (b : Bd) (B : b.Wf) (hval : valF f b = false) (z : Int) (L : List Nat) (g n C : Nat) (hC : n < C) (a : Nat) (ha : a < 65536) (w : World) (hl : Lst w g n L) :
    Calls Try.prog 20 #[.agg cs, .agg b.cells, .slice (some ⟨g, 0, none⟩) n C, .int .u16 (a : Nat), .int .i64 z] w fun e w' => ∃ x, e = .returned x ∧ w'.ownsRow w.heap.size 5 1 x 0 (valsV ([])) ∧ Below w.heap.size w w' := by
  have VA := fun (W : World) => rvalid8_any cs f F V b B W
  rw [hval] at VA
  have VS : Hid (cs.size = 12585) := V.1

  have C := isB b B.rlen
  generalize b.cells = bc at *
  have hbs : Hid (bc.size = 31) := C.size
  have h6 : Hid (bc[6]? = some (.bool b.chrRam)) := C.h6
  clear C
  have IB : Hid ((Try.prog.info? 37).map (·.size) = some 31) := (by kernel_rfl : (Try.prog.info? 37).map (·.size) = some 31)
  have I8 : Hid ((Try.prog.info? 28).map (·.size) = some 12585) := Try.infoVid
  clear h6 B V F hval
  go_enter Try.func20, Try.ntmps20
  go_upto_region 2 with fail
  have BV : Hid (Blk ((w.alloc (.cells cs 28)).alloc (.cells bc 37)) w.heap.size cs 28) := (Blk.new w cs _).old _
  have BB : Hid (Blk ((w.alloc (.cells cs 28)).alloc (.cells bc 37)) (w.heap.size + 1) bc 37) := by
    have := Blk.new (w.alloc (.cells cs 28)) bc 37
    rwa [World.size_alloc] at this
  have L0 : Hid (Below w.heap.size w ((w.alloc (.cells cs 28)).alloc (.cells bc 37))) := below_allocs _ _
  generalize ((w.alloc (.cells cs 28)).alloc (.cells bc 37)) = w2 at *
  clear hl
  go_wp2_with (first
    | (refine wpList_load_blk rfl 28 _ rfl w.heap.size rfl cs _ BV.out Try.underlying28 rfl (by rw [VS.out]; exact I8.out) ?_)
    | (refine wpList_load_want (by rfl) 37 _ rfl (w.heap.size + 1) 0 rfl bc.toList _ (Blk.range' BB.out) Try.underlying37 rfl (by rw [Array.length_toList, hbs.out]; exact IB.out) ?_; rw [Array.toArray_toList])
    | (go_at_call 12; refine (VA _).mono ?_; rintro e w3 ⟨rfl, hbw⟩; have L3 : Hid (Below w.heap.size w w3) := L0.out.trans (hbw.mono (Nat.le_of_lt (Blk.lt BV.out))); have BV2 : Hid (Blk w3 w.heap.size cs 28) := BV.out.below BV.out.lt hbw; have BB2 : Hid (Blk w3 (w.heap.size + 1) bc 37) := BB.out.below BB.out.lt hbw; clear hbw VA BV BB L0))
  go_ret
  exact ⟨_, rfl, ⟨rfl, .inl ⟨rfl, rfl⟩⟩, L3.out⟩
set_option maxRecDepth 100000 in
set_option maxHeartbeats 2000000 in
theorem rSpan_lo (cs : Array Value) (f : Nat → Nat) (F : Fok f) (V : Vid cs f) (b : Bd) (B : b.Wf) (hval : valF f b = true) (z : Int) (hz : z < 0) (L : List Nat) (g n C : Nat) (hC : n < C) (a : Nat) (ha : a < 65536) (w : World) (hl : Lst w g n L) :
    Calls Try.prog 20 #[.agg cs, .agg b.cells, .slice (some ⟨g, 0, none⟩) n C, .int .u16 (a : Nat), .int .i64 z] w fun e w' => ∃ x, e = .returned x ∧ w'.ownsRow w.heap.size 5 1 x 0 (valsV ([])) ∧ Below w.heap.size w w' := by
  have VA := fun (W : World) => rvalid8_any cs f F V b B W
  rw [hval] at VA
  have VS : Hid (cs.size = 12585) := V.1
  have d0 : decide (z < 0) = true := decide_eq_true hz
  have C := isB b B.rlen
  generalize b.cells = bc at *
  have hbs : Hid (bc.size = 31) := C.size
  have h6 : Hid (bc[6]? = some (.bool b.chrRam)) := C.h6
  clear C
  have IB : Hid ((Try.prog.info? 37).map (·.size) = some 31) := (by kernel_rfl : (Try.prog.info? 37).map (·.size) = some 31)
  have I8 : Hid ((Try.prog.info? 28).map (·.size) = some 12585) := Try.infoVid
  clear h6 B V F hval
  go_enter Try.func20, Try.ntmps20
  go_upto_region 2 with fail
  have BV : Hid (Blk ((w.alloc (.cells cs 28)).alloc (.cells bc 37)) w.heap.size cs 28) := (Blk.new w cs _).old _
  have BB : Hid (Blk ((w.alloc (.cells cs 28)).alloc (.cells bc 37)) (w.heap.size + 1) bc 37) := by
    have := Blk.new (w.alloc (.cells cs 28)) bc 37
    rwa [World.size_alloc] at this
  have L0 : Hid (Below w.heap.size w ((w.alloc (.cells cs 28)).alloc (.cells bc 37))) := below_allocs _ _
  generalize ((w.alloc (.cells cs 28)).alloc (.cells bc 37)) = w2 at *
  clear hl
  go_wp2_with (first
    | (refine wpList_load_blk rfl 28 _ rfl w.heap.size rfl cs _ BV.out Try.underlying28 rfl (by rw [VS.out]; exact I8.out) ?_)
    | (refine wpList_load_want (by rfl) 37 _ rfl (w.heap.size + 1) 0 rfl bc.toList _ (Blk.range' BB.out) Try.underlying37 rfl (by rw [Array.length_toList, hbs.out]; exact IB.out) ?_; rw [Array.toArray_toList])
    | (go_at_call 12; refine (VA _).mono ?_; rintro e w3 ⟨rfl, hbw⟩; have L3 : Hid (Below w.heap.size w w3) := L0.out.trans (hbw.mono (Nat.le_of_lt (Blk.lt BV.out))); have BV2 : Hid (Blk w3 w.heap.size cs 28) := BV.out.below BV.out.lt hbw; have BB2 : Hid (Blk w3 (w.heap.size + 1) bc 37) := BB.out.below BB.out.lt hbw; clear hbw VA BV BB L0))
  go_ret
  exact ⟨_, rfl, ⟨rfl, .inl ⟨rfl, rfl⟩⟩, L3.out⟩
set_option maxRecDepth 100000 in
set_option maxHeartbeats 2000000 in
theorem rSpan_hi (cs : Array Value) (f : Nat → Nat) (F : Fok f) (V : Vid cs f) (b : Bd) (B : b.Wf) (hval : valF f b = true) (z : Int) (hz : 16384 < z) (L : List Nat) (g n C : Nat) (hC : n < C) (a : Nat) (ha : a < 65536) (w : World) (hl : Lst w g n L) :
    Calls Try.prog 20 #[.agg cs, .agg b.cells, .slice (some ⟨g, 0, none⟩) n C, .int .u16 (a : Nat), .int .i64 z] w fun e w' => ∃ x, e = .returned x ∧ w'.ownsRow w.heap.size 5 1 x 0 (valsV ([])) ∧ Below w.heap.size w w' := by
  have VA := fun (W : World) => rvalid8_any cs f F V b B W
  rw [hval] at VA
  have VS : Hid (cs.size = 12585) := V.1
  have d0 : decide (z < 0) = false := decide_eq_false (by omega)
  have d1 : decide (16384 < z) = true := decide_eq_true hz
  have C := isB b B.rlen
  generalize b.cells = bc at *
  have hbs : Hid (bc.size = 31) := C.size
  have h6 : Hid (bc[6]? = some (.bool b.chrRam)) := C.h6
  clear C
  have IB : Hid ((Try.prog.info? 37).map (·.size) = some 31) := (by kernel_rfl : (Try.prog.info? 37).map (·.size) = some 31)
  have I8 : Hid ((Try.prog.info? 28).map (·.size) = some 12585) := Try.infoVid
  clear h6 B V F hval
  go_enter Try.func20, Try.ntmps20
  go_upto_region 2 with fail
  have BV : Hid (Blk ((w.alloc (.cells cs 28)).alloc (.cells bc 37)) w.heap.size cs 28) := (Blk.new w cs _).old _
  have BB : Hid (Blk ((w.alloc (.cells cs 28)).alloc (.cells bc 37)) (w.heap.size + 1) bc 37) := by
    have := Blk.new (w.alloc (.cells cs 28)) bc 37
    rwa [World.size_alloc] at this
  have L0 : Hid (Below w.heap.size w ((w.alloc (.cells cs 28)).alloc (.cells bc 37))) := below_allocs _ _
  generalize ((w.alloc (.cells cs 28)).alloc (.cells bc 37)) = w2 at *
  clear hl
  go_wp2_with (first
    | (refine wpList_load_blk rfl 28 _ rfl w.heap.size rfl cs _ BV.out Try.underlying28 rfl (by rw [VS.out]; exact I8.out) ?_)
    | (refine wpList_load_want (by rfl) 37 _ rfl (w.heap.size + 1) 0 rfl bc.toList _ (Blk.range' BB.out) Try.underlying37 rfl (by rw [Array.length_toList, hbs.out]; exact IB.out) ?_; rw [Array.toArray_toList])
    | (go_at_call 12; refine (VA _).mono ?_; rintro e w3 ⟨rfl, hbw⟩; have L3 : Hid (Below w.heap.size w w3) := L0.out.trans (hbw.mono (Nat.le_of_lt (Blk.lt BV.out))); have BV2 : Hid (Blk w3 w.heap.size cs 28) := BV.out.below BV.out.lt hbw; have BB2 : Hid (Blk w3 (w.heap.size + 1) bc 37) := BB.out.below BB.out.lt hbw; clear hbw VA BV BB L0))
  go_ret
  exact ⟨_, rfl, ⟨rfl, .inl ⟨rfl, rfl⟩⟩, L3.out⟩
set_option maxRecDepth 100000 in
set_option maxHeartbeats 2000000 in
theorem rSpan_good (cs : Array Value) (f : Nat → Nat) (F : Fok f) (V : Vid cs f) (b : Bd) (B : b.Wf) (hval : valF f b = true) (m : Nat) (hm : m ≤ 16384) (L : List Nat) (g n C : Nat) (hC : n < C) (a : Nat) (ha : a < 65536) (w : World) (hl : Lst w g n L) :
    Calls Try.prog 20 #[.agg cs, .agg b.cells, .slice (some ⟨g, 0, none⟩) n C, .int .u16 (a : Nat), .int .i64 (m : Nat)] w fun e w' => ∃ x, e = .returned x ∧ w'.ownsRow w.heap.size 5 1 x m (valsV (spn f b L a m)) ∧ Below w.heap.size w w' := by
  have VA := fun (W : World) => rvalid8_any cs f F V b B W
  rw [hval] at VA
  have VS : Hid (cs.size = 12585) := V.1
  have d0 : decide ((m : Int) < 0) = false := decide_eq_false (by omega)
  have d1 : decide (16384 < (m : Int)) = false := decide_eq_false (by omega)
  have HV : Hid (Vid cs f) := V
  have AT : Hid (∀ W, Below w.heap.size w W → ∀ s : Nat, s < 16384 → Calls Try.prog 38 #[.agg cs, .agg b.cells, .slice (some ⟨g, 0, none⟩) n C, .int .i64 (s : Nat)] W fun e w' => e = .returned (.int .u8 (atF f b L s : Nat)) ∧ Below W.heap.size W w') :=
    fun W h s hs => rat_any cs f V b B (valF_facts hval).2.2 L g n C hC s hs W (hl.below h)
  have C := isB b B.rlen
  generalize b.cells = bc at *
  have hbs : Hid (bc.size = 31) := C.size
  have h6 : Hid (bc[6]? = some (.bool b.chrRam)) := C.h6
  clear C
  have IB : Hid ((Try.prog.info? 37).map (·.size) = some 31) := (by kernel_rfl : (Try.prog.info? 37).map (·.size) = some 31)
  have I8 : Hid ((Try.prog.info? 28).map (·.size) = some 12585) := Try.infoVid
  clear h6 B V F hval
  go_enter Try.func20, Try.ntmps20
  go_upto_region 2 with fail
  have BV : Hid (Blk ((w.alloc (.cells cs 28)).alloc (.cells bc 37)) w.heap.size cs 28) := (Blk.new w cs _).old _
  have BB : Hid (Blk ((w.alloc (.cells cs 28)).alloc (.cells bc 37)) (w.heap.size + 1) bc 37) := by
    have := Blk.new (w.alloc (.cells cs 28)) bc 37
    rwa [World.size_alloc] at this
  have L0 : Hid (Below w.heap.size w ((w.alloc (.cells cs 28)).alloc (.cells bc 37))) := below_allocs _ _
  generalize ((w.alloc (.cells cs 28)).alloc (.cells bc 37)) = w2 at *
  clear hl
  go_upto_region 5 with (first
    | (refine wpList_load_blk rfl 28 _ rfl w.heap.size rfl cs _ BV.out Try.underlying28 rfl (by rw [VS.out]; exact I8.out) ?_)
    | (refine wpList_load_want (by rfl) 37 _ rfl (w.heap.size + 1) 0 rfl bc.toList _ (Blk.range' BB.out) Try.underlying37 rfl (by rw [Array.length_toList, hbs.out]; exact IB.out) ?_; rw [Array.toArray_toList])
    | (go_at_call 12; refine (VA _).mono ?_; rintro e w3 ⟨rfl, hbw⟩; have L3 : Hid (Below w.heap.size w w3) := L0.out.trans (hbw.mono (Nat.le_of_lt (Blk.lt BV.out))); have BV2 : Hid (Blk w3 w.heap.size cs 28) := BV.out.below BV.out.lt hbw; have BB2 : Hid (Blk w3 (w.heap.size + 1) bc 37) := BB.out.below BB.out.lt hbw; clear hbw VA BV BB L0))
  clear d0 d1
  have G1 : Hid (w.heap.size + 1 < w3.heap.size) := BB2.out.lt
  go_loopw [11, 12] (fun v i wr => ∃ k : Nat, k ≤ m ∧ i = .int .i64 (k : Nat) ∧ Hid (wr.ownsRow w3.heap.size 5 1 v k (valsV (spn f b L a k))) ∧ Hid (Below w3.heap.size w3 wr)) (fun _ i _ => m - (intOf i).toNat)
  case atStart => exact ⟨0, Nat.zero_le _, rfl, ⟨by rw [valsV_len, spn_len], .inl ⟨rfl, rfl⟩⟩, Below.refl _ _⟩
  case round =>
    obtain ⟨k, hk, rfl, OR, LL⟩ := hrel
    have L5 : Hid (Below w.heap.size w wr) := L3.out.trans (LL.out.mono (by have := G1.out; omega))
    by_cases hlt : k < m
    · have BV : Hid (Blk wr w.heap.size cs 28) := BV2.out.below (Nat.lt_trans (Nat.lt_succ_self _) G1.out) LL.out
      have BB : Hid (Blk wr (w.heap.size + 1) bc 37) := BB2.out.below G1.out LL.out
      obtain ⟨s, hs⟩ : ∃ s, s = a + k := ⟨_, rfl⟩
      have es : (a : Int) + (k : Int) = (s : Int) := by omega
      obtain ⟨r, hr⟩ : ∃ r, r = s % 16384 := ⟨_, rfl⟩
      have er : (s : Int).tmod 16384 = (r : Int) := by rw [Int.tmod_eq_emod_of_nonneg (by omega)]; omega
      have sb : s < 131072 := by omega
      have rb : r < 65536 := by omega
      have km : (k : Int) < (m : Int) := by omega
      have SA : Hid (spn f b L a (k + 1) = spn f b L a k ++ [atF f b L r]) := by unfold Hid; rw [spn_add, hr, hs]
      have RB := AT.out wr L5.out r (by omega)
      have HS : Hid (w3.heap.size ≤ wr.heap.size) := LL.out.size
      have KM : Hid (k < m) := hlt
      generalize hy : atF f b L r = y at *
      clear hs hr hy hlt
      go_wp2_with (first
        | (refine wpList_load_blk rfl 28 _ rfl w.heap.size rfl cs _ BV.out Try.underlying28 rfl (by rw [VS.out]; exact I8.out) ?_)
        | (refine wpList_load_want (by rfl) 37 _ rfl (w.heap.size + 1) 0 rfl bc.toList _ (Blk.range' BB.out) Try.underlying37 rfl (by rw [Array.length_toList, hbs.out]; exact IB.out) ?_; rw [Array.toArray_toList])
        | (go_at_call 38; refine RB.mono ?_; rintro e w6 ⟨rfl, hbw⟩; have O6 : Hid (w6.ownsRow w3.heap.size 5 1 _ k (valsV (spn f b L a k))) := orow_keep OR.out hbw; have L6 : Hid (Below w3.heap.size w3 w6) := LL.out.trans (hbw.mono HS.out); clear hbw RB BV BB)
        | (refine wpList_apV1 rfl _ _ rfl y (spn_len _ _ _ _ _) O6.out L6.out L6.out.size rfl rfl (by omega) ?_; intro v' w7 O7 L7 _))
      go_roundw
      case rel => exact ⟨k + 1, KM.out, by go_num, by rw [SA.out]; exact O7, L7⟩
      case measure => have := KM.out; simp [intOf]; omega
    · obtain rfl : k = m := by omega
      go_wp2
      go_ret
      exact ⟨_, rfl, orow_lower OR.out (by have := G1.out; omega), L5.out⟩
theorem rSpan_any (cs : Array Value) (f : Nat → Nat) (F : Fok f) (V : Vid cs f) (b : Bd) (B : b.Wf) (L : List Nat) (g n C : Nat) (hC : n < C) (a : Nat) (ha : a < 65536) (z : Int) (w : World) (hl : Lst w g n L) :
    Calls Try.prog 20 #[.agg cs, .agg b.cells, .slice (some ⟨g, 0, none⟩) n C, .int .u16 (a : Nat), .int .i64 z] w fun e w' => ∃ x, e = .returned x ∧ w'.ownsRow w.heap.size 5 1 x (spnF f b L a z).length (valsV (spnF f b L a z)) ∧ Below w.heap.size w w' := by
  unfold spnF
  cases hv : valF f b
  · rw [if_neg (by simp)]
    exact rSpan_bad cs f F V b B hv z L g n C hC a ha w hl
  by_cases h1 : z < 0
  · rw [if_neg (by omega)]
    exact rSpan_lo cs f F V b B hv z h1 L g n C hC a ha w hl
  by_cases h2 : 16384 < z
  · rw [if_neg (by omega)]
    exact rSpan_hi cs f F V b B hv z h2 L g n C hC a ha w hl
  obtain ⟨m, rfl⟩ : ∃ m : Nat, z = (m : Int) := ⟨z.toNat, by omega⟩
  rw [if_pos ⟨rfl, by omega, by omega⟩, spn_len, Int.toNat_natCast]
  exact rSpan_good cs f F V b B hv m (by omega) L g n C hC a ha w hl
end Go.Proofs.Ytecaipakaaongaa
namespace Go.Proofs.Ytecaipakaaongaa
open Go.RowKit Classical
set_option maxHeartbeats 1000000 in
theorem alike_zero (a1 a2 : Option Addr) (c1 c2 : Nat) (w : World) :
    Calls Try.prog 10 #[.slice a1 0 c1, .slice a2 0 c2] w fun e w' => e = .returned (.bool true) ∧ w' = w := by
  go_enter Try.func10, Try.ntmps10
  go_wp2
  go_loopw [5] (fun i wr => i = .int .i64 0 ∧ wr = w) (fun i _ => 0)
  case atStart => exact ⟨rfl, rfl⟩
  case round =>
    obtain ⟨rfl, rfl⟩ := hrel
    go_wp2
    go_ret
    exact ⟨rfl, rfl⟩
theorem alike_own {l : List Nat} {n : Nat} (hn : l.length = n) (hlen : n ≤ 140737488355328) {x y : Value} {b1 b2 : Nat} {w : World} (h1 : w.ownsRow b1 5 1 x n (valsV l)) (h2 : w.ownsRow b2 5 1 y n (valsV l)) :
    Calls Try.prog 10 #[x, y] w fun e w' => e = .returned (.bool true) ∧ Below w.heap.size w w' := by
  by_cases h0 : n = 0
  · subst h0
    obtain ⟨a1, c1, rfl⟩ := orow_nil h1
    obtain ⟨a2, c2, rfl⟩ := orow_nil h2
    exact (alike_zero a1 a2 c1 c2 w).mono fun e w' h => ⟨h.1, by rw [h.2]; exact Below.refl _ _⟩
  · obtain ⟨g1, c1, rfl⟩ := orow_some h1 (by omega)
    obtain ⟨g2, c2, rfl⟩ := orow_some h2 (by omega)
    have cl : ∀ k, k < n → (valsV l)[k]? = some (.int .u8 (l.getD k 0 : Nat)) := fun k hk => valsV_at l k (by omega)
    exact (alike_true l n hlen g1 g2 c1 c2 w (fun k hk => (orow_cell h1 k (by omega)).trans (cl k hk)) (fun k hk => (orow_cell h2 k (by omega)).trans (cl k hk))).mono fun e w' ⟨h, m, hm⟩ => ⟨h, by rw [hm]; exact below_drawsX (Below.refl _ _) m⟩
theorem neqVid (a b : Array Value) (f : Nat → Nat) (V : Vid a f) (V2 : Vid b f) (w : World) : (binOp .neq 28 (.agg a) (.agg b)).run Try.prog w = .ok (.bool false) w := by
  have h := eqVid a b f V V2 w
  rw [run_eql_struct] at h
  rw [run_neq_struct]
  cases hq : (Op.equalIn 10000 28 (.agg a) (.agg b)).run Try.prog w with
  | ok r w2 =>
    rw [hq] at h
    simp only [Result.andThen_ok] at h ⊢
    cases h
    rfl
  | _ => rw [hq] at h; simp [Result.andThen] at h
theorem exec_neqVid {ρ : Operand → Value} {o : Oper} {x y : Operand} {z : TypeId} {a b : Array Value} {f : Nat → Nat} {w : World} (ho : o.op = .binOp .neq 28 x y z) (hx : ρ x = .agg a) (hy : ρ y = .agg b) (V : Vid a f) (V2 : Vid b f) : (execOp ρ o).run Try.prog w = .ok (.value (.bool false)) w := by
  obtain ⟨dst, o, ty, pos, after, guard⟩ := o
  simp only at ho
  subst ho
  rw [vrun_exec_binOp, hx, hy, run_eqGuard_agg w .neq 28 _ _ _ _ (by kernel_rfl), Result.andThen_ok, neqVid a b f V V2 w]
  rfl
theorem exec_neqS {ρ : Operand → Value} {o : Oper} {x y : Operand} {t z : TypeId} {k : IntKind} {a : Int} {w : World} (ho : o.op = .binOp .neq t x y z) (hx : ρ x = .int k a) (hy : ρ y = .int k a) (ht : Try.prog.underlying t = some (.int k)) : (execOp ρ o).run Try.prog w = .ok (.value (.bool false)) w := by
  obtain ⟨dst, o, ty, pos, after, guard⟩ := o
  simp only at ho
  subst ho
  unfold execOp
  simp only [hx, hy]
  go_simp
theorem exec_add16 {ρ : Operand → Value} {o : Oper} {x y : Operand} {z : TypeId} {m n k : Int} {w : World} (ho : o.op = .binOp .add 26 x y z) (hx : ρ x = .int .u16 m) (hy : ρ y = .int .u16 n) (h : IntKind.u16.wrap (m + n) = k) : (execOp ρ o).run Try.prog w = .ok (.value (.int .u16 k)) w := by
  obtain ⟨dst, o, ty, pos, after, guard⟩ := o
  simp only at ho
  subst ho
  unfold execOp
  simp only [hx, hy]
  go_simp
/-- A byte that is turned. -/
def xo (u : Nat) : Nat := (bits .xor .u8 (u : Int) 165).toNat
theorem xo_is : ∀ u : Nat, u < 256 → bits .xor .u8 (u : Int) 165 = (xo u : Int) ∧ xo u < 256 := by decide +kernel
/-- A list whose first k bytes are turned. -/
def xrL (S : List Nat) (k : Nat) : List Nat := (List.range S.length).map fun j => if j < k then xo (S.getD j 0) else S.getD j 0
theorem xrL_len (S : List Nat) (k : Nat) : (xrL S k).length = S.length := by simp [xrL]
theorem xrL_at (S : List Nat) (k j : Nat) (h : j < S.length) : (valsV (xrL S k))[j]? = some (.int .u8 ((if j < k then xo (S.getD j 0) else S.getD j 0 : Nat) : Int)) := by
  unfold valsV xrL
  rw [List.map_map, List.getElem?_map, List.getElem?_range h]
  rfl
theorem xrL_zero (S : List Nat) : valsV (xrL S 0) = valsV S := by
  refine List.ext_getElem? fun j => ?_
  by_cases h : j < S.length
  · rw [xrL_at S 0 j h, valsV_at S j h]
    rfl
  · rw [List.getElem?_eq_none (by rw [valsV_len, xrL_len]; omega), List.getElem?_eq_none (by rw [valsV_len]; omega)]
theorem xrL_set (S : List Nat) (d : Nat) (hd : d < S.length) : (valsV (xrL S d)).set d (.int .u8 (xo (S.getD d 0) : Nat)) = valsV (xrL S (d + 1)) := by
  refine List.ext_getElem? fun j => ?_
  by_cases h : j < S.length
  · rw [List.getElem?_set, xrL_at S (d + 1) j h]
    by_cases e : d = j
    · subst e
      rw [if_pos rfl, if_pos (by rw [valsV_len, xrL_len]; exact hd), if_pos (by omega)]
    · rw [if_neg e, xrL_at S d j h]
      by_cases h1 : j < d
      · rw [if_pos h1, if_pos (by omega)]
      · rw [if_neg h1, if_neg (by omega)]
  · rw [List.getElem?_eq_none (by rw [List.length_set, valsV_len, xrL_len]; omega), List.getElem?_eq_none (by rw [valsV_len, xrL_len]; omega)]
end Go.Proofs.Ytecaipakaaongaa
