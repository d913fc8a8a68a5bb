/-
  What the document's at answers of every address of a valid memory.
  What the document's Peek and Poke answer.
-/
import Derived.Test.YtecaipakaaongaaXVU
import Derived.Test.YtecaipakaaongaaXvRput
import Derived.Test.YtecaipakaaongaaXvPeek
import Derived.Test.YtecaipakaaongaaXvRWr
set_option linter.unusedSimpArgs false
set_option linter.unusedVariables false
namespace Go.Proofs.Ytecaipakaaongaa
open Go.RowKit Classical
set_option maxRecDepth 100000 in
set_option maxHeartbeats 2000000 in
theorem rat_pal (cs : Array Value) (f : Nat → Nat) (V : Vid cs f) (b : Bd) (B : b.Wf) (vb : validB b = true) (L : List Nat) (g n C : Nat) (hC : n < C) (a : Nat) (ha : a < 16384) (h : 16128 ≤ a) (w : World) (hl : Lst w g n L) :
    Calls Try.prog 38 #[.agg cs, .agg b.cells, .slice (some ⟨g, 0, none⟩) n C, .int .i64 (a : Nat)] w fun e w' => e = .returned (.int .u8 (atF f b L a : Nat)) ∧ Below w.heap.size w w' := by
  have HV : Hid (Vid cs f) := V
  have a16 : a < 65536 := by omega
  have HL : Hid (Lst w g n L) := hl
  have d : decide ((16128 : Int) ≤ (a : Int)) = true := decide_eq_true (by omega)
  rw [atF_pal h]
  obtain ⟨e, he⟩ : ∃ e, e = entN a := ⟨_, rfl⟩
  have e32 : e < 32 := by rw [he]; exact entN_lt a
  have EA := fun W : World => (rentry_any a a16 W).mono (R' := fun e' w' => e' = .returned (.int .i64 (entN a : Nat)) ∧ Below W.heap.size W w') fun e' w' h => ⟨h.1, by rw [h.2]; exact Below.refl _ _⟩
  rw [← he] at EA ⊢
  have C := isB b B.rlen
  generalize b.cells = bc at *
  have hbs : Hid (bc.size = 31) := C.size
  have h6 : Hid (bc[6]? = some (.bool b.chrRam)) := C.h6
  clear C
  have IB : Hid ((Try.prog.info? 37).map (·.size) = some 31) := (by kernel_rfl : (Try.prog.info? 37).map (·.size) = some 31)
  have I8 : Hid ((Try.prog.info? 28).map (·.size) = some 12585) := Try.infoVid
  clear B V hl vb h he ha
  go_enter Try.func38, Try.ntmps38
  go_upto_region 1 with fail
  have BV : Hid (Blk ((w.alloc (.cells cs 28)).alloc (.cells bc 37)) w.heap.size cs 28) := (Blk.new w cs _).old _
  have BB : Hid (Blk ((w.alloc (.cells cs 28)).alloc (.cells bc 37)) (w.heap.size + 1) bc 37) := by
    have := Blk.new (w.alloc (.cells cs 28)) bc 37
    rwa [World.size_alloc] at this
  have L0 : Hid (Below w.heap.size w ((w.alloc (.cells cs 28)).alloc (.cells bc 37))) := below_allocs _ _
  generalize ((w.alloc (.cells cs 28)).alloc (.cells bc 37)) = w2 at *
  go_wp2_with (first
    | (refine wpList_load_want (by rfl) 37 _ rfl (w.heap.size + 1) 0 rfl bc.toList _ (Blk.range' BB.out) Try.underlying37 rfl (by rw [Array.length_toList, hbs.out]; exact IB.out) ?_; rw [Array.toArray_toList])
    | (go_at_call 44; refine (EA _).mono ?_; rintro e0 w4 ⟨rfl, hbw⟩; have B2 : Hid (Blk w4 w.heap.size cs 28) := BV.out.below (Blk.lt BV.out) hbw; have L2 : Hid (Below w.heap.size w w4) := L0.out.trans (hbw.mono (Nat.le_of_lt (Blk.lt BV.out))); have cc := (B2.out.cell (4353 + e)).trans (HV.out.byte (4353 + e) (by omega)); clear hbw))
  go_ret
  exact ⟨rfl, L2.out⟩
set_option maxRecDepth 100000 in
set_option maxHeartbeats 2000000 in
theorem rat_nt (cs : Array Value) (f : Nat → Nat) (V : Vid cs f) (b : Bd) (B : b.Wf) (vb : validB b = true) (L : List Nat) (g n C : Nat) (hC : n < C) (a : Nat) (ha : a < 16384) (h : a < 16128) (h2 : 8192 ≤ a) (w : World) (hl : Lst w g n L) :
    Calls Try.prog 38 #[.agg cs, .agg b.cells, .slice (some ⟨g, 0, none⟩) n C, .int .i64 (a : Nat)] w fun e w' => e = .returned (.int .u8 (atF f b L a : Nat)) ∧ Below w.heap.size w w' := by
  have HV : Hid (Vid cs f) := V
  have a16 : a < 65536 := by omega
  have HL : Hid (Lst w g n L) := hl
  have d : decide ((16128 : Int) ≤ (a : Int)) = false := decide_eq_false (by omega)
  have d2 : decide ((8192 : Int) ≤ (a : Int)) = true := decide_eq_true (by omega)
  rw [atF_nt h h2]
  have hpg := pageB_lt (b := b) (a : Int) (by omega)
  obtain ⟨q, hq⟩ : ∃ q : Nat, q = (pageB b (a : Int)).toNat := ⟨_, rfl⟩
  have hgi : pageB b (a : Int) = (q : Int) := by omega
  have PA := fun W => rpage_all W b (a : Int) B (by omega) (by omega)
  unfold pageA at PA
  rw [if_pos vb, hgi] at PA
  rw [← hq]
  obtain ⟨m, hm⟩ : ∃ m, m = a % 1024 := ⟨_, rfl⟩
  have em : (a : Int).tmod 1024 = (m : Int) := by rw [Int.tmod_eq_emod_of_nonneg (by omega)]; omega
  obtain ⟨gg, hgg⟩ : ∃ gg, gg = 1024 * q := ⟨_, rfl⟩
  have eg : 1024 * (q : Int) = (gg : Int) := by omega
  obtain ⟨k, hk⟩ : ∃ k, k = gg + m := ⟨_, rfl⟩
  have ek : (gg : Int) + (m : Int) = (k : Int) := by omega
  have kb : k < 4096 := by omega
  have mb : m < 65536 := by omega
  have ggb : gg < 65536 := by omega
  rw [← hm, ← hgg, ← hk]
  have C := isB b B.rlen
  generalize b.cells = bc at *
  have hbs : Hid (bc.size = 31) := C.size
  have h6 : Hid (bc[6]? = some (.bool b.chrRam)) := C.h6
  clear C
  have IB : Hid ((Try.prog.info? 37).map (·.size) = some 31) := (by kernel_rfl : (Try.prog.info? 37).map (·.size) = some 31)
  have I8 : Hid ((Try.prog.info? 28).map (·.size) = some 12585) := Try.infoVid
  clear B V hl vb h h2 hpg hq hgi hm hgg hk ha
  go_enter Try.func38, Try.ntmps38
  go_upto_region 1 with fail
  have BV : Hid (Blk ((w.alloc (.cells cs 28)).alloc (.cells bc 37)) w.heap.size cs 28) := (Blk.new w cs _).old _
  have BB : Hid (Blk ((w.alloc (.cells cs 28)).alloc (.cells bc 37)) (w.heap.size + 1) bc 37) := by
    have := Blk.new (w.alloc (.cells cs 28)) bc 37
    rwa [World.size_alloc] at this
  have L0 : Hid (Below w.heap.size w ((w.alloc (.cells cs 28)).alloc (.cells bc 37))) := below_allocs _ _
  generalize ((w.alloc (.cells cs 28)).alloc (.cells bc 37)) = w2 at *
  go_wp2_with (first
    | (refine wpList_load_want (by rfl) 37 _ rfl (w.heap.size + 1) 0 rfl bc.toList _ (Blk.range' BB.out) Try.underlying37 rfl (by rw [Array.length_toList, hbs.out]; exact IB.out) ?_; rw [Array.toArray_toList])
    | (go_at_call 45; refine (PA _).mono ?_; rintro e0 w4 ⟨rfl, hbw⟩; have B2 : Hid (Blk w4 w.heap.size cs 28) := BV.out.below (Blk.lt BV.out) hbw; have L2 : Hid (Below w.heap.size w w4) := L0.out.trans (hbw.mono (Nat.le_of_lt (Blk.lt BV.out))); have cc := (B2.out.cell (257 + k)).trans (HV.out.byte (257 + k) (by omega)); clear hbw))
  go_ret
  exact ⟨rfl, L2.out⟩
set_option maxRecDepth 100000 in
set_option maxHeartbeats 2000000 in
theorem rat_chr (cs : Array Value) (f : Nat → Nat) (V : Vid cs f) (b : Bd) (B : b.Wf) (vb : validB b = true) (L : List Nat) (g n C : Nat) (hC : n < C) (a : Nat) (ha : a < 16384) (h2 : a < 8192) (hr : b.chrRam = true) (w : World) (hl : Lst w g n L) :
    Calls Try.prog 38 #[.agg cs, .agg b.cells, .slice (some ⟨g, 0, none⟩) n C, .int .i64 (a : Nat)] w fun e w' => e = .returned (.int .u8 (atF f b L a : Nat)) ∧ Below w.heap.size w w' := by
  have HV : Hid (Vid cs f) := V
  have a16 : a < 65536 := by omega
  have HL : Hid (Lst w g n L) := hl
  have d : decide ((16128 : Int) ≤ (a : Int)) = false := decide_eq_false (by omega)
  have d2 : decide ((8192 : Int) ≤ (a : Int)) = false := decide_eq_false (by omega)
  rw [atF_chr h2 hr]
  have hki := chrP_at (Bd.ok B vb) (a := a)
  have hkl := chrP_le (Bd.ok B vb) a
  have hc8 := chrB_ram (Bd.ok B vb) hr ((a : Int) / 1024)
  have k8 : chrP b a < 8192 := by unfold chrP; omega
  obtain ⟨k, hk⟩ : ∃ k : Nat, k = chrP b a := ⟨_, rfl⟩
  have CA := fun W => rchrAt_all W b (a : Int) B (by omega) (by omega)
  unfold chrAtA at CA
  rw [if_pos ⟨vb, by omega⟩, hki] at CA
  rw [← hk] at CA hkl ⊢
  rw [← hk] at k8
  have C := isB b B.rlen
  generalize b.cells = bc at *
  have hbs : Hid (bc.size = 31) := C.size
  have h6 : Hid (bc[6]? = some (.bool b.chrRam)) := C.h6
  clear C
  have IB : Hid ((Try.prog.info? 37).map (·.size) = some 31) := (by kernel_rfl : (Try.prog.info? 37).map (·.size) = some 31)
  have I8 : Hid ((Try.prog.info? 28).map (·.size) = some 12585) := Try.infoVid
  clear hc8 B V hl vb h2 ha hki hk
  go_enter Try.func38, Try.ntmps38
  go_upto_region 1 with fail
  have BV : Hid (Blk ((w.alloc (.cells cs 28)).alloc (.cells bc 37)) w.heap.size cs 28) := (Blk.new w cs _).old _
  have BB : Hid (Blk ((w.alloc (.cells cs 28)).alloc (.cells bc 37)) (w.heap.size + 1) bc 37) := by
    have := Blk.new (w.alloc (.cells cs 28)) bc 37
    rwa [World.size_alloc] at this
  have L0 : Hid (Below w.heap.size w ((w.alloc (.cells cs 28)).alloc (.cells bc 37))) := below_allocs _ _
  generalize ((w.alloc (.cells cs 28)).alloc (.cells bc 37)) = w2 at *
  go_wp2_with (first
    | (refine wpList_load_want (by rfl) 37 _ rfl (w.heap.size + 1) 0 rfl bc.toList _ (Blk.range' BB.out) Try.underlying37 rfl (by rw [Array.length_toList, hbs.out]; exact IB.out) ?_; rw [Array.toArray_toList])
    | (go_at_call 46; refine (CA _).mono ?_; rintro e0 w4 ⟨rfl, hbw⟩; have B2 : Hid (Blk w4 w.heap.size cs 28) := BV.out.below (Blk.lt BV.out) hbw; have L2 : Hid (Below w.heap.size w w4) := L0.out.trans (hbw.mono (Nat.le_of_lt (Blk.lt BV.out))); have c6 : w4.cell? ⟨w.heap.size + 1, 6, none⟩ = some (.bool true) := ((BB.out.below BB.out.lt hbw).cell 6).trans (h6.out.trans (by rw [hr])); have cc := (B2.out.cell (4385 + k)).trans (HV.out.byte (4385 + k) (by omega)); clear hbw))
  go_ret
  exact ⟨rfl, L2.out⟩
set_option maxRecDepth 100000 in
set_option maxHeartbeats 2000000 in
theorem rat_in (cs : Array Value) (f : Nat → Nat) (V : Vid cs f) (b : Bd) (B : b.Wf) (vb : validB b = true) (L : List Nat) (g n C : Nat) (hC : n < C) (a : Nat) (ha : a < 16384) (h2 : a < 8192) (hr : b.chrRam = false) (hn : chrP b a < n) (w : World) (hl : Lst w g n L) :
    Calls Try.prog 38 #[.agg cs, .agg b.cells, .slice (some ⟨g, 0, none⟩) n C, .int .i64 (a : Nat)] w fun e w' => e = .returned (.int .u8 (atF f b L a : Nat)) ∧ Below w.heap.size w w' := by
  have HV : Hid (Vid cs f) := V
  have a16 : a < 65536 := by omega
  have HL : Hid (Lst w g n L) := hl
  have d : decide ((16128 : Int) ≤ (a : Int)) = false := decide_eq_false (by omega)
  have d2 : decide ((8192 : Int) ≤ (a : Int)) = false := decide_eq_false (by omega)
  rw [atF_rom h2 hr]
  have hki := chrP_at (Bd.ok B vb) (a := a)
  have hkl := chrP_le (Bd.ok B vb) a
  obtain ⟨k, hk⟩ : ∃ k : Nat, k = chrP b a := ⟨_, rfl⟩
  have CA := fun W => rchrAt_all W b (a : Int) B (by omega) (by omega)
  unfold chrAtA at CA
  rw [if_pos ⟨vb, by omega⟩, hki] at CA
  rw [← hk] at CA hkl ⊢
  rw [← hk] at hn
  have kn : (k : Int) < (n : Int) := by omega
  have HC : Hid (∀ W, Below w.heap.size w W → W.cell? ⟨g, k, none⟩ = some (.int .u8 (L.getD k 0 : Nat))) := fun W h => (hl.below h).2.2 k hn
  generalize L.getD k 0 = y at *
  have C := isB b B.rlen
  generalize b.cells = bc at *
  have hbs : Hid (bc.size = 31) := C.size
  have h6 : Hid (bc[6]? = some (.bool b.chrRam)) := C.h6
  clear C
  have IB : Hid ((Try.prog.info? 37).map (·.size) = some 31) := (by kernel_rfl : (Try.prog.info? 37).map (·.size) = some 31)
  have I8 : Hid ((Try.prog.info? 28).map (·.size) = some 12585) := Try.infoVid
  clear B V hl vb h2 ha hki hk HL
  go_enter Try.func38, Try.ntmps38
  go_upto_region 1 with fail
  have BV : Hid (Blk ((w.alloc (.cells cs 28)).alloc (.cells bc 37)) w.heap.size cs 28) := (Blk.new w cs _).old _
  have BB : Hid (Blk ((w.alloc (.cells cs 28)).alloc (.cells bc 37)) (w.heap.size + 1) bc 37) := by
    have := Blk.new (w.alloc (.cells cs 28)) bc 37
    rwa [World.size_alloc] at this
  have L0 : Hid (Below w.heap.size w ((w.alloc (.cells cs 28)).alloc (.cells bc 37))) := below_allocs _ _
  generalize ((w.alloc (.cells cs 28)).alloc (.cells bc 37)) = w2 at *
  go_wp2_with (first
    | (refine wpList_load_want (by rfl) 37 _ rfl (w.heap.size + 1) 0 rfl bc.toList _ (Blk.range' BB.out) Try.underlying37 rfl (by rw [Array.length_toList, hbs.out]; exact IB.out) ?_; rw [Array.toArray_toList])
    | (go_at_call 46; refine (CA _).mono ?_; rintro e0 w4 ⟨rfl, hbw⟩; have B2 : Hid (Blk w4 w.heap.size cs 28) := BV.out.below (Blk.lt BV.out) hbw; have L2 : Hid (Below w.heap.size w w4) := L0.out.trans (hbw.mono (Nat.le_of_lt (Blk.lt BV.out))); have c6 : w4.cell? ⟨w.heap.size + 1, 6, none⟩ = some (.bool false) := ((BB.out.below BB.out.lt hbw).cell 6).trans (h6.out.trans (by rw [hr])); have cc := HC.out w4 L2.out; clear HC; clear hbw))
  go_ret
  exact ⟨rfl, L2.out⟩
set_option maxRecDepth 100000 in
set_option maxHeartbeats 2000000 in
theorem rat_out (cs : Array Value) (f : Nat → Nat) (V : Vid cs f) (b : Bd) (B : b.Wf) (vb : validB b = true) (L : List Nat) (g n C : Nat) (hC : n < C) (a : Nat) (ha : a < 16384) (h2 : a < 8192) (hr : b.chrRam = false) (hn : n ≤ chrP b a) (w : World) (hl : Lst w g n L) :
    Calls Try.prog 38 #[.agg cs, .agg b.cells, .slice (some ⟨g, 0, none⟩) n C, .int .i64 (a : Nat)] w fun e w' => e = .returned (.int .u8 (atF f b L a : Nat)) ∧ Below w.heap.size w w' := by
  have HV : Hid (Vid cs f) := V
  have a16 : a < 65536 := by omega
  have HL : Hid (Lst w g n L) := hl
  have d : decide ((16128 : Int) ≤ (a : Int)) = false := decide_eq_false (by omega)
  have d2 : decide ((8192 : Int) ≤ (a : Int)) = false := decide_eq_false (by omega)
  rw [atF_rom h2 hr]
  have hki := chrP_at (Bd.ok B vb) (a := a)
  have hkl := chrP_le (Bd.ok B vb) a
  have hz : L.getD (chrP b a) 0 = 0 := by rw [List.getD_eq_getElem?_getD, List.getElem?_eq_none (by rw [hl.1]; exact hn)]; rfl
  rw [hz]
  obtain ⟨k, hk⟩ : ∃ k : Nat, k = chrP b a := ⟨_, rfl⟩
  have CA := fun W => rchrAt_all W b (a : Int) B (by omega) (by omega)
  unfold chrAtA at CA
  rw [if_pos ⟨vb, by omega⟩, hki] at CA
  rw [← hk] at CA hkl
  rw [← hk] at hn
  have kn : ¬ (k : Int) < (n : Int) := by omega
  have C := isB b B.rlen
  generalize b.cells = bc at *
  have hbs : Hid (bc.size = 31) := C.size
  have h6 : Hid (bc[6]? = some (.bool b.chrRam)) := C.h6
  clear C
  have IB : Hid ((Try.prog.info? 37).map (·.size) = some 31) := (by kernel_rfl : (Try.prog.info? 37).map (·.size) = some 31)
  have I8 : Hid ((Try.prog.info? 28).map (·.size) = some 12585) := Try.infoVid
  clear B V hl vb h2 ha hki hk hz HL
  go_enter Try.func38, Try.ntmps38
  go_upto_region 1 with fail
  have BV : Hid (Blk ((w.alloc (.cells cs 28)).alloc (.cells bc 37)) w.heap.size cs 28) := (Blk.new w cs _).old _
  have BB : Hid (Blk ((w.alloc (.cells cs 28)).alloc (.cells bc 37)) (w.heap.size + 1) bc 37) := by
    have := Blk.new (w.alloc (.cells cs 28)) bc 37
    rwa [World.size_alloc] at this
  have L0 : Hid (Below w.heap.size w ((w.alloc (.cells cs 28)).alloc (.cells bc 37))) := below_allocs _ _
  generalize ((w.alloc (.cells cs 28)).alloc (.cells bc 37)) = w2 at *
  go_wp2_with (first
    | (refine wpList_load_want (by rfl) 37 _ rfl (w.heap.size + 1) 0 rfl bc.toList _ (Blk.range' BB.out) Try.underlying37 rfl (by rw [Array.length_toList, hbs.out]; exact IB.out) ?_; rw [Array.toArray_toList])
    | (go_at_call 46; refine (CA _).mono ?_; rintro e0 w4 ⟨rfl, hbw⟩; have B2 : Hid (Blk w4 w.heap.size cs 28) := BV.out.below (Blk.lt BV.out) hbw; have L2 : Hid (Below w.heap.size w w4) := L0.out.trans (hbw.mono (Nat.le_of_lt (Blk.lt BV.out))); have c6 : w4.cell? ⟨w.heap.size + 1, 6, none⟩ = some (.bool false) := ((BB.out.below BB.out.lt hbw).cell 6).trans (h6.out.trans (by rw [hr])); clear hbw))
  go_ret
  exact ⟨rfl, L2.out⟩
theorem rat_any (cs : Array Value) (f : Nat → Nat) (V : Vid cs f) (b : Bd) (B : b.Wf) (vb : validB b = true) (L : List Nat) (g n C : Nat) (hC : n < C) (a : Nat) (ha : a < 16384) (w : World) (hl : Lst w g n L) :
    Calls Try.prog 38 #[.agg cs, .agg b.cells, .slice (some ⟨g, 0, none⟩) n C, .int .i64 (a : Nat)] w fun e w' => e = .returned (.int .u8 (atF f b L a : Nat)) ∧ Below w.heap.size w w' := by
  by_cases h1 : 16128 ≤ a
  · exact rat_pal cs f V b B vb L g n C hC a ha h1 w hl
  by_cases h2 : 8192 ≤ a
  · exact rat_nt cs f V b B vb L g n C hC a ha (by omega) h2 w hl
  cases hr : b.chrRam
  · by_cases hn : chrP b a < n
    · exact rat_in cs f V b B vb L g n C hC a ha (by omega) hr hn w hl
    · exact rat_out cs f V b B vb L g n C hC a ha (by omega) hr (by omega) w hl
  · exact rat_chr cs f V b B vb L g n C hC a ha (by omega) hr w hl
end Go.Proofs.Ytecaipakaaongaa
namespace Go.Proofs.Ytecaipakaaongaa
open Go.RowKit Classical
set_option maxRecDepth 100000 in
set_option maxHeartbeats 2000000 in
theorem rPeek_bad (cs : Array Value) (f : Nat → Nat) (F : Fok f) (V : Vid cs f) (b : Bd) (B : b.Wf) (hval : valF f b = false) (L : List Nat) (g n C : Nat) (hC : n < C) (a : Nat) (ha : a < 65536) (w : World) (hl : Lst w g n L) :
    Calls Try.prog 16 #[.agg cs, .agg b.cells, .slice (some ⟨g, 0, none⟩) n C, .int .u16 (a : Nat)] w fun e w' => e = .returned (.int .u8 0) ∧ Below w.heap.size w w' := by
  have VA := fun (W : World) => rvalid8_any cs f F V b B W
  rw [hval] at VA
  have VS : Hid (cs.size = 12585) := V.1

  have C := isB b B.rlen
  generalize b.cells = bc at *
  have hbs : Hid (bc.size = 31) := C.size
  have h6 : Hid (bc[6]? = some (.bool b.chrRam)) := C.h6
  clear C
  have IB : Hid ((Try.prog.info? 37).map (·.size) = some 31) := (by kernel_rfl : (Try.prog.info? 37).map (·.size) = some 31)
  have I8 : Hid ((Try.prog.info? 28).map (·.size) = some 12585) := Try.infoVid
  clear h6 hval hl B V F
  go_enter Try.func16, Try.ntmps16
  go_upto_region 1 with fail
  have BV : Hid (Blk ((w.alloc (.cells cs 28)).alloc (.cells bc 37)) w.heap.size cs 28) := (Blk.new w cs _).old _
  have BB : Hid (Blk ((w.alloc (.cells cs 28)).alloc (.cells bc 37)) (w.heap.size + 1) bc 37) := by
    have := Blk.new (w.alloc (.cells cs 28)) bc 37
    rwa [World.size_alloc] at this
  have L0 : Hid (Below w.heap.size w ((w.alloc (.cells cs 28)).alloc (.cells bc 37))) := below_allocs _ _
  generalize ((w.alloc (.cells cs 28)).alloc (.cells bc 37)) = w2 at *
  go_wp2_with (first
    | (refine wpList_load_blk rfl 28 _ rfl w.heap.size rfl cs _ BV.out Try.underlying28 rfl (by rw [VS.out]; exact I8.out) ?_)
    | (refine wpList_load_want (by rfl) 37 _ rfl (w.heap.size + 1) 0 rfl bc.toList _ (Blk.range' BB.out) Try.underlying37 rfl (by rw [Array.length_toList, hbs.out]; exact IB.out) ?_; rw [Array.toArray_toList])
    | (go_at_call 12; refine (VA _).mono ?_; rintro e w3 ⟨rfl, hbw⟩; have L3 : Hid (Below w.heap.size w w3) := L0.out.trans (hbw.mono (Nat.le_of_lt (Blk.lt BV.out))); have BV2 : Hid (Blk w3 w.heap.size cs 28) := BV.out.below BV.out.lt hbw; have BB2 : Hid (Blk w3 (w.heap.size + 1) bc 37) := BB.out.below BB.out.lt hbw; clear hbw VA BV BB L0))
  go_ret
  exact ⟨rfl, L3.out⟩
set_option maxRecDepth 100000 in
set_option maxHeartbeats 2000000 in
theorem rPeek_good (cs : Array Value) (f : Nat → Nat) (F : Fok f) (V : Vid cs f) (b : Bd) (B : b.Wf) (hval : valF f b = true) (L : List Nat) (g n C : Nat) (hC : n < C) (a : Nat) (ha : a < 65536) (w : World) (hl : Lst w g n L) :
    Calls Try.prog 16 #[.agg cs, .agg b.cells, .slice (some ⟨g, 0, none⟩) n C, .int .u16 (a : Nat)] w fun e w' => e = .returned (.int .u8 (atF f b L (a % 16384) : Nat)) ∧ Below w.heap.size w w' := by
  have VA := fun (W : World) => rvalid8_any cs f F V b B W
  rw [hval] at VA
  have VS : Hid (cs.size = 12585) := V.1
  obtain ⟨m7, hm7⟩ : ∃ m7, m7 = a % 16384 := ⟨_, rfl⟩
  have em7 : (a : Int).tmod 16384 = (m7 : Int) := by rw [Int.tmod_eq_emod_of_nonneg (by omega)]; omega
  have m7b : m7 < 16384 := by omega
  rw [← hm7]
  have PA := fun (W : World) (h2 : Hid (Below w.heap.size w W)) => rat_any cs f V b B (valF_facts hval).2.2 L g n C hC m7 m7b W (hl.below h2.out)
  generalize atF f b L m7 = y at *
  clear hm7
  have C := isB b B.rlen
  generalize b.cells = bc at *
  have hbs : Hid (bc.size = 31) := C.size
  have h6 : Hid (bc[6]? = some (.bool b.chrRam)) := C.h6
  clear C
  have IB : Hid ((Try.prog.info? 37).map (·.size) = some 31) := (by kernel_rfl : (Try.prog.info? 37).map (·.size) = some 31)
  have I8 : Hid ((Try.prog.info? 28).map (·.size) = some 12585) := Try.infoVid
  clear h6 hval hl B V F
  go_enter Try.func16, Try.ntmps16
  go_upto_region 1 with fail
  have BV : Hid (Blk ((w.alloc (.cells cs 28)).alloc (.cells bc 37)) w.heap.size cs 28) := (Blk.new w cs _).old _
  have BB : Hid (Blk ((w.alloc (.cells cs 28)).alloc (.cells bc 37)) (w.heap.size + 1) bc 37) := by
    have := Blk.new (w.alloc (.cells cs 28)) bc 37
    rwa [World.size_alloc] at this
  have L0 : Hid (Below w.heap.size w ((w.alloc (.cells cs 28)).alloc (.cells bc 37))) := below_allocs _ _
  generalize ((w.alloc (.cells cs 28)).alloc (.cells bc 37)) = w2 at *
  go_wp2_with (first
    | (refine wpList_load_blk rfl 28 _ rfl w.heap.size rfl cs _ BV.out Try.underlying28 rfl (by rw [VS.out]; exact I8.out) ?_)
    | (refine wpList_load_want (by rfl) 37 _ rfl (w.heap.size + 1) 0 rfl bc.toList _ (Blk.range' BB.out) Try.underlying37 rfl (by rw [Array.length_toList, hbs.out]; exact IB.out) ?_; rw [Array.toArray_toList])
    | (go_at_call 12; refine (VA _).mono ?_; rintro e w3 ⟨rfl, hbw⟩; have L3 : Hid (Below w.heap.size w w3) := L0.out.trans (hbw.mono (Nat.le_of_lt (Blk.lt BV.out))); have BV2 : Hid (Blk w3 w.heap.size cs 28) := BV.out.below BV.out.lt hbw; have BB2 : Hid (Blk w3 (w.heap.size + 1) bc 37) := BB.out.below BB.out.lt hbw; clear hbw VA BV BB L0)
    | (refine wpList_load_blk rfl 28 _ rfl w.heap.size rfl cs _ BV2.out Try.underlying28 rfl (by rw [VS.out]; exact I8.out) ?_)
    | (refine wpList_load_want (by rfl) 37 _ rfl (w.heap.size + 1) 0 rfl bc.toList _ (Blk.range' BB2.out) Try.underlying37 rfl (by rw [Array.length_toList, hbs.out]; exact IB.out) ?_; rw [Array.toArray_toList])
    | (go_at_call 38; refine (PA _ L3).mono ?_; rintro e w4 ⟨rfl, hbw⟩; have L4 : Hid (Below w.heap.size w w4) := L3.out.trans (hbw.mono L3.out.size); clear hbw PA))
  go_ret
  exact ⟨rfl, L4.out⟩
theorem rPeek_any (cs : Array Value) (f : Nat → Nat) (F : Fok f) (V : Vid cs f) (b : Bd) (B : b.Wf) (L : List Nat) (g n C : Nat) (hC : n < C) (a : Nat) (ha : a < 65536) (w : World) (hl : Lst w g n L) :
    Calls Try.prog 16 #[.agg cs, .agg b.cells, .slice (some ⟨g, 0, none⟩) n C, .int .u16 (a : Nat)] w fun e w' => e = .returned (.int .u8 (pkF f b L a : Nat)) ∧ Below w.heap.size w w' := by
  unfold pkF
  cases h : valF f b
  · rw [if_neg (by simp)]
    exact rPeek_bad cs f F V b B h L g n C hC a ha w hl
  · rw [if_pos rfl]
    exact rPeek_good cs f F V b B h L g n C hC a ha w hl
set_option maxRecDepth 100000 in
set_option maxHeartbeats 2000000 in
theorem rPoke_bad (cs : Array Value) (f : Nat → Nat) (F : Fok f) (V : Vid cs f) (b : Bd) (B : b.Wf) (hval : valF f b = false) (a v : Nat) (ha : a < 65536) (hv : v < 256) (w : World) :
    Calls Try.prog 18 #[.agg cs, .agg b.cells, .int .u16 (a : Nat), .int .u8 (v : Nat)] w fun e w' => ∃ cs', e = .returned (.agg cs') ∧ Vid cs' (f) ∧ Below w.heap.size w w' := by
  have VA := fun (W : World) => rvalid8_any cs f F V b B W
  rw [hval] at VA
  have VS : Hid (cs.size = 12585) := V.1
  have HV : Hid (Vid cs f) := V
  have O3 : Hid (cs.all (·.oneCell') = true) := V.one
  have C := isB b B.rlen
  generalize b.cells = bc at *
  have hbs : Hid (bc.size = 31) := C.size
  have h6 : Hid (bc[6]? = some (.bool b.chrRam)) := C.h6
  clear C
  have IB : Hid ((Try.prog.info? 37).map (·.size) = some 31) := (by kernel_rfl : (Try.prog.info? 37).map (·.size) = some 31)
  have I8 : Hid ((Try.prog.info? 28).map (·.size) = some 12585) := Try.infoVid
  clear h6 hval B V F
  go_enter Try.func18, Try.ntmps18
  go_upto_region 1 with fail
  obtain ⟨B0, BB, Z0, L0⟩ := three w cs bc Try.zeroCells28 28 37 28
  generalize (((w.alloc (.cells cs 28)).alloc (.cells bc 37)).alloc (.cells Try.zeroCells28 28)) = W at *
  go_wp2_with (first
    | (refine wpList_load_blk rfl 28 _ rfl w.heap.size rfl cs _ B0.out Try.underlying28 rfl (by rw [VS.out]; exact I8.out) ?_)
    | (refine wpList_load_want (by rfl) 37 _ rfl (w.heap.size + 1) 0 rfl bc.toList _ (Blk.range' BB.out) Try.underlying37 rfl (by rw [Array.length_toList, hbs.out]; exact IB.out) ?_; rw [Array.toArray_toList])
    | (go_at_call 12; refine (VA _).mono ?_; rintro e w3 ⟨rfl, hbw⟩; have L2 : Hid (Below w.heap.size w w3) := L0.out.trans (hbw.mono (Nat.le_of_lt (Blk.lt B0.out))); have B2 : Hid (Blk w3 w.heap.size cs 28) := B0.out.below (Blk.lt B0.out) hbw; have BB2 : Hid (Blk w3 (w.heap.size + 1) bc 37) := BB.out.below BB.out.lt hbw; have Z2 : Hid (Blk w3 (w.heap.size + 1 + 1) Try.zeroCells28 28) := Z0.out.below (Blk.lt Z0.out) hbw; clear hbw B0 BB Z0 L0 VA)
    | (refine wpList_load_blk rfl 28 _ rfl w.heap.size rfl cs _ B2.out Try.underlying28 rfl (by rw [VS.out]; exact I8.out) ?_)
    | (refine wpList_store_blk rfl 28 _ _ rfl (w.heap.size + 1 + 1) Try.zeroCells28 cs 28 rfl rfl Z2.out (VS.out.trans Try.zeroCells28_size.symm) (by rw [VS.out]; exact I8.out) O3.out w.heap.size w (by omega) L2.out ?_; intro w9 B9 L9 _))
  exact ret_vid Try.results18 rfl rfl B9 Try.underlying28 rfl (by rw [VS.out]; exact I8.out) ⟨cs, rfl, HV.out, L9⟩
set_option maxRecDepth 100000 in
set_option maxHeartbeats 2000000 in
theorem rPoke_good (cs : Array Value) (f : Nat → Nat) (F : Fok f) (V : Vid cs f) (b : Bd) (B : b.Wf) (hval : valF f b = true) (a v : Nat) (ha : a < 65536) (hv : v < 256) (w : World) :
    Calls Try.prog 18 #[.agg cs, .agg b.cells, .int .u16 (a : Nat), .int .u8 (v : Nat)] w fun e w' => ∃ cs', e = .returned (.agg cs') ∧ Vid cs' (pokF f b a v) ∧ Below w.heap.size w w' := by
  have VA := fun (W : World) => rvalid8_any cs f F V b B W
  rw [hval] at VA
  have VS : Hid (cs.size = 12585) := V.1
  have HV : Hid (Vid cs f) := V
  obtain ⟨m7, hm7⟩ : ∃ m7, m7 = a % 16384 := ⟨_, rfl⟩
  have em7 : (a : Int).tmod 16384 = (m7 : Int) := by rw [Int.tmod_eq_emod_of_nonneg (by omega)]; omega
  have m7b : m7 < 16384 := by omega
  have PA : ∀ W : World, Calls Try.prog 36 #[.agg cs, .agg b.cells, .int .i64 (m7 : Nat), .int .u8 (v : Nat)] W fun e w' => ∃ cs', e = .returned (.agg cs') ∧ Vid cs' (pokF f b a v) ∧ Below W.heap.size W w' := fun W => by
    have h := rput_any cs f V b B (valF_facts hval).2.2 m7 m7b v hv W
    rwa [hm7, pokF_mod, ← hm7] at h
  clear hm7
  have C := isB b B.rlen
  generalize b.cells = bc at *
  have hbs : Hid (bc.size = 31) := C.size
  have h6 : Hid (bc[6]? = some (.bool b.chrRam)) := C.h6
  clear C
  have IB : Hid ((Try.prog.info? 37).map (·.size) = some 31) := (by kernel_rfl : (Try.prog.info? 37).map (·.size) = some 31)
  have I8 : Hid ((Try.prog.info? 28).map (·.size) = some 12585) := Try.infoVid
  clear h6 hval B V F
  go_enter Try.func18, Try.ntmps18
  go_upto_region 1 with fail
  obtain ⟨B0, BB, Z0, L0⟩ := three w cs bc Try.zeroCells28 28 37 28
  generalize (((w.alloc (.cells cs 28)).alloc (.cells bc 37)).alloc (.cells Try.zeroCells28 28)) = W at *
  go_wp2_with (first
    | (refine wpList_load_blk rfl 28 _ rfl w.heap.size rfl cs _ B0.out Try.underlying28 rfl (by rw [VS.out]; exact I8.out) ?_)
    | (refine wpList_load_want (by rfl) 37 _ rfl (w.heap.size + 1) 0 rfl bc.toList _ (Blk.range' BB.out) Try.underlying37 rfl (by rw [Array.length_toList, hbs.out]; exact IB.out) ?_; rw [Array.toArray_toList])
    | (go_at_call 12; refine (VA _).mono ?_; rintro e w3 ⟨rfl, hbw⟩; have L2 : Hid (Below w.heap.size w w3) := L0.out.trans (hbw.mono (Nat.le_of_lt (Blk.lt B0.out))); have B2 : Hid (Blk w3 w.heap.size cs 28) := B0.out.below (Blk.lt B0.out) hbw; have BB2 : Hid (Blk w3 (w.heap.size + 1) bc 37) := BB.out.below BB.out.lt hbw; have Z2 : Hid (Blk w3 (w.heap.size + 1 + 1) Try.zeroCells28 28) := Z0.out.below (Blk.lt Z0.out) hbw; clear hbw B0 BB Z0 L0 VA)
    | (refine wpList_load_blk rfl 28 _ rfl w.heap.size rfl cs _ B2.out Try.underlying28 rfl (by rw [VS.out]; exact I8.out) ?_)
    | (refine wpList_load_want (by rfl) 37 _ rfl (w.heap.size + 1) 0 rfl bc.toList _ (Blk.range' BB2.out) Try.underlying37 rfl (by rw [Array.length_toList, hbs.out]; exact IB.out) ?_; rw [Array.toArray_toList])
    | (go_at_call 36; refine (PA _).mono ?_; rintro e w5 ⟨cs3, rfl, v5, hbw⟩; have V3 : Hid (Vid cs3 (pokF f b a v)) := v5; have Z3 : Hid (Blk w5 (w.heap.size + 1 + 1) Try.zeroCells28 28) := Z2.out.below (Blk.lt Z2.out) hbw; have L3 : Hid (Below w.heap.size w w5) := L2.out.trans (hbw.mono L2.out.size); have VS3 : Hid (cs3.size = 12585) := v5.1; have O3 : Hid (cs3.all (·.oneCell') = true) := v5.one; clear v5 hbw PA)
    | (refine wpList_store_blk rfl 28 _ _ rfl (w.heap.size + 1 + 1) Try.zeroCells28 cs3 28 rfl rfl Z3.out (VS3.out.trans Try.zeroCells28_size.symm) (by rw [VS3.out]; exact I8.out) O3.out w.heap.size w (by omega) L3.out ?_; intro w9 B9 L9 _))
  exact ret_vid Try.results18 rfl rfl B9 Try.underlying28 rfl (by rw [VS3.out]; exact I8.out) ⟨cs3, rfl, V3.out, L9⟩
theorem rPoke_any (cs : Array Value) (f : Nat → Nat) (F : Fok f) (V : Vid cs f) (b : Bd) (B : b.Wf) (a v : Nat) (ha : a < 65536) (hv : v < 256) (w : World) :
    Calls Try.prog 18 #[.agg cs, .agg b.cells, .int .u16 (a : Nat), .int .u8 (v : Nat)] w fun e w' => ∃ cs', e = .returned (.agg cs') ∧ Vid cs' (pokV f b a v) ∧ Below w.heap.size w w' := by
  unfold pokV
  cases h : valF f b
  · rw [if_neg (by simp)]
    exact rPoke_bad cs f F V b B h a v ha hv w
  · rw [if_pos rfl]
    exact rPoke_good cs f F V b B h a v ha hv w
end Go.Proofs.Ytecaipakaaongaa
