/-
  What the document's Fill answers of every video memory; conditions: the list's bytes lie in memory.
-/
import Derived.Test.YtokbnffofaeipaaXvSpr
import Derived.Test.YtokbnffofaeipaaXvOwn
import Derived.StillTailTactics
set_option linter.unusedSimpArgs false
set_option linter.unusedVariables false
namespace Go.Proofs.Ytokbnffofaeipaa
open Go.RowKit Classical
theorem fil_ok {f : Nat → Nat} (F : Fok f) (l : List Nat) (n : Nat) (hl : ∀ k, k < n → l.getD k 0 < 256) : ∀ k, k ≤ n → Fok (fil f l k)
  | 0, _ => F
  | k + 1, hk => by
    have G := (fil_ok F l n hl k (by omega)).updIo (l.getD k 0) (hl k (by omega))
    have h := G.b 256 (by decide)
    exact (G.set _ _ (by omega) (msk_lt _ (hl k (by omega)))).set 256 _ (by decide) (by omega)
set_option maxRecDepth 100000 in
set_option maxHeartbeats 2000000 in
theorem rfill_any (cs : Array Value) (f : Nat → Nat) (F : Fok f) (V : Vid cs f) (w : World)
    (l : List Nat) (n cap : Nat) (a : Option Addr) (hlen : n ≤ 140737488351232) (hl : ∀ k, k < n → l.getD k 0 < 256)
    (hc : n = 0 ∨ ∃ g off, a = some ⟨g, off, none⟩ ∧ g < w.heap.size ∧ ∀ k, k < n → w.cell? ⟨g, off + k, none⟩ = some (.int .u8 (l.getD k 0 : Nat))) :
    Calls Try.prog 9 #[.agg cs, .slice a n cap] w fun e w' => ∃ cs', e = .returned (.agg cs') ∧ Vid cs' (filF f l n) ∧ Below w.heap.size w w' := by
  have HC : Hid _ := hc
  have OA := fun (W : World) => own_any cs f F V W
  go_enter Try.func9, Try.ntmps9
  go_upto_region 1 with fail
  have B0 : Hid (Blk ((w.alloc (.cells cs 28)).alloc (.cells Try.zeroCells28 28)) w.heap.size cs 28) := (Blk.new w cs _).old _
  have Z0 : Hid (Blk ((w.alloc (.cells cs 28)).alloc (.cells Try.zeroCells28 28)) (w.heap.size + 1) Try.zeroCells28 28) := by
    have := Blk.new (w.alloc (.cells cs 28)) Try.zeroCells28 28
    rwa [World.size_alloc] at this
  have L0 : Hid (Below w.heap.size w ((w.alloc (.cells cs 28)).alloc (.cells Try.zeroCells28 28))) := below_allocs _ _
  generalize ((w.alloc (.cells cs 28)).alloc (.cells Try.zeroCells28 28)) = W at *
  have I8 : Hid ((Try.prog.info? 28).map (·.size) = some 12585) := Try.infoVid
  have w1lt : w.heap.size < w.heap.size + 1 := by omega
  have VS : Hid (cs.size = 12585) := V.1
  have O0 : Hid (cs.all (·.oneCell') = true) := V.one
  have HV : Hid (Vid cs f) := V
  cases hf : fitF f
  · have HE0 : Hid (filF f l n = f) := by unfold Hid filF; rw [hf]; rfl
    rw [hf] at OA
    clear hc
    go_upto_region 2 with (first
      | (refine wpList_load_blk rfl 28 _ rfl w.heap.size rfl cs _ B0.out Try.underlying28 rfl (by rw [VS.out]; exact I8.out) ?_)
      | (go_at_call 23; refine (OA _).mono ?_; rintro e w1 ⟨rfl, hbw⟩; have B1 : Hid (Blk w1 w.heap.size cs 28) := B0.out.below B0.out.lt hbw; have Z1 : Hid (Blk w1 (w.heap.size + 1) Try.zeroCells28 28) := Z0.out.below Z0.out.lt hbw; have L1 : Hid (Below w.heap.size w w1) := L0.out.trans (hbw.mono (Nat.le_of_lt B0.out.lt)); clear hbw OA))
    go_wp2_with (first
      | (refine wpList_load_blk rfl 28 _ rfl w.heap.size rfl cs _ B1.out Try.underlying28 rfl (by rw [VS.out]; exact I8.out) ?_)
      | (refine wpList_store_blk rfl 28 _ _ rfl (w.heap.size + 1) Try.zeroCells28 cs 28 rfl rfl Z1.out (VS.out.trans Try.zeroCells28_size.symm) (by rw [VS.out]; exact I8.out) O0.out w.heap.size w (by omega) L1.out ?_; intro w4 B4 L4 _))
    exact ret_vid Try.results9 rfl rfl B4 Try.underlying28 rfl (by rw [VS.out]; exact I8.out) ⟨cs, rfl, (by rw [HE0.out]; exact HV.out), L4⟩
  · have HE0 : Hid (filF f l n = fil f l n) := by unfold Hid filF; rw [hf]; rfl
    rw [hf] at OA
    clear hc
    go_upto_region 3 with (first
      | (refine wpList_load_blk rfl 28 _ rfl w.heap.size rfl cs _ B0.out Try.underlying28 rfl (by rw [VS.out]; exact I8.out) ?_)
      | (go_at_call 23; refine (OA _).mono ?_; rintro e w1 ⟨rfl, hbw⟩; have B1 : Hid (Blk w1 w.heap.size cs 28) := B0.out.below B0.out.lt hbw; have Z1 : Hid (Blk w1 (w.heap.size + 1) Try.zeroCells28 28) := Z0.out.below Z0.out.lt hbw; have L1 : Hid (Below w.heap.size w w1) := L0.out.trans (hbw.mono (Nat.le_of_lt B0.out.lt)); clear hbw OA))
    have V1 : Hid (Vid cs (fil f l 0)) := V
    have HFO := fun k hk => fil_ok F l n hl k hk
    clear V F O0 VS HV hf
    go_wp2
    go_loopw [5] (fun i wr => ∃ k : Nat, k ≤ n ∧ i = .int .i64 k ∧ ∃ cs', Hid (Blk wr w.heap.size cs' 28) ∧ Hid (Vid cs' (fil f l k)) ∧ Hid (Blk wr (w.heap.size + 1) Try.zeroCells28 28) ∧ Hid (Below w.heap.size w wr)) (fun i _ => n - (intOf i).toNat)
    case atStart => exact ⟨0, by omega, rfl, cs, B1, V1, Z1, L1⟩
    case round =>
      obtain ⟨k, hk, rfl, cs2, B2, V2, Z2, L2⟩ := hrel
      clear B1 V1 Z1 L1 B0 Z0 L0
      have VS : Hid (cs2.size = 12585) := V2.out.1
      by_cases hlt : k < n
      · have G : Hid (Fok (fil f l k)) := HFO k hk
        obtain ⟨x, hx⟩ : ∃ x, x = l.getD k 0 := ⟨_, rfl⟩
        have HX : Hid (x = l.getD k 0) := hx
        have hxb : x < 256 := by rw [hx]; exact hl k hlt
        rcases HC.out with h0 | ⟨g, off, rfl, hg, hc⟩
        · omega
        have hc1 : Hid (∀ w1, Below w.heap.size w w1 → w1.cell? ⟨g, off + k, none⟩ = some (.int .u8 (x : Nat))) := fun w1 h1 => by rw [hx]; exact (h1.cell (p := ⟨g, off + k, none⟩) hg).trans (hc k hlt)
        have kn : (k : Int) < (n : Int) := by omega
        clear hc hx HC hl HFO
        have c := hc1.out wr L2.out
        obtain ⟨y, c2⟩ : ∃ y : Nat, wr.cell? ⟨w.heap.size, 12584, none⟩ = some (.int .u8 y) := ⟨_, (Blk.cell B2.out _).trans (V2.out.2 12584 (by decide))⟩
        have fr := Blk.free B2.out 12584
        go_upto_region 7 with fail
        have B3 : Hid (Blk (wr.setCell ⟨w.heap.size, 12584, none⟩ (.int .u8 (x : Nat))) w.heap.size (cs2.setIfInBounds 12584 (.int .u8 (x : Nat))) 28) := B2.out.set 12584 _
        have Z3 : Hid (Blk (wr.setCell ⟨w.heap.size, 12584, none⟩ (.int .u8 (x : Nat))) (w.heap.size + 1) Try.zeroCells28 28) := Blk.other Z2.out (by omega) 12584 _
        have L3 : Hid (Below w.heap.size w (wr.setCell ⟨w.heap.size, 12584, none⟩ (.int .u8 (x : Nat)))) := L2.out.setCell (p := ⟨w.heap.size, 12584, none⟩) (Nat.le_refl _) _
        have V3 : Hid (Vid (cs2.setIfInBounds 12584 (.int .u8 (x : Nat))) (upd (fil f l k) 12584 x)) := V2.out.set 12584 x _ rfl
        clear c c2 fr B2 Z2 L2 V2 VS
        generalize (wr.setCell ⟨w.heap.size, 12584, none⟩ (.int .u8 (x : Nat))) = w3 at *
        generalize (cs2.setIfInBounds 12584 (.int .u8 (x : Nat))) = cs3 at *
        have SA := fun (W : World) => sprite_any cs3 (upd (fil f l k) 12584 x) (G.out.updIo x hxb) V3.out x hxb W
        have c := hc1.out w3.drew L3.out.drew
        have B3d : Hid (Blk w3.drew w.heap.size cs3 28) := B3.out
        have VS : Hid (cs3.size = 12585) := V3.out.1
        have R3 : Hid (w3.drew.rangeAt w.heap.size 0 cs3.toList) := Blk.range' B3d.out
        refine wp_region_still_tail 5 (by kernel_rfl) (by kernel_rfl) ?_
        simp only [List.take_succ_cons, List.take_zero, List.drop_succ_cons, List.drop_zero]
        refine stillT (yieldsIf_load_mid (by kernel_rfl) 28 _ rfl w.heap.size 0 rfl cs3.toList _ (fun w' hw' => by rw [hw']; exact R3.out) Try.underlying28 rfl (by rw [Array.length_toList, VS.out]; exact I8.out)) _ rfl ?_
        rw [Array.toArray_toList]
        repeat still_step
        refine wpStill_nil ?_
        clear c R3
        go_wp2_with (first
          | (go_at_call 24; refine (SA _).mono ?_; rintro e w4 ⟨cs4, rfl, v4, hb4⟩; have B4 : Hid (Blk w4 w.heap.size cs3 28) := Blk.below B3d.out (Blk.lt B3d.out) hb4; have Z4 : Hid (Blk w4 (w.heap.size + 1) Try.zeroCells28 28) := Blk.below (w := w3.drew) Z3.out (Blk.lt Z3.out) hb4; have L4 : Hid (Below w.heap.size w w4) := (L3.out.drew).trans (hb4.mono (Nat.le_of_lt (Blk.lt B3.out))); have V4 : Hid (Vid cs4 (spr (upd (fil f l k) 12584 x) x)) := v4; have S4 : Hid (cs4.size = cs3.size) := v4.1.trans VS.out.symm; have S5 : Hid (cs4.size = 12585) := v4.1; have O4 : Hid (cs4.all (·.oneCell') = true) := v4.one; clear hb4 v4 B3 Z3 L3 B3d)
          | (refine wpList_store_blk rfl 28 _ _ rfl w.heap.size cs3 cs4 28 rfl rfl B4.out S4.out (by rw [S5.out]; exact I8.out) O4.out w.heap.size w (Nat.le_refl _) L4.out ?_; intro w5 b5 l5 kb; have B5 : Hid (Blk w5 w.heap.size cs4 28) := b5; have L5 : Hid (Below w.heap.size w w5) := l5; have Z5 : Hid (Blk w5 (w.heap.size + 1) Try.zeroCells28 28) := kb _ _ _ (by omega) Z4.out; clear b5 l5 kb B4 Z4 L4))
        go_roundw
        case rel =>
          refine ⟨k + 1, by omega, by go_num, cs4, B5, ?_, Z5, L5⟩
          have e : fil f l (k + 1) = spr (upd (fil f l k) 12584 x) x := by
            show spi (fil f l k) (l.getD k 0) = _
            rw [← HX.out]
            rfl
          rw [e]
          exact V4
        case measure => simp [intOf]; omega
      · have hkn : k = n := by omega
        have O2 : Hid (cs2.all (·.oneCell') = true) := V2.out.one
        have HV2 : Hid (Vid cs2 (filF f l n)) := by
          have := V2.out
          rw [hkn] at this
          rw [HE0.out]
          exact this
        clear HFO hl HC V2
        subst hkn
        go_wp2_with (first
          | (refine wpList_load_blk rfl 28 _ rfl w.heap.size rfl cs2 _ B2.out Try.underlying28 rfl (by rw [VS.out]; exact I8.out) ?_)
          | (refine wpList_store_blk rfl 28 _ _ rfl (w.heap.size + 1) Try.zeroCells28 cs2 28 rfl rfl Z2.out (VS.out.trans Try.zeroCells28_size.symm) (by rw [VS.out]; exact I8.out) O2.out w.heap.size w (by omega) L2.out ?_; intro w4 B4 L4 _))
        exact ret_vid Try.results9 rfl rfl B4 Try.underlying28 rfl (by rw [VS.out]; exact I8.out) ⟨cs2, rfl, HV2.out, L4⟩
end Go.Proofs.Ytokbnffofaeipaa
