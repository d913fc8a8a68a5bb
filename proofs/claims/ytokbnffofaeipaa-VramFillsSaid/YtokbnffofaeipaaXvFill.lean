/-
  What Fill answers of every video memory; conditions: the list's bytes lie in memory, with room behind them.
-/
import Derived.Test.YtokbnffofaeipaaXvFillO
set_option linter.unusedSimpArgs false
set_option linter.unusedVariables false
namespace Go.Proofs.Ytokbnffofaeipaa
open Go.RowKit Classical
theorem Try.infoVid : (Try.prog.info? 28).map (·.size) = some 12585 := by kernel_rfl
def filF (f : Nat → Nat) (l : List Nat) (n : Nat) : Nat → Nat := if fitF f = true then fil f l n else f
theorem below_allocs {w : World} (a b : Obj) : Below w.heap.size w ((w.alloc a).alloc b) := ((Below.refl _ _).alloc (Nat.le_refl _) _).alloc (by simp) _
theorem results_cellV {fn : Func} {p : Tmp} {ty : TypeId} (h : fn.results = #[.cell p ty]) (tmps : Array Value) (P : Program) (w : World) :
    (results fn tmps).run P w = ((asAddr (tmps.getD p undef)).run P w).andThen fun a w₁ => (loadVar ty a).run P w₁ := by
  simp only [results, h]
  simp [Sem.run_bind, Result.andThen]
theorem ret_vid {P : Program} {fn : Func} {R : Ending → World → Prop} {ac : Act} {w : World} {p : Tmp} {ty : TypeId} {m : Nat} {L : Array Value} {d : TypeDesc} {t : TypeId} (h : fn.results = #[.cell p ty]) (hp : ac.tmps.getD p undef = .pointer (some ⟨m, 0, none⟩)) (hdf : ac.defers = [])
    (hb : Blk w m L t) (hu : P.underlying ty = some d) (hd : d.isRow = true) (hi : (P.info? ty).map (·.size) = some L.size) (hR : R (.returned (.agg L)) w) : bodyPost P fn R .ret ac w := by
  refine bodyPost_ret (v := .agg L) ?_ hdf hR
  rw [results_cellV h]
  rw [hp]
  have hr := run_loadVar_mid (P := P) w m 0 ty L.toList d hb.range' hu hd (by rw [Array.length_toList]; exact hi)
  simp only [asAddr, Sem.run_pure, Result.andThen_ok]
  rw [hr]
set_option maxRecDepth 100000 in
set_option maxHeartbeats 2000000 in
theorem fill_any (cs : Array Value) (f : Nat → Nat) (F : Fok f) (V : Vid cs f) (w : World)
    (l : List Nat) (n g off cap : Nat) (hn : n < cap) (hlen : n ≤ 140737488351232) (hl : ∀ k, k < n → l.getD k 0 < 256) (hg : g < w.heap.size) (hc : ∀ k, k < n → w.cell? ⟨g, off + k, none⟩ = some (.int .u8 (l.getD k 0 : Nat))) :
    Calls Try.prog 8 #[.agg cs, .slice (some ⟨g, off, none⟩) n cap] w fun e w' => ∃ cs', e = .returned (.agg cs') ∧ Vid cs' (filF f l n) ∧ Below w.heap.size w w' := by
  have HC : Hid (∀ w1, Below w.heap.size w w1 → ∀ k, k < n → w1.cell? ⟨g, off + k, none⟩ = some (.int .u8 (l.getD k 0 : Nat))) := fun w1 h1 k hk => (h1.cell (p := ⟨g, off + k, none⟩) hg).trans (hc k hk)
  have FA := fun (W : World) (b : Nat) (hB : Hid (Blk W b cs 28)) => vfits_any cs f F V b W hB.out
  go_enter Try.func8, Try.ntmps8
  go_upto_region 1 with fail
  have B0 : Hid (Blk ((w.alloc (.cells cs 28)).alloc (.cells Try.zeroCells28 28)) w.heap.size cs 28) := (Blk.new w cs _).old _
  have Z0 : Hid (Blk ((w.alloc (.cells cs 28)).alloc (.cells Try.zeroCells28 28)) (w.heap.size + 1) Try.zeroCells28 28) := by
    have := Blk.new (w.alloc (.cells cs 28)) Try.zeroCells28 28
    rwa [World.size_alloc] at this
  have L0 : Hid (Below w.heap.size w ((w.alloc (.cells cs 28)).alloc (.cells Try.zeroCells28 28))) := below_allocs _ _
  generalize ((w.alloc (.cells cs 28)).alloc (.cells Try.zeroCells28 28)) = W at *
  have I8 : Hid ((Try.prog.info? 28).map (·.size) = some 12585) := Try.infoVid
  have HV : Hid (Vid cs f) := V
  have V1 : Hid (cs.size = 12585) := V.1
  have O1 : Hid (cs.all (·.oneCell') = true) := V.one
  have w1lt : w.heap.size < w.heap.size + 1 := by omega
  by_cases h0 : n = 0
  · subst h0
    have HE0 : Hid (filF f l 0 = f) := by unfold Hid filF; split <;> rfl
    clear HC FA
    go_wp2_with (first
      | (refine wpList_load_blk rfl 28 _ rfl w.heap.size rfl cs _ B0.out Try.underlying28 rfl (by rw [V1.out]; exact I8.out) ?_)
        | (refine wpList_store_blk rfl 28 _ _ rfl (w.heap.size + 1) Try.zeroCells28 cs 28 rfl rfl Z0.out (V1.out.trans Try.zeroCells28_size.symm) (by rw [V1.out]; exact I8.out) O1.out w.heap.size w (by omega) L0.out ?_; intro w3 B3 L3 _))
    exact ret_vid Try.results8 rfl rfl B3 Try.underlying28 rfl (by rw [V1.out]; exact I8.out) ⟨cs, rfl, by rw [HE0.out]; exact HV.out, L3⟩
  have n0 : (0 : Int) < (n : Int) := by omega
  have n00 : 0 < n := by omega
  cases hf : fitF f
  · have HE0 : Hid (filF f l n = f) := by unfold Hid filF; rw [hf]; rfl
    rw [hf] at FA
    clear HC
    go_wp2_with (first
      | (go_at_call 21; refine (FA _ _ B0).mono ?_; rintro e w1 ⟨rfl, rfl⟩)
      | (refine wpList_load_blk rfl 28 _ rfl w.heap.size rfl cs _ B0.out Try.underlying28 rfl (by rw [V1.out]; exact I8.out) ?_)
        | (refine wpList_store_blk rfl 28 _ _ rfl (w.heap.size + 1) Try.zeroCells28 cs 28 rfl rfl Z0.out (V1.out.trans Try.zeroCells28_size.symm) (by rw [V1.out]; exact I8.out) O1.out w.heap.size w (by omega) L0.out ?_; intro w3 B3 L3 _))
    exact ret_vid Try.results8 rfl rfl B3 Try.underlying28 rfl (by rw [V1.out]; exact I8.out) ⟨cs, rfl, by rw [HE0.out]; exact HV.out, L3⟩
  · have HE0 : Hid (filF f l n = fil f l n) := by unfold Hid filF; rw [hf]; rfl
    rw [hf] at FA
    have ho : oamF f = true := by
      unfold fitF at hf
      simp only [Bool.and_eq_true] at hf
      exact hf.2.2.2.1
    have OA := fun (W1 : World) (hB : Hid (Blk W1 w.heap.size cs 28)) (hL : Hid (Below w.heap.size w W1)) => fillOam_any cs f F V ho w.heap.size W1 hB.out l n g off cap hn hlen (by omega) hl (HC.out W1 hL.out)
    obtain ⟨q, hq⟩ : ∃ q, q = n - 1 := ⟨_, rfl⟩
    have HQ : Hid (q = n - 1) := hq
    obtain ⟨la, hla⟩ : ∃ la, la = l.getD (n - 1) 0 := ⟨_, rfl⟩
    have HLA : Hid (la = l.getD (n - 1) 0) := hla
    have hlb : la < 256 := by rw [hla]; exact hl _ (by omega)
    have C1 : Hid (∀ w1, Below w.heap.size w w1 → w1.cell? ⟨g, off + q, none⟩ = some (.int .u8 (la : Nat))) := fun w1 h1 => by rw [hla, hq]; exact HC.out w1 h1 (n - 1) (by omega)
    have nn : ((n : Int) - 1) = (q : Int) := by omega
    have qn : (q : Int) < (n : Int) := by omega
    have HF : Hid (f 256 < 256) := F.b _ (by decide)
    clear hla HC hf hq
    go_upto_region 3 with (first
      | (go_at_call 21; refine (FA _ _ B0).mono ?_; rintro e w1 ⟨rfl, rfl⟩)
      | (go_at_call 22; refine (OA _ B0 L0).mono ?_; rintro e w2 ⟨rfl, O1, cs2, b2, v2⟩; have c1 := C1.out w2 (L0.out.trans (O1.below (Nat.le_refl _))); obtain ⟨y, c2⟩ : ∃ y : Nat, w2.cell? ⟨w.heap.size, 12584, none⟩ = some (.int .u8 y) := ⟨_, (b2.cell _).trans (v2.2 12584 (by decide))⟩; have fr := b2.free 12584; have L2 : Hid (Below w.heap.size w w2) := L0.out.trans (O1.below (Nat.le_refl _)); have B2 : Hid (Blk w2 w.heap.size cs2 28) := b2; have V2 : Hid (Vid cs2 (all2 f l n)) := v2; have Z2 : Hid (Blk w2 (w.heap.size + 1) Try.zeroCells28 28) := O1.blk Z0.out (by omega); clear b2 v2 O1 OA FA C1))
    clear hc hl F hn h0
    go_upto_region 4 with fail
    have Z3 : Hid (Blk (w2.setCell ⟨w.heap.size, 12584, none⟩ (.int .u8 (la : Nat))) (w.heap.size + 1) Try.zeroCells28 28) := Z2.out.other (by omega) 12584 _
    have B3 : Hid (Blk (w2.setCell ⟨w.heap.size, 12584, none⟩ (.int .u8 (la : Nat))) w.heap.size (cs2.setIfInBounds 12584 (.int .u8 (la : Nat))) 28) := B2.out.set 12584 _
    have L3 : Hid (Below w.heap.size w (w2.setCell ⟨w.heap.size, 12584, none⟩ (.int .u8 (la : Nat)))) := L2.out.setCell (p := ⟨w.heap.size, 12584, none⟩) (Nat.le_refl _) _
    have V3 : Vid (cs2.setIfInBounds 12584 (.int .u8 (la : Nat))) (upd (all2 f l n) 12584 la) := V2.out.set 12584 la _ rfl
    generalize (w2.setCell ⟨w.heap.size, 12584, none⟩ (.int .u8 (la : Nat))) = w3 at *
    generalize (cs2.setIfInBounds 12584 (.int .u8 (la : Nat))) = cs3 at *
    have VS : Hid (cs3.size = 12585) := V3.1
    have O3 : Hid (cs3.all (·.oneCell') = true) := V3.one
    have HV3 : Hid (Vid cs3 (filF f l n)) := by
      rw [HE0.out]
      have f256 : f 256 < 256 := HF.out
      refine ⟨V3.1, fun i hi => ?_⟩
      rw [V3.2 i hi]
      by_cases hi2 : i = 12584
      · subst hi2
        rw [upd_same, fil_io f l f256 n, if_neg (by omega), ← HLA.out]
      · rw [upd_ne _ _ hi2, all2_fil f l n f256 (fun k hk => oamF_at ho k hk) i hi2]
    clear V3
    go_wp2_with (first
        | (refine wpList_load_blk rfl 28 _ rfl w.heap.size rfl cs3 _ B3.out Try.underlying28 rfl (by rw [VS.out]; exact I8.out) ?_)
        | (refine wpList_store_blk rfl 28 _ _ rfl (w.heap.size + 1) Try.zeroCells28 cs3 28 rfl rfl Z3.out (VS.out.trans Try.zeroCells28_size.symm) (by rw [VS.out]; exact I8.out) O3.out w.heap.size w (by omega) L3.out ?_; intro w4 B4 L4 _))
    exact ret_vid Try.results8 rfl rfl B4 Try.underlying28 rfl (by rw [VS.out]; exact I8.out) ⟨cs3, rfl, HV3.out, L4⟩
end Go.Proofs.Ytokbnffofaeipaa
