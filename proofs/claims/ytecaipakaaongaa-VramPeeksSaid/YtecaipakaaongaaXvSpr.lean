/-
  What the document's sprite answers of every video memory.
-/
import Derived.Test.YtecaipakaaongaaXVF
set_option linter.unusedSimpArgs false
set_option linter.unusedVariables false
namespace Go.Proofs.Ytecaipakaaongaa
open Go.RowKit Classical
theorem stillT {P : Program} {ops : Array Oper} {w : World} {Q : Act → Prop} {a : Act} {o : Oper} {rest : List Oper} {v : Value} (hy : YieldsIf P ops (fun x => x = w) o v a) (a' : Act) (ha : a.put o.dst v = a') (h : wpStill P ops w Q rest a') : wpStill P ops w Q (o :: rest) a := by
  subst ha
  unfold wpStill
  rcases hy with ⟨hw, he⟩ | ⟨hw, rfl⟩
  · simp only [hw, if_true]
    unfold Oper.still
    rw [he w rfl, Oper.stillUpon_value]
    exact h
  · simp only [hw]
    exact h
set_option maxRecDepth 100000 in
set_option maxHeartbeats 2000000 in
theorem sprite_any (cs : Array Value) (f : Nat → Nat) (F : Fok f) (V : Vid cs f) (x : Nat) (hx : x < 256) (w : World) :
    Calls Try.prog 24 #[.agg cs, .int .u8 x] w fun e w' => ∃ cs', e = .returned (.agg cs') ∧ Vid cs' (spr f x) ∧ Below w.heap.size w w' := by
  obtain ⟨o, eo⟩ : ∃ o, o = f 256 := ⟨_, rfl⟩
  have o256 : o < 256 := by rw [eo]; exact F.b _ (by decide)
  obtain ⟨m, hm⟩ : ∃ m, m = msk o x := ⟨_, rfl⟩
  have HM : Hid (m = msk o x) := hm
  have m256 : m < 256 := by rw [hm]; exact msk_lt _ hx
  obtain ⟨o1, ho1⟩ : ∃ o1, o1 = (o + 1) % 256 := ⟨_, rfl⟩
  have HO1 : Hid (o1 = (o + 1) % 256) := ho1
  have HEO : Hid (o = f 256) := eo
  have e1 : ((o : Int) + 1) % 256 = (o1 : Int) := by omega
  have h4 : ((o : Int)).tmod 4 = ((o % 4 : Nat) : Int) := by rw [Int.tmod_eq_emod_of_nonneg (by omega)]; rfl
  obtain ⟨q, hq⟩ : ∃ q, q = o % 4 := ⟨_, rfl⟩
  rw [← hq] at h4
  have HQ : Hid (q = o % 4) := hq
  have ha := and227 x hx
  obtain ⟨xm, hxm⟩ : ∃ xm, xm = mk8 x := ⟨_, rfl⟩
  rw [← hxm] at ha
  have HXM : Hid (xm = mk8 x) := hxm
  clear hq hxm
  go_enter Try.func24, Try.ntmps24
  go_upto_region 1 with fail
  have B0 : Hid (Blk ((w.alloc (.cells cs 28)).alloc (.cells Try.zeroCells28 28)) w.heap.size cs 28) := (Blk.new w cs _).old _
  have Z0 : Hid (Blk ((w.alloc (.cells cs 28)).alloc (.cells Try.zeroCells28 28)) (w.heap.size + 1) Try.zeroCells28 28) := by
    have := Blk.new (w.alloc (.cells cs 28)) Try.zeroCells28 28
    rwa [World.size_alloc] at this
  have L0 : Hid (Below w.heap.size w ((w.alloc (.cells cs 28)).alloc (.cells Try.zeroCells28 28))) := below_allocs _ _
  generalize ((w.alloc (.cells cs 28)).alloc (.cells Try.zeroCells28 28)) = W at *
  have I8 : Hid ((Try.prog.info? 28).map (·.size) = some 12585) := Try.infoVid
  have w1lt : w.heap.size < w.heap.size + 1 := by omega
  have c0 : W.cell? ⟨w.heap.size, 256, none⟩ = some (.int .u8 (o : Nat)) := by rw [eo]; exact (Blk.cell B0.out _).trans (V.byte _ (by decide))
  have V1 : Hid (Vid (cs.setIfInBounds o (.int .u8 (m : Nat))) (upd f o m)) := V.set o m _ (cel_b _ (by omega)).symm
  have B1 : Hid (Blk (W.setCell ⟨w.heap.size, o, none⟩ (.int .u8 (m : Nat))) w.heap.size (cs.setIfInBounds o (.int .u8 (m : Nat))) 28) := B0.out.set o _
  have fr1 := Blk.free B0.out o
  have co : W.cell? ⟨w.heap.size, o, none⟩ = some (.int .u8 (f o : Nat)) := (Blk.cell B0.out _).trans (V.byte _ (by omega))
  clear eo hm ho1
  generalize f o = oldv at co
  by_cases h2 : q = 2
  · have d2 : ((q : Int) == 2) = true := by rw [h2]; rfl
    have hmx : m = xm := by rw [HM.out, HXM.out]; unfold msk; rw [if_pos (by rw [← HQ.out]; exact h2)]
    subst hmx
    go_upto_region 4 with fail
    have Z1 : Hid (Blk (W.setCell ⟨w.heap.size, o, none⟩ (.int .u8 (m : Nat))) (w.heap.size + 1) Try.zeroCells28 28) := Blk.other Z0.out (by omega) o _
    have L1 : Hid (Below w.heap.size w (W.setCell ⟨w.heap.size, o, none⟩ (.int .u8 (m : Nat)))) := L0.out.setCell (p := ⟨w.heap.size, o, none⟩) (Nat.le_refl _) _
    generalize (W.setCell ⟨w.heap.size, o, none⟩ (.int .u8 (m : Nat))) = w1 at *
    generalize (cs.setIfInBounds o (.int .u8 (m : Nat))) = cs1 at *
    have c1 : w1.cell? ⟨w.heap.size, 256, none⟩ = some (.int .u8 (o : Nat)) := by
      have := (Blk.cell B1.out 256).trans (V1.out.byte 256 (by decide))
      rw [upd_ne _ _ (by omega), ← HEO.out] at this
      exact this
    have fr2 := Blk.free B1.out 256
    clear c0 co fr1
    go_upto_region 5 with fail
    have B2 : Hid (Blk (w1.setCell ⟨w.heap.size, 256, none⟩ (.int .u8 (o1 : Nat))) w.heap.size (cs1.setIfInBounds 256 (.int .u8 (o1 : Nat))) 28) := B1.out.set 256 _
    have Z2 : Hid (Blk (w1.setCell ⟨w.heap.size, 256, none⟩ (.int .u8 (o1 : Nat))) (w.heap.size + 1) Try.zeroCells28 28) := Blk.other Z1.out (by omega) 256 _
    have L2 : Hid (Below w.heap.size w (w1.setCell ⟨w.heap.size, 256, none⟩ (.int .u8 (o1 : Nat)))) := L1.out.setCell (p := ⟨w.heap.size, 256, none⟩) (Nat.le_refl _) _
    have V2 : Vid (cs1.setIfInBounds 256 (.int .u8 (o1 : Nat))) (upd (upd f o m) 256 o1) := V1.out.set 256 o1 _ (cel_b _ (by decide)).symm
    generalize (w1.setCell ⟨w.heap.size, 256, none⟩ (.int .u8 (o1 : Nat))) = w2 at *
    generalize (cs1.setIfInBounds 256 (.int .u8 (o1 : Nat))) = cs2 at *
    have VS : Hid (cs2.size = 12585) := V2.1
    have O2 : Hid (cs2.all (·.oneCell') = true) := V2.one
    have HV2 : Hid (Vid cs2 (spr f x)) := by
      have e : spr f x = upd (upd f o m) 256 o1 := by unfold spr; rw [← HEO.out, HO1.out, ← HM.out]
      unfold Hid; rw [e]; exact V2
    clear V2
    go_wp2_with (first
      | (refine wpList_load_blk rfl 28 _ rfl w.heap.size rfl cs2 _ B2.out Try.underlying28 rfl (by rw [VS.out]; exact I8.out) ?_)
      | (refine wpList_store_blk rfl 28 _ _ rfl (w.heap.size + 1) Try.zeroCells28 cs2 28 rfl rfl Z2.out (VS.out.trans Try.zeroCells28_size.symm) (by rw [VS.out]; exact I8.out) O2.out w.heap.size w (by omega) L2.out ?_; intro w4 B4 L4 _))
    exact ret_vid Try.results24 rfl rfl B4 Try.underlying28 rfl (by rw [VS.out]; exact I8.out) ⟨cs2, rfl, HV2.out, L4⟩
  · have d2 : ((q : Int) == 2) = false := by simp; omega
    have hmx : m = x := by rw [HM.out]; unfold msk; rw [if_neg (by rw [← HQ.out]; exact h2)]
    subst hmx
    go_upto_region 4 with fail
    have Z1 : Hid (Blk (W.setCell ⟨w.heap.size, o, none⟩ (.int .u8 (m : Nat))) (w.heap.size + 1) Try.zeroCells28 28) := Blk.other Z0.out (by omega) o _
    have L1 : Hid (Below w.heap.size w (W.setCell ⟨w.heap.size, o, none⟩ (.int .u8 (m : Nat)))) := L0.out.setCell (p := ⟨w.heap.size, o, none⟩) (Nat.le_refl _) _
    generalize (W.setCell ⟨w.heap.size, o, none⟩ (.int .u8 (m : Nat))) = w1 at *
    generalize (cs.setIfInBounds o (.int .u8 (m : Nat))) = cs1 at *
    have c1 : w1.cell? ⟨w.heap.size, 256, none⟩ = some (.int .u8 (o : Nat)) := by
      have := (Blk.cell B1.out 256).trans (V1.out.byte 256 (by decide))
      rw [upd_ne _ _ (by omega), ← HEO.out] at this
      exact this
    have fr2 := Blk.free B1.out 256
    clear c0 co fr1
    go_upto_region 5 with fail
    have B2 : Hid (Blk (w1.setCell ⟨w.heap.size, 256, none⟩ (.int .u8 (o1 : Nat))) w.heap.size (cs1.setIfInBounds 256 (.int .u8 (o1 : Nat))) 28) := B1.out.set 256 _
    have Z2 : Hid (Blk (w1.setCell ⟨w.heap.size, 256, none⟩ (.int .u8 (o1 : Nat))) (w.heap.size + 1) Try.zeroCells28 28) := Blk.other Z1.out (by omega) 256 _
    have L2 : Hid (Below w.heap.size w (w1.setCell ⟨w.heap.size, 256, none⟩ (.int .u8 (o1 : Nat)))) := L1.out.setCell (p := ⟨w.heap.size, 256, none⟩) (Nat.le_refl _) _
    have V2 : Vid (cs1.setIfInBounds 256 (.int .u8 (o1 : Nat))) (upd (upd f o m) 256 o1) := V1.out.set 256 o1 _ (cel_b _ (by decide)).symm
    generalize (w1.setCell ⟨w.heap.size, 256, none⟩ (.int .u8 (o1 : Nat))) = w2 at *
    generalize (cs1.setIfInBounds 256 (.int .u8 (o1 : Nat))) = cs2 at *
    have VS : Hid (cs2.size = 12585) := V2.1
    have O2 : Hid (cs2.all (·.oneCell') = true) := V2.one
    have HV2 : Hid (Vid cs2 (spr f m)) := by
      have e : spr f m = upd (upd f o m) 256 o1 := by unfold spr; rw [← HEO.out, HO1.out, ← HM.out]
      unfold Hid; rw [e]; exact V2
    clear V2
    go_wp2_with (first
      | (refine wpList_load_blk rfl 28 _ rfl w.heap.size rfl cs2 _ B2.out Try.underlying28 rfl (by rw [VS.out]; exact I8.out) ?_)
      | (refine wpList_store_blk rfl 28 _ _ rfl (w.heap.size + 1) Try.zeroCells28 cs2 28 rfl rfl Z2.out (VS.out.trans Try.zeroCells28_size.symm) (by rw [VS.out]; exact I8.out) O2.out w.heap.size w (by omega) L2.out ?_; intro w4 B4 L4 _))
    exact ret_vid Try.results24 rfl rfl B4 Try.underlying28 rfl (by rw [VS.out]; exact I8.out) ⟨cs2, rfl, HV2.out, L4⟩
end Go.Proofs.Ytecaipakaaongaa
