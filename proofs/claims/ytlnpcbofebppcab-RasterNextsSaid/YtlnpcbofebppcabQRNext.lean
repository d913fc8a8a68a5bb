/-
  The contract of the document's Next; conditions: the numbers fit their kinds.
-/
import Derived.Test.YtlnpcbofebppcabQSt2
import Derived.Test.YtlnpcbofebppcabQRTick
import Derived.Test.YtlnpcbofebppcabQMath5
set_option linter.unusedSimpArgs false
set_option linter.unusedVariables false
namespace Go.Proofs.Ytlnpcbofebppcab
open Go.RowKit Classical
set_option maxHeartbeats 2000000 in
theorem rnext_false (r : Rs) (w : World) (o : r.Ok) (hv : r.valid = false) :
    Calls Try.prog 15 #[.agg r.cells] w fun e w' => e = .returned (.int .i64 r.nextV) ∧ Below w.heap.size w w' := by
  have V : Hid (∀ W : World, Calls Try.prog 34 #[.agg r.cells] W fun e w' => e = .returned (.bool false) ∧ Below W.heap.size W w') := fun W => by
    have := rvalid_any r W o
    rwa [hv] at this
  have p1 : r.nextV = 0 := by unfold Rs.nextV; rw [hv]; rfl
  rw [p1]
  clear p1 hv
  go_enter Try.func15, Try.ntmps15
  go_upto_region 1 with fail
  have s0 : St w [(w.heap.size, r)] (w.alloc (.cells r.cells 23)) := St.start w r
  generalize w.alloc (.cells r.cells 23) = W0 at *
  go_wp2_with (first
    | (refine wpList_load_blk rfl 23 _ rfl w.heap.size rfl (Rs.cells r) _ (s0.blk w.heap.size r (by simp)) Try.underlying23 rfl (infoR' _) ?_)
    | (go_at_call 34; refine (V.out _).mono ?_; rintro e Wx ⟨rfl, hbx⟩; replace s0 := s0.on hbx; clear hbx))
  go_ret
  exact ⟨rfl, s0.2⟩
set_option maxHeartbeats 2000000 in
theorem rnext_true (r : Rs) (w : World) (o : r.Ok) (hv : r.valid = true) :
    Calls Try.prog 15 #[.agg r.cells] w fun e w' => e = .returned (.int .i64 r.nextV) ∧ Below w.heap.size w w' := by
  have rv := (Rs.valid_iff r).1 hv
  have V : Hid (∀ W : World, Calls Try.prog 34 #[.agg r.cells] W fun e w' => e = .returned (.bool true) ∧ Below W.heap.size W w') := fun W => by
    have := rvalid_any r W o
    rwa [hv] at this
  have p1 : r.nextV = if r.nmi = true then r.nx else 4611686018427387904 := by unfold Rs.nextV; rw [hv]; rfl
  rw [p1]
  clear p1 hv
  cases hn : r.nmi
  · simp only [if_false, reduceCtorEq]
    go_enter Try.func15, Try.ntmps15
    go_upto_region 1 with fail
    have s0 : St w [(w.heap.size, r)] (w.alloc (.cells r.cells 23)) := St.start w r
    generalize w.alloc (.cells r.cells 23) = W0 at *
    go_upto_region 4 with (first
      | (refine wpList_load_blk rfl 23 _ rfl w.heap.size rfl (Rs.cells r) _ (s0.blk w.heap.size r (by simp)) Try.underlying23 rfl (infoR' _) ?_)
      | (go_at_call 34; refine (V.out _).mono ?_; rintro e Wx ⟨rfl, hbx⟩; replace s0 := s0.on hbx; clear hbx))
    have f4 : _ = some (Value.bool r.nmi) := (s0.blk w.heap.size r (by simp)).cell 4
    go_wp2_with (first
      | (refine wpList_load_blk rfl 23 _ rfl w.heap.size rfl (Rs.cells r) _ (s0.blk w.heap.size r (by simp)) Try.underlying23 rfl (infoR' _) ?_))
    go_ret
    exact ⟨rfl, s0.2⟩
  · simp only [if_true]
    have np := Rs.nx_pos rv
    have NB : Hid _ := fun (n : Nat) (h : (n : Int) < r.nx) => Rs.nx_before rv n h
    have NA : Hid _ := Rs.nx_at rv
    have D : Hid (∀ (k : Nat) (W : World), Calls Try.prog 35 #[.agg (r.dn (3 * k)).cells] W fun e w' => e = .returned (.tuple #[.agg (r.dn (3 * (k + 1))).cells, .int .i64 ((r.dn (3 * k)).ck 3)]) ∧ Below W.heap.size W w') := fun k W => by
      have := rtick_any (r.dn (3 * k)) W (Rs.dn_v rv (3 * k))
      rwa [← Rs.dn_add r (3 * k) 3] at this
    clear rv
    generalize r.nx = N at *
    obtain ⟨N0, N1⟩ := np
    go_enter Try.func15, Try.ntmps15
    go_upto_region 1 with fail
    have s0 : St w [(w.heap.size, r)] (w.alloc (.cells r.cells 23)) := St.start w r
    generalize w.alloc (.cells r.cells 23) = W0 at *
    go_upto_region 4 with (first
      | (refine wpList_load_blk rfl 23 _ rfl w.heap.size rfl (Rs.cells r) _ (s0.blk w.heap.size r (by simp)) Try.underlying23 rfl (infoR' _) ?_)
      | (go_at_call 34; refine (V.out _).mono ?_; rintro e Wx ⟨rfl, hbx⟩; replace s0 := s0.on hbx; clear hbx))
    have f4 : _ = some (Value.bool r.nmi) := (s0.blk w.heap.size r (by simp)).cell 4
    have f3 : _ = some (Value.bool r.vbl) := (s0.blk w.heap.size r (by simp)).cell 3
    go_wp2
    go_loopw [5] (fun i wr => ∃ k : Nat, (k : Int) ≤ N ∧ i = .int .i64 k ∧ Blk wr w.heap.size (r.dn (3 * k)).cells 23 ∧ Below w.heap.size w wr) (fun i _ => N.toNat - (intOf i).toNat)
    case atStart => exact ⟨0, by omega, rfl, s0.blk w.heap.size r (by simp), s0.2⟩
    case round =>
      clear s0 f4 f3 V
      obtain ⟨k, hk, rfl, e1, e3⟩ := hrel
      have g3 : wr.cell? ⟨w.heap.size, 3, none⟩ = some (.bool (r.dn (3 * k)).vbl) := e1.cell 3
      by_cases hlt : (k : Int) < N
      · have hvb := NB.out k hlt
        have D1 : Hid _ := fun (W : World) => D.out k W
        have hk1 : ((k + 1 : Nat) : Int) ≤ N := by omega
        have hk2 : (k : Int) + 1 ≤ 9223372036854775807 := by omega
        clear D NB NA
        rw [hvb] at g3
        clear hvb
        generalize hn : r.dn (3 * (k + 1)) = s at *
        generalize r.dn (3 * k) = d at *
        generalize d.ck 3 = y at *
        generalize r.vbl = vb at *
        go_wp2_with (first
          | (refine wpList_load_blk rfl 23 _ rfl Wx.heap.size rfl (Rs.cells s) _ y1 Try.underlying23 rfl (infoR' _) ?_)
          | (refine wpList_load_blk rfl 23 _ rfl w.heap.size rfl (Rs.cells d) _ e1 Try.underlying23 rfl (infoR' _) ?_)
          | (go_at_call 35; refine (D1.out _).mono ?_; rintro e Wx ⟨rfl, hbx⟩; replace e1 := e1.below e1.lt hbx; replace e3 := e3.trans (hbx.mono e3.size); clear hbx)
          | (refine wpList_store_blk rfl 23 _ _ rfl Wx.heap.size zeroR.cells (Rs.cells s) 23 rfl rfl (Blk.new Wx _ _) rfl (infoR' _) (Rs.cells_one _) w.heap.size w e3.size (e3.alloc e3.size _) ?_; intro Wy y1 h2y h3y; replace e1 := h3y _ _ _ (Nat.ne_of_lt e1.lt) (e1.old _); replace e3 := h2y; clear h2y h3y)
          | (refine wpList_store_blk rfl 23 _ _ rfl w.heap.size _ (Rs.cells s) 23 rfl rfl e1 rfl (infoR' _) (Rs.cells_one _) w.heap.size w (Nat.le_refl _) e3 ?_; intro Wz z1 z2 z3; clear z3 e1 e3))
        go_roundw
        case rel => exact ⟨k + 1, hk1, by go_num, by rw [hn]; exact z1, z2⟩
        case measure => simp [intOf]; omega
      · have hkN : (k : Int) = N := by omega
        have hvb : (r.dn (3 * k)).vbl = !r.vbl := by have := NA.out; rwa [show N.toNat = k by omega] at this
        have eN : Hid ((k : Int) = N) := hkN
        clear D NB NA hkN
        rw [hvb] at g3
        clear hvb hlt
        generalize hvv : r.vbl = vb at *
        cases vb
        all_goals
          go_wp2
          go_ret
          exact ⟨congrArg (fun x => Ending.returned (.int .i64 x)) eN.out, e3⟩
theorem rnext_any (r : Rs) (w : World) (o : r.Ok) :
    Calls Try.prog 15 #[.agg r.cells] w fun e w' => e = .returned (.int .i64 r.nextV) ∧ Below w.heap.size w w' := by
  cases hv : r.valid
  · exact rnext_false r w o hv
  · exact rnext_true r w o hv
end Go.Proofs.Ytlnpcbofebppcab
