/-
  The contract of Next; conditions: the numbers fit their kinds.
-/
import Derived.Test.YtlnpcbofebppcabQSt2
import Derived.Test.YtlnpcbofebppcabQVal
import Derived.Test.YtlnpcbofebppcabQPl
import Derived.Test.YtlnpcbofebppcabQCyc
import Derived.Test.YtlnpcbofebppcabQMath5
set_option linter.unusedSimpArgs false
set_option linter.unusedVariables false
namespace Go.Proofs.Ytlnpcbofebppcab
open Go.RowKit Classical
set_option maxHeartbeats 2000000 in
theorem next_false (r : Rs) (w : World) (o : r.Ok) (hv : r.valid = false) :
    Calls Try.prog 10 #[.agg r.cells] w fun e w' => e = .returned (.int .i64 r.nextV) ∧ Below w.heap.size w w' := by
  have V : Hid (∀ W : World, Calls Try.prog 26 #[.agg r.cells] W fun e w' => e = .returned (.bool false) ∧ Below W.heap.size W w') := fun W => by
    have := valid_any r W o
    rwa [hv] at this
  have p1 : r.nextV = 0 := by unfold Rs.nextV; rw [hv]; rfl
  rw [p1]
  clear p1 hv
  go_enter Try.func10, Try.ntmps10
  go_upto_region 1 with fail
  have s0 : St w [(w.heap.size, r)] (w.alloc (.cells r.cells 23)) := St.start w r
  generalize w.alloc (.cells r.cells 23) = W0 at *
  go_wp2_with (first
    | (refine wpList_load_blk rfl 23 _ rfl w.heap.size rfl (Rs.cells r) _ (s0.blk w.heap.size r (by simp)) Try.underlying23 rfl (infoR' _) ?_)
    | (go_at_call 26; refine (V.out _).mono ?_; rintro e Wx ⟨rfl, hbx⟩; replace s0 := s0.on hbx; clear hbx))
  go_ret
  exact ⟨rfl, s0.2⟩
set_option maxHeartbeats 2000000 in
theorem next_true (r : Rs) (w : World) (o : r.Ok) (hv : r.valid = true) :
    Calls Try.prog 10 #[.agg r.cells] w fun e w' => e = .returned (.int .i64 r.nextV) ∧ Below w.heap.size w w' := by
  have rv := (Rs.valid_iff r).1 hv
  have V : Hid (∀ W : World, Calls Try.prog 26 #[.agg r.cells] W fun e w' => e = .returned (.bool true) ∧ Below W.heap.size W w') := fun W => by
    have := valid_any r W o
    rwa [hv] at this
  have p1 : r.nextV = if r.nmi = true then r.nx else 4611686018427387904 := by unfold Rs.nextV; rw [hv]; rfl
  rw [p1]
  clear p1 hv
  cases hn : r.nmi
  · simp only [if_false, reduceCtorEq]
    go_enter Try.func10, Try.ntmps10
    go_upto_region 1 with fail
    have s0 : St w [(w.heap.size, r)] (w.alloc (.cells r.cells 23)) := St.start w r
    generalize w.alloc (.cells r.cells 23) = W0 at *
    go_upto_region 3 with (first
      | (refine wpList_load_blk rfl 23 _ rfl w.heap.size rfl (Rs.cells r) _ (s0.blk w.heap.size r (by simp)) Try.underlying23 rfl (infoR' _) ?_)
      | (go_at_call 26; refine (V.out _).mono ?_; rintro e Wx ⟨rfl, hbx⟩; replace s0 := s0.on hbx; clear hbx))
    have f4 : _ = some (Value.bool r.nmi) := (s0.blk w.heap.size r (by simp)).cell 4
    go_wp2_with (first
      | (refine wpList_load_blk rfl 23 _ rfl w.heap.size rfl (Rs.cells r) _ (s0.blk w.heap.size r (by simp)) Try.underlying23 rfl (infoR' _) ?_))
    go_ret
    exact ⟨rfl, s0.2⟩
  · simp only [if_true]
    have hl := Rs.pl_bd rv
    have len2 : r.len = 89341 ∨ r.len = 89342 := by unfold Rs.len; split <;> simp
    obtain ⟨hvb, hho⟩ := rv.pl_vbl
    have PO : Hid _ := fun (W : World) => placeOf_any r W rv
    have LE : Hid _ := fun (W : World) => length_low r W
    clear rv
    unfold Rs.nx
    have l0 : 89341 ≤ r.len := by omega
    have l1 : r.len ≤ 89342 := by omega
    clear len2
    obtain ⟨g0, g1⟩ := hl
    replace g1 : r.pl ≤ 89341 := by omega
    generalize r.pl = p at *
    generalize r.len = le at *
    cases hb : r.vbl
    · simp only [if_false, reduceCtorEq]
      by_cases hp : p < 82182
      · cases hh : r.hold
        · rw [if_pos ⟨hp, rfl⟩]
          go_enter Try.func10, Try.ntmps10
          go_upto_region 1 with fail
          have s0 : St w [(w.heap.size, r)] (w.alloc (.cells r.cells 23)) := St.start w r
          generalize w.alloc (.cells r.cells 23) = W0 at *
          go_upto_region 3 with (first
            | (refine wpList_load_blk rfl 23 _ rfl w.heap.size rfl (Rs.cells r) _ (s0.blk w.heap.size r (by simp)) Try.underlying23 rfl (infoR' _) ?_)
            | (go_at_call 26; refine (V.out _).mono ?_; rintro e Wx ⟨rfl, hbx⟩; replace s0 := s0.on hbx; clear hbx))
          have f4 : _ = some (Value.bool r.nmi) := (s0.blk w.heap.size r (by simp)).cell 4
          go_upto_region 6 with (first
            | (refine wpList_load_blk rfl 23 _ rfl w.heap.size rfl (Rs.cells r) _ (s0.blk w.heap.size r (by simp)) Try.underlying23 rfl (infoR' _) ?_)
            | (go_at_call 27; refine (PO.out _).mono ?_; rintro e Wx ⟨rfl, hbx⟩; replace s0 := s0.on hbx; clear hbx))
          have f3 : _ = some (Value.bool r.vbl) := (s0.blk w.heap.size r (by simp)).cell 3
          have f6 : _ = some (Value.bool r.hold) := (s0.blk w.heap.size r (by simp)).cell 6
          go_wp2_with (first
            | (refine wpList_load_blk rfl 23 _ rfl w.heap.size rfl (Rs.cells r) _ (s0.blk w.heap.size r (by simp)) Try.underlying23 rfl (infoR' _) ?_)
            | (go_at_call 29; refine (LE.out _).mono ?_; rintro e Wx ⟨rfl, hbx⟩; replace s0 := s0.on hbx; clear hbx)
            | (go_at_call 28; refine (cycles_any _ _ (by omega) (by omega)).mono ?_; rintro e Wx ⟨rfl, hbx⟩; replace s0 := s0.on hbx; clear hbx))
          go_ret
          exact ⟨rfl, s0.2⟩
        · rw [if_neg (by simp)]
          clear hvb hho
          go_enter Try.func10, Try.ntmps10
          go_upto_region 1 with fail
          have s0 : St w [(w.heap.size, r)] (w.alloc (.cells r.cells 23)) := St.start w r
          generalize w.alloc (.cells r.cells 23) = W0 at *
          go_upto_region 3 with (first
            | (refine wpList_load_blk rfl 23 _ rfl w.heap.size rfl (Rs.cells r) _ (s0.blk w.heap.size r (by simp)) Try.underlying23 rfl (infoR' _) ?_)
            | (go_at_call 26; refine (V.out _).mono ?_; rintro e Wx ⟨rfl, hbx⟩; replace s0 := s0.on hbx; clear hbx))
          have f4 : _ = some (Value.bool r.nmi) := (s0.blk w.heap.size r (by simp)).cell 4
          go_upto_region 6 with (first
            | (refine wpList_load_blk rfl 23 _ rfl w.heap.size rfl (Rs.cells r) _ (s0.blk w.heap.size r (by simp)) Try.underlying23 rfl (infoR' _) ?_)
            | (go_at_call 27; refine (PO.out _).mono ?_; rintro e Wx ⟨rfl, hbx⟩; replace s0 := s0.on hbx; clear hbx))
          have f3 : _ = some (Value.bool r.vbl) := (s0.blk w.heap.size r (by simp)).cell 3
          have f6 : _ = some (Value.bool r.hold) := (s0.blk w.heap.size r (by simp)).cell 6
          go_wp2_with (first
            | (refine wpList_load_blk rfl 23 _ rfl w.heap.size rfl (Rs.cells r) _ (s0.blk w.heap.size r (by simp)) Try.underlying23 rfl (infoR' _) ?_)
            | (go_at_call 29; refine (LE.out _).mono ?_; rintro e Wx ⟨rfl, hbx⟩; replace s0 := s0.on hbx; clear hbx)
            | (go_at_call 28; refine (cycles_any _ _ (by omega) (by omega)).mono ?_; rintro e Wx ⟨rfl, hbx⟩; replace s0 := s0.on hbx; clear hbx))
          go_ret
          exact ⟨rfl, s0.2⟩
      · rw [if_neg (fun h => hp h.1)]
        have hpb : decide (p < 82182) = false := decide_eq_false hp
        clear hvb hho
        go_enter Try.func10, Try.ntmps10
        go_upto_region 1 with fail
        have s0 : St w [(w.heap.size, r)] (w.alloc (.cells r.cells 23)) := St.start w r
        generalize w.alloc (.cells r.cells 23) = W0 at *
        go_upto_region 3 with (first
          | (refine wpList_load_blk rfl 23 _ rfl w.heap.size rfl (Rs.cells r) _ (s0.blk w.heap.size r (by simp)) Try.underlying23 rfl (infoR' _) ?_)
          | (go_at_call 26; refine (V.out _).mono ?_; rintro e Wx ⟨rfl, hbx⟩; replace s0 := s0.on hbx; clear hbx))
        have f4 : _ = some (Value.bool r.nmi) := (s0.blk w.heap.size r (by simp)).cell 4
        go_upto_region 6 with (first
          | (refine wpList_load_blk rfl 23 _ rfl w.heap.size rfl (Rs.cells r) _ (s0.blk w.heap.size r (by simp)) Try.underlying23 rfl (infoR' _) ?_)
          | (go_at_call 27; refine (PO.out _).mono ?_; rintro e Wx ⟨rfl, hbx⟩; replace s0 := s0.on hbx; clear hbx))
        have f3 : _ = some (Value.bool r.vbl) := (s0.blk w.heap.size r (by simp)).cell 3
        have f6 : _ = some (Value.bool r.hold) := (s0.blk w.heap.size r (by simp)).cell 6
        go_wp2_with (first
          | (refine wpList_load_blk rfl 23 _ rfl w.heap.size rfl (Rs.cells r) _ (s0.blk w.heap.size r (by simp)) Try.underlying23 rfl (infoR' _) ?_)
          | (go_at_call 29; refine (LE.out _).mono ?_; rintro e Wx ⟨rfl, hbx⟩; replace s0 := s0.on hbx; clear hbx)
          | (go_at_call 28; refine (cycles_any _ _ (by omega) (by omega)).mono ?_; rintro e Wx ⟨rfl, hbx⟩; replace s0 := s0.on hbx; clear hbx))
        go_ret
        exact ⟨rfl, s0.2⟩
    · simp only [if_true]
      have hx := (hvb hb).2
      clear hvb hho
      go_enter Try.func10, Try.ntmps10
      go_upto_region 1 with fail
      have s0 : St w [(w.heap.size, r)] (w.alloc (.cells r.cells 23)) := St.start w r
      generalize w.alloc (.cells r.cells 23) = W0 at *
      go_upto_region 3 with (first
        | (refine wpList_load_blk rfl 23 _ rfl w.heap.size rfl (Rs.cells r) _ (s0.blk w.heap.size r (by simp)) Try.underlying23 rfl (infoR' _) ?_)
        | (go_at_call 26; refine (V.out _).mono ?_; rintro e Wx ⟨rfl, hbx⟩; replace s0 := s0.on hbx; clear hbx))
      have f4 : _ = some (Value.bool r.nmi) := (s0.blk w.heap.size r (by simp)).cell 4
      go_upto_region 6 with (first
        | (refine wpList_load_blk rfl 23 _ rfl w.heap.size rfl (Rs.cells r) _ (s0.blk w.heap.size r (by simp)) Try.underlying23 rfl (infoR' _) ?_)
        | (go_at_call 27; refine (PO.out _).mono ?_; rintro e Wx ⟨rfl, hbx⟩; replace s0 := s0.on hbx; clear hbx))
      have f3 : _ = some (Value.bool r.vbl) := (s0.blk w.heap.size r (by simp)).cell 3
      have f6 : _ = some (Value.bool r.hold) := (s0.blk w.heap.size r (by simp)).cell 6
      go_wp2_with (first
        | (refine wpList_load_blk rfl 23 _ rfl w.heap.size rfl (Rs.cells r) _ (s0.blk w.heap.size r (by simp)) Try.underlying23 rfl (infoR' _) ?_)
        | (go_at_call 29; refine (LE.out _).mono ?_; rintro e Wx ⟨rfl, hbx⟩; replace s0 := s0.on hbx; clear hbx)
        | (go_at_call 28; refine (cycles_any _ _ (by omega) (by omega)).mono ?_; rintro e Wx ⟨rfl, hbx⟩; replace s0 := s0.on hbx; clear hbx))
      go_ret
      exact ⟨rfl, s0.2⟩
theorem next_any (r : Rs) (w : World) (o : r.Ok) :
    Calls Try.prog 10 #[.agg r.cells] w fun e w' => e = .returned (.int .i64 r.nextV) ∧ Below w.heap.size w w' := by
  cases hv : r.valid
  · exact next_false r w o hv
  · exact next_true r w o hv
end Go.Proofs.Ytlnpcbofebppcab
