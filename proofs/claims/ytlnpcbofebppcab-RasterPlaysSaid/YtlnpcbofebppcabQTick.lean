/-
  The contract of Tick; conditions: the numbers fit their kinds.
-/
import Derived.Test.YtlnpcbofebppcabQSt
import Derived.Test.YtlnpcbofebppcabQDot
import Derived.Test.YtlnpcbofebppcabQVal
import Derived.Test.YtlnpcbofebppcabQQuiet
set_option linter.unusedSimpArgs false
set_option linter.unusedVariables false
namespace Go.Proofs.Ytlnpcbofebppcab
open Go.RowKit Classical
set_option maxHeartbeats 2000000 in
theorem tickV_false (r : Rs) (w : World) (o : r.Ok) (hv : r.valid = false) :
    Calls Try.prog 18 #[.agg r.cells] w fun e w' => e = .returned (.tuple #[.agg (r.adv 1).cells, .int .i64 (r.advK 1)]) ∧ Below w.heap.size w w' := by
  have V : Hid (∀ W : World, Calls Try.prog 26 #[.agg r.cells] W fun e w' => e = .returned (.bool false) ∧ Below W.heap.size W w') := fun W => by
    have := valid_any r W o
    rwa [hv] at this
  have p1 : r.adv 1 = r := by unfold Rs.adv; rw [hv]; rfl
  have p2 : r.advK 1 = 0 := by unfold Rs.advK; rw [hv]; rfl
  rw [p1, p2]
  clear p1 p2 hv
  go_enter Try.func18, Try.ntmps18
  go_upto_region 1 with fail
  have A := At.start w r
  change Code.wp _ _ _ _ ((w.alloc (.cells r.cells 23)).alloc (.cells zeroR.cells 23))
  generalize (w.alloc (.cells r.cells 23)).alloc (.cells zeroR.cells 23) = W0 at *
  go_wp2_with (first
    | (refine wpList_load_blk rfl 23 _ rfl (w.heap.size) rfl (Rs.cells r) _ A.blk Try.underlying23 rfl (infoR' _) ?_)
    | (go_at_call 26; refine (V.out _).mono ?_; rintro e Wx ⟨rfl, hbx⟩; replace A := A.on hbx; clear hbx)
    | (obtain ⟨rc, hr⟩ := A.res; refine wpList_store_blk rfl 23 _ _ rfl (w.heap.size + 1) rc.cells (Rs.cells r) 23 rfl rfl hr rfl (infoR' _) (Rs.cells_one _) w.heap.size w (by omega) A.bel ?_; intro W5 hr5 hb5 ho5))
  refine bodyPost_ret (v := .tuple #[.agg (Rs.cells r), .int .i64 0]) (res_pair (b := w.heap.size + 1) (r := r) Try.results18 rfl rfl hr5) rfl ⟨rfl, hb5⟩
set_option maxHeartbeats 2000000 in
theorem tickV_true (r : Rs) (w : World) (o : r.Ok) (hv : r.valid = true) :
    Calls Try.prog 18 #[.agg r.cells] w fun e w' => e = .returned (.tuple #[.agg (r.adv 1).cells, .int .i64 (r.advK 1)]) ∧ Below w.heap.size w w' := by
  have rv := (Rs.valid_iff r).1 hv
  have V : Hid (∀ W : World, Calls Try.prog 26 #[.agg r.cells] W fun e w' => e = .returned (.bool true) ∧ Below W.heap.size W w') := fun W => by
    have := valid_any r W o
    rwa [hv] at this
  have p1 : r.adv 1 = r.dn 3 := by unfold Rs.adv; rw [hv]; rfl
  have p2 : r.advK 1 = r.ck 3 := by unfold Rs.advK; rw [hv]; rfl
  rw [p1, p2]
  clear p1 p2 hv
  have Q : Hid _ := fun (W : World) => quiet_any r W rv.d0 rv.d1
  cases hq : qt r.dot
  · rw [hq] at Q
    clear hq
    have D : Hid (∀ (k : Nat) (W : World), Calls Try.prog 38 #[.agg (r.dn k).cells] W fun e w' => e = .returned (.tuple #[.agg (r.dn (k + 1)).cells, .bool (r.dn (k + 1)).clk]) ∧ Below W.heap.size W w') := fun k W => by
      have v := Rs.dn_v rv k
      exact dot_any (r.dn k) W v.l0 v.l1 v.d0 v.d1
    clear rv
    go_enter Try.func18, Try.ntmps18
    go_upto_region 1 with fail
    have A := At.start w r
    change Code.wp _ _ _ _ ((w.alloc (.cells r.cells 23)).alloc (.cells zeroR.cells 23))
    generalize (w.alloc (.cells r.cells 23)).alloc (.cells zeroR.cells 23) = W0 at *
    go_wp2_with (first
      | (refine wpList_load_blk rfl 23 _ rfl (w.heap.size) rfl (Rs.cells r) _ A.blk Try.underlying23 rfl (infoR' _) ?_)
      | (go_at_call 26; refine (V.out _).mono ?_; rintro e Wx ⟨rfl, hbx⟩; replace A := A.on hbx; clear hbx)
      | (go_at_call 37; refine (Q.out _).mono ?_; rintro e Wx ⟨rfl, hbx⟩; replace A := A.on hbx; clear hbx))
    go_loopw [4, 18] (fun c i wr => ∃ k : Nat, k ≤ 3 ∧ i = .int .i64 k ∧ c = .int .i64 (r.ck k) ∧ 0 ≤ r.ck k ∧ r.ck k ≤ k ∧ At w wr w.heap.size (r.dn k)) (fun _ i _ => 3 - (intOf i).toNat)
    case atStart => exact ⟨0, by omega, rfl, rfl, Int.le_refl 0, Int.le_refl 0, A⟩
    case round =>
      clear A V Q
      obtain ⟨k, hk, rfl, rfl, c0, c1, A⟩ := hrel
      by_cases hlt : (k : Int) < 3
      · have D1 : Hid _ := fun (W : World) => D.out k W
        have E : Hid (r.ck (k + 1) = r.ck k + if (r.dn (k + 1)).clk = true then 1 else 0) := rfl
        have hk1 : k + 1 ≤ 3 := by omega
        clear D
        generalize hn : r.dn (k + 1) = s at *
        generalize r.dn k = d at *
        generalize hc : r.ck k = x at *
        cases hs : s.clk
        · rw [hs] at D1
          have E2 : Hid (r.ck (k + 1) = x) := by show r.ck (k + 1) = x; have := E.out; rw [hs] at this; simpa using this
          clear E hs
          go_wp2_with (first
            | (refine wpList_load_blk rfl 23 _ rfl (Wx.heap.size) rfl (Rs.cells s) _ y1 Try.underlying23 rfl (infoR' _) ?_)
            | (refine wpList_load_blk rfl 23 _ rfl (w.heap.size) rfl (Rs.cells d) _ A.blk Try.underlying23 rfl (infoR' _) ?_)
            | (go_at_call 38; refine (D1.out _).mono ?_; rintro e Wx ⟨rfl, hbx⟩; replace A := A.on hbx; clear hbx)
            | (refine wpList_store_blk rfl 23 _ _ rfl Wx.heap.size zeroR.cells (Rs.cells s) 23 rfl rfl (Blk.new Wx _ _) rfl (infoR' _) (Rs.cells_one _) w.heap.size w A.bel.size (A.bel.alloc A.bel.size _) ?_; intro Wy y1 h2y h3y; replace A := At.more A h2y h3y; clear h2y h3y)
            | (refine wpList_store_blk rfl 23 _ _ rfl w.heap.size _ (Rs.cells s) 23 rfl rfl A.blk rfl (infoR' _) (Rs.cells_one _) w.heap.size w (Nat.le_refl _) A.bel ?_; intro Wy h1y h2y h3y; replace A := At.sto A h1y h2y h3y; clear h1y h2y h3y))
          go_roundw
          case rel => exact ⟨k + 1, hk1, by go_num, by rw [E2.out], by rw [E2.out]; exact c0, by rw [E2.out]; omega, by rw [hn]; exact A⟩
          case measure => simp [intOf]; omega
        · rw [hs] at D1
          have E2 : Hid (r.ck (k + 1) = x + 1) := by show r.ck (k + 1) = x + 1; have := E.out; rw [hs] at this; simpa using this
          clear E hs
          have c2 : x + 1 ≤ 9223372036854775807 := by omega
          go_wp2_with (first
            | (refine wpList_load_blk rfl 23 _ rfl (Wx.heap.size) rfl (Rs.cells s) _ y1 Try.underlying23 rfl (infoR' _) ?_)
            | (refine wpList_load_blk rfl 23 _ rfl (w.heap.size) rfl (Rs.cells d) _ A.blk Try.underlying23 rfl (infoR' _) ?_)
            | (go_at_call 38; refine (D1.out _).mono ?_; rintro e Wx ⟨rfl, hbx⟩; replace A := A.on hbx; clear hbx)
            | (refine wpList_store_blk rfl 23 _ _ rfl Wx.heap.size zeroR.cells (Rs.cells s) 23 rfl rfl (Blk.new Wx _ _) rfl (infoR' _) (Rs.cells_one _) w.heap.size w A.bel.size (A.bel.alloc A.bel.size _) ?_; intro Wy y1 h2y h3y; replace A := At.more A h2y h3y; clear h2y h3y)
            | (refine wpList_store_blk rfl 23 _ _ rfl w.heap.size _ (Rs.cells s) 23 rfl rfl A.blk rfl (infoR' _) (Rs.cells_one _) w.heap.size w (Nat.le_refl _) A.bel ?_; intro Wy h1y h2y h3y; replace A := At.sto A h1y h2y h3y; clear h1y h2y h3y))
          go_roundw
          case rel => exact ⟨k + 1, hk1, by go_num, by rw [E2.out], by rw [E2.out]; omega, by rw [E2.out]; omega, by rw [hn]; exact A⟩
          case measure => simp [intOf]; omega
      · have hk3 : k = 3 := by omega
        subst hk3
        clear D
        generalize hk3 : r.ck 3 = k3 at *
        generalize hr3 : r.dn 3 = r3 at *
        go_wp2_with (first
          | (refine wpList_load_blk rfl 23 _ rfl (w.heap.size) rfl (Rs.cells r3) _ A.blk Try.underlying23 rfl (infoR' _) ?_)
          | (obtain ⟨rc, hr⟩ := A.res; refine wpList_store_blk rfl 23 _ _ rfl (w.heap.size + 1) rc.cells (Rs.cells r3) 23 rfl rfl hr rfl (infoR' _) (Rs.cells_one _) w.heap.size w (by omega) A.bel ?_; intro W5 hr5 hb5 ho5))
        refine bodyPost_ret (v := .tuple #[.agg (Rs.cells r3), .int .i64 k3]) (res_pair (b := w.heap.size + 1) (r := r3) Try.results18 rfl rfl hr5) rfl ⟨by first | rfl | (subst hr3; rfl) | (subst hk3; rfl) | (subst hr3 hk3; rfl), hb5⟩
  · rw [hq] at Q
    obtain ⟨q1, q2⟩ := Rs.quiet_dn hq
    rw [q1, q2]
    clear hq q1 q2
    have g0 : 0 ≤ r.dot := rv.d0
    have g1 : r.dot ≤ 340 := rv.d1
    clear rv
    go_enter Try.func18, Try.ntmps18
    go_upto_region 1 with fail
    have A := At.start w r
    change Code.wp _ _ _ _ ((w.alloc (.cells r.cells 23)).alloc (.cells zeroR.cells 23))
    generalize (w.alloc (.cells r.cells 23)).alloc (.cells zeroR.cells 23) = W0 at *
    go_upto_region 4 with (first
      | (refine wpList_load_blk rfl 23 _ rfl (w.heap.size) rfl (Rs.cells r) _ A.blk Try.underlying23 rfl (infoR' _) ?_)
      | (go_at_call 26; refine (V.out _).mono ?_; rintro e Wx ⟨rfl, hbx⟩; replace A := A.on hbx; clear hbx)
      | (go_at_call 37; refine (Q.out _).mono ?_; rintro e Wx ⟨rfl, hbx⟩; replace A := A.on hbx; clear hbx))
    obtain ⟨f0, f1, f2, f3, f4, f5, f6, ff⟩ := A.facts
    have A' : Hid _ := A
    clear A
    go_upto_region 5 with fail
    have A := A'.out.set (c' := { r with dot := r.dot + 3 }) 1 (.int .i64 (r.dot + 3)) rfl
    clear A' f0 f1 f2 f3 f4 f5 f6 ff
    generalize World.setCell _ _ _ = W2 at *
    generalize hr3 : ({ r with dot := r.dot + 3 } : Rs) = r3 at *
    go_wp2_with (first
      | (refine wpList_load_blk rfl 23 _ rfl (w.heap.size) rfl (Rs.cells r3) _ A.blk Try.underlying23 rfl (infoR' _) ?_)
      | (obtain ⟨rc, hr⟩ := A.res; refine wpList_store_blk rfl 23 _ _ rfl (w.heap.size + 1) rc.cells (Rs.cells r3) 23 rfl rfl hr rfl (infoR' _) (Rs.cells_one _) w.heap.size w (by omega) A.bel ?_; intro W5 hr5 hb5 ho5))
    refine bodyPost_ret (v := .tuple #[.agg (Rs.cells r3), .int .i64 0]) (res_pair (b := w.heap.size + 1) (r := r3) Try.results18 rfl rfl hr5) rfl ⟨by first | rfl | (subst hr3; rfl) | (subst hk3; rfl) | (subst hr3 hk3; rfl), hb5⟩
theorem tickV_any (r : Rs) (w : World) (o : r.Ok) :
    Calls Try.prog 18 #[.agg r.cells] w fun e w' => e = .returned (.tuple #[.agg (r.adv 1).cells, .int .i64 (r.advK 1)]) ∧ Below w.heap.size w w' := by
  cases hv : r.valid
  · exact tickV_false r w o hv
  · exact tickV_true r w o hv
end Go.Proofs.Ytlnpcbofebppcab
