/-
  The contract of the document's After; conditions: the numbers fit their kinds.
-/
import Derived.Test.YtlnpcbofebppcabQSt2
import Derived.Test.YtlnpcbofebppcabQRTick
import Derived.Test.YtlnpcbofebppcabQMath5
set_option linter.unusedSimpArgs false
set_option linter.unusedVariables false
namespace Go.Proofs.Ytlnpcbofebppcab
open Go.RowKit Classical
set_option maxRecDepth 20000 in
set_option maxHeartbeats 2000000 in
theorem raft_false (r : Rs) (k : Int) (w : World) (o : r.Ok) (k0 : -9223372036854775808 ≤ k) (k1 : k ≤ 9223372036854775807) (hv : r.valid = false) :
    Calls Try.prog 17 #[.agg r.cells, .int .i64 k] w fun e w' => e = .returned (.int .i64 (r.aftV k)) ∧ Below w.heap.size w w' := by
  have V : Hid (∀ W : World, Calls Try.prog 34 #[.agg r.cells] W fun e w' => e = .returned (.bool false) ∧ Below W.heap.size W w') := fun W => by
    have := rvalid_any r W o
    rwa [hv] at this
  have p1 : r.aftV k = 0 := by unfold Rs.aftV; rw [hv]; rfl
  rw [p1]
  clear p1 hv
  go_enter Try.func17, Try.ntmps17
  go_upto_region 1 with fail
  have s0 : St w [(w.heap.size, r)] (w.alloc (.cells r.cells 23)) := St.start w r
  generalize w.alloc (.cells r.cells 23) = W0 at *
  go_wp2_with (first
    | (refine wpList_load_blk rfl 23 _ rfl w.heap.size rfl (Rs.cells r) _ (s0.blk w.heap.size r (by simp)) Try.underlying23 rfl (infoR' _) ?_)
    | (go_at_call 34; refine (V.out _).mono ?_; rintro e Wx ⟨rfl, hbx⟩; replace s0 := s0.on hbx; clear hbx))
  go_ret
  exact ⟨rfl, s0.2⟩
set_option maxRecDepth 20000 in
set_option maxHeartbeats 2000000 in
theorem raft_true (r : Rs) (k : Int) (w : World) (o : r.Ok) (k0 : -9223372036854775808 ≤ k) (k1 : k ≤ 9223372036854775807) (hv : r.valid = true) :
    Calls Try.prog 17 #[.agg r.cells, .int .i64 k] w fun e w' => e = .returned (.int .i64 (r.aftV k)) ∧ Below w.heap.size w w' := by
  have rv := (Rs.valid_iff r).1 hv
  have V : Hid (∀ W : World, Calls Try.prog 34 #[.agg r.cells] W fun e w' => e = .returned (.bool true) ∧ Below W.heap.size W w') := fun W => by
    have := rvalid_any r W o
    rwa [hv] at this
  have p1 : r.aftV k = if r.draw = true ∧ 1 ≤ k ∧ k ≤ 1099511627776 then r.af k else 4611686018427387904 := by unfold Rs.aftV; rw [hv]; rfl
  rw [p1]
  clear p1 hv
  cases hd : r.draw
  · rw [if_neg (by simp)]
    go_enter Try.func17, Try.ntmps17
    go_upto_region 1 with fail
    have s0 : St w [(w.heap.size, r)] (w.alloc (.cells r.cells 23)) := St.start w r
    generalize w.alloc (.cells r.cells 23) = W0 at *
    go_upto_region 4 with (first
      | (refine wpList_load_blk rfl 23 _ rfl w.heap.size rfl (Rs.cells r) _ (s0.blk w.heap.size r (by simp)) Try.underlying23 rfl (infoR' _) ?_)
      | (go_at_call 34; refine (V.out _).mono ?_; rintro e Wx ⟨rfl, hbx⟩; replace s0 := s0.on hbx; clear hbx))
    have f5 : _ = some (Value.bool r.draw) := (s0.blk w.heap.size r (by simp)).cell 5
    go_wp2_with (first
      | (refine wpList_load_blk rfl 23 _ rfl w.heap.size rfl (Rs.cells r) _ (s0.blk w.heap.size r (by simp)) Try.underlying23 rfl (infoR' _) ?_))
    go_ret
    exact ⟨rfl, s0.2⟩
  by_cases hk : k < 1
  · rw [if_neg (by omega)]
    go_enter Try.func17, Try.ntmps17
    go_upto_region 1 with fail
    have s0 : St w [(w.heap.size, r)] (w.alloc (.cells r.cells 23)) := St.start w r
    generalize w.alloc (.cells r.cells 23) = W0 at *
    go_upto_region 4 with (first
      | (refine wpList_load_blk rfl 23 _ rfl w.heap.size rfl (Rs.cells r) _ (s0.blk w.heap.size r (by simp)) Try.underlying23 rfl (infoR' _) ?_)
      | (go_at_call 34; refine (V.out _).mono ?_; rintro e Wx ⟨rfl, hbx⟩; replace s0 := s0.on hbx; clear hbx))
    have f5 : _ = some (Value.bool r.draw) := (s0.blk w.heap.size r (by simp)).cell 5
    go_wp2_with (first
      | (refine wpList_load_blk rfl 23 _ rfl w.heap.size rfl (Rs.cells r) _ (s0.blk w.heap.size r (by simp)) Try.underlying23 rfl (infoR' _) ?_))
    go_ret
    exact ⟨rfl, s0.2⟩
  have hkb : decide (k < 1) = false := decide_eq_false hk
  by_cases hk2 : 1099511627776 < k
  · rw [if_neg (by omega)]
    go_enter Try.func17, Try.ntmps17
    go_upto_region 1 with fail
    have s0 : St w [(w.heap.size, r)] (w.alloc (.cells r.cells 23)) := St.start w r
    generalize w.alloc (.cells r.cells 23) = W0 at *
    go_upto_region 4 with (first
      | (refine wpList_load_blk rfl 23 _ rfl w.heap.size rfl (Rs.cells r) _ (s0.blk w.heap.size r (by simp)) Try.underlying23 rfl (infoR' _) ?_)
      | (go_at_call 34; refine (V.out _).mono ?_; rintro e Wx ⟨rfl, hbx⟩; replace s0 := s0.on hbx; clear hbx))
    have f5 : _ = some (Value.bool r.draw) := (s0.blk w.heap.size r (by simp)).cell 5
    go_wp2_with (first
      | (refine wpList_load_blk rfl 23 _ rfl w.heap.size rfl (Rs.cells r) _ (s0.blk w.heap.size r (by simp)) Try.underlying23 rfl (infoR' _) ?_))
    go_ret
    exact ⟨rfl, s0.2⟩
  have hkc : decide (1099511627776 < k) = false := decide_eq_false hk2
  rw [if_pos ⟨rfl, by omega, by omega⟩]
  have g1 : 1 ≤ k := by omega
  have g2 : k ≤ 1099511627776 := by omega
  clear hk hk2
  obtain ⟨q, hq⟩ : ∃ q, q = (k - 1) / 482 := ⟨_, rfl⟩
  have eaf : Hid (r.af k = q * 59561 + r.af (k - q * 482)) := by
    have := Rs.af_per r (k - q * 482) q
    rwa [show k - q * 482 + 482 * q = k by omega] at this
  have hq0 : 0 ≤ q := by omega
  have hq1 : q ≤ 2281144456 := by omega
  have hm0 : 1 ≤ k - q * 482 := by omega
  have hm1 : k - q * 482 ≤ 482 := by omega
  rw [hq] at eaf hq0 hq1 hm0 hm1
  clear hq q
  obtain ⟨m, hm⟩ : ∃ m, m = k - (k - 1) / 482 * 482 := ⟨_, rfl⟩
  have AI : Hid _ := fun (n : Nat) => Rs.af_iff rv hd m (by omega) n
  have AP := Rs.af_pos rv hd m (by omega)
  have AL := Rs.af_le rv hd m (by omega) (by omega)
  have KB : Hid (∀ j : Nat, 0 ≤ r.ck (3 * j) ∧ r.ck (3 * j) ≤ ((3 * j : Nat) : Int)) := fun j => Rs.ck_bd r (3 * j)
  have K3 : Hid (∀ j : Nat, r.ck (3 * (j + 1)) = r.ck (3 * j) + (r.dn (3 * j)).ck 3) := fun j => Rs.ck_add r (3 * j) 3
  have K1 : Hid (∀ j : Nat, 0 ≤ (r.dn (3 * j)).ck 3 ∧ (r.dn (3 * j)).ck 3 ≤ 1) := fun j => Rs.ck_three (Rs.dn_v rv (3 * j))
  have D : Hid (∀ (k : Nat) (W : World), Calls Try.prog 35 #[.agg (r.dn (3 * k)).cells] W fun e w' => e = .returned (.tuple #[.agg (r.dn (3 * (k + 1))).cells, .int .i64 ((r.dn (3 * k)).ck 3)]) ∧ Below W.heap.size W w') := fun k W => by
    have := rtick_any (r.dn (3 * k)) W (Rs.dn_v rv (3 * k))
    rwa [← Rs.dn_add r (3 * k) 3] at this
  clear rv
  rw [eaf.out]
  rw [← hm] at hm0 hm1 ⊢
  generalize hN : r.af m = N at *
  go_enter Try.func17, Try.ntmps17
  go_upto_region 1 with fail
  have s0 : St w [(w.heap.size, r)] (w.alloc (.cells r.cells 23)) := St.start w r
  generalize w.alloc (.cells r.cells 23) = W0 at *
  go_upto_region 4 with (first
    | (refine wpList_load_blk rfl 23 _ rfl w.heap.size rfl (Rs.cells r) _ (s0.blk w.heap.size r (by simp)) Try.underlying23 rfl (infoR' _) ?_)
    | (go_at_call 34; refine (V.out _).mono ?_; rintro e Wx ⟨rfl, hbx⟩; replace s0 := s0.on hbx; clear hbx))
  have f5 : _ = some (Value.bool r.draw) := (s0.blk w.heap.size r (by simp)).cell 5
  go_upto_region 8 with fail
  have hmi : k - (k - 1) / 482 * 482 = m := hm.symm
  clear hm
  go_wp2
  go_loopw [1, 7] (fun c i wr => ∃ j : Nat, (j : Int) ≤ N ∧ i = .int .i64 j ∧ c = .int .i64 (m - r.ck (3 * j)) ∧ Blk wr w.heap.size (r.dn (3 * j)).cells 23 ∧ Below w.heap.size w wr) (fun _ i _ => N.toNat - (intOf i).toNat)
  case atStart => exact ⟨0, by omega, rfl, by show _ = Value.int .i64 (m - 0); congr 1; omega, s0.blk w.heap.size r (by simp), s0.2⟩
  case round =>
    clear s0 f5 V hmi
    obtain ⟨j, hj, rfl, rfl, e1, e3⟩ := hrel
    have hai := AI.out j
    have kb := KB.out j
    by_cases hlt : (j : Int) < N
    · have hpos : 0 < m - r.ck (3 * j) := by omega
      have D1 : Hid _ := fun (W : World) => D.out j W
      have E3 : Hid _ := K3.out j
      have k1' := K1.out j
      have hk1 : ((j + 1 : Nat) : Int) ≤ N := by omega
      have hk2 : (j : Int) + 1 ≤ 9223372036854775807 := by omega
      clear D AI KB K3 K1 hai
      generalize hn : r.dn (3 * (j + 1)) = s at *
      generalize r.dn (3 * j) = d at *
      generalize r.ck (3 * j) = x at *
      generalize d.ck 3 = y at *
      obtain ⟨x0, x1⟩ := kb
      obtain ⟨y0, y1'⟩ := k1'
      replace x1 : x ≤ 1000000 := by omega
      obtain ⟨z, hz⟩ : ∃ z, z = m - x := ⟨_, rfl⟩
      have hz1 : z ≤ 482 := by omega
      have hz0 : 0 < z := by omega
      have hzb : decide (0 < z) = true := decide_eq_true hz0
      rw [← hz]
      have hzH : Hid (z = m - x) := hz
      clear hz hpos
      go_wp2_with (first
        | (refine wpList_load_blk rfl 23 _ rfl Wx.heap.size rfl (Rs.cells s) _ y1 Try.underlying23 rfl (infoR' _) ?_)
        | (refine wpList_load_blk rfl 23 _ rfl w.heap.size rfl (Rs.cells d) _ e1 Try.underlying23 rfl (infoR' _) ?_)
        | (go_at_call 35; refine (D1.out _).mono ?_; rintro e Wx ⟨rfl, hbx⟩; replace e1 := e1.below e1.lt hbx; replace e3 := e3.trans (hbx.mono e3.size); clear hbx)
        | (refine wpList_store_blk rfl 23 _ _ rfl Wx.heap.size zeroR.cells (Rs.cells s) 23 rfl rfl (Blk.new Wx _ _) rfl (infoR' _) (Rs.cells_one _) w.heap.size w e3.size (e3.alloc e3.size _) ?_; intro Wy y1 h2y h3y; replace e1 := h3y _ _ _ (Nat.ne_of_lt e1.lt) (e1.old _); replace e3 := h2y; clear h2y h3y)
        | (refine wpList_store_blk rfl 23 _ _ rfl w.heap.size _ (Rs.cells s) 23 rfl rfl e1 rfl (infoR' _) (Rs.cells_one _) w.heap.size w (Nat.le_refl _) e3 ?_; intro Wz z1 z2 z3; clear z3 e1 e3))
      go_roundw
      case rel => exact ⟨j + 1, hk1, by go_num, by have := hzH.out; rw [E3.out]; congr 1; omega, by rw [hn]; exact z1, z2⟩
      case measure => simp [intOf]; omega
    · have hkN : (j : Int) = N := by omega
      have hneg : ¬ 0 < m - r.ck (3 * j) := by omega
      have hnb : decide (0 < m - r.ck (3 * j)) = false := decide_eq_false hneg
      have eN : Hid ((j : Int) = N) := hkN
      clear D AI KB K3 K1 hai hkN
      generalize m - r.ck (3 * j) = z at *
      have hj1 : (j : Int) ≤ 59561 := by have := eN.out; omega
      go_wp2
      go_ret
      exact ⟨congrArg (fun x => Ending.returned (.int .i64 ((k - 1) / 482 * 59561 + x))) eN.out, e3⟩
theorem raft_any (r : Rs) (k : Int) (w : World) (o : r.Ok) (k0 : -9223372036854775808 ≤ k) (k1 : k ≤ 9223372036854775807) :
    Calls Try.prog 17 #[.agg r.cells, .int .i64 k] w fun e w' => e = .returned (.int .i64 (r.aftV k)) ∧ Below w.heap.size w w' := by
  cases hv : r.valid
  · exact raft_false r k w o k0 k1 hv
  · exact raft_true r k w o k0 k1 hv
end Go.Proofs.Ytlnpcbofebppcab
