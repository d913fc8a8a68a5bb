/-
  The contract of the document's Advance, its four ways; conditions: the numbers fit their kinds.
-/
import Derived.Test.YtlnpcbofebppcabQRAdv0
set_option linter.unusedSimpArgs false
set_option linter.unusedVariables false
namespace Go.Proofs.Ytlnpcbofebppcab
open Go.RowKit Classical
set_option maxHeartbeats 2000000 in
theorem radv_true_near (r : Rs) (n : Int) (w : World) (o : r.Ok) (n0 : -9223372036854775808 ≤ n) (n1 : n ≤ 9223372036854775807) (hn : 1 ≤ n) (hv : r.valid = true) (hd : r.draw = true) (hR : n ≤ 119122) :
    Calls Try.prog 19 #[.agg r.cells, .int .i64 n] w fun e w' => e = .returned (.tuple #[.agg (r.adv n).cells, .int .i64 (r.advK n)]) ∧ Below w.heap.size w w' := by
  have rv := (Rs.valid_iff r).1 hv
  have p1 : r.adv n = r.dn (3 * n.toNat) := by unfold Rs.adv; rw [if_pos hv]
  have p2 : r.advK n = 0 + r.ck (3 * n.toNat) := by unfold Rs.advK; rw [if_pos hv]; omega
  rw [p1, p2]
  clear p1 p2
  have hnb : decide (n < 1) = false := decide_eq_false (by omega)
  have hNz : 0 ≤ n := by omega
  have hNt : n ≤ 400000 := by omega
  have V : Hid (∀ W : World, Calls Try.prog 34 #[.agg r.cells] W fun e w' => e = .returned (.bool true) ∧ Below W.heap.size W w') := fun W => by
    have := rvalid_any r W o
    rwa [hv] at this
  have D : Hid (∀ (k : Nat) (W : World), Calls Try.prog 35 #[.agg (r.dn (3 * k)).cells] W fun e w' => e = .returned (.tuple #[.agg (r.dn (3 * (k + 1))).cells, .int .i64 ((r.dn (3 * k)).ck 3)]) ∧ Below W.heap.size W w') := fun k W => by
    have := rtick_any (r.dn (3 * k)) W (Rs.dn_v rv (3 * k))
    rwa [← Rs.dn_add r (3 * k) 3] at this
  have K3 : Hid (∀ k : Nat, r.ck (3 * (k + 1)) = r.ck (3 * k) + (r.dn (3 * k)).ck 3) := fun k => Rs.ck_add r (3 * k) 3
  have K1 : Hid (∀ k : Nat, 0 ≤ (r.dn (3 * k)).ck 3 ∧ (r.dn (3 * k)).ck 3 ≤ 1) := fun k => Rs.ck_three (Rs.dn_v rv (3 * k))
  have KB : Hid (∀ k : Nat, 0 ≤ r.ck (3 * k) ∧ r.ck (3 * k) ≤ ((3 * k : Nat) : Int)) := fun k => Rs.ck_bd r (3 * k)
  clear hv rv o
  go_enter Try.func19, Try.ntmps19
  go_upto_region 1 with fail
  have A := At.start w r
  change Code.wp _ _ _ _ ((w.alloc (.cells r.cells 23)).alloc (.cells zeroR.cells 23))
  generalize (w.alloc (.cells r.cells 23)).alloc (.cells zeroR.cells 23) = W0 at *
  have fd : W0.cell? ⟨w.heap.size, 5, none⟩ = some (.bool r.draw) := A.blk.cell 5
  go_wp2_with (first
    | (refine wpList_load_blk rfl 23 _ rfl (w.heap.size) rfl (Rs.cells r) _ A.blk Try.underlying23 rfl (infoR' _) ?_)
    | (go_at_call 34; refine (V.out _).mono ?_; rintro e Wx ⟨rfl, hbx⟩; replace fd := (hbx.cell (p := ⟨w.heap.size, 5, none⟩) A.blk.lt).trans fd; replace A := A.on hbx; clear hbx))
  go_loopw [1, 8] (fun i c wr => ∃ k : Nat, (k : Int) ≤ n ∧ i = .int .i64 (n - k) ∧ c = .int .i64 (0 + r.ck (3 * k)) ∧ At w wr w.heap.size (r.dn (3 * k))) (fun i _ _ => (intOf i).toNat)
  case atStart => exact ⟨0, by omega, by first | rfl | (congr 1; omega), by first | rfl | (show _ = Value.int .i64 (_ + 0); congr 1; omega), A⟩
  case round =>
    clear A V fd
    obtain ⟨k, hk, rfl, rfl, A⟩ := hrel
    by_cases hlt : (0 : Int) < n - k
    · have D1 : Hid _ := fun (W : World) => D.out k W
      have E3 : Hid _ := K3.out k
      have e1 := K1.out k
      have eb := KB.out k
      have hk1 : ((k + 1 : Nat) : Int) ≤ n := by omega
      clear D K3 K1 KB
      generalize hn : r.dn (3 * (k + 1)) = s at *
      generalize r.dn (3 * k) = d at *
      generalize r.ck (3 * k) = x at *
      generalize d.ck 3 = y at *
      obtain ⟨y0, y1'⟩ := e1
      obtain ⟨x0, x1'⟩ := eb
      replace x1' : x ≤ 1200000 := by omega
      go_wp2_with (first
        | (refine wpList_load_blk rfl 23 _ rfl (Wx.heap.size) rfl (Rs.cells s) _ y1 Try.underlying23 rfl (infoR' _) ?_)
        | (refine wpList_load_blk rfl 23 _ rfl (w.heap.size) rfl (Rs.cells d) _ A.blk Try.underlying23 rfl (infoR' _) ?_)
        | (go_at_call 35; refine (D1.out _).mono ?_; rintro e Wx ⟨rfl, hbx⟩; replace A := A.on hbx; clear hbx)
        | (refine wpList_store_blk rfl 23 _ _ rfl Wx.heap.size zeroR.cells (Rs.cells s) 23 rfl rfl (Blk.new Wx _ _) rfl (infoR' _) (Rs.cells_one _) w.heap.size w A.bel.size (A.bel.alloc A.bel.size _) ?_; intro Wy y1 h2y h3y; replace A := At.more A h2y h3y; clear h2y h3y)
        | (refine wpList_store_blk rfl 23 _ _ rfl w.heap.size _ (Rs.cells s) 23 rfl rfl A.blk rfl (infoR' _) (Rs.cells_one _) w.heap.size w (Nat.le_refl _) A.bel ?_; intro Wy h1y h2y h3y; replace A := At.sto A h1y h2y h3y; clear h1y h2y h3y))
      go_roundw
      case rel => exact ⟨k + 1, hk1, by go_num, by rw [E3.out]; first | rfl | (congr 1; omega), by rw [hn]; exact A⟩
      case measure => simp [intOf]; omega
    · have hkN : k = n.toNat := by omega
      have hz0 : decide ((0 : Int) < n - k) = false := decide_eq_false hlt
      subst hkN
      clear D K3 K1 KB
      generalize hck : 0 + r.ck (3 * n.toNat) = kk at *
      generalize hr3 : r.dn (3 * n.toNat) = r3 at *
      go_wp2_with (first
        | (refine wpList_load_blk rfl 23 _ rfl (w.heap.size) rfl (Rs.cells r3) _ A.blk Try.underlying23 rfl (infoR' _) ?_)
        | (obtain ⟨rc, hr⟩ := A.res; refine wpList_store_blk rfl 23 _ _ rfl (w.heap.size + 1) rc.cells (Rs.cells r3) 23 rfl rfl hr rfl (infoR' _) (Rs.cells_one _) w.heap.size w (by omega) A.bel ?_; intro W5 hr5 hb5 ho5))
      refine bodyPost_ret (v := .tuple #[.agg (Rs.cells r3), .int .i64 kk]) (res_pair (b := w.heap.size + 1) (r := r3) Try.results19 rfl rfl hr5) rfl ⟨by subst hr3 hck; rfl, hb5⟩
set_option maxHeartbeats 2000000 in
theorem radv_true_far (r : Rs) (n : Int) (w : World) (o : r.Ok) (n0 : -9223372036854775808 ≤ n) (n1 : n ≤ 9223372036854775807) (hn : 1 ≤ n) (hv : r.valid = true) (hd : r.draw = true) (hR : 119122 < n) :
    Calls Try.prog 19 #[.agg r.cells, .int .i64 n] w fun e w' => e = .returned (.tuple #[.agg (r.adv n).cells, .int .i64 (r.advK n)]) ∧ Below w.heap.size w w' := by
  have rv := (Rs.valid_iff r).1 hv
  have hq0 : 0 ≤ ((n - 59561) / 59561) := by omega
  have hN0 : 29781 ≤ (n - ((n - 59561) / 59561) * 59561) := by omega
  have p1 : r.adv n = r.dn (3 * (n - ((n - 59561) / 59561) * 59561).toNat) := by
    have := Rs.dn_farD rv hd (n - ((n - 59561) / 59561) * 59561) ((n - 59561) / 59561) hN0 hq0
    unfold Rs.adv
    rw [if_pos hv, ← this, show (n - ((n - 59561) / 59561) * 59561) + ((n - 59561) / 59561) * 59561 = n by omega]
  have p2 : r.advK n = (((n - 59561) / 59561) * 482) + r.ck (3 * (n - ((n - 59561) / 59561) * 59561).toNat) := by
    have := Rs.ck_farD rv hd (n - ((n - 59561) / 59561) * 59561) ((n - 59561) / 59561) (by omega) hq0
    unfold Rs.advK
    rw [if_pos hv, ← this, show (n - ((n - 59561) / 59561) * 59561) + ((n - 59561) / 59561) * 59561 = n by omega]
  rw [p1, p2]
  clear p1 p2
  have hnb : decide (n < 1) = false := decide_eq_false (by omega)
  have hNz : 0 ≤ (n - ((n - 59561) / 59561) * 59561) := by omega
  have hNt : (n - ((n - 59561) / 59561) * 59561) ≤ 400000 := by omega
  have hqb : ((n - 59561) / 59561) ≤ 200000000000000 := by omega
  have V : Hid (∀ W : World, Calls Try.prog 34 #[.agg r.cells] W fun e w' => e = .returned (.bool true) ∧ Below W.heap.size W w') := fun W => by
    have := rvalid_any r W o
    rwa [hv] at this
  have D : Hid (∀ (k : Nat) (W : World), Calls Try.prog 35 #[.agg (r.dn (3 * k)).cells] W fun e w' => e = .returned (.tuple #[.agg (r.dn (3 * (k + 1))).cells, .int .i64 ((r.dn (3 * k)).ck 3)]) ∧ Below W.heap.size W w') := fun k W => by
    have := rtick_any (r.dn (3 * k)) W (Rs.dn_v rv (3 * k))
    rwa [← Rs.dn_add r (3 * k) 3] at this
  have K3 : Hid (∀ k : Nat, r.ck (3 * (k + 1)) = r.ck (3 * k) + (r.dn (3 * k)).ck 3) := fun k => Rs.ck_add r (3 * k) 3
  have K1 : Hid (∀ k : Nat, 0 ≤ (r.dn (3 * k)).ck 3 ∧ (r.dn (3 * k)).ck 3 ≤ 1) := fun k => Rs.ck_three (Rs.dn_v rv (3 * k))
  have KB : Hid (∀ k : Nat, 0 ≤ r.ck (3 * k) ∧ r.ck (3 * k) ≤ ((3 * k : Nat) : Int)) := fun k => Rs.ck_bd r (3 * k)
  clear hv rv o
  go_enter Try.func19, Try.ntmps19
  go_upto_region 1 with fail
  have A := At.start w r
  change Code.wp _ _ _ _ ((w.alloc (.cells r.cells 23)).alloc (.cells zeroR.cells 23))
  generalize (w.alloc (.cells r.cells 23)).alloc (.cells zeroR.cells 23) = W0 at *
  have fd : W0.cell? ⟨w.heap.size, 5, none⟩ = some (.bool r.draw) := A.blk.cell 5
  go_wp2_with (first
    | (refine wpList_load_blk rfl 23 _ rfl (w.heap.size) rfl (Rs.cells r) _ A.blk Try.underlying23 rfl (infoR' _) ?_)
    | (go_at_call 34; refine (V.out _).mono ?_; rintro e Wx ⟨rfl, hbx⟩; replace fd := (hbx.cell (p := ⟨w.heap.size, 5, none⟩) A.blk.lt).trans fd; replace A := A.on hbx; clear hbx))
  go_loopw [1, 8] (fun i c wr => ∃ k : Nat, (k : Int) ≤ (n - ((n - 59561) / 59561) * 59561) ∧ i = .int .i64 ((n - ((n - 59561) / 59561) * 59561) - k) ∧ c = .int .i64 ((((n - 59561) / 59561) * 482) + r.ck (3 * k)) ∧ At w wr w.heap.size (r.dn (3 * k))) (fun i _ _ => (intOf i).toNat)
  case atStart => exact ⟨0, by omega, by first | rfl | (congr 1; omega), by first | rfl | (show _ = Value.int .i64 (_ + 0); congr 1; omega), A⟩
  case round =>
    clear A V fd
    obtain ⟨k, hk, rfl, rfl, A⟩ := hrel
    by_cases hlt : (0 : Int) < (n - ((n - 59561) / 59561) * 59561) - k
    · have D1 : Hid _ := fun (W : World) => D.out k W
      have E3 : Hid _ := K3.out k
      have e1 := K1.out k
      have eb := KB.out k
      have hk1 : ((k + 1 : Nat) : Int) ≤ (n - ((n - 59561) / 59561) * 59561) := by omega
      clear D K3 K1 KB
      generalize hn : r.dn (3 * (k + 1)) = s at *
      generalize r.dn (3 * k) = d at *
      generalize r.ck (3 * k) = x at *
      generalize d.ck 3 = y at *
      obtain ⟨y0, y1'⟩ := e1
      obtain ⟨x0, x1'⟩ := eb
      replace x1' : x ≤ 1200000 := by omega
      go_wp2_with (first
        | (refine wpList_load_blk rfl 23 _ rfl (Wx.heap.size) rfl (Rs.cells s) _ y1 Try.underlying23 rfl (infoR' _) ?_)
        | (refine wpList_load_blk rfl 23 _ rfl (w.heap.size) rfl (Rs.cells d) _ A.blk Try.underlying23 rfl (infoR' _) ?_)
        | (go_at_call 35; refine (D1.out _).mono ?_; rintro e Wx ⟨rfl, hbx⟩; replace A := A.on hbx; clear hbx)
        | (refine wpList_store_blk rfl 23 _ _ rfl Wx.heap.size zeroR.cells (Rs.cells s) 23 rfl rfl (Blk.new Wx _ _) rfl (infoR' _) (Rs.cells_one _) w.heap.size w A.bel.size (A.bel.alloc A.bel.size _) ?_; intro Wy y1 h2y h3y; replace A := At.more A h2y h3y; clear h2y h3y)
        | (refine wpList_store_blk rfl 23 _ _ rfl w.heap.size _ (Rs.cells s) 23 rfl rfl A.blk rfl (infoR' _) (Rs.cells_one _) w.heap.size w (Nat.le_refl _) A.bel ?_; intro Wy h1y h2y h3y; replace A := At.sto A h1y h2y h3y; clear h1y h2y h3y))
      go_roundw
      case rel => exact ⟨k + 1, hk1, by go_num, by rw [E3.out]; first | rfl | (congr 1; omega), by rw [hn]; exact A⟩
      case measure => simp [intOf]; omega
    · have hkN : k = (n - ((n - 59561) / 59561) * 59561).toNat := by omega
      have hz0 : decide ((0 : Int) < (n - ((n - 59561) / 59561) * 59561) - k) = false := decide_eq_false hlt
      subst hkN
      clear D K3 K1 KB
      generalize hck : (((n - 59561) / 59561) * 482) + r.ck (3 * (n - ((n - 59561) / 59561) * 59561).toNat) = kk at *
      generalize hr3 : r.dn (3 * (n - ((n - 59561) / 59561) * 59561).toNat) = r3 at *
      go_wp2_with (first
        | (refine wpList_load_blk rfl 23 _ rfl (w.heap.size) rfl (Rs.cells r3) _ A.blk Try.underlying23 rfl (infoR' _) ?_)
        | (obtain ⟨rc, hr⟩ := A.res; refine wpList_store_blk rfl 23 _ _ rfl (w.heap.size + 1) rc.cells (Rs.cells r3) 23 rfl rfl hr rfl (infoR' _) (Rs.cells_one _) w.heap.size w (by omega) A.bel ?_; intro W5 hr5 hb5 ho5))
      refine bodyPost_ret (v := .tuple #[.agg (Rs.cells r3), .int .i64 kk]) (res_pair (b := w.heap.size + 1) (r := r3) Try.results19 rfl rfl hr5) rfl ⟨by subst hr3 hck; rfl, hb5⟩
set_option maxHeartbeats 2000000 in
theorem radv_false_near (r : Rs) (n : Int) (w : World) (o : r.Ok) (n0 : -9223372036854775808 ≤ n) (n1 : n ≤ 9223372036854775807) (hn : 1 ≤ n) (hv : r.valid = true) (hd : r.draw = false) (hR : n ≤ 357368) :
    Calls Try.prog 19 #[.agg r.cells, .int .i64 n] w fun e w' => e = .returned (.tuple #[.agg (r.adv n).cells, .int .i64 (r.advK n)]) ∧ Below w.heap.size w w' := by
  have rv := (Rs.valid_iff r).1 hv
  have p1 : r.adv n = r.dn (3 * n.toNat) := by unfold Rs.adv; rw [if_pos hv]
  have p2 : r.advK n = 0 + r.ck (3 * n.toNat) := by unfold Rs.advK; rw [if_pos hv]; omega
  rw [p1, p2]
  clear p1 p2
  have hnb : decide (n < 1) = false := decide_eq_false (by omega)
  have hNz : 0 ≤ n := by omega
  have hNt : n ≤ 400000 := by omega
  have V : Hid (∀ W : World, Calls Try.prog 34 #[.agg r.cells] W fun e w' => e = .returned (.bool true) ∧ Below W.heap.size W w') := fun W => by
    have := rvalid_any r W o
    rwa [hv] at this
  have D : Hid (∀ (k : Nat) (W : World), Calls Try.prog 35 #[.agg (r.dn (3 * k)).cells] W fun e w' => e = .returned (.tuple #[.agg (r.dn (3 * (k + 1))).cells, .int .i64 ((r.dn (3 * k)).ck 3)]) ∧ Below W.heap.size W w') := fun k W => by
    have := rtick_any (r.dn (3 * k)) W (Rs.dn_v rv (3 * k))
    rwa [← Rs.dn_add r (3 * k) 3] at this
  have K3 : Hid (∀ k : Nat, r.ck (3 * (k + 1)) = r.ck (3 * k) + (r.dn (3 * k)).ck 3) := fun k => Rs.ck_add r (3 * k) 3
  have K1 : Hid (∀ k : Nat, 0 ≤ (r.dn (3 * k)).ck 3 ∧ (r.dn (3 * k)).ck 3 ≤ 1) := fun k => Rs.ck_three (Rs.dn_v rv (3 * k))
  have KB : Hid (∀ k : Nat, 0 ≤ r.ck (3 * k) ∧ r.ck (3 * k) ≤ ((3 * k : Nat) : Int)) := fun k => Rs.ck_bd r (3 * k)
  clear hv rv o
  go_enter Try.func19, Try.ntmps19
  go_upto_region 1 with fail
  have A := At.start w r
  change Code.wp _ _ _ _ ((w.alloc (.cells r.cells 23)).alloc (.cells zeroR.cells 23))
  generalize (w.alloc (.cells r.cells 23)).alloc (.cells zeroR.cells 23) = W0 at *
  have fd : W0.cell? ⟨w.heap.size, 5, none⟩ = some (.bool r.draw) := A.blk.cell 5
  go_wp2_with (first
    | (refine wpList_load_blk rfl 23 _ rfl (w.heap.size) rfl (Rs.cells r) _ A.blk Try.underlying23 rfl (infoR' _) ?_)
    | (go_at_call 34; refine (V.out _).mono ?_; rintro e Wx ⟨rfl, hbx⟩; replace fd := (hbx.cell (p := ⟨w.heap.size, 5, none⟩) A.blk.lt).trans fd; replace A := A.on hbx; clear hbx))
  go_loopw [1, 8] (fun i c wr => ∃ k : Nat, (k : Int) ≤ n ∧ i = .int .i64 (n - k) ∧ c = .int .i64 (0 + r.ck (3 * k)) ∧ At w wr w.heap.size (r.dn (3 * k))) (fun i _ _ => (intOf i).toNat)
  case atStart => exact ⟨0, by omega, by first | rfl | (congr 1; omega), by first | rfl | (show _ = Value.int .i64 (_ + 0); congr 1; omega), A⟩
  case round =>
    clear A V fd
    obtain ⟨k, hk, rfl, rfl, A⟩ := hrel
    by_cases hlt : (0 : Int) < n - k
    · have D1 : Hid _ := fun (W : World) => D.out k W
      have E3 : Hid _ := K3.out k
      have e1 := K1.out k
      have eb := KB.out k
      have hk1 : ((k + 1 : Nat) : Int) ≤ n := by omega
      clear D K3 K1 KB
      generalize hn : r.dn (3 * (k + 1)) = s at *
      generalize r.dn (3 * k) = d at *
      generalize r.ck (3 * k) = x at *
      generalize d.ck 3 = y at *
      obtain ⟨y0, y1'⟩ := e1
      obtain ⟨x0, x1'⟩ := eb
      replace x1' : x ≤ 1200000 := by omega
      go_wp2_with (first
        | (refine wpList_load_blk rfl 23 _ rfl (Wx.heap.size) rfl (Rs.cells s) _ y1 Try.underlying23 rfl (infoR' _) ?_)
        | (refine wpList_load_blk rfl 23 _ rfl (w.heap.size) rfl (Rs.cells d) _ A.blk Try.underlying23 rfl (infoR' _) ?_)
        | (go_at_call 35; refine (D1.out _).mono ?_; rintro e Wx ⟨rfl, hbx⟩; replace A := A.on hbx; clear hbx)
        | (refine wpList_store_blk rfl 23 _ _ rfl Wx.heap.size zeroR.cells (Rs.cells s) 23 rfl rfl (Blk.new Wx _ _) rfl (infoR' _) (Rs.cells_one _) w.heap.size w A.bel.size (A.bel.alloc A.bel.size _) ?_; intro Wy y1 h2y h3y; replace A := At.more A h2y h3y; clear h2y h3y)
        | (refine wpList_store_blk rfl 23 _ _ rfl w.heap.size _ (Rs.cells s) 23 rfl rfl A.blk rfl (infoR' _) (Rs.cells_one _) w.heap.size w (Nat.le_refl _) A.bel ?_; intro Wy h1y h2y h3y; replace A := At.sto A h1y h2y h3y; clear h1y h2y h3y))
      go_roundw
      case rel => exact ⟨k + 1, hk1, by go_num, by rw [E3.out]; first | rfl | (congr 1; omega), by rw [hn]; exact A⟩
      case measure => simp [intOf]; omega
    · have hkN : k = n.toNat := by omega
      have hz0 : decide ((0 : Int) < n - k) = false := decide_eq_false hlt
      subst hkN
      clear D K3 K1 KB
      generalize hck : 0 + r.ck (3 * n.toNat) = kk at *
      generalize hr3 : r.dn (3 * n.toNat) = r3 at *
      go_wp2_with (first
        | (refine wpList_load_blk rfl 23 _ rfl (w.heap.size) rfl (Rs.cells r3) _ A.blk Try.underlying23 rfl (infoR' _) ?_)
        | (obtain ⟨rc, hr⟩ := A.res; refine wpList_store_blk rfl 23 _ _ rfl (w.heap.size + 1) rc.cells (Rs.cells r3) 23 rfl rfl hr rfl (infoR' _) (Rs.cells_one _) w.heap.size w (by omega) A.bel ?_; intro W5 hr5 hb5 ho5))
      refine bodyPost_ret (v := .tuple #[.agg (Rs.cells r3), .int .i64 kk]) (res_pair (b := w.heap.size + 1) (r := r3) Try.results19 rfl rfl hr5) rfl ⟨by subst hr3 hck; rfl, hb5⟩
set_option maxHeartbeats 2000000 in
theorem radv_false_far (r : Rs) (n : Int) (w : World) (o : r.Ok) (n0 : -9223372036854775808 ≤ n) (n1 : n ≤ 9223372036854775807) (hn : 1 ≤ n) (hv : r.valid = true) (hd : r.draw = false) (hR : 357368 < n) :
    Calls Try.prog 19 #[.agg r.cells, .int .i64 n] w fun e w' => e = .returned (.tuple #[.agg (r.adv n).cells, .int .i64 (r.advK n)]) ∧ Below w.heap.size w w' := by
  have rv := (Rs.valid_iff r).1 hv
  have hq0 : 0 ≤ ((n - 178684) / 178684) := by omega
  have hN0 : 29781 ≤ (n - ((n - 178684) / 178684) * 178684) := by omega
  have p1 : r.adv n = r.dn (3 * (n - ((n - 178684) / 178684) * 178684).toNat) := by
    have := Rs.dn_far rv (n - ((n - 178684) / 178684) * 178684) ((n - 178684) / 178684) hN0 hq0
    have ep : r.pair = 178684 := by unfold Rs.pair; rw [hd]; rfl
    rw [ep] at this
    unfold Rs.adv
    rw [if_pos hv, ← this, show (n - ((n - 178684) / 178684) * 178684) + ((n - 178684) / 178684) * 178684 = n by omega]
  have p2 : r.advK n = 0 + r.ck (3 * (n - ((n - 178684) / 178684) * 178684).toNat) := by unfold Rs.advK; rw [if_pos hv, Rs.ck_no hd, Rs.ck_no hd]; rfl
  rw [p1, p2]
  clear p1 p2
  have hnb : decide (n < 1) = false := decide_eq_false (by omega)
  have hNz : 0 ≤ (n - ((n - 178684) / 178684) * 178684) := by omega
  have hNt : (n - ((n - 178684) / 178684) * 178684) ≤ 400000 := by omega
  have hqb : ((n - 178684) / 178684) ≤ 200000000000000 := by omega
  have V : Hid (∀ W : World, Calls Try.prog 34 #[.agg r.cells] W fun e w' => e = .returned (.bool true) ∧ Below W.heap.size W w') := fun W => by
    have := rvalid_any r W o
    rwa [hv] at this
  have D : Hid (∀ (k : Nat) (W : World), Calls Try.prog 35 #[.agg (r.dn (3 * k)).cells] W fun e w' => e = .returned (.tuple #[.agg (r.dn (3 * (k + 1))).cells, .int .i64 ((r.dn (3 * k)).ck 3)]) ∧ Below W.heap.size W w') := fun k W => by
    have := rtick_any (r.dn (3 * k)) W (Rs.dn_v rv (3 * k))
    rwa [← Rs.dn_add r (3 * k) 3] at this
  have K3 : Hid (∀ k : Nat, r.ck (3 * (k + 1)) = r.ck (3 * k) + (r.dn (3 * k)).ck 3) := fun k => Rs.ck_add r (3 * k) 3
  have K1 : Hid (∀ k : Nat, 0 ≤ (r.dn (3 * k)).ck 3 ∧ (r.dn (3 * k)).ck 3 ≤ 1) := fun k => Rs.ck_three (Rs.dn_v rv (3 * k))
  have KB : Hid (∀ k : Nat, 0 ≤ r.ck (3 * k) ∧ r.ck (3 * k) ≤ ((3 * k : Nat) : Int)) := fun k => Rs.ck_bd r (3 * k)
  clear hv rv o
  go_enter Try.func19, Try.ntmps19
  go_upto_region 1 with fail
  have A := At.start w r
  change Code.wp _ _ _ _ ((w.alloc (.cells r.cells 23)).alloc (.cells zeroR.cells 23))
  generalize (w.alloc (.cells r.cells 23)).alloc (.cells zeroR.cells 23) = W0 at *
  have fd : W0.cell? ⟨w.heap.size, 5, none⟩ = some (.bool r.draw) := A.blk.cell 5
  go_wp2_with (first
    | (refine wpList_load_blk rfl 23 _ rfl (w.heap.size) rfl (Rs.cells r) _ A.blk Try.underlying23 rfl (infoR' _) ?_)
    | (go_at_call 34; refine (V.out _).mono ?_; rintro e Wx ⟨rfl, hbx⟩; replace fd := (hbx.cell (p := ⟨w.heap.size, 5, none⟩) A.blk.lt).trans fd; replace A := A.on hbx; clear hbx))
  go_loopw [1, 8] (fun i c wr => ∃ k : Nat, (k : Int) ≤ (n - ((n - 178684) / 178684) * 178684) ∧ i = .int .i64 ((n - ((n - 178684) / 178684) * 178684) - k) ∧ c = .int .i64 (0 + r.ck (3 * k)) ∧ At w wr w.heap.size (r.dn (3 * k))) (fun i _ _ => (intOf i).toNat)
  case atStart => exact ⟨0, by omega, by first | rfl | (congr 1; omega), by first | rfl | (show _ = Value.int .i64 (_ + 0); congr 1; omega), A⟩
  case round =>
    clear A V fd
    obtain ⟨k, hk, rfl, rfl, A⟩ := hrel
    by_cases hlt : (0 : Int) < (n - ((n - 178684) / 178684) * 178684) - k
    · have D1 : Hid _ := fun (W : World) => D.out k W
      have E3 : Hid _ := K3.out k
      have e1 := K1.out k
      have eb := KB.out k
      have hk1 : ((k + 1 : Nat) : Int) ≤ (n - ((n - 178684) / 178684) * 178684) := by omega
      clear D K3 K1 KB
      generalize hn : r.dn (3 * (k + 1)) = s at *
      generalize r.dn (3 * k) = d at *
      generalize r.ck (3 * k) = x at *
      generalize d.ck 3 = y at *
      obtain ⟨y0, y1'⟩ := e1
      obtain ⟨x0, x1'⟩ := eb
      replace x1' : x ≤ 1200000 := by omega
      go_wp2_with (first
        | (refine wpList_load_blk rfl 23 _ rfl (Wx.heap.size) rfl (Rs.cells s) _ y1 Try.underlying23 rfl (infoR' _) ?_)
        | (refine wpList_load_blk rfl 23 _ rfl (w.heap.size) rfl (Rs.cells d) _ A.blk Try.underlying23 rfl (infoR' _) ?_)
        | (go_at_call 35; refine (D1.out _).mono ?_; rintro e Wx ⟨rfl, hbx⟩; replace A := A.on hbx; clear hbx)
        | (refine wpList_store_blk rfl 23 _ _ rfl Wx.heap.size zeroR.cells (Rs.cells s) 23 rfl rfl (Blk.new Wx _ _) rfl (infoR' _) (Rs.cells_one _) w.heap.size w A.bel.size (A.bel.alloc A.bel.size _) ?_; intro Wy y1 h2y h3y; replace A := At.more A h2y h3y; clear h2y h3y)
        | (refine wpList_store_blk rfl 23 _ _ rfl w.heap.size _ (Rs.cells s) 23 rfl rfl A.blk rfl (infoR' _) (Rs.cells_one _) w.heap.size w (Nat.le_refl _) A.bel ?_; intro Wy h1y h2y h3y; replace A := At.sto A h1y h2y h3y; clear h1y h2y h3y))
      go_roundw
      case rel => exact ⟨k + 1, hk1, by go_num, by rw [E3.out]; first | rfl | (congr 1; omega), by rw [hn]; exact A⟩
      case measure => simp [intOf]; omega
    · have hkN : k = (n - ((n - 178684) / 178684) * 178684).toNat := by omega
      have hz0 : decide ((0 : Int) < (n - ((n - 178684) / 178684) * 178684) - k) = false := decide_eq_false hlt
      subst hkN
      clear D K3 K1 KB
      generalize hck : 0 + r.ck (3 * (n - ((n - 178684) / 178684) * 178684).toNat) = kk at *
      generalize hr3 : r.dn (3 * (n - ((n - 178684) / 178684) * 178684).toNat) = r3 at *
      go_wp2_with (first
        | (refine wpList_load_blk rfl 23 _ rfl (w.heap.size) rfl (Rs.cells r3) _ A.blk Try.underlying23 rfl (infoR' _) ?_)
        | (obtain ⟨rc, hr⟩ := A.res; refine wpList_store_blk rfl 23 _ _ rfl (w.heap.size + 1) rc.cells (Rs.cells r3) 23 rfl rfl hr rfl (infoR' _) (Rs.cells_one _) w.heap.size w (by omega) A.bel ?_; intro W5 hr5 hb5 ho5))
      refine bodyPost_ret (v := .tuple #[.agg (Rs.cells r3), .int .i64 kk]) (res_pair (b := w.heap.size + 1) (r := r3) Try.results19 rfl rfl hr5) rfl ⟨by subst hr3 hck; rfl, hb5⟩
end Go.Proofs.Ytlnpcbofebppcab
