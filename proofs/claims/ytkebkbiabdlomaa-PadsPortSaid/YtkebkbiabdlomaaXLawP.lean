/-
  The law PadsPort returns true; conditions: those of the list.
-/
import Derived.Test.YtkebkbiabdlomaaXSt
import Derived.Test.YtkebkbiabdlomaaXArg
import Derived.Test.YtkebkbiabdlomaaXPort
import Derived.Test.YtkebkbiabdlomaaXRPort
set_option linter.unusedSimpArgs false
set_option linter.unusedVariables false
namespace Go.Proofs.Ytkebkbiabdlomaa
open Go.RowKit Classical
set_option maxRecDepth 100000 in
set_option maxHeartbeats 2000000 in
theorem law_padsPort (p : Pd) (a : Option Addr) (len cap : Nat) (q : Nat → MvE) (b o : Nat) (w : World) (op : p.Ok) (hlen : len ≤ 9223372036854775807) (hS : Mv w a len q b o) :
    Calls Try.prog 5 #[.agg p.cells, .slice a len cap] w fun e w' => e = .returned (.bool true) ∧ Below w.heap.size w w' := by
  go_enter Try.func5, Try.ntmps5
  go_upto_region 1 with fail
  have s0 : St w [(w.heap.size, p)] (w.alloc (.cells p.cells 25)) := St.start w p
  change Code.wp _ _ _ _ (w.alloc (.cells p.cells 25))
  generalize hW0 : w.alloc (.cells p.cells 25) = W0 at *
  have hsz : Hid (W0.heap.size = w.heap.size + 1) := by unfold Hid; rw [← hW0, World.size_alloc]
  clear hW0
  go_upto_region 3 with (first
    | (refine wpList_load_blk rfl 25 _ rfl (w.heap.size) rfl (Pd.cells p) _ (s0.blk (w.heap.size) p (by simp)) Try.underlying25 rfl (infoP' _) ?_)
    | (refine wpList_store_blk rfl 25 _ _ rfl W0.heap.size zeroP.cells (Pd.cells p) 25 rfl rfl (Blk.new W0 _ _) rfl (infoP' _) (Pd.cells_one _) w.heap.size w s0.2.size (s0.2.alloc s0.2.size _) ?_; intro Wy by1 hby hoy; replace s0 := St.more s0 by1 hby hoy; clear by1 hby hoy))
  simp only [hsz.out] at s0 ⊢
  clear hsz
  replace s0 : St w [(w.heap.size, p), (w.heap.size + 1, p)] _ := St.sub s0 (by simp)
  go_loopw [6] (fun i wr => ∃ (k : Nat) (ra : Pd), k ≤ len ∧ i = .int .i64 k ∧ ra.Ok ∧ St w [(w.heap.size, ra), (w.heap.size + 1, ra)] wr) (fun i _ => len - (intOf i).toNat)
  case atStart => exact ⟨0, p, by omega, rfl, op, s0⟩
  case round =>
    clear s0 op
    obtain ⟨k, ra, hk, rfl, va, s0⟩ := hrel
    by_cases hlt : k < len
    · obtain ⟨rfl, hb⟩ := hS.at_ (by omega)
      have c0 := hS.cells k hlt
      obtain ⟨k0, k1, a0, a1, b0, b1, p0, p1⟩ := hS.ok k hlt
      have hR : Hid (wr.rangeAt b (o + k * 4) (q k).cells.toList) := fun j v hv => (s0.2.cell (p := ⟨b, o + k * 4 + j, none⟩) hb).trans (c0 j v hv)
      clear c0
      generalize q k = x at *
      obtain ⟨kd, va1, vb1, pt⟩ := x
      simp only at k0 k1 a0 a1 b0 b1 p0 p1
      have hR2 : Hid (wr.rangeAt b (o + k * 4) [.int .i64 kd, .int .u8 va1, .int .u8 vb1, .int .i64 pt]) := hR
      clear hR
      have hSH : Hid (Mv _ _ _ _ _ _) := hS
      clear hS
      go_upto_region 6 with (refine wpList_load_mid rfl 36 _ rfl b (o + k * 4) rfl [.int .i64 kd, .int .u8 va1, .int .u8 vb1, .int .i64 pt] _ hR2.out Try.underlying36 rfl (by kernel_rfl) ?_)
      have bo : Blk (wr.alloc (.cells #[.int .i64 kd, .int .u8 va1, .int .u8 vb1, .int .i64 pt] 36)) wr.heap.size #[.int .i64 kd, .int .u8 va1, .int .u8 vb1, .int .i64 pt] 36 := Blk.new wr _ _
      have hnb : w.heap.size + 1 < wr.heap.size := (s0.blk (w.heap.size + 1) ra (by simp)).lt
      replace s0 := s0.on ((Below.refl _ _).alloc (Nat.le_refl _) (.cells #[.int .i64 kd, .int .u8 va1, .int .u8 vb1, .int .i64 pt] 36))
      generalize wr.alloc (.cells #[.int .i64 kd, .int .u8 va1, .int .u8 vb1, .int .i64 pt] 36) = W1 at *
      generalize wr.heap.size = nb at *
      have g0 : W1.cell? ⟨nb, 0, none⟩ = some (.int .i64 kd) := bo.cell 0
      clear hR2
      go_upto_block 2 with fail
      go_cut [] (fun wx => ∃ (rn : Pd), rn.Ok ∧ St w [(w.heap.size, rn), (w.heap.size + 1, rn)] wx)
      case first =>
        by_cases hkd : kd = 0
        · subst hkd
          have h1 : Hid _ := fun (W : World) => set_any ra va1 vb1 W
          have h2 : Hid _ := fun (W : World) => rset_any ra va1 vb1 W
          have vn : (ra.set va1 vb1).Ok := Pd.set_ok va a0 a1 b0 b1
          generalize ra.set va1 vb1 = rn at *
          go_upto_region 13 with (first
            | fail)
          clear g0
          have g1 : _ = some (Value.int .u8 va1) := bo.cell 1
          have g2 : _ = some (Value.int .u8 vb1) := bo.cell 2
          go_upto_region 14 with (first
            | (refine wpList_load_blk rfl 25 _ rfl (w.heap.size) rfl (Pd.cells ra) _ (s0.blk (w.heap.size) ra (by simp)) Try.underlying25 rfl (infoP' _) ?_)
            | (go_at_call 6; refine (h1.out _).mono ?_; rintro e Wx ⟨rfl, hbx⟩; replace s0 := s0.on hbx; replace bo := bo.below bo.lt hbx; clear hbx)
            | (refine wpList_store_blk rfl 25 _ _ rfl (w.heap.size) _ (Pd.cells rn) 25 rfl rfl (s0.blk (w.heap.size) _ (List.mem_cons_self ..)) rfl (infoP' _) (Pd.cells_one _) w.heap.size w (Nat.le_refl _) s0.2 ?_; intro Wy by1 hby hoy; replace bo := hoy _ _ _ (by omega) bo; replace s0 := St.sto s0 (by simp) by1 hby hoy; clear by1 hby hoy))
          clear g1 g2
          replace s0 : St w [(w.heap.size + 1, ra), (w.heap.size, rn)] _ := St.sub s0 (by simp)
          have g1 : _ = some (Value.int .u8 va1) := bo.cell 1
          have g2 : _ = some (Value.int .u8 vb1) := bo.cell 2
          go_wp2_with (first
            | (refine wpList_load_blk rfl 25 _ rfl (w.heap.size + 1) rfl (Pd.cells ra) _ (s0.blk (w.heap.size + 1) ra (by simp)) Try.underlying25 rfl (infoP' _) ?_)
            | (go_at_call 9; refine (h2.out _).mono ?_; rintro e Wx ⟨rfl, hbx⟩; replace s0 := s0.on hbx; replace bo := bo.below bo.lt hbx; clear hbx)
            | (refine wpList_store_blk rfl 25 _ _ rfl (w.heap.size + 1) _ (Pd.cells rn) 25 rfl rfl (s0.blk (w.heap.size + 1) _ (List.mem_cons_self ..)) rfl (infoP' _) (Pd.cells_one _) w.heap.size w (Nat.le_succ _) s0.2 ?_; intro Wy by1 hby hoy; replace bo := hoy _ _ _ (by omega) bo; replace s0 := St.sto s0 (by simp) by1 hby hoy; clear by1 hby hoy))
          go_meet
          exact ⟨rn, vn, St.sub s0 (by simp)⟩
        have k0b : (kd == 0) = false := by simpa using hkd
        clear hkd
        by_cases hkd : kd = 1
        · subst hkd
          have h1 : Hid _ := fun (W : World) => wr_any ra va1 W a0 a1
          have h2 : Hid _ := fun (W : World) => rwr_any ra va1 W a0 a1
          have vn : (ra.wr va1).Ok := Pd.wr_ok va va1
          generalize ra.wr va1 = rn at *
          go_upto_region 16 with (first
            | fail)
          clear g0
          have g1 : _ = some (Value.int .u8 va1) := bo.cell 1
          go_upto_region 17 with (first
            | (refine wpList_load_blk rfl 25 _ rfl (w.heap.size) rfl (Pd.cells ra) _ (s0.blk (w.heap.size) ra (by simp)) Try.underlying25 rfl (infoP' _) ?_)
            | (go_at_call 7; refine (h1.out _).mono ?_; rintro e Wx ⟨rfl, hbx⟩; replace s0 := s0.on hbx; replace bo := bo.below bo.lt hbx; clear hbx)
            | (refine wpList_store_blk rfl 25 _ _ rfl (w.heap.size) _ (Pd.cells rn) 25 rfl rfl (s0.blk (w.heap.size) _ (List.mem_cons_self ..)) rfl (infoP' _) (Pd.cells_one _) w.heap.size w (Nat.le_refl _) s0.2 ?_; intro Wy by1 hby hoy; replace bo := hoy _ _ _ (by omega) bo; replace s0 := St.sto s0 (by simp) by1 hby hoy; clear by1 hby hoy))
          clear g1
          replace s0 : St w [(w.heap.size + 1, ra), (w.heap.size, rn)] _ := St.sub s0 (by simp)
          have g1 : _ = some (Value.int .u8 va1) := bo.cell 1
          go_wp2_with (first
            | (refine wpList_load_blk rfl 25 _ rfl (w.heap.size + 1) rfl (Pd.cells ra) _ (s0.blk (w.heap.size + 1) ra (by simp)) Try.underlying25 rfl (infoP' _) ?_)
            | (go_at_call 10; refine (h2.out _).mono ?_; rintro e Wx ⟨rfl, hbx⟩; replace s0 := s0.on hbx; replace bo := bo.below bo.lt hbx; clear hbx)
            | (refine wpList_store_blk rfl 25 _ _ rfl (w.heap.size + 1) _ (Pd.cells rn) 25 rfl rfl (s0.blk (w.heap.size + 1) _ (List.mem_cons_self ..)) rfl (infoP' _) (Pd.cells_one _) w.heap.size w (Nat.le_succ _) s0.2 ?_; intro Wy by1 hby hoy; replace bo := hoy _ _ _ (by omega) bo; replace s0 := St.sto s0 (by simp) by1 hby hoy; clear by1 hby hoy))
          go_meet
          exact ⟨rn, vn, St.sub s0 (by simp)⟩
        have k1b : (kd == 1) = false := by simpa using hkd
        clear hkd
        have h1 : Hid _ := fun (W : World) => rd_any ra pt W va
        have h2 : Hid _ := fun (W : World) => rrd_any ra pt W va
        have vn : (ra.rd pt).Ok := Pd.rd_ok va pt
        obtain ⟨q0, q1⟩ := Pd.rdV_ok ra pt
        generalize ra.rdV pt = z at *
        generalize ra.rd pt = rn at *
        go_upto_region 7 with (first
          | fail)
        clear g0
        have g3 : _ = some (Value.int .i64 pt) := bo.cell 3
        go_upto_region 9 with (first
          | (refine wpList_load_blk rfl 25 _ rfl (w.heap.size) rfl (Pd.cells ra) _ (s0.blk (w.heap.size) ra (by simp)) Try.underlying25 rfl (infoP' _) ?_)
          | (go_at_call 8; refine (h1.out _).mono ?_; rintro e Wx ⟨rfl, hbx⟩; replace s0 := s0.on hbx; replace bo := bo.below bo.lt hbx; clear hbx)
          | (refine wpList_store_blk rfl 25 _ _ rfl (w.heap.size) _ (Pd.cells rn) 25 rfl rfl (s0.blk (w.heap.size) _ (List.mem_cons_self ..)) rfl (infoP' _) (Pd.cells_one _) w.heap.size w (Nat.le_refl _) s0.2 ?_; intro Wy by1 hby hoy; replace bo := hoy _ _ _ (by omega) bo; replace s0 := St.sto s0 (by simp) by1 hby hoy; clear by1 hby hoy))
        clear g3
        replace s0 : St w [(w.heap.size + 1, ra), (w.heap.size, rn)] _ := St.sub s0 (by simp)
        have g3 : _ = some (Value.int .i64 pt) := bo.cell 3
        go_upto_region 10 with (first
          | (refine wpList_load_blk rfl 25 _ rfl (w.heap.size + 1) rfl (Pd.cells ra) _ (s0.blk (w.heap.size + 1) ra (by simp)) Try.underlying25 rfl (infoP' _) ?_)
          | (go_at_call 11; refine (h2.out _).mono ?_; rintro e Wx ⟨rfl, hbx⟩; replace s0 := s0.on hbx; replace bo := bo.below bo.lt hbx; clear hbx)
          | (refine wpList_store_blk rfl 25 _ _ rfl (w.heap.size + 1) _ (Pd.cells rn) 25 rfl rfl (s0.blk (w.heap.size + 1) _ (List.mem_cons_self ..)) rfl (infoP' _) (Pd.cells_one _) w.heap.size w (Nat.le_succ _) s0.2 ?_; intro Wy by1 hby hoy; replace bo := hoy _ _ _ (by omega) bo; replace s0 := St.sto s0 (by simp) by1 hby hoy; clear by1 hby hoy))
        go_wp2
        go_meet
        exact ⟨rn, vn, St.sub s0 (by simp)⟩
      case rest =>
        clear g0 bo va s0
        obtain ⟨rn, vn, s0⟩ := hcut
        have hk9 : (k : Int) + 1 ≤ 9223372036854775807 := by omega
        have hk8 : k + 1 ≤ len := by omega
        have qN : ∀ W, (binOp .neq 25 (.agg (Pd.cells rn)) (.agg (Pd.cells rn))).run Try.prog W = .ok (.bool false) W := fun W => neq_yes W rfl
        go_wp2_with (first
          | (refine wpList_load_blk rfl 25 _ rfl (w.heap.size) rfl (Pd.cells rn) _ (s0.blk (w.heap.size) rn (by simp)) Try.underlying25 rfl (infoP' _) ?_)
          | (refine wpList_load_blk rfl 25 _ rfl (w.heap.size + 1) rfl (Pd.cells rn) _ (s0.blk (w.heap.size + 1) rn (by simp)) Try.underlying25 rfl (infoP' _) ?_))
        go_roundw
        case rel => exact ⟨k + 1, rn, hk8, by go_num, vn, s0⟩
        case measure => simp [intOf]; omega
    · have hkn : k = len := by omega
      subst hkn
      have h1 : Hid _ := fun (W : World) => rd_any ra 0 W va
      have h2 : Hid _ := fun (W : World) => rrd_any ra 0 W va
      have hnb : w.heap.size + 1 < wr.heap.size := (s0.blk (w.heap.size + 1) ra (by simp)).lt
      generalize ra.rdV 0 = z at *
      generalize ra.rd 0 = rn at *
      go_upto_region 21 with (first
        | (refine wpList_load_blk rfl 25 _ rfl (w.heap.size + 1) rfl (Pd.cells ra) _ (s0.blk (w.heap.size + 1) ra (by simp)) Try.underlying25 rfl (infoP' _) ?_)
        | (go_at_call 8; refine (h1.out _).mono ?_; rintro e Wx ⟨rfl, hbx⟩; replace s0 := s0.on hbx; clear hbx)
        | (refine wpList_store_blk rfl 25 _ _ rfl Wx.heap.size zeroP.cells (Pd.cells rn) 25 rfl rfl (Blk.new Wx _ _) rfl (infoP' _) (Pd.cells_one _) w.heap.size w s0.2.size (s0.2.alloc s0.2.size _) ?_; intro Wy by1 hby hoy; replace s0 := St.more s0 by1 hby hoy; clear by1 hby hoy))
      generalize Wx.heap.size = m1 at *
      go_upto_region 22 with (first
        | (refine wpList_load_blk rfl 25 _ rfl (w.heap.size + 1) rfl (Pd.cells ra) _ (s0.blk (w.heap.size + 1) ra (by simp)) Try.underlying25 rfl (infoP' _) ?_)
        | (go_at_call 11; refine (h2.out _).mono ?_; rintro e Wx ⟨rfl, hbx⟩; replace s0 := s0.on hbx; clear hbx)
        | (refine wpList_store_blk rfl 25 _ _ rfl Wx.heap.size zeroP.cells (Pd.cells rn) 25 rfl rfl (Blk.new Wx _ _) rfl (infoP' _) (Pd.cells_one _) w.heap.size w s0.2.size (s0.2.alloc s0.2.size _) ?_; intro Wy by1 hby hoy; replace s0 := St.more s0 by1 hby hoy; clear by1 hby hoy))
      generalize Wx.heap.size = m2 at *
      have qE : ∀ W, (binOp .eql 25 (.agg (Pd.cells rn)) (.agg (Pd.cells rn))).run Try.prog W = .ok (.bool true) W := fun W => eql_yes W rfl
      go_wp2_with (first
        | (refine wpList_load_blk rfl 25 _ rfl (m1) rfl (Pd.cells rn) _ (s0.blk (m1) rn (by simp)) Try.underlying25 rfl (infoP' _) ?_)
        | (refine wpList_load_blk rfl 25 _ rfl (m2) rfl (Pd.cells rn) _ (s0.blk (m2) rn (by simp)) Try.underlying25 rfl (infoP' _) ?_))
      go_ret
      exact ⟨rfl, s0.2⟩
end Go.Proofs.Ytkebkbiabdlomaa
