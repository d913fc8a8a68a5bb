/-
  The law RasterPlays returns true; conditions: those of the list.
-/
import Derived.Test.YtlnpcbofebppcabQArgP
import Derived.Test.YtlnpcbofebppcabQHand
import Derived.Test.YtlnpcbofebppcabQAdv
import Derived.Test.YtlnpcbofebppcabQRAdv
import Derived.Test.YtlnpcbofebppcabQStat
import Derived.Test.YtlnpcbofebppcabQRStat
import Derived.Test.YtlnpcbofebppcabQPort
import Derived.Test.YtlnpcbofebppcabQRPort
import Derived.Test.YtlnpcbofebppcabQLine
import Derived.Test.YtlnpcbofebppcabQRLine
import Derived.Test.YtlnpcbofebppcabQTick
import Derived.Test.YtlnpcbofebppcabQRTick
import Derived.Test.YtlnpcbofebppcabQPla
set_option linter.unusedSimpArgs false
set_option linter.unusedVariables false
namespace Go.Proofs.Ytlnpcbofebppcab
open Go.RowKit Classical
set_option maxRecDepth 100000 in
set_option maxHeartbeats 2000000 in
theorem law_rasterPlays (a : Option Addr) (len cap : Nat) (K N V : Nat → Int) (b o : Nat) (w : World) (hlen : len ≤ 9223372036854775807) (hS : Scr w a len K N V b o) :
    Calls Try.prog 7 #[.slice a len cap] w fun e w' => e = .returned (.bool true) ∧ Below w.heap.size w w' := by
  go_enter Try.func7, Try.ntmps7
  go_upto_region 3 with fail
  have s0 : St w [(w.heap.size, zeroR), (w.heap.size + 1, zeroR)] ((w.alloc (.cells zeroR.cells 23)).alloc (.cells zeroR.cells 23)) :=
    ⟨fun p hp => by
      simp only [List.mem_cons, List.not_mem_nil, or_false] at hp
      rcases hp with rfl | rfl
      · exact (Blk.new w _ _).old _
      · have := Blk.new (w.alloc (.cells zeroR.cells 23)) zeroR.cells 23; rwa [World.size_alloc] at this, below_new2 _ _⟩
  change Code.wp _ _ _ _ ((w.alloc (.cells zeroR.cells 23)).alloc (.cells zeroR.cells 23))
  generalize (w.alloc (.cells zeroR.cells 23)).alloc (.cells zeroR.cells 23) = W0 at *
  go_wp2
  go_loopw [5] (fun i wr => ∃ (k : Nat) (ra : Rs), k ≤ len ∧ i = .int .i64 k ∧ ra.V ∧ St w [(w.heap.size, ra), (w.heap.size + 1, ra)] wr) (fun i _ => len - (intOf i).toNat)
  case atStart => exact ⟨0, zeroR, by omega, rfl, ⟨by decide, by decide, by decide, by decide, fun h => absurd h (by decide), fun h => absurd h (by decide)⟩, s0⟩
  case round =>
    clear s0
    obtain ⟨k, ra, hk, rfl, va, s0⟩ := hrel
    by_cases hlt : k < len
    · obtain ⟨rfl, hb⟩ := hS.at_ (by omega)
      obtain ⟨c0, c1, c2⟩ := hS.cells k hlt
      obtain ⟨⟨n0, n1⟩, v0, v1⟩ := hS.fits k hlt
      have hR : Hid (wr.rangeAt b (o + k * 3) [.int .i64 (K k), .int .i64 (N k), .int .u8 (V k)]) := fun j v hv => by
        have hc : ∀ j v, w.cell? ⟨b, o + k * 3 + j, none⟩ = some v → wr.cell? ⟨b, o + k * 3 + j, none⟩ = some v := fun j v h => (s0.2.cell (p := ⟨b, o + k * 3 + j, none⟩) hb).trans h
        match j, hv with
        | 0, hv => simp at hv; subst hv; exact hc 0 _ c0
        | 1, hv => simp at hv; subst hv; exact hc 1 _ c1
        | 2, hv => simp at hv; subst hv; exact hc 2 _ c2
      clear c0 c1 c2
      generalize K k = kd at *
      generalize N k = n at *
      generalize V k = v at *
      have hSH : Hid (Scr _ _ _ _ _ _ _ _) := hS
      clear hS
      go_upto_region 7 with (refine wpList_load_mid rfl 37 _ rfl b (o + k * 3) rfl [.int .i64 kd, .int .i64 n, .int .u8 v] _ hR.out Try.underlying37 rfl (by kernel_rfl) ?_)
      have bo : Blk (wr.alloc (.cells #[.int .i64 kd, .int .i64 n, .int .u8 v] 37)) wr.heap.size #[.int .i64 kd, .int .i64 n, .int .u8 v] 37 := Blk.new wr _ _
      have hnb : w.heap.size + 1 < wr.heap.size := (s0.blk (w.heap.size + 1) ra (by simp)).lt
      replace s0 := s0.on ((Below.refl _ _).alloc (Nat.le_refl _) (.cells #[.int .i64 kd, .int .i64 n, .int .u8 v] 37))
      generalize wr.alloc (.cells #[.int .i64 kd, .int .i64 n, .int .u8 v] 37) = W1 at *
      generalize wr.heap.size = nb at *
      have g0 : W1.cell? ⟨nb, 0, none⟩ = some (.int .i64 kd) := bo.cell 0
      clear hR
      go_upto_block 2 with fail
      go_cut [7, 8] (fun x y wx => ∃ (rn : Rs) (z : Int), x = .int .i64 z ∧ y = .int .i64 z ∧ rn.V ∧ St w [(w.heap.size, rn), (w.heap.size + 1, rn)] wx)
      case first =>
        by_cases hkd : kd = 0
        · subst hkd
          have h1 : Hid _ := fun (W : World) => adv_any ra n W va.ok n0 n1
          have h2 : Hid _ := fun (W : World) => radv_any ra n W va.ok n0 n1
          have vn := Rs.adv_v va n
          generalize ra.advK n = z at *
          generalize ra.adv n = rn at *
          go_upto_region 10 with (first
            | fail)
          clear g0
          have g1 : _ = some (Value.int .i64 n) := bo.cell 1
          go_upto_region 11 with (first
            | (refine wpList_load_blk rfl 23 _ rfl w.heap.size rfl (Rs.cells ra) _ (s0.blk w.heap.size ra (by simp)) Try.underlying23 rfl (infoR' _) ?_)
            | (go_at_call 11; refine (h1.out _).mono ?_; rintro e Wx ⟨rfl, hbx⟩; replace s0 := s0.on hbx; replace bo := bo.below bo.lt hbx; clear hbx)
            | (refine wpList_store_blk rfl 23 _ _ rfl (w.heap.size) _ (Rs.cells rn) 23 rfl rfl (s0.blk (w.heap.size) _ (List.mem_cons_self ..)) rfl (infoR' _) (Rs.cells_one _) w.heap.size w (Nat.le_refl _) s0.2 ?_; intro Wy by1 hby hoy; replace bo := hoy _ _ _ (by omega) bo; replace s0 := St.sto s0 (by simp) by1 hby hoy; clear by1 hby hoy))
          clear g1
          replace s0 : St w [(w.heap.size + 1, ra), (w.heap.size, rn)] _ := St.sub s0 (by simp)
          have g1 : _ = some (Value.int .i64 n) := bo.cell 1
          go_wp2_with (first
            | (refine wpList_load_blk rfl 23 _ rfl (w.heap.size + 1) rfl (Rs.cells ra) _ (s0.blk (w.heap.size + 1) ra (by simp)) Try.underlying23 rfl (infoR' _) ?_)
            | (go_at_call 19; refine (h2.out _).mono ?_; rintro e Wx ⟨rfl, hbx⟩; replace s0 := s0.on hbx; replace bo := bo.below bo.lt hbx; clear hbx)
            | (refine wpList_store_blk rfl 23 _ _ rfl (w.heap.size + 1) _ (Rs.cells rn) 23 rfl rfl (s0.blk (w.heap.size + 1) _ (List.mem_cons_self ..)) rfl (infoR' _) (Rs.cells_one _) w.heap.size w (Nat.le_succ _) s0.2 ?_; intro Wy by1 hby hoy; replace bo := hoy _ _ _ (by omega) bo; replace s0 := St.sto s0 (by simp) by1 hby hoy; clear by1 hby hoy))
          go_meet
          exact ⟨rn, z, rfl, rfl, vn, St.sub s0 (by simp)⟩
        have k0b : (kd == 0) = false := by simpa using hkd
        clear hkd
        by_cases hkd : kd = 1
        · subst hkd
          have h1 : Hid _ := fun (W : World) => stat_any ra W va.ok
          have h2 : Hid _ := fun (W : World) => rstat_any ra W va.ok
          have vn := Rs.stat_v va
          have q0 : 0 ≤ ra.statV ∧ ra.statV ≤ 255 := by unfold Rs.statV; (repeat' split) <;> decide
          generalize ra.statV = z at *
          generalize ra.stat = rn at *
          obtain ⟨q1, q2⟩ := q0
          go_upto_region 14 with (first
            | fail)
          clear g0
          go_upto_region 15 with (first
            | (refine wpList_load_blk rfl 23 _ rfl w.heap.size rfl (Rs.cells ra) _ (s0.blk w.heap.size ra (by simp)) Try.underlying23 rfl (infoR' _) ?_)
            | (go_at_call 12; refine (h1.out _).mono ?_; rintro e Wx ⟨rfl, hbx⟩; replace s0 := s0.on hbx; replace bo := bo.below bo.lt hbx; clear hbx)
            | (refine wpList_store_blk rfl 23 _ _ rfl (w.heap.size) _ (Rs.cells rn) 23 rfl rfl (s0.blk (w.heap.size) _ (List.mem_cons_self ..)) rfl (infoR' _) (Rs.cells_one _) w.heap.size w (Nat.le_refl _) s0.2 ?_; intro Wy by1 hby hoy; replace bo := hoy _ _ _ (by omega) bo; replace s0 := St.sto s0 (by simp) by1 hby hoy; clear by1 hby hoy))
          replace s0 : St w [(w.heap.size + 1, ra), (w.heap.size, rn)] _ := St.sub s0 (by simp)
          go_upto_region 16 with (first
            | (refine wpList_load_blk rfl 23 _ rfl (w.heap.size + 1) rfl (Rs.cells ra) _ (s0.blk (w.heap.size + 1) ra (by simp)) Try.underlying23 rfl (infoR' _) ?_)
            | (go_at_call 20; refine (h2.out _).mono ?_; rintro e Wx ⟨rfl, hbx⟩; replace s0 := s0.on hbx; replace bo := bo.below bo.lt hbx; clear hbx)
            | (refine wpList_store_blk rfl 23 _ _ rfl (w.heap.size + 1) _ (Rs.cells rn) 23 rfl rfl (s0.blk (w.heap.size + 1) _ (List.mem_cons_self ..)) rfl (infoR' _) (Rs.cells_one _) w.heap.size w (Nat.le_succ _) s0.2 ?_; intro Wy by1 hby hoy; replace bo := hoy _ _ _ (by omega) bo; replace s0 := St.sto s0 (by simp) by1 hby hoy; clear by1 hby hoy))
          go_wp2
          go_meet
          exact ⟨rn, z, rfl, rfl, vn, St.sub s0 (by simp)⟩
        have k1b : (kd == 1) = false := by simpa using hkd
        clear hkd
        by_cases hkd : kd = 2
        · subst hkd
          have h1 : Hid _ := fun (W : World) => ctrl_any ra v W va.ok v0 v1
          have h2 : Hid _ := fun (W : World) => rctrl_any ra v W va.ok v0 v1
          have vn : (ra.ctrl v).V := by rw [Rs.ctrl_of va]; exact Rs.V.alter va rfl rfl rfl rfl
          generalize ra.ctrl v = rn at *
          go_upto_region 18 with (first
            | fail)
          clear g0
          have g2 : _ = some (Value.int .u8 v) := bo.cell 2
          go_upto_region 19 with (first
            | (refine wpList_load_blk rfl 23 _ rfl w.heap.size rfl (Rs.cells ra) _ (s0.blk w.heap.size ra (by simp)) Try.underlying23 rfl (infoR' _) ?_)
            | (go_at_call 21; refine (h1.out _).mono ?_; rintro e Wx ⟨rfl, hbx⟩; replace s0 := s0.on hbx; replace bo := bo.below bo.lt hbx; clear hbx)
            | (refine wpList_store_blk rfl 23 _ _ rfl (w.heap.size) _ (Rs.cells rn) 23 rfl rfl (s0.blk (w.heap.size) _ (List.mem_cons_self ..)) rfl (infoR' _) (Rs.cells_one _) w.heap.size w (Nat.le_refl _) s0.2 ?_; intro Wy by1 hby hoy; replace bo := hoy _ _ _ (by omega) bo; replace s0 := St.sto s0 (by simp) by1 hby hoy; clear by1 hby hoy))
          clear g2
          replace s0 : St w [(w.heap.size + 1, ra), (w.heap.size, rn)] _ := St.sub s0 (by simp)
          have g2 : _ = some (Value.int .u8 v) := bo.cell 2
          go_wp2_with (first
            | (refine wpList_load_blk rfl 23 _ rfl (w.heap.size + 1) rfl (Rs.cells ra) _ (s0.blk (w.heap.size + 1) ra (by simp)) Try.underlying23 rfl (infoR' _) ?_)
            | (go_at_call 22; refine (h2.out _).mono ?_; rintro e Wx ⟨rfl, hbx⟩; replace s0 := s0.on hbx; replace bo := bo.below bo.lt hbx; clear hbx)
            | (refine wpList_store_blk rfl 23 _ _ rfl (w.heap.size + 1) _ (Rs.cells rn) 23 rfl rfl (s0.blk (w.heap.size + 1) _ (List.mem_cons_self ..)) rfl (infoR' _) (Rs.cells_one _) w.heap.size w (Nat.le_succ _) s0.2 ?_; intro Wy by1 hby hoy; replace bo := hoy _ _ _ (by omega) bo; replace s0 := St.sto s0 (by simp) by1 hby hoy; clear by1 hby hoy))
          go_meet
          exact ⟨rn, 0, rfl, rfl, vn, St.sub s0 (by simp)⟩
        have k2b : (kd == 2) = false := by simpa using hkd
        clear hkd
        by_cases hkd : kd = 3
        · subst hkd
          have h1 : Hid _ := fun (W : World) => mask_any ra v W va.ok v0 v1
          have h2 : Hid _ := fun (W : World) => rmask_any ra v W va.ok v0 v1
          have vn : (ra.mask v).V := by rw [Rs.mask_of va]; exact Rs.V.alter va rfl rfl rfl rfl
          generalize ra.mask v = rn at *
          go_upto_region 21 with (first
            | fail)
          clear g0
          have g2 : _ = some (Value.int .u8 v) := bo.cell 2
          go_upto_region 22 with (first
            | (refine wpList_load_blk rfl 23 _ rfl w.heap.size rfl (Rs.cells ra) _ (s0.blk w.heap.size ra (by simp)) Try.underlying23 rfl (infoR' _) ?_)
            | (go_at_call 23; refine (h1.out _).mono ?_; rintro e Wx ⟨rfl, hbx⟩; replace s0 := s0.on hbx; replace bo := bo.below bo.lt hbx; clear hbx)
            | (refine wpList_store_blk rfl 23 _ _ rfl (w.heap.size) _ (Rs.cells rn) 23 rfl rfl (s0.blk (w.heap.size) _ (List.mem_cons_self ..)) rfl (infoR' _) (Rs.cells_one _) w.heap.size w (Nat.le_refl _) s0.2 ?_; intro Wy by1 hby hoy; replace bo := hoy _ _ _ (by omega) bo; replace s0 := St.sto s0 (by simp) by1 hby hoy; clear by1 hby hoy))
          clear g2
          replace s0 : St w [(w.heap.size + 1, ra), (w.heap.size, rn)] _ := St.sub s0 (by simp)
          have g2 : _ = some (Value.int .u8 v) := bo.cell 2
          go_wp2_with (first
            | (refine wpList_load_blk rfl 23 _ rfl (w.heap.size + 1) rfl (Rs.cells ra) _ (s0.blk (w.heap.size + 1) ra (by simp)) Try.underlying23 rfl (infoR' _) ?_)
            | (go_at_call 24; refine (h2.out _).mono ?_; rintro e Wx ⟨rfl, hbx⟩; replace s0 := s0.on hbx; replace bo := bo.below bo.lt hbx; clear hbx)
            | (refine wpList_store_blk rfl 23 _ _ rfl (w.heap.size + 1) _ (Rs.cells rn) 23 rfl rfl (s0.blk (w.heap.size + 1) _ (List.mem_cons_self ..)) rfl (infoR' _) (Rs.cells_one _) w.heap.size w (Nat.le_succ _) s0.2 ?_; intro Wy by1 hby hoy; replace bo := hoy _ _ _ (by omega) bo; replace s0 := St.sto s0 (by simp) by1 hby hoy; clear by1 hby hoy))
          go_meet
          exact ⟨rn, 0, rfl, rfl, vn, St.sub s0 (by simp)⟩
        have k3b : (kd == 3) = false := by simpa using hkd
        clear hkd
        by_cases hkd : kd = 4
        · subst hkd
          have h1 : Hid _ := fun (W : World) => tickV_any ra W va.ok
          have h2 : Hid _ := fun (W : World) => rtickV_any ra W va.ok
          have vn := Rs.adv_v va 1
          generalize ra.advK 1 = z at *
          generalize ra.adv 1 = rn at *
          go_upto_region 24 with (first
            | fail)
          clear g0
          go_upto_region 25 with (first
            | (refine wpList_load_blk rfl 23 _ rfl w.heap.size rfl (Rs.cells ra) _ (s0.blk w.heap.size ra (by simp)) Try.underlying23 rfl (infoR' _) ?_)
            | (go_at_call 18; refine (h1.out _).mono ?_; rintro e Wx ⟨rfl, hbx⟩; replace s0 := s0.on hbx; replace bo := bo.below bo.lt hbx; clear hbx)
            | (refine wpList_store_blk rfl 23 _ _ rfl (w.heap.size) _ (Rs.cells rn) 23 rfl rfl (s0.blk (w.heap.size) _ (List.mem_cons_self ..)) rfl (infoR' _) (Rs.cells_one _) w.heap.size w (Nat.le_refl _) s0.2 ?_; intro Wy by1 hby hoy; replace bo := hoy _ _ _ (by omega) bo; replace s0 := St.sto s0 (by simp) by1 hby hoy; clear by1 hby hoy))
          replace s0 : St w [(w.heap.size + 1, ra), (w.heap.size, rn)] _ := St.sub s0 (by simp)
          go_wp2_with (first
            | (refine wpList_load_blk rfl 23 _ rfl (w.heap.size + 1) rfl (Rs.cells ra) _ (s0.blk (w.heap.size + 1) ra (by simp)) Try.underlying23 rfl (infoR' _) ?_)
            | (go_at_call 25; refine (h2.out _).mono ?_; rintro e Wx ⟨rfl, hbx⟩; replace s0 := s0.on hbx; replace bo := bo.below bo.lt hbx; clear hbx)
            | (refine wpList_store_blk rfl 23 _ _ rfl (w.heap.size + 1) _ (Rs.cells rn) 23 rfl rfl (s0.blk (w.heap.size + 1) _ (List.mem_cons_self ..)) rfl (infoR' _) (Rs.cells_one _) w.heap.size w (Nat.le_succ _) s0.2 ?_; intro Wy by1 hby hoy; replace bo := hoy _ _ _ (by omega) bo; replace s0 := St.sto s0 (by simp) by1 hby hoy; clear by1 hby hoy))
          go_meet
          exact ⟨rn, z, rfl, rfl, vn, St.sub s0 (by simp)⟩
        have k4b : (kd == 4) = false := by simpa using hkd
        clear hkd
        go_wp2
        go_meet
        exact ⟨ra, 0, rfl, rfl, va, s0⟩
      case rest =>
        clear g0 bo va s0
        obtain ⟨rn, z, rfl, rfl, vn, s0⟩ := hcut
        go_upto_region 26 with fail
        refine wp_region_lit ?_
        refine pl_val (v := .int .i64 z) (by kernel_rfl) (by kernel_rfl) ⟨#[.slice (some ⟨b, o, none⟩) len cap, undef, u2, .pointer (some ⟨w.heap.size, 0, none⟩), .pointer (some ⟨w.heap.size + 1, 0, none⟩), .int .i64 k, .pointer (some ⟨nb, 0, none⟩), .int .i64 z, .int .i64 z, u9, u10, u11, u12, .agg #[.int .i64 0, .int .i64 0, .bool false, .bool false, .bool false, .bool false, .bool false], .agg #[.int .i64 0, .int .i64 0, .bool false, .bool false, .bool false, .bool false, .bool false], u15, u16, u17, u18, u19, u20, u21, u22, u23, u24, u25, .int .i64 kd, u27, u28, u29, u30, u31, u32, u33, u34, u35, u36, u37, u38, u39, u40, u41, u42, u43, u44, u45, u46, u47, u48, u49, u50, u51, u52, u53, u54, u55, u56, u57, u58, u59, u60, u61, u62, u63, u64, u65, u66, u67, u68, u69, u70, u71, u72, u73, u74, u75, u76, u77, u78, u79, u80, u81, u82, u83, u84, u85, u86, u87, u88, u89, u90, .int .i64 z, u92, u93, u94, u95, u96, u97, u98, u99, u100, u101, u102, u103, u104, u105, undef, undef, undef, undef, undef, undef, undef], []⟩ (by kernel_rfl) ?_
        refine pl_val (v := .int .i64 z) (by kernel_rfl) (by kernel_rfl) ⟨#[.slice (some ⟨b, o, none⟩) len cap, undef, u2, .pointer (some ⟨w.heap.size, 0, none⟩), .pointer (some ⟨w.heap.size + 1, 0, none⟩), .int .i64 k, .pointer (some ⟨nb, 0, none⟩), .int .i64 z, .int .i64 z, u9, u10, u11, u12, .agg #[.int .i64 0, .int .i64 0, .bool false, .bool false, .bool false, .bool false, .bool false], .agg #[.int .i64 0, .int .i64 0, .bool false, .bool false, .bool false, .bool false, .bool false], u15, u16, u17, u18, u19, u20, u21, u22, u23, u24, u25, .int .i64 kd, u27, u28, u29, u30, u31, u32, u33, u34, u35, u36, u37, u38, u39, u40, u41, u42, u43, u44, u45, u46, u47, u48, u49, u50, u51, u52, u53, u54, u55, u56, u57, u58, u59, u60, u61, u62, u63, u64, u65, u66, u67, u68, u69, u70, u71, u72, u73, u74, u75, u76, u77, u78, u79, u80, u81, u82, u83, u84, u85, u86, u87, u88, u89, u90, .int .i64 z, .int .i64 z, u93, u94, u95, u96, u97, u98, u99, u100, u101, u102, u103, u104, u105, undef, undef, undef, undef, undef, undef, undef], []⟩ (by kernel_rfl) ?_
        refine pl_val (v := .bool false) (by kernel_rfl) (exec_neq (a := z) (b := z) rfl (by kernel_rfl) (by kernel_rfl) Try.underlying3 (by simp)) ⟨#[.slice (some ⟨b, o, none⟩) len cap, undef, u2, .pointer (some ⟨w.heap.size, 0, none⟩), .pointer (some ⟨w.heap.size + 1, 0, none⟩), .int .i64 k, .pointer (some ⟨nb, 0, none⟩), .int .i64 z, .int .i64 z, u9, u10, u11, u12, .agg #[.int .i64 0, .int .i64 0, .bool false, .bool false, .bool false, .bool false, .bool false], .agg #[.int .i64 0, .int .i64 0, .bool false, .bool false, .bool false, .bool false, .bool false], u15, u16, u17, u18, u19, u20, u21, u22, u23, u24, u25, .int .i64 kd, u27, u28, u29, u30, u31, u32, u33, u34, u35, u36, u37, u38, u39, u40, u41, u42, u43, u44, u45, u46, u47, u48, u49, u50, u51, u52, u53, u54, u55, u56, u57, u58, u59, u60, u61, u62, u63, u64, u65, u66, u67, u68, u69, u70, u71, u72, u73, u74, u75, u76, u77, u78, u79, u80, u81, u82, u83, u84, u85, u86, u87, u88, u89, u90, .int .i64 z, .int .i64 z, .bool false, u94, u95, u96, u97, u98, u99, u100, u101, u102, u103, u104, u105, undef, undef, undef, undef, undef, undef, undef], []⟩ (by kernel_rfl) ?_
        refine pl_val (v := .bool false) (by kernel_rfl) (by kernel_rfl) ⟨#[.slice (some ⟨b, o, none⟩) len cap, undef, u2, .pointer (some ⟨w.heap.size, 0, none⟩), .pointer (some ⟨w.heap.size + 1, 0, none⟩), .int .i64 k, .pointer (some ⟨nb, 0, none⟩), .int .i64 z, .int .i64 z, u9, u10, u11, u12, .agg #[.int .i64 0, .int .i64 0, .bool false, .bool false, .bool false, .bool false, .bool false], .agg #[.int .i64 0, .int .i64 0, .bool false, .bool false, .bool false, .bool false, .bool false], u15, u16, u17, u18, u19, u20, u21, u22, u23, u24, u25, .int .i64 kd, u27, u28, u29, u30, u31, u32, u33, u34, u35, u36, u37, u38, u39, u40, u41, u42, u43, u44, u45, u46, u47, u48, u49, u50, u51, u52, u53, u54, u55, u56, u57, u58, u59, u60, u61, u62, u63, u64, u65, u66, u67, u68, u69, u70, u71, u72, u73, u74, u75, u76, u77, u78, u79, u80, u81, u82, u83, u84, u85, u86, u87, u88, u89, u90, .int .i64 z, .int .i64 z, .bool false, .bool false, u95, u96, u97, u98, u99, u100, u101, u102, u103, u104, u105, undef, undef, undef, undef, undef, undef, undef], []⟩ (by kernel_rfl) ?_
        refine pl_load (by kernel_rfl) (.tmp 3) rfl w.heap.size (by kernel_rfl) rn (s0.blk w.heap.size rn (by simp)) ⟨#[.slice (some ⟨b, o, none⟩) len cap, undef, u2, .pointer (some ⟨w.heap.size, 0, none⟩), .pointer (some ⟨w.heap.size + 1, 0, none⟩), .int .i64 k, .pointer (some ⟨nb, 0, none⟩), .int .i64 z, .int .i64 z, u9, u10, u11, u12, .agg #[.int .i64 0, .int .i64 0, .bool false, .bool false, .bool false, .bool false, .bool false], .agg #[.int .i64 0, .int .i64 0, .bool false, .bool false, .bool false, .bool false, .bool false], u15, u16, u17, u18, u19, u20, u21, u22, u23, u24, u25, .int .i64 kd, u27, u28, u29, u30, u31, u32, u33, u34, u35, u36, u37, u38, u39, u40, u41, u42, u43, u44, u45, u46, u47, u48, u49, u50, u51, u52, u53, u54, u55, u56, u57, u58, u59, u60, u61, u62, u63, u64, u65, u66, u67, u68, u69, u70, u71, u72, u73, u74, u75, u76, u77, u78, u79, u80, u81, u82, u83, u84, u85, u86, u87, u88, u89, u90, .int .i64 z, .int .i64 z, .bool false, .bool false, .agg (Rs.cells rn), u96, u97, u98, u99, u100, u101, u102, u103, u104, u105, undef, undef, undef, undef, undef, undef, undef], []⟩ (by kernel_rfl) ?_
        refine pl_load (by kernel_rfl) (.tmp 4) rfl (w.heap.size + 1) (by kernel_rfl) rn (s0.blk (w.heap.size + 1) rn (by simp)) ⟨#[.slice (some ⟨b, o, none⟩) len cap, undef, u2, .pointer (some ⟨w.heap.size, 0, none⟩), .pointer (some ⟨w.heap.size + 1, 0, none⟩), .int .i64 k, .pointer (some ⟨nb, 0, none⟩), .int .i64 z, .int .i64 z, u9, u10, u11, u12, .agg #[.int .i64 0, .int .i64 0, .bool false, .bool false, .bool false, .bool false, .bool false], .agg #[.int .i64 0, .int .i64 0, .bool false, .bool false, .bool false, .bool false, .bool false], u15, u16, u17, u18, u19, u20, u21, u22, u23, u24, u25, .int .i64 kd, u27, u28, u29, u30, u31, u32, u33, u34, u35, u36, u37, u38, u39, u40, u41, u42, u43, u44, u45, u46, u47, u48, u49, u50, u51, u52, u53, u54, u55, u56, u57, u58, u59, u60, u61, u62, u63, u64, u65, u66, u67, u68, u69, u70, u71, u72, u73, u74, u75, u76, u77, u78, u79, u80, u81, u82, u83, u84, u85, u86, u87, u88, u89, u90, .int .i64 z, .int .i64 z, .bool false, .bool false, .agg (Rs.cells rn), .agg (Rs.cells rn), u97, u98, u99, u100, u101, u102, u103, u104, u105, undef, undef, undef, undef, undef, undef, undef], []⟩ (by kernel_rfl) ?_
        refine pl_val (v := .bool false) (by kernel_rfl) (exec_bin rfl (by kernel_rfl) (by kernel_rfl) (neq_yes _ (rfl : rn = rn))) ⟨#[.slice (some ⟨b, o, none⟩) len cap, undef, u2, .pointer (some ⟨w.heap.size, 0, none⟩), .pointer (some ⟨w.heap.size + 1, 0, none⟩), .int .i64 k, .pointer (some ⟨nb, 0, none⟩), .int .i64 z, .int .i64 z, u9, u10, u11, u12, .agg #[.int .i64 0, .int .i64 0, .bool false, .bool false, .bool false, .bool false, .bool false], .agg #[.int .i64 0, .int .i64 0, .bool false, .bool false, .bool false, .bool false, .bool false], u15, u16, u17, u18, u19, u20, u21, u22, u23, u24, u25, .int .i64 kd, u27, u28, u29, u30, u31, u32, u33, u34, u35, u36, u37, u38, u39, u40, u41, u42, u43, u44, u45, u46, u47, u48, u49, u50, u51, u52, u53, u54, u55, u56, u57, u58, u59, u60, u61, u62, u63, u64, u65, u66, u67, u68, u69, u70, u71, u72, u73, u74, u75, u76, u77, u78, u79, u80, u81, u82, u83, u84, u85, u86, u87, u88, u89, u90, .int .i64 z, .int .i64 z, .bool false, .bool false, .agg (Rs.cells rn), .agg (Rs.cells rn), .bool false, u98, u99, u100, u101, u102, u103, u104, u105, undef, undef, undef, undef, undef, undef, undef], []⟩ (by kernel_rfl) ?_
        refine pl_val (v := .bool false) (by kernel_rfl) (by kernel_rfl) ⟨#[.slice (some ⟨b, o, none⟩) len cap, undef, u2, .pointer (some ⟨w.heap.size, 0, none⟩), .pointer (some ⟨w.heap.size + 1, 0, none⟩), .int .i64 k, .pointer (some ⟨nb, 0, none⟩), .int .i64 z, .int .i64 z, u9, u10, u11, u12, .agg #[.int .i64 0, .int .i64 0, .bool false, .bool false, .bool false, .bool false, .bool false], .agg #[.int .i64 0, .int .i64 0, .bool false, .bool false, .bool false, .bool false, .bool false], u15, u16, u17, u18, u19, u20, u21, u22, u23, u24, u25, .int .i64 kd, u27, u28, u29, u30, u31, u32, u33, u34, u35, u36, u37, u38, u39, u40, u41, u42, u43, u44, u45, u46, u47, u48, u49, u50, u51, u52, u53, u54, u55, u56, u57, u58, u59, u60, u61, u62, u63, u64, u65, u66, u67, u68, u69, u70, u71, u72, u73, u74, u75, u76, u77, u78, u79, u80, u81, u82, u83, u84, u85, u86, u87, u88, u89, u90, .int .i64 z, .int .i64 z, .bool false, .bool false, .agg (Rs.cells rn), .agg (Rs.cells rn), .bool false, .bool false, u99, u100, u101, u102, u103, u104, u105, undef, undef, undef, undef, undef, undef, undef], []⟩ (by kernel_rfl) ?_
        refine pl_end rfl ?_
        dsimp only
        go_upto_region 28 with (first
          | fail)
        have h1 : Hid _ := fun (W : World) => line_any rn W vn.ok
        have h2 : Hid _ := fun (W : World) => rline_any rn W vn.ok
        have hk9 : (k : Int) + 1 ≤ 9223372036854775807 := by omega
        have hk8 : k + 1 ≤ len := by omega
        generalize rn.nmiL = l at *
        go_upto_region 29 with (first
          | (refine wpList_load_blk rfl 23 _ rfl w.heap.size rfl (Rs.cells rn) _ (s0.blk w.heap.size rn (by simp)) Try.underlying23 rfl (infoR' _) ?_)
          | (go_at_call 9; refine (h1.out _).mono ?_; rintro e Wx ⟨rfl, hbx⟩; replace s0 := s0.on hbx; clear hbx))
        go_upto_region 30 with (first
          | (refine wpList_load_blk rfl 23 _ rfl (w.heap.size + 1) rfl (Rs.cells rn) _ (s0.blk (w.heap.size + 1) rn (by simp)) Try.underlying23 rfl (infoR' _) ?_)
          | (go_at_call 14; refine (h2.out _).mono ?_; rintro e Wx ⟨rfl, hbx⟩; replace s0 := s0.on hbx; clear hbx))
        have sH : Hid (St _ _ _) := s0
        clear s0 h1 h2
        cases l
        all_goals
          go_wp2
          go_roundw
          case rel => exact ⟨k + 1, rn, hk8, by go_num, vn, sH.out⟩
          case measure => simp [intOf]; omega
    · have hkn : k = len := by omega
      subst hkn
      go_upto_region 32 with fail
      have h1 : Hid _ := fun (W : World) => valid_any ra W va.ok
      rw [(Rs.valid_iff ra).2 va] at h1
      refine wp_region_lit ?_
      refine pl_load (by kernel_rfl) (.tmp 3) rfl w.heap.size (by kernel_rfl) ra (s0.blk w.heap.size ra (by simp)) ⟨#[.slice a k cap, undef, u2, .pointer (some ⟨w.heap.size, 0, none⟩), .pointer (some ⟨w.heap.size + 1, 0, none⟩), .int .i64 k, u6, u7, u8, u9, u10, u11, u12, .agg #[.int .i64 0, .int .i64 0, .bool false, .bool false, .bool false, .bool false, .bool false], .agg #[.int .i64 0, .int .i64 0, .bool false, .bool false, .bool false, .bool false, .bool false], .int .i64 k, .slice a k cap, .int .i64 k, .bool false, u19, u20, u21, u22, u23, u24, u25, u26, u27, u28, u29, u30, u31, u32, u33, u34, u35, u36, u37, u38, u39, u40, u41, u42, u43, u44, u45, u46, u47, u48, u49, u50, u51, u52, u53, u54, u55, u56, u57, u58, u59, u60, u61, u62, u63, u64, u65, u66, u67, u68, u69, u70, u71, u72, u73, u74, u75, u76, u77, u78, u79, u80, u81, u82, u83, u84, u85, u86, u87, u88, u89, u90, u91, u92, u93, u94, u95, u96, u97, u98, u99, u100, u101, u102, u103, u104, u105, .agg (Rs.cells ra), undef, undef, undef, undef, undef, undef], []⟩ (by kernel_rfl) ?_
      refine pl_load (by kernel_rfl) (.tmp 4) rfl (w.heap.size + 1) (by kernel_rfl) ra (s0.blk (w.heap.size + 1) ra (by simp)) ⟨#[.slice a k cap, undef, u2, .pointer (some ⟨w.heap.size, 0, none⟩), .pointer (some ⟨w.heap.size + 1, 0, none⟩), .int .i64 k, u6, u7, u8, u9, u10, u11, u12, .agg #[.int .i64 0, .int .i64 0, .bool false, .bool false, .bool false, .bool false, .bool false], .agg #[.int .i64 0, .int .i64 0, .bool false, .bool false, .bool false, .bool false, .bool false], .int .i64 k, .slice a k cap, .int .i64 k, .bool false, u19, u20, u21, u22, u23, u24, u25, u26, u27, u28, u29, u30, u31, u32, u33, u34, u35, u36, u37, u38, u39, u40, u41, u42, u43, u44, u45, u46, u47, u48, u49, u50, u51, u52, u53, u54, u55, u56, u57, u58, u59, u60, u61, u62, u63, u64, u65, u66, u67, u68, u69, u70, u71, u72, u73, u74, u75, u76, u77, u78, u79, u80, u81, u82, u83, u84, u85, u86, u87, u88, u89, u90, u91, u92, u93, u94, u95, u96, u97, u98, u99, u100, u101, u102, u103, u104, u105, .agg (Rs.cells ra), .agg (Rs.cells ra), undef, undef, undef, undef, undef], []⟩ (by kernel_rfl) ?_
      refine pl_val (v := .bool true) (by kernel_rfl) (exec_bin rfl (by kernel_rfl) (by kernel_rfl) (eql_yes _ (rfl : ra = ra))) ⟨#[.slice a k cap, undef, u2, .pointer (some ⟨w.heap.size, 0, none⟩), .pointer (some ⟨w.heap.size + 1, 0, none⟩), .int .i64 k, u6, u7, u8, u9, u10, u11, u12, .agg #[.int .i64 0, .int .i64 0, .bool false, .bool false, .bool false, .bool false, .bool false], .agg #[.int .i64 0, .int .i64 0, .bool false, .bool false, .bool false, .bool false, .bool false], .int .i64 k, .slice a k cap, .int .i64 k, .bool false, u19, u20, u21, u22, u23, u24, u25, u26, u27, u28, u29, u30, u31, u32, u33, u34, u35, u36, u37, u38, u39, u40, u41, u42, u43, u44, u45, u46, u47, u48, u49, u50, u51, u52, u53, u54, u55, u56, u57, u58, u59, u60, u61, u62, u63, u64, u65, u66, u67, u68, u69, u70, u71, u72, u73, u74, u75, u76, u77, u78, u79, u80, u81, u82, u83, u84, u85, u86, u87, u88, u89, u90, u91, u92, u93, u94, u95, u96, u97, u98, u99, u100, u101, u102, u103, u104, u105, .agg (Rs.cells ra), .agg (Rs.cells ra), .bool true, undef, undef, undef, undef], []⟩ (by kernel_rfl) ?_
      refine pl_val (v := .bool true) (by kernel_rfl) (by kernel_rfl) ⟨#[.slice a k cap, undef, u2, .pointer (some ⟨w.heap.size, 0, none⟩), .pointer (some ⟨w.heap.size + 1, 0, none⟩), .int .i64 k, u6, u7, u8, u9, u10, u11, u12, .agg #[.int .i64 0, .int .i64 0, .bool false, .bool false, .bool false, .bool false, .bool false], .agg #[.int .i64 0, .int .i64 0, .bool false, .bool false, .bool false, .bool false, .bool false], .int .i64 k, .slice a k cap, .int .i64 k, .bool false, u19, u20, u21, u22, u23, u24, u25, u26, u27, u28, u29, u30, u31, u32, u33, u34, u35, u36, u37, u38, u39, u40, u41, u42, u43, u44, u45, u46, u47, u48, u49, u50, u51, u52, u53, u54, u55, u56, u57, u58, u59, u60, u61, u62, u63, u64, u65, u66, u67, u68, u69, u70, u71, u72, u73, u74, u75, u76, u77, u78, u79, u80, u81, u82, u83, u84, u85, u86, u87, u88, u89, u90, u91, u92, u93, u94, u95, u96, u97, u98, u99, u100, u101, u102, u103, u104, u105, .agg (Rs.cells ra), .agg (Rs.cells ra), .bool true, .bool true, undef, undef, undef], []⟩ (by kernel_rfl) ?_
      refine pl_load (by kernel_rfl) (.tmp 3) rfl w.heap.size (by kernel_rfl) ra (s0.blk w.heap.size ra (by simp)) ⟨#[.slice a k cap, undef, u2, .pointer (some ⟨w.heap.size, 0, none⟩), .pointer (some ⟨w.heap.size + 1, 0, none⟩), .int .i64 k, u6, u7, u8, u9, u10, u11, u12, .agg #[.int .i64 0, .int .i64 0, .bool false, .bool false, .bool false, .bool false, .bool false], .agg #[.int .i64 0, .int .i64 0, .bool false, .bool false, .bool false, .bool false, .bool false], .int .i64 k, .slice a k cap, .int .i64 k, .bool false, u19, u20, u21, u22, u23, u24, u25, u26, u27, u28, u29, u30, u31, u32, u33, u34, u35, u36, u37, u38, u39, u40, u41, u42, u43, u44, u45, u46, u47, u48, u49, u50, u51, u52, u53, u54, u55, u56, u57, u58, u59, u60, u61, u62, u63, u64, u65, u66, u67, u68, u69, u70, u71, u72, u73, u74, u75, u76, u77, u78, u79, u80, u81, u82, u83, u84, u85, u86, u87, u88, u89, u90, u91, u92, u93, u94, u95, u96, u97, u98, u99, u100, u101, u102, u103, u104, u105, .agg (Rs.cells ra), .agg (Rs.cells ra), .bool true, .bool true, .agg (Rs.cells ra), undef, undef], []⟩ (by kernel_rfl) ?_
      refine pl_call (f := 26) (v := .bool true) (by kernel_rfl) (by kernel_rfl) (h1.out _) ⟨#[.slice a k cap, undef, u2, .pointer (some ⟨w.heap.size, 0, none⟩), .pointer (some ⟨w.heap.size + 1, 0, none⟩), .int .i64 k, u6, u7, u8, u9, u10, u11, u12, .agg #[.int .i64 0, .int .i64 0, .bool false, .bool false, .bool false, .bool false, .bool false], .agg #[.int .i64 0, .int .i64 0, .bool false, .bool false, .bool false, .bool false, .bool false], .int .i64 k, .slice a k cap, .int .i64 k, .bool false, u19, u20, u21, u22, u23, u24, u25, u26, u27, u28, u29, u30, u31, u32, u33, u34, u35, u36, u37, u38, u39, u40, u41, u42, u43, u44, u45, u46, u47, u48, u49, u50, u51, u52, u53, u54, u55, u56, u57, u58, u59, u60, u61, u62, u63, u64, u65, u66, u67, u68, u69, u70, u71, u72, u73, u74, u75, u76, u77, u78, u79, u80, u81, u82, u83, u84, u85, u86, u87, u88, u89, u90, u91, u92, u93, u94, u95, u96, u97, u98, u99, u100, u101, u102, u103, u104, u105, .agg (Rs.cells ra), .agg (Rs.cells ra), .bool true, .bool true, .agg (Rs.cells ra), .bool true, undef], []⟩ (by kernel_rfl) ?_
      intro Wx hbx
      replace s0 := s0.on hbx
      clear hbx
      refine pl_val (v := .bool true) (by kernel_rfl) (by kernel_rfl) ⟨#[.slice a k cap, undef, u2, .pointer (some ⟨w.heap.size, 0, none⟩), .pointer (some ⟨w.heap.size + 1, 0, none⟩), .int .i64 k, u6, u7, u8, u9, u10, u11, u12, .agg #[.int .i64 0, .int .i64 0, .bool false, .bool false, .bool false, .bool false, .bool false], .agg #[.int .i64 0, .int .i64 0, .bool false, .bool false, .bool false, .bool false, .bool false], .int .i64 k, .slice a k cap, .int .i64 k, .bool false, u19, u20, u21, u22, u23, u24, u25, u26, u27, u28, u29, u30, u31, u32, u33, u34, u35, u36, u37, u38, u39, u40, u41, u42, u43, u44, u45, u46, u47, u48, u49, u50, u51, u52, u53, u54, u55, u56, u57, u58, u59, u60, u61, u62, u63, u64, u65, u66, u67, u68, u69, u70, u71, u72, u73, u74, u75, u76, u77, u78, u79, u80, u81, u82, u83, u84, u85, u86, u87, u88, u89, u90, u91, u92, u93, u94, u95, u96, u97, u98, u99, u100, u101, u102, u103, u104, u105, .agg (Rs.cells ra), .agg (Rs.cells ra), .bool true, .bool true, .agg (Rs.cells ra), .bool true, .bool true], []⟩ (by kernel_rfl) ?_
      refine pl_val (v := .bool true) (by kernel_rfl) (by kernel_rfl) ⟨#[.slice a k cap, undef, .bool true, .pointer (some ⟨w.heap.size, 0, none⟩), .pointer (some ⟨w.heap.size + 1, 0, none⟩), .int .i64 k, u6, u7, u8, u9, u10, u11, u12, .agg #[.int .i64 0, .int .i64 0, .bool false, .bool false, .bool false, .bool false, .bool false], .agg #[.int .i64 0, .int .i64 0, .bool false, .bool false, .bool false, .bool false, .bool false], .int .i64 k, .slice a k cap, .int .i64 k, .bool false, u19, u20, u21, u22, u23, u24, u25, u26, u27, u28, u29, u30, u31, u32, u33, u34, u35, u36, u37, u38, u39, u40, u41, u42, u43, u44, u45, u46, u47, u48, u49, u50, u51, u52, u53, u54, u55, u56, u57, u58, u59, u60, u61, u62, u63, u64, u65, u66, u67, u68, u69, u70, u71, u72, u73, u74, u75, u76, u77, u78, u79, u80, u81, u82, u83, u84, u85, u86, u87, u88, u89, u90, u91, u92, u93, u94, u95, u96, u97, u98, u99, u100, u101, u102, u103, u104, u105, .agg (Rs.cells ra), .agg (Rs.cells ra), .bool true, .bool true, .agg (Rs.cells ra), .bool true, .bool true], []⟩ (by kernel_rfl) ?_
      refine pl_end rfl ?_
      dsimp only
      go_wp2
      go_ret
      exact ⟨rfl, s0.2⟩
end Go.Proofs.Ytlnpcbofebppcab
