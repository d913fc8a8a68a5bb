/-
  The law TimerPlays returns true; conditions: the tables lie in their variables, those of the list.
-/
import Derived.Test.YtobiiogoofkmaaaDoorTArgW
import Derived.Test.YtobiiogoofkmaaaDoorTHandW
import Derived.Test.YtobiiogoofkmaaaDoorTKeep
import Derived.Test.YtobiiogoofkmaaaDoorTReadW
import Derived.Test.YtobiiogoofkmaaaDoorTWrW
import Derived.Test.YtobiiogoofkmaaaDoorTAdv
import Derived.Test.YtobiiogoofkmaaaDoorTIrq
import Derived.Test.YtobiiogoofkmaaaDoorTNext
import Derived.Test.YtobiiogoofkmaaaDoorTRRead
import Derived.Test.YtobiiogoofkmaaaDoorTRWrW
import Derived.Test.YtobiiogoofkmaaaDoorTRAdv
import Derived.Test.YtobiiogoofkmaaaDoorTRIrq
import Derived.Test.YtobiiogoofkmaaaDoorTRNxW
set_option linter.unusedSimpArgs false
set_option linter.unusedVariables false
namespace Go.Proofs.YtobiiogoofkmaaaDoor
open Go.RowKit Classical
theorem Ck.adv_is {c : Ck} (o : c.Ok) (n : Int) : c.it n.toNat = c.adv n := by
  by_cases h : 0 < n
  · have := Ck.adv_it o n.toNat
    rw [show ((n.toNat : Nat) : Int) = n by omega] at this
    exact this.symm
  · rw [show n.toNat = 0 by omega, Ck.adv_none (by omega)]
    rfl
theorem St.sub {w v : World} {l l' : List (Nat × Ck)} (h : St w l v) (hs : ∀ p ∈ l', p ∈ l) : St w l' v := ⟨fun p hp => h.1 p (hs p hp), h.2⟩
theorem St.sto {w v v' : World} {b : Nat} {c d : Ck} {l : List (Nat × Ck)} (h : St w ((b, c) :: l) v) (hn : ∀ p ∈ l, p.1 ≠ b) (h1 : Blk v' b d.cells 24) (h2 : Below w.heap.size w v') (h3 : ∀ b' cs' t', b' ≠ b → Blk v b' cs' t' → Blk v' b' cs' t') : St w ((b, d) :: l) v' :=
  ⟨fun p hp => by
    rcases List.mem_cons.1 hp with rfl | hp
    · exact h1
    · exact h3 _ _ _ (hn p hp) (h.1 p (List.mem_cons_of_mem _ hp)), h2⟩
set_option maxRecDepth 100000 in
set_option maxHeartbeats 4000000 in
theorem law_timerPlays (a : Option Addr) (len cap : Nat) (K A V N : Nat → Int) (b o : Nat) (w : World) (hlen : len ≤ 9223372036854775807) (hS : Scr w a len K A V N b o) (T : Tabs w) :
    Calls Tryd.prog 4 #[.slice a len cap] w fun e w' => e = .returned (.bool true) ∧ Below w.heap.size w w' := by
  go_enter Tryd.func4, Tryd.ntmps4
  go_upto_region 3 with fail
  have s0 : St w [(w.heap.size, zeroC), (w.heap.size + 1, zeroC)] ((w.alloc (.cells zeroC.cells 24)).alloc (.cells zeroC.cells 24)) :=
    ⟨fun p hp => by
      simp only [List.mem_cons, List.not_mem_nil, or_false] at hp
      rcases hp with rfl | rfl
      · exact (Blk.new w _ _).old _
      · have := Blk.new (w.alloc (.cells zeroC.cells 24)) zeroC.cells 24; rwa [World.size_alloc] at this, below_c2 (Below.refl _ _) (Nat.le_refl _) _ _⟩
  change Code.wp _ _ _ _ ((w.alloc (.cells zeroC.cells 24)).alloc (.cells zeroC.cells 24))
  generalize (w.alloc (.cells zeroC.cells 24)).alloc (.cells zeroC.cells 24) = W0 at *
  have nz : ∀ W, (binOp .neq 24 (.agg (Ck.cells zeroC)) (.agg (Ck.cells zeroC))).run Tryd.prog W = .ok (.bool false) W := fun W => neq_yes W rfl
  go_upto_region 5 with (first
    | (refine wpList_load_blk rfl 24 _ rfl w.heap.size rfl (Ck.cells zeroC) _ (s0.blk w.heap.size zeroC (by simp)) Tryd.underlying24 rfl (infoC' _) ?_)
    | (refine wpList_load_blk rfl 24 _ rfl (w.heap.size + 1) rfl (Ck.cells zeroC) _ (s0.blk (w.heap.size + 1) zeroC (by simp)) Tryd.underlying24 rfl (infoC' _) ?_))
  clear nz
  go_wp2
  go_loopw [5, 6] (fun y i wr => ∃ (k : Nat) (ca : Ck) (cy : Int), k ≤ len ∧ i = .int .i64 k ∧ y = .int .i64 cy ∧ ca.Ok ∧ St w [(w.heap.size, ca), (w.heap.size + 1, ca)] wr) (fun _ i _ => len - (intOf i).toNat)
  case atStart => exact ⟨0, zeroC, 0, by omega, rfl, rfl, zero_ok, s0⟩
  case round =>
    clear s0
    obtain ⟨k, ca, cy, hk, rfl, rfl, oa, s0⟩ := hrel
    by_cases hlt : k < len
    · obtain ⟨rfl, hb⟩ := hS.at_ (by omega)
      obtain ⟨c0, c1, c2, c3⟩ := hS.cells k hlt
      obtain ⟨⟨n0, n1⟩, ⟨v0, v1⟩, ad0, ad1⟩ := hS.fits k hlt
      have hR : Hid (wr.rangeAt b (o + k * 4) [.int .i64 (K k), .int .u16 (A k), .int .u8 (V k), .int .i64 (N k)]) := fun j v hv => by
        have hc : ∀ j v, w.cell? ⟨b, o + k * 4 + j, none⟩ = some v → wr.cell? ⟨b, o + k * 4 + j, none⟩ = some v := fun j v h => (s0.2.cell (p := ⟨b, o + k * 4 + j, none⟩) hb).trans h
        match j, hv with
        | 0, hv => simp at hv; subst hv; exact hc 0 _ c0
        | 1, hv => simp at hv; subst hv; exact hc 1 _ c1
        | 2, hv => simp at hv; subst hv; exact hc 2 _ c2
        | 3, hv => simp at hv; subst hv; exact hc 3 _ c3
      clear c0 c1 c2 c3
      generalize K k = kd at *
      generalize A k = ad at *
      generalize V k = v at *
      generalize N k = n at *
      have hSH : Hid (Scr _ _ _ _ _ _ _ _ _) := hS
      clear hS
      go_upto_region 10 with (refine wpList_load_mid rfl 35 _ rfl b (o + k * 4) rfl [.int .i64 kd, .int .u16 ad, .int .u8 v, .int .i64 n] _ hR.out Tryd.underlying35 rfl (by kernel_rfl) ?_)
      have bo : Blk (wr.alloc (.cells #[.int .i64 kd, .int .u16 ad, .int .u8 v, .int .i64 n] 35)) wr.heap.size #[.int .i64 kd, .int .u16 ad, .int .u8 v, .int .i64 n] 35 := Blk.new wr _ _
      have hnb : w.heap.size + 1 < wr.heap.size := (s0.blk (w.heap.size + 1) ca (by simp)).lt
      replace s0 := s0.on ((Below.refl _ _).alloc (Nat.le_refl _) (.cells #[.int .i64 kd, .int .u16 ad, .int .u8 v, .int .i64 n] 35))
      generalize wr.alloc (.cells #[.int .i64 kd, .int .u16 ad, .int .u8 v, .int .i64 n] 35) = W1 at *
      generalize wr.heap.size = nb at *
      have g0 : W1.cell? ⟨nb, 0, none⟩ = some (.int .i64 kd) := bo.cell 0
      clear hR
      go_upto_block 2 with fail
      go_cut [5] (fun y wx => ∃ (cn : Ck) (cz : Int), y = .int .i64 cz ∧ cn.Ok ∧ St w [(w.heap.size, cn), (w.heap.size + 1, cn)] wx)
      case first =>
        by_cases hkd : kd = 0
        · subst hkd
          have h1 : Hid _ := fun (W : World) (h : Below w.heap.size w W) => read_any ca W ad oa (T.d.on h)
          have h2 : Hid _ := fun (W : World) (h : Below w.heap.size w W) => rread_any ca W ad oa
          have on := (Ck.rC_ok oa ad).1
          generalize ca.rV ad = rv at *
          generalize ca.rM ad = rm at *
          generalize ca.rC ad = cn at *
          go_upto_region 18 with (first
            | fail)
          clear g0
          have g1 : _ = some (Value.int .u16 ad) := bo.cell 1
          go_upto_region 19 with (first
            | (refine wpList_load_blk rfl 24 _ rfl w.heap.size rfl (Ck.cells ca) _ (s0.blk w.heap.size ca (by simp)) Tryd.underlying24 rfl (infoC' _) ?_)
            | (go_at_call 6; refine (h1.out _ s0.2).mono ?_; rintro e Wx ⟨rfl, hbx⟩; replace s0 := s0.on hbx; replace bo := bo.below bo.lt hbx; clear hbx)
            | (refine wpList_store_blk rfl 24 _ _ rfl (w.heap.size) _ (Ck.cells cn) 24 rfl rfl (s0.blk (w.heap.size) _ (List.mem_cons_self ..)) rfl (infoC' _) (Ck.cells_one _) w.heap.size w (Nat.le_refl _) s0.2 ?_; intro Wy by1 hby hoy; replace bo := hoy _ _ _ (by omega) bo; replace s0 := St.sto s0 (by simp) by1 hby hoy; clear by1 hby hoy))
          clear g1
          replace s0 : St w [(w.heap.size + 1, ca), (w.heap.size, cn)] _ := St.sub s0 (by simp)
          have g1 : _ = some (Value.int .u16 ad) := bo.cell 1
          go_upto_region 20 with (first
            | (refine wpList_load_blk rfl 24 _ rfl (w.heap.size + 1) rfl (Ck.cells ca) _ (s0.blk (w.heap.size + 1) ca (by simp)) Tryd.underlying24 rfl (infoC' _) ?_)
            | (go_at_call 12; refine (h2.out _ s0.2).mono ?_; rintro e Wx ⟨rfl, hbx⟩; replace s0 := s0.on hbx; replace bo := bo.below bo.lt hbx; clear hbx)
            | (refine wpList_store_blk rfl 24 _ _ rfl (w.heap.size + 1) _ (Ck.cells cn) 24 rfl rfl (s0.blk (w.heap.size + 1) _ (List.mem_cons_self ..)) rfl (infoC' _) (Ck.cells_one _) w.heap.size w (Nat.le_succ _) s0.2 ?_; intro Wy by1 hby hoy; replace bo := hoy _ _ _ (by omega) bo; replace s0 := St.sto s0 (by simp) by1 hby hoy; clear by1 hby hoy))
          have nbv : (rv != rv) = false := by simp
          have nbm : (rm != rm) = false := by simp
          go_wp2
          go_meet
          exact ⟨cn, cy, rfl, on, St.sub s0 (by simp)⟩
        have k0b : (kd == 0) = false := by simpa using hkd
        clear hkd
        by_cases hkd : kd = 1
        · subst hkd
          have h1 : Hid _ := fun (W : World) (h : Below w.heap.size w W) => write_any ca W ad v cy oa (T.d.on h) v0 v1
          have h2 : Hid _ := fun (W : World) (h : Below w.heap.size w W) => rwrite_any ca W ad v cy oa v0 v1
          have on := (Ck.wr_ok oa ad v cy v0 v1).1
          generalize ca.wr ad v cy = cn at *
          go_upto_region 23 with (first
            | fail)
          clear g0
          have g1 : _ = some (Value.int .u16 ad) := bo.cell 1
          have g2 : _ = some (Value.int .u8 v) := bo.cell 2
          go_upto_region 24 with (first
            | (refine wpList_load_blk rfl 24 _ rfl w.heap.size rfl (Ck.cells ca) _ (s0.blk w.heap.size ca (by simp)) Tryd.underlying24 rfl (infoC' _) ?_)
            | (go_at_call 7; refine (h1.out _ s0.2).mono ?_; rintro e Wx ⟨rfl, hbx⟩; replace s0 := s0.on hbx; replace bo := bo.below bo.lt hbx; clear hbx)
            | (refine wpList_store_blk rfl 24 _ _ rfl (w.heap.size) _ (Ck.cells cn) 24 rfl rfl (s0.blk (w.heap.size) _ (List.mem_cons_self ..)) rfl (infoC' _) (Ck.cells_one _) w.heap.size w (Nat.le_refl _) s0.2 ?_; intro Wy by1 hby hoy; replace bo := hoy _ _ _ (by omega) bo; replace s0 := St.sto s0 (by simp) by1 hby hoy; clear by1 hby hoy))
          clear g1 g2
          replace s0 : St w [(w.heap.size + 1, ca), (w.heap.size, cn)] _ := St.sub s0 (by simp)
          have g1 : _ = some (Value.int .u16 ad) := bo.cell 1
          have g2 : _ = some (Value.int .u8 v) := bo.cell 2
          go_wp2_with (first
            | (refine wpList_load_blk rfl 24 _ rfl (w.heap.size + 1) rfl (Ck.cells ca) _ (s0.blk (w.heap.size + 1) ca (by simp)) Tryd.underlying24 rfl (infoC' _) ?_)
            | (go_at_call 13; refine (h2.out _ s0.2).mono ?_; rintro e Wx ⟨rfl, hbx⟩; replace s0 := s0.on hbx; replace bo := bo.below bo.lt hbx; clear hbx)
            | (refine wpList_store_blk rfl 24 _ _ rfl (w.heap.size + 1) _ (Ck.cells cn) 24 rfl rfl (s0.blk (w.heap.size + 1) _ (List.mem_cons_self ..)) rfl (infoC' _) (Ck.cells_one _) w.heap.size w (Nat.le_succ _) s0.2 ?_; intro Wy by1 hby hoy; replace bo := hoy _ _ _ (by omega) bo; replace s0 := St.sto s0 (by simp) by1 hby hoy; clear by1 hby hoy))
          go_meet
          exact ⟨cn, cy, rfl, on, St.sub s0 (by simp)⟩
        have k1b : (kd == 1) = false := by simpa using hkd
        clear hkd
        go_upto_region 11 with (first
          | fail)
        clear g0
        have g3 : _ = some (Value.int .i64 n) := bo.cell 3
        go_upto_region 12 with (first
          | fail)
        clear g3
        have m1 : n.tmod 8192 ≤ 8191 := by have := Int.tmod_lt_of_pos n (show (0 : Int) < 8192 by decide); omega
        generalize n.tmod 8192 = m at *
        have h1 : Hid _ := fun (W : World) (h : Below w.heap.size w W) => adv_any ca m W oa (T.on h) (by omega)
        have h2 : Hid _ := fun (W : World) (h : Below w.heap.size w W) => radv_any ca m W oa (by omega)
        rw [Ck.adv_is oa m] at h2
        have on := (Ck.adv_ok oa m).1
        generalize ca.adv m = cn at *
        go_upto_region 13 with (first
          | (refine wpList_load_blk rfl 24 _ rfl w.heap.size rfl (Ck.cells ca) _ (s0.blk w.heap.size ca (by simp)) Tryd.underlying24 rfl (infoC' _) ?_)
          | (go_at_call 9; refine (h1.out _ s0.2).mono ?_; rintro e Wx ⟨rfl, hbx⟩; replace s0 := s0.on hbx; replace bo := bo.below bo.lt hbx; clear hbx)
          | (refine wpList_store_blk rfl 24 _ _ rfl (w.heap.size) _ (Ck.cells cn) 24 rfl rfl (s0.blk (w.heap.size) _ (List.mem_cons_self ..)) rfl (infoC' _) (Ck.cells_one _) w.heap.size w (Nat.le_refl _) s0.2 ?_; intro Wy by1 hby hoy; replace bo := hoy _ _ _ (by omega) bo; replace s0 := St.sto s0 (by simp) by1 hby hoy; clear by1 hby hoy))
        replace s0 : St w [(w.heap.size + 1, ca), (w.heap.size, cn)] _ := St.sub s0 (by simp)
        go_upto_region 14 with (first
          | (refine wpList_load_blk rfl 24 _ rfl (w.heap.size + 1) rfl (Ck.cells ca) _ (s0.blk (w.heap.size + 1) ca (by simp)) Tryd.underlying24 rfl (infoC' _) ?_)
          | (go_at_call 14; refine (h2.out _ s0.2).mono ?_; rintro e Wx ⟨rfl, hbx⟩; replace s0 := s0.on hbx; replace bo := bo.below bo.lt hbx; clear hbx)
          | (refine wpList_store_blk rfl 24 _ _ rfl (w.heap.size + 1) _ (Ck.cells cn) 24 rfl rfl (s0.blk (w.heap.size + 1) _ (List.mem_cons_self ..)) rfl (infoC' _) (Ck.cells_one _) w.heap.size w (Nat.le_succ _) s0.2 ?_; intro Wy by1 hby hoy; replace bo := hoy _ _ _ (by omega) bo; replace s0 := St.sto s0 (by simp) by1 hby hoy; clear by1 hby hoy))
        have sH : Hid (St _ _ _) := s0
        clear s0 h1 h2 bo
        by_cases hm : 0 < m
        · go_wp2
          go_meet
          exact ⟨cn, _, rfl, on, St.sub sH.out (by simp)⟩
        · have hmb : decide (0 < m) = false := decide_eq_false hm
          go_wp2
          go_meet
          exact ⟨cn, _, rfl, on, St.sub sH.out (by simp)⟩
      case rest =>
        clear g0 bo oa s0
        obtain ⟨cn, cz, rfl, on, s0⟩ := hcut
        go_upto_region 25 with fail
        have h1 : Hid _ := fun (W : World) (h : Below w.heap.size w W) => irq_any cn W on (T.d.on h)
        have h2 : Hid _ := fun (W : World) (h : Below w.heap.size w W) => rirq_any cn W on
        have h3 : Hid _ := fun (W : World) (h : Below w.heap.size w W) => next_any cn W on (T.on h)
        have h4 : Hid _ := fun (W : World) (h : Below w.heap.size w W) => rnext_any cn W on
        have hk9 : (k : Int) + 1 ≤ 9223372036854775807 := by omega
        have hk8 : k + 1 ≤ len := by omega
        generalize cn.irq = iq at *
        generalize cn.nxt = nv at *
        refine wp_region_held (S := St w [(w.heap.size, cn), (w.heap.size + 1, cn)]) (by kernel_rfl) ?_
        refine takeH (i := 0) (v := .agg (Ck.cells cn).toList.toArray) ⟨#[.slice (some ⟨b, o, none⟩) len cap, undef, u2, .pointer (some ⟨w.heap.size, 0, none⟩), .pointer (some ⟨w.heap.size + 1, 0, none⟩), .int .i64 cz, .int .i64 k, .pointer (some ⟨nb, 0, none⟩), u8, u9, u10, u11, u12, .agg (Ck.cells zeroC), .agg (Ck.cells zeroC), .agg (Ck.cells zeroC), .agg (Ck.cells zeroC), .bool false, u18, u19, u20, u21, u22, u23, u24, u25, u26, u27, u28, .int .i64 kd, u30, u31, u32, u33, u34, u35, u36, u37, u38, u39, u40, u41, u42, u43, u44, u45, u46, u47, u48, u49, u50, u51, u52, u53, u54, u55, u56, u57, u58, u59, u60, u61, u62, u63, u64, u65, u66, u67, u68, u69, u70, u71, u72, u73, u74, u75, u76, u77, u78, u79, u80, u81, u82, u83, u84, u85, .agg (Ck.cells cn), u87, u88, u89, u90, u91, u92, u93, u94, u95, u96, u97, u98, u99, u100, u101, u102], []⟩ rfl (by kernel_rfl) (by kernel_rfl) (by kernel_rfl) (fun _ _ _ h => h) (yieldsIf_load_mid (by kernel_rfl) 24 (.tmp 3) rfl w.heap.size 0 (by kernel_rfl) (Ck.cells cn).toList _ (fun v hv => Blk.range' (hv.blk w.heap.size cn (by simp))) Tryd.underlying24 rfl (by rw [Array.length_toList]; exact infoC' cn)) s0.drew (by kernel_rfl) ?_
        refine takeH (i := 1) (v := .agg (Ck.cells cn).toList.toArray) ⟨#[.slice (some ⟨b, o, none⟩) len cap, undef, u2, .pointer (some ⟨w.heap.size, 0, none⟩), .pointer (some ⟨w.heap.size + 1, 0, none⟩), .int .i64 cz, .int .i64 k, .pointer (some ⟨nb, 0, none⟩), u8, u9, u10, u11, u12, .agg (Ck.cells zeroC), .agg (Ck.cells zeroC), .agg (Ck.cells zeroC), .agg (Ck.cells zeroC), .bool false, u18, u19, u20, u21, u22, u23, u24, u25, u26, u27, u28, .int .i64 kd, u30, u31, u32, u33, u34, u35, u36, u37, u38, u39, u40, u41, u42, u43, u44, u45, u46, u47, u48, u49, u50, u51, u52, u53, u54, u55, u56, u57, u58, u59, u60, u61, u62, u63, u64, u65, u66, u67, u68, u69, u70, u71, u72, u73, u74, u75, u76, u77, u78, u79, u80, u81, u82, u83, u84, u85, .agg (Ck.cells cn), .agg (Ck.cells cn), u88, u89, u90, u91, u92, u93, u94, u95, u96, u97, u98, u99, u100, u101, u102], []⟩ rfl (by kernel_rfl) (by kernel_rfl) (by kernel_rfl) (fun _ _ _ h => h) (yieldsIf_load_mid (by kernel_rfl) 24 (.tmp 4) rfl (w.heap.size + 1) 0 (by kernel_rfl) (Ck.cells cn).toList _ (fun v hv => Blk.range' (hv.blk (w.heap.size + 1) cn (by simp))) Tryd.underlying24 rfl (by rw [Array.length_toList]; exact infoC' cn)) s0.drew (by kernel_rfl) ?_
        refine takeH (i := 2) (v := .bool false) ⟨#[.slice (some ⟨b, o, none⟩) len cap, undef, u2, .pointer (some ⟨w.heap.size, 0, none⟩), .pointer (some ⟨w.heap.size + 1, 0, none⟩), .int .i64 cz, .int .i64 k, .pointer (some ⟨nb, 0, none⟩), u8, u9, u10, u11, u12, .agg (Ck.cells zeroC), .agg (Ck.cells zeroC), .agg (Ck.cells zeroC), .agg (Ck.cells zeroC), .bool false, u18, u19, u20, u21, u22, u23, u24, u25, u26, u27, u28, .int .i64 kd, u30, u31, u32, u33, u34, u35, u36, u37, u38, u39, u40, u41, u42, u43, u44, u45, u46, u47, u48, u49, u50, u51, u52, u53, u54, u55, u56, u57, u58, u59, u60, u61, u62, u63, u64, u65, u66, u67, u68, u69, u70, u71, u72, u73, u74, u75, u76, u77, u78, u79, u80, u81, u82, u83, u84, u85, .agg (Ck.cells cn), .agg (Ck.cells cn), .bool false, u89, u90, u91, u92, u93, u94, u95, u96, u97, u98, u99, u100, u101, u102], []⟩ rfl (by kernel_rfl) (by kernel_rfl) (by kernel_rfl) (fun _ _ _ h => h) (.inl ⟨by kernel_rfl, fun v _ => exec_bin rfl (by kernel_rfl) (by kernel_rfl) (neq_yes v (rfl : cn = cn))⟩) s0.drew (by kernel_rfl) ?_
        refine takeH (i := 3) (v := .bool false) ⟨#[.slice (some ⟨b, o, none⟩) len cap, undef, u2, .pointer (some ⟨w.heap.size, 0, none⟩), .pointer (some ⟨w.heap.size + 1, 0, none⟩), .int .i64 cz, .int .i64 k, .pointer (some ⟨nb, 0, none⟩), u8, u9, u10, u11, u12, .agg (Ck.cells zeroC), .agg (Ck.cells zeroC), .agg (Ck.cells zeroC), .agg (Ck.cells zeroC), .bool false, u18, u19, u20, u21, u22, u23, u24, u25, u26, u27, u28, .int .i64 kd, u30, u31, u32, u33, u34, u35, u36, u37, u38, u39, u40, u41, u42, u43, u44, u45, u46, u47, u48, u49, u50, u51, u52, u53, u54, u55, u56, u57, u58, u59, u60, u61, u62, u63, u64, u65, u66, u67, u68, u69, u70, u71, u72, u73, u74, u75, u76, u77, u78, u79, u80, u81, u82, u83, u84, u85, .agg (Ck.cells cn), .agg (Ck.cells cn), .bool false, .bool false, u90, u91, u92, u93, u94, u95, u96, u97, u98, u99, u100, u101, u102], []⟩ rfl (by kernel_rfl) (by kernel_rfl) (by kernel_rfl) (fun _ _ _ h => h) (.inl ⟨by kernel_rfl, fun _ _ => by kernel_rfl⟩) s0.drew (by kernel_rfl) ?_
        refine takeH (i := 4) (v := .agg (Ck.cells cn).toList.toArray) ⟨#[.slice (some ⟨b, o, none⟩) len cap, undef, u2, .pointer (some ⟨w.heap.size, 0, none⟩), .pointer (some ⟨w.heap.size + 1, 0, none⟩), .int .i64 cz, .int .i64 k, .pointer (some ⟨nb, 0, none⟩), u8, u9, u10, u11, u12, .agg (Ck.cells zeroC), .agg (Ck.cells zeroC), .agg (Ck.cells zeroC), .agg (Ck.cells zeroC), .bool false, u18, u19, u20, u21, u22, u23, u24, u25, u26, u27, u28, .int .i64 kd, u30, u31, u32, u33, u34, u35, u36, u37, u38, u39, u40, u41, u42, u43, u44, u45, u46, u47, u48, u49, u50, u51, u52, u53, u54, u55, u56, u57, u58, u59, u60, u61, u62, u63, u64, u65, u66, u67, u68, u69, u70, u71, u72, u73, u74, u75, u76, u77, u78, u79, u80, u81, u82, u83, u84, u85, .agg (Ck.cells cn), .agg (Ck.cells cn), .bool false, .bool false, .agg (Ck.cells cn), u91, u92, u93, u94, u95, u96, u97, u98, u99, u100, u101, u102], []⟩ rfl (by kernel_rfl) (by kernel_rfl) (by kernel_rfl) (fun _ _ _ h => h) (yieldsIf_load_mid (by kernel_rfl) 24 (.tmp 3) rfl w.heap.size 0 (by kernel_rfl) (Ck.cells cn).toList _ (fun v hv => Blk.range' (hv.blk w.heap.size cn (by simp))) Tryd.underlying24 rfl (by rw [Array.length_toList]; exact infoC' cn)) s0.drew (by kernel_rfl) ?_
        refine takeH (i := 6) (v := .agg (Ck.cells cn).toList.toArray) ⟨#[.slice (some ⟨b, o, none⟩) len cap, undef, u2, .pointer (some ⟨w.heap.size, 0, none⟩), .pointer (some ⟨w.heap.size + 1, 0, none⟩), .int .i64 cz, .int .i64 k, .pointer (some ⟨nb, 0, none⟩), u8, u9, u10, u11, u12, .agg (Ck.cells zeroC), .agg (Ck.cells zeroC), .agg (Ck.cells zeroC), .agg (Ck.cells zeroC), .bool false, u18, u19, u20, u21, u22, u23, u24, u25, u26, u27, u28, .int .i64 kd, u30, u31, u32, u33, u34, u35, u36, u37, u38, u39, u40, u41, u42, u43, u44, u45, u46, u47, u48, u49, u50, u51, u52, u53, u54, u55, u56, u57, u58, u59, u60, u61, u62, u63, u64, u65, u66, u67, u68, u69, u70, u71, u72, u73, u74, u75, u76, u77, u78, u79, u80, u81, u82, u83, u84, u85, .agg (Ck.cells cn), .agg (Ck.cells cn), .bool false, .bool false, .agg (Ck.cells cn), u91, .agg (Ck.cells cn), u93, u94, u95, u96, u97, u98, u99, u100, u101, u102], []⟩ rfl (by kernel_rfl) (by kernel_rfl) (by kernel_rfl) (fun _ _ _ h => h) (yieldsIf_load_mid (by kernel_rfl) 24 (.tmp 4) rfl (w.heap.size + 1) 0 (by kernel_rfl) (Ck.cells cn).toList _ (fun v hv => Blk.range' (hv.blk (w.heap.size + 1) cn (by simp))) Tryd.underlying24 rfl (by rw [Array.length_toList]; exact infoC' cn)) s0.drew (by kernel_rfl) ?_
        refine wpAnyH_all (rs := [5]) (by kernel_rfl) (by simp) ?_
        intro i hi
        obtain rfl : i = 5 := by simpa using hi
        refine wpOp_contract (f := 10) rfl (by kernel_rfl) (by kernel_rfl) (h1.out _ s0.drew.2) ⟨#[.slice (some ⟨b, o, none⟩) len cap, undef, u2, .pointer (some ⟨w.heap.size, 0, none⟩), .pointer (some ⟨w.heap.size + 1, 0, none⟩), .int .i64 cz, .int .i64 k, .pointer (some ⟨nb, 0, none⟩), u8, u9, u10, u11, u12, .agg (Ck.cells zeroC), .agg (Ck.cells zeroC), .agg (Ck.cells zeroC), .agg (Ck.cells zeroC), .bool false, u18, u19, u20, u21, u22, u23, u24, u25, u26, u27, u28, .int .i64 kd, u30, u31, u32, u33, u34, u35, u36, u37, u38, u39, u40, u41, u42, u43, u44, u45, u46, u47, u48, u49, u50, u51, u52, u53, u54, u55, u56, u57, u58, u59, u60, u61, u62, u63, u64, u65, u66, u67, u68, u69, u70, u71, u72, u73, u74, u75, u76, u77, u78, u79, u80, u81, u82, u83, u84, u85, .agg (Ck.cells cn), .agg (Ck.cells cn), .bool false, .bool false, .agg (Ck.cells cn), .bool iq, .agg (Ck.cells cn), u93, u94, u95, u96, u97, u98, u99, u100, u101, u102], []⟩ (by kernel_rfl) ?_
        intro V1 hbq
        have s1 := s0.drew.on hbq
        clear hbq
        clear hi
        refine ⟨s1, ?_⟩
        refine wpAnyH_all (rs := [7]) (by kernel_rfl) (by simp) ?_
        intro i hi
        obtain rfl : i = 7 := by simpa using hi
        refine wpOp_contract (f := 15) rfl (by kernel_rfl) (by kernel_rfl) (h2.out _ s1.2) ⟨#[.slice (some ⟨b, o, none⟩) len cap, undef, u2, .pointer (some ⟨w.heap.size, 0, none⟩), .pointer (some ⟨w.heap.size + 1, 0, none⟩), .int .i64 cz, .int .i64 k, .pointer (some ⟨nb, 0, none⟩), u8, u9, u10, u11, u12, .agg (Ck.cells zeroC), .agg (Ck.cells zeroC), .agg (Ck.cells zeroC), .agg (Ck.cells zeroC), .bool false, u18, u19, u20, u21, u22, u23, u24, u25, u26, u27, u28, .int .i64 kd, u30, u31, u32, u33, u34, u35, u36, u37, u38, u39, u40, u41, u42, u43, u44, u45, u46, u47, u48, u49, u50, u51, u52, u53, u54, u55, u56, u57, u58, u59, u60, u61, u62, u63, u64, u65, u66, u67, u68, u69, u70, u71, u72, u73, u74, u75, u76, u77, u78, u79, u80, u81, u82, u83, u84, u85, .agg (Ck.cells cn), .agg (Ck.cells cn), .bool false, .bool false, .agg (Ck.cells cn), .bool iq, .agg (Ck.cells cn), .bool iq, u94, u95, u96, u97, u98, u99, u100, u101, u102], []⟩ (by kernel_rfl) ?_
        intro V2 hbq
        have s2 := s1.on hbq
        clear hbq
        clear hi
        refine ⟨s2, ?_⟩
        refine takeH (i := 8) (v := .bool false) ⟨#[.slice (some ⟨b, o, none⟩) len cap, undef, u2, .pointer (some ⟨w.heap.size, 0, none⟩), .pointer (some ⟨w.heap.size + 1, 0, none⟩), .int .i64 cz, .int .i64 k, .pointer (some ⟨nb, 0, none⟩), u8, u9, u10, u11, u12, .agg (Ck.cells zeroC), .agg (Ck.cells zeroC), .agg (Ck.cells zeroC), .agg (Ck.cells zeroC), .bool false, u18, u19, u20, u21, u22, u23, u24, u25, u26, u27, u28, .int .i64 kd, u30, u31, u32, u33, u34, u35, u36, u37, u38, u39, u40, u41, u42, u43, u44, u45, u46, u47, u48, u49, u50, u51, u52, u53, u54, u55, u56, u57, u58, u59, u60, u61, u62, u63, u64, u65, u66, u67, u68, u69, u70, u71, u72, u73, u74, u75, u76, u77, u78, u79, u80, u81, u82, u83, u84, u85, .agg (Ck.cells cn), .agg (Ck.cells cn), .bool false, .bool false, .agg (Ck.cells cn), .bool iq, .agg (Ck.cells cn), .bool iq, .bool false, u95, u96, u97, u98, u99, u100, u101, u102], []⟩ rfl (by kernel_rfl) (by kernel_rfl) (by kernel_rfl) (fun _ _ _ h => h) (.inl ⟨by kernel_rfl, fun v _ => exec_neqb (a := iq) rfl (by kernel_rfl) (by kernel_rfl) Tryd.underlying4⟩) s2 (by kernel_rfl) ?_
        refine takeH (i := 9) (v := .bool false) ⟨#[.slice (some ⟨b, o, none⟩) len cap, undef, u2, .pointer (some ⟨w.heap.size, 0, none⟩), .pointer (some ⟨w.heap.size + 1, 0, none⟩), .int .i64 cz, .int .i64 k, .pointer (some ⟨nb, 0, none⟩), u8, u9, u10, u11, u12, .agg (Ck.cells zeroC), .agg (Ck.cells zeroC), .agg (Ck.cells zeroC), .agg (Ck.cells zeroC), .bool false, u18, u19, u20, u21, u22, u23, u24, u25, u26, u27, u28, .int .i64 kd, u30, u31, u32, u33, u34, u35, u36, u37, u38, u39, u40, u41, u42, u43, u44, u45, u46, u47, u48, u49, u50, u51, u52, u53, u54, u55, u56, u57, u58, u59, u60, u61, u62, u63, u64, u65, u66, u67, u68, u69, u70, u71, u72, u73, u74, u75, u76, u77, u78, u79, u80, u81, u82, u83, u84, u85, .agg (Ck.cells cn), .agg (Ck.cells cn), .bool false, .bool false, .agg (Ck.cells cn), .bool iq, .agg (Ck.cells cn), .bool iq, .bool false, .bool false, u96, u97, u98, u99, u100, u101, u102], []⟩ rfl (by kernel_rfl) (by kernel_rfl) (by kernel_rfl) (fun _ _ _ h => h) (.inl ⟨by kernel_rfl, fun _ _ => by kernel_rfl⟩) s2 (by kernel_rfl) ?_
        refine takeH (i := 10) (v := .bool false) ⟨#[.slice (some ⟨b, o, none⟩) len cap, undef, u2, .pointer (some ⟨w.heap.size, 0, none⟩), .pointer (some ⟨w.heap.size + 1, 0, none⟩), .int .i64 cz, .int .i64 k, .pointer (some ⟨nb, 0, none⟩), u8, u9, u10, u11, u12, .agg (Ck.cells zeroC), .agg (Ck.cells zeroC), .agg (Ck.cells zeroC), .agg (Ck.cells zeroC), .bool false, u18, u19, u20, u21, u22, u23, u24, u25, u26, u27, u28, .int .i64 kd, u30, u31, u32, u33, u34, u35, u36, u37, u38, u39, u40, u41, u42, u43, u44, u45, u46, u47, u48, u49, u50, u51, u52, u53, u54, u55, u56, u57, u58, u59, u60, u61, u62, u63, u64, u65, u66, u67, u68, u69, u70, u71, u72, u73, u74, u75, u76, u77, u78, u79, u80, u81, u82, u83, u84, u85, .agg (Ck.cells cn), .agg (Ck.cells cn), .bool false, .bool false, .agg (Ck.cells cn), .bool iq, .agg (Ck.cells cn), .bool iq, .bool false, .bool false, .bool false, u97, u98, u99, u100, u101, u102], []⟩ rfl (by kernel_rfl) (by kernel_rfl) (by kernel_rfl) (fun _ _ _ h => h) (.inl ⟨by kernel_rfl, fun _ _ => by kernel_rfl⟩) s2 (by kernel_rfl) ?_
        refine takeH (i := 11) (v := .agg (Ck.cells cn).toList.toArray) ⟨#[.slice (some ⟨b, o, none⟩) len cap, undef, u2, .pointer (some ⟨w.heap.size, 0, none⟩), .pointer (some ⟨w.heap.size + 1, 0, none⟩), .int .i64 cz, .int .i64 k, .pointer (some ⟨nb, 0, none⟩), u8, u9, u10, u11, u12, .agg (Ck.cells zeroC), .agg (Ck.cells zeroC), .agg (Ck.cells zeroC), .agg (Ck.cells zeroC), .bool false, u18, u19, u20, u21, u22, u23, u24, u25, u26, u27, u28, .int .i64 kd, u30, u31, u32, u33, u34, u35, u36, u37, u38, u39, u40, u41, u42, u43, u44, u45, u46, u47, u48, u49, u50, u51, u52, u53, u54, u55, u56, u57, u58, u59, u60, u61, u62, u63, u64, u65, u66, u67, u68, u69, u70, u71, u72, u73, u74, u75, u76, u77, u78, u79, u80, u81, u82, u83, u84, u85, .agg (Ck.cells cn), .agg (Ck.cells cn), .bool false, .bool false, .agg (Ck.cells cn), .bool iq, .agg (Ck.cells cn), .bool iq, .bool false, .bool false, .bool false, .agg (Ck.cells cn), u98, u99, u100, u101, u102], []⟩ rfl (by kernel_rfl) (by kernel_rfl) (by kernel_rfl) (fun _ _ _ h => h) (yieldsIf_load_mid (by kernel_rfl) 24 (.tmp 3) rfl w.heap.size 0 (by kernel_rfl) (Ck.cells cn).toList _ (fun v hv => Blk.range' (hv.blk w.heap.size cn (by simp))) Tryd.underlying24 rfl (by rw [Array.length_toList]; exact infoC' cn)) s2 (by kernel_rfl) ?_
        refine takeH (i := 13) (v := .agg (Ck.cells cn).toList.toArray) ⟨#[.slice (some ⟨b, o, none⟩) len cap, undef, u2, .pointer (some ⟨w.heap.size, 0, none⟩), .pointer (some ⟨w.heap.size + 1, 0, none⟩), .int .i64 cz, .int .i64 k, .pointer (some ⟨nb, 0, none⟩), u8, u9, u10, u11, u12, .agg (Ck.cells zeroC), .agg (Ck.cells zeroC), .agg (Ck.cells zeroC), .agg (Ck.cells zeroC), .bool false, u18, u19, u20, u21, u22, u23, u24, u25, u26, u27, u28, .int .i64 kd, u30, u31, u32, u33, u34, u35, u36, u37, u38, u39, u40, u41, u42, u43, u44, u45, u46, u47, u48, u49, u50, u51, u52, u53, u54, u55, u56, u57, u58, u59, u60, u61, u62, u63, u64, u65, u66, u67, u68, u69, u70, u71, u72, u73, u74, u75, u76, u77, u78, u79, u80, u81, u82, u83, u84, u85, .agg (Ck.cells cn), .agg (Ck.cells cn), .bool false, .bool false, .agg (Ck.cells cn), .bool iq, .agg (Ck.cells cn), .bool iq, .bool false, .bool false, .bool false, .agg (Ck.cells cn), u98, .agg (Ck.cells cn), u100, u101, u102], []⟩ rfl (by kernel_rfl) (by kernel_rfl) (by kernel_rfl) (fun _ _ _ h => h) (yieldsIf_load_mid (by kernel_rfl) 24 (.tmp 4) rfl (w.heap.size + 1) 0 (by kernel_rfl) (Ck.cells cn).toList _ (fun v hv => Blk.range' (hv.blk (w.heap.size + 1) cn (by simp))) Tryd.underlying24 rfl (by rw [Array.length_toList]; exact infoC' cn)) s2 (by kernel_rfl) ?_
        refine wpAnyH_all (rs := [12]) (by kernel_rfl) (by simp) ?_
        intro i hi
        obtain rfl : i = 12 := by simpa using hi
        refine wpOp_contract (f := 11) rfl (by kernel_rfl) (by kernel_rfl) (h3.out _ s2.2) ⟨#[.slice (some ⟨b, o, none⟩) len cap, undef, u2, .pointer (some ⟨w.heap.size, 0, none⟩), .pointer (some ⟨w.heap.size + 1, 0, none⟩), .int .i64 cz, .int .i64 k, .pointer (some ⟨nb, 0, none⟩), u8, u9, u10, u11, u12, .agg (Ck.cells zeroC), .agg (Ck.cells zeroC), .agg (Ck.cells zeroC), .agg (Ck.cells zeroC), .bool false, u18, u19, u20, u21, u22, u23, u24, u25, u26, u27, u28, .int .i64 kd, u30, u31, u32, u33, u34, u35, u36, u37, u38, u39, u40, u41, u42, u43, u44, u45, u46, u47, u48, u49, u50, u51, u52, u53, u54, u55, u56, u57, u58, u59, u60, u61, u62, u63, u64, u65, u66, u67, u68, u69, u70, u71, u72, u73, u74, u75, u76, u77, u78, u79, u80, u81, u82, u83, u84, u85, .agg (Ck.cells cn), .agg (Ck.cells cn), .bool false, .bool false, .agg (Ck.cells cn), .bool iq, .agg (Ck.cells cn), .bool iq, .bool false, .bool false, .bool false, .agg (Ck.cells cn), .int .i64 nv, .agg (Ck.cells cn), u100, u101, u102], []⟩ (by kernel_rfl) ?_
        intro V3 hbq
        have s3 := s2.on hbq
        clear hbq
        clear hi
        refine ⟨s3, ?_⟩
        refine wpAnyH_all (rs := [14]) (by kernel_rfl) (by simp) ?_
        intro i hi
        obtain rfl : i = 14 := by simpa using hi
        refine wpOp_contract (f := 16) rfl (by kernel_rfl) (by kernel_rfl) (h4.out _ s3.2) ⟨#[.slice (some ⟨b, o, none⟩) len cap, undef, u2, .pointer (some ⟨w.heap.size, 0, none⟩), .pointer (some ⟨w.heap.size + 1, 0, none⟩), .int .i64 cz, .int .i64 k, .pointer (some ⟨nb, 0, none⟩), u8, u9, u10, u11, u12, .agg (Ck.cells zeroC), .agg (Ck.cells zeroC), .agg (Ck.cells zeroC), .agg (Ck.cells zeroC), .bool false, u18, u19, u20, u21, u22, u23, u24, u25, u26, u27, u28, .int .i64 kd, u30, u31, u32, u33, u34, u35, u36, u37, u38, u39, u40, u41, u42, u43, u44, u45, u46, u47, u48, u49, u50, u51, u52, u53, u54, u55, u56, u57, u58, u59, u60, u61, u62, u63, u64, u65, u66, u67, u68, u69, u70, u71, u72, u73, u74, u75, u76, u77, u78, u79, u80, u81, u82, u83, u84, u85, .agg (Ck.cells cn), .agg (Ck.cells cn), .bool false, .bool false, .agg (Ck.cells cn), .bool iq, .agg (Ck.cells cn), .bool iq, .bool false, .bool false, .bool false, .agg (Ck.cells cn), .int .i64 nv, .agg (Ck.cells cn), .int .i64 nv, u101, u102], []⟩ (by kernel_rfl) ?_
        intro V4 hbq
        have s4 := s3.on hbq
        clear hbq
        clear hi
        refine ⟨s4, ?_⟩
        refine takeH (i := 15) (v := .bool false) ⟨#[.slice (some ⟨b, o, none⟩) len cap, undef, u2, .pointer (some ⟨w.heap.size, 0, none⟩), .pointer (some ⟨w.heap.size + 1, 0, none⟩), .int .i64 cz, .int .i64 k, .pointer (some ⟨nb, 0, none⟩), u8, u9, u10, u11, u12, .agg (Ck.cells zeroC), .agg (Ck.cells zeroC), .agg (Ck.cells zeroC), .agg (Ck.cells zeroC), .bool false, u18, u19, u20, u21, u22, u23, u24, u25, u26, u27, u28, .int .i64 kd, u30, u31, u32, u33, u34, u35, u36, u37, u38, u39, u40, u41, u42, u43, u44, u45, u46, u47, u48, u49, u50, u51, u52, u53, u54, u55, u56, u57, u58, u59, u60, u61, u62, u63, u64, u65, u66, u67, u68, u69, u70, u71, u72, u73, u74, u75, u76, u77, u78, u79, u80, u81, u82, u83, u84, u85, .agg (Ck.cells cn), .agg (Ck.cells cn), .bool false, .bool false, .agg (Ck.cells cn), .bool iq, .agg (Ck.cells cn), .bool iq, .bool false, .bool false, .bool false, .agg (Ck.cells cn), .int .i64 nv, .agg (Ck.cells cn), .int .i64 nv, .bool false, u102], []⟩ rfl (by kernel_rfl) (by kernel_rfl) (by kernel_rfl) (fun _ _ _ h => h) (.inl ⟨by kernel_rfl, fun v _ => exec_neq (a := nv) (b := nv) rfl (by kernel_rfl) (by kernel_rfl) Tryd.underlying3 (by simp)⟩) s4 (by kernel_rfl) ?_
        refine takeH (i := 16) (v := .bool false) ⟨#[.slice (some ⟨b, o, none⟩) len cap, undef, u2, .pointer (some ⟨w.heap.size, 0, none⟩), .pointer (some ⟨w.heap.size + 1, 0, none⟩), .int .i64 cz, .int .i64 k, .pointer (some ⟨nb, 0, none⟩), u8, u9, u10, u11, u12, .agg (Ck.cells zeroC), .agg (Ck.cells zeroC), .agg (Ck.cells zeroC), .agg (Ck.cells zeroC), .bool false, u18, u19, u20, u21, u22, u23, u24, u25, u26, u27, u28, .int .i64 kd, u30, u31, u32, u33, u34, u35, u36, u37, u38, u39, u40, u41, u42, u43, u44, u45, u46, u47, u48, u49, u50, u51, u52, u53, u54, u55, u56, u57, u58, u59, u60, u61, u62, u63, u64, u65, u66, u67, u68, u69, u70, u71, u72, u73, u74, u75, u76, u77, u78, u79, u80, u81, u82, u83, u84, u85, .agg (Ck.cells cn), .agg (Ck.cells cn), .bool false, .bool false, .agg (Ck.cells cn), .bool iq, .agg (Ck.cells cn), .bool iq, .bool false, .bool false, .bool false, .agg (Ck.cells cn), .int .i64 nv, .agg (Ck.cells cn), .int .i64 nv, .bool false, .bool false], []⟩ rfl (by kernel_rfl) (by kernel_rfl) (by kernel_rfl) (fun _ _ _ h => h) (.inl ⟨by kernel_rfl, fun _ _ => by kernel_rfl⟩) s4 (by kernel_rfl) ?_
        refine wpAnyH_done (by kernel_rfl) ?_ _
        try dsimp only
        have sH : Hid (St _ _ _) := s4
        clear h1 h2 h3 h4
        go_wp2
        go_roundw
        case rel => first | exact ⟨k + 1, cn, cz, hk8, by go_num, rfl, on, sH.out⟩ | ((repeat apply Exists.intro); exact ⟨⟨k + 1, cn, cz, hk8, by go_num, rfl, on, sH.out⟩, rfl⟩)
        case measure => simp [intOf]; omega
    · have hkn : k = len := by omega
      subst hkn
      go_wp2
      go_ret
      exact ⟨rfl, s0.2⟩
end Go.Proofs.YtobiiogoofkmaaaDoor
