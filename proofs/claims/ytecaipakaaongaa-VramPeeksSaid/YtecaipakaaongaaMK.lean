/-
  What sharedOf and plainOf answer; conditions: the cells that they read hold the board's numbers.
  What kindOf answers, kind by kind; conditions: the cells that it reads hold the board's numbers.
-/
import Derived.Test.YtecaipakaaongaaMRegs
namespace Go.Proofs.Ytecaipakaaongaa
open Go.RowKit Classical
def writeAll (cs : Array Value) : Nat → List Value → Array Value
  | _, [] => cs
  | o, v :: vs => writeAll (cs.setIfInBounds o v) (o + 1) vs
theorem writeAll_size : ∀ (vs : List Value) (o : Nat) (cs : Array Value), (writeAll cs o vs).size = cs.size
  | [], _, _ => rfl
  | v :: vs, o, cs => by rw [writeAll, writeAll_size vs]; simp
theorem writeAll_get : ∀ (vs : List Value) (o : Nat) (cs : Array Value) (i : Nat), o + vs.length ≤ cs.size → (writeAll cs o vs)[i]? = if o ≤ i ∧ i < o + vs.length then vs[i - o]? else cs[i]?
  | [], o, cs, i, _ => by rw [writeAll, if_neg (by simp only [List.length_nil]; omega)]
  | v :: vs, o, cs, i, h => by
    simp only [List.length_cons] at h
    rw [writeAll, writeAll_get vs (o + 1) _ i (by simp; omega)]
    by_cases h1 : o + 1 ≤ i ∧ i < o + 1 + vs.length
    · rw [if_pos h1, if_pos (by simp only [List.length_cons]; omega), show i - o = (i - (o + 1)) + 1 by omega, List.getElem?_cons_succ]
    · rw [if_neg h1]
      by_cases h2 : o = i
      · subst h2
        rw [if_pos (by simp only [List.length_cons]; omega), Array.getElem?_setIfInBounds, if_pos rfl, if_pos (by omega), Nat.sub_self, List.getElem?_cons_zero]
      · rw [if_neg (by simp only [List.length_cons]; omega), Array.getElem?_setIfInBounds, if_neg h2]
theorem Blk.setCells {m : Nat} {t : TypeId} : ∀ (vs : List Value) (o : Nat) (w : World) (cs : Array Value), Blk w m cs t → Blk (w.setCells m o vs) m (writeAll cs o vs) t
  | [], _, _, _, h => h
  | v :: vs, o, w, _, h => Blk.setCells vs (o + 1) (w.setCell ⟨m, o, none⟩ v) _ (h.set o v)
theorem Blk.setAll {w : World} {m : Nat} {cs : Array Value} {t : TypeId} (h : Blk w m cs t) (L : Array Value) (hs : L.size = cs.size) : Blk (w.setCells m 0 L.toList) m L t := by
  have e : writeAll cs 0 L.toList = L := by
    apply Array.ext_getElem?
    intro i
    rw [writeAll_get _ _ _ _ (by simp [hs])]
    by_cases hi : i < L.size
    · rw [if_pos (by simp [hi])]; simp
    · rw [if_neg (by simp [hi]), Array.getElem?_eq_none (by omega), Array.getElem?_eq_none (by omega)]
  have := Blk.setCells L.toList 0 w cs h
  rwa [e] at this
theorem ret_agg {P : Program} {fn : Func} {R : Ending → World → Prop} {tmps : Array Value} {w : World} {p : Tmp} {ty : TypeId} {m : Nat} {L : Array Value} {d : TypeDesc} {t : TypeId} (h : fn.results = #[.cell p ty]) (hp : tmps.getD p undef = .pointer (some ⟨m, 0, none⟩))
    (hb : Blk w m L t) (hu : P.underlying ty = some d) (hd : d.isRow = true) (hi : (P.info? ty).map (·.size) = some L.size) (hR : R (.returned (.agg L)) w) : bodyPost P fn R .ret ⟨tmps, []⟩ w := by
  refine bodyPost_ret (v := .agg L) ?_ rfl hR
  rw [results_cell h]
  show ((asAddr (tmps.getD p undef)).run P w).andThen _ = _
  rw [hp]
  have hr := run_loadVar_mid (P := P) w m 0 ty L.toList d hb.range hu hd (by rw [Array.length_toList]; exact hi)
  simp only [Array.toArray_toList] at hr
  simp only [asAddr, Sem.run_pure, Result.andThen_ok]
  exact hr
/-- What every kind has. -/
def shc (b : Bd) : Array Value := #[.int .i64 b.sub, .int .u8 b.hard, .bool b.work, .bool b.chrRam, .int .i64 b.prg, .int .i64 b.chr, .int .i64 b.epoch]
theorem Try.infoShared : (Try.prog.info? 77).map (·.size) = some 7 := by kernel_rfl
theorem shc_one (b : Bd) : (shc b).all (·.oneCell') = true := by kernel_rfl
abbrev Z7 : Array Value := #[.int .i64 0, .int .u8 0, .bool false, .bool false, .int .i64 0, .int .i64 0, .int .i64 0]
set_option maxRecDepth 100000 in
theorem sharedOf_any (w : World) (b : Bd) (hr : b.r.length = 8) :
    Calls Try.prog 58 #[.agg b.cells] w fun e w' => e = .returned (.agg (shc b)) ∧ Below w.heap.size w w' := by
  have C := isB b hr
  generalize b.cells = cs at C
  have hsz := C.size
  go_enter Try.func58, Try.ntmps58
  go_upto_region 1 with fail
  have b0 : Blk ((w.alloc (.cells cs 37)).alloc (.cells Z7 77)) w.heap.size cs 37 := (Blk.new w cs _).old _
  have z0 : Blk ((w.alloc (.cells cs 37)).alloc (.cells Z7 77)) (w.heap.size + 1) Z7 77 := by
    have := Blk.new (w.alloc (.cells cs 37)) Z7 77
    rwa [World.size_alloc] at this
  have hb0 : Below w.heap.size w ((w.alloc (.cells cs 37)).alloc (.cells Z7 77)) := ((Below.refl _ _).alloc (Nat.le_refl _) _).alloc (by simp) _
  generalize (w.alloc (.cells cs 37)).alloc (.cells Z7 77) = W0 at *
  have d1 := (b0.cell 1).trans C.h1
  have d2 := (b0.cell 2).trans C.h2
  have d3 := (b0.cell 3).trans C.h3
  have d4 := (b0.cell 4).trans C.h4
  have d5 := (b0.cell 5).trans C.h5
  have d6 := (b0.cell 6).trans C.h6
  have d30 := (b0.cell 30).trans C.h30
  clear C hsz b0
  go_wp2_with (refine wpList_store_mid rfl 77 _ _ rfl (w.heap.size + 1) 0 (shc b) rfl rfl (by exact z0.there _ rfl) (by exact Try.infoShared) (shc_one b) ?_)
  exact ret_agg (m := w.heap.size + 1) (L := shc b) Try.results58 (by rfl) (z0.setAll (shc b) rfl) Try.underlying77 rfl Try.infoShared ⟨rfl, setCells_below (by omega) _ _ _ _ hb0⟩

/-- The plain value with that kind and no registers. -/
def bare (k : Int) (b : Bd) : Bd := { kind := k, sub := b.sub, hard := b.hard, work := b.work, prg := b.prg, chr := b.chr, chrRam := b.chrRam, shift := 0, ctrl := 0, chrA := 0, chrB := 0, prgR := 0, last := 0, latch := 0, sel := 0, r := [0, 0, 0, 0, 0, 0, 0, 0], turn := 0, guard := 0, iLatch := 0, iCount := 0, iLoad := false, iOn := false, irq := false, epoch := b.epoch }
def Z31 : Array Value := #[.int .i64 0, .int .i64 0, .int .u8 0, .bool false, .int .i64 0, .int .i64 0, .bool false, .int .u8 0, .int .u8 0, .int .u8 0, .int .u8 0, .int .u8 0, .int .i64 0, .int .u8 0, .int .u8 0, .int .u8 0, .int .u8 0, .int .u8 0, .int .u8 0, .int .u8 0, .int .u8 0, .int .u8 0, .int .u8 0, .int .u8 0, .int .u8 0, .int .u8 0, .int .u8 0, .bool false, .bool false, .bool false, .int .i64 0]
set_option maxRecDepth 100000 in
set_option maxHeartbeats 2000000 in
theorem plainOf_any (w : World) (m : Nat) (k : Int) (b : Bd) (S : Sh w m b) (hm : m < w.heap.size) :
    Calls Try.prog 59 #[.pointer (some ⟨m, 0, none⟩), .int .i64 k] w fun e w' => e = .returned (.agg (bare k b).cells) ∧ Below w.heap.size w w' := by
  go_enter Try.func59, Try.ntmps59
  go_upto_region 1 with fail
  have z0 : Blk (w.alloc (.cells Z31 37)) w.heap.size Z31 37 := Blk.new w Z31 _
  have hb0 : Below w.heap.size w (w.alloc (.cells Z31 37)) := (Below.refl _ _).alloc (Nat.le_refl _) _
  change Code.wp _ _ _ _ (w.alloc (.cells Z31 37))
  generalize w.alloc (.cells Z31 37) = W0 at *
  have c0 := (hb0.cell (p := ⟨m, 0, none⟩) hm).trans S.c0
  have c1 := (hb0.cell (p := ⟨m, 1, none⟩) hm).trans S.c1
  have c2 := (hb0.cell (p := ⟨m, 2, none⟩) hm).trans S.c2
  have c3 := (hb0.cell (p := ⟨m, 3, none⟩) hm).trans S.c3
  have c4 := (hb0.cell (p := ⟨m, 4, none⟩) hm).trans S.c4
  have c5 := (hb0.cell (p := ⟨m, 5, none⟩) hm).trans S.c5
  have c6 := (hb0.cell (p := ⟨m, 6, none⟩) hm).trans S.c6
  clear S
  go_still_tail 30, (by kernel_rfl)
  change wpList _ _ _ _ _ W0.drew
  have z1 := z0.drew
  have hb1 := hb0.drew
  clear z0 hb0 c0 c1 c2 c3 c4 c5 c6
  generalize W0.drew = W1 at *
  have Hs : Hid _ := (isB (bare k b) rfl).size
  have H1 : Hid _ := (isB (bare k b) rfl).one
  refine wpList_store_mid rfl 37 _ _ rfl w.heap.size 0 (bare k b).cells rfl rfl (z1.there _ Hs.out.symm) (by rw [Hs.out]; exact Try.infoBoard) H1.out ?_
  have z2 := z1.setAll (bare k b).cells Hs.out
  have hb2 := setCells_below (Nat.le_refl _) (bare k b).cells.toList 0 _ _ hb1
  clear z1 hb1
  generalize hL : (bare k b).cells = L at *
  have HL : Hid _ := hL
  clear hL
  generalize W1.setCells w.heap.size 0 L.toList = W2 at *
  go_wp2
  exact ret_agg (m := w.heap.size) (L := L) Try.results59 (by rfl) z2 Try.underlying37 rfl (by rw [Hs.out]; exact Try.infoBoard) ⟨by rw [HL.out], hb2⟩
end Go.Proofs.Ytecaipakaaongaa
namespace Go.Proofs.Ytecaipakaaongaa
open Go.RowKit Classical
def k0c (b : Bd) : Array Value := #[.int .i64 b.sub, .int .u8 b.hard, .bool b.work, .bool b.chrRam, .int .i64 b.prg, .int .i64 b.chr, .int .i64 b.epoch]
def k1c (b : Bd) : Array Value := #[.int .i64 b.sub, .int .u8 b.hard, .bool b.work, .bool b.chrRam, .int .i64 b.prg, .int .i64 b.chr, .int .i64 b.epoch, .int .u8 b.shift, .int .u8 b.ctrl, .int .u8 b.chrA, .int .u8 b.chrB, .int .u8 b.prgR, .int .i64 b.last]
def kLc (b : Bd) : Array Value := #[.int .i64 b.sub, .int .u8 b.hard, .bool b.work, .bool b.chrRam, .int .i64 b.prg, .int .i64 b.chr, .int .i64 b.epoch, .int .u8 b.latch]
def k4c (b : Bd) : Array Value := (([.int .i64 b.sub, .int .u8 b.hard, .bool b.work, .bool b.chrRam, .int .i64 b.prg, .int .i64 b.chr, .int .i64 b.epoch, .int .u8 b.sel] : List Value) ++ (b.r.map (Value.int .u8) ++ ([.int .u8 b.turn, .int .u8 b.guard, .int .u8 b.iLatch, .int .u8 b.iCount, .bool b.iLoad, .bool b.iOn, .bool b.irq] : List Value))).toArray

set_option maxRecDepth 100000 in
set_option maxHeartbeats 1000000 in
theorem kindOf_1 (w : World) (b : Bd) (hr : b.r.length = 8) (hk : b.kind = 1) :
    Calls Try.prog 56 #[.agg b.cells] w fun e w' => ∃ m, e = .returned (.iface 79 (.pointer (some ⟨m, 0, none⟩))) ∧ w.heap.size ≤ m ∧ Below w.heap.size w w' ∧ Blk w' m (k1c b) 81 := by
  have C := isB b hr
  have SO := fun W => sharedOf_any W b hr
  generalize b.cells = cs at C SO
  have CC : Hid _ := C
  have hsz := C.size
  have HS : Hid _ := hsz
  have HO : Hid _ := SO
  clear SO
  go_enter Try.func56, Try.ntmps56
  go_upto_region 1 with fail
  have b0 : Blk (w.alloc (.cells cs 37)) w.heap.size cs 37 := Blk.new w cs _
  have hb0 : Below w.heap.size w (w.alloc (.cells cs 37)) := (Below.refl _ _).alloc (Nat.le_refl _) _
  generalize w.alloc (.cells cs 37) = W0 at *
  clear C hsz
  go_wp2_with (refine wpList_load_mid rfl 37 _ rfl w.heap.size 0 rfl cs.toList _ b0.range Try.underlying37 rfl (by rw [Array.length_toList, HS.out]; exact Try.infoBoard) ?_)
  refine (HO.out W0).mono ?_
  rintro e W1 ⟨rfl, hb1'⟩
  have hN : w.heap.size < W0.heap.size := b0.lt
  have hS : w.heap.size < W1.heap.size := by have := hb1'.size; omega
  have b1 := (b0.below hN hb1').old (.cells Z7 77)
  have hb1 : Below w.heap.size w (W1.alloc (.cells Z7 77)) := (hb0.trans (hb1'.mono (by omega))).alloc (by omega) _
  have z1 : Blk (W1.alloc (.cells Z7 77)) W1.heap.size Z7 77 := Blk.new W1 Z7 _
  clear hb0 hb1' b0
  go_upto_region 2 with (refine wpList_store_mid rfl 77 _ _ rfl W1.heap.size 0 (shc b) rfl rfl (by exact z1.there _ rfl) (by exact Try.infoShared) (shc_one b) ?_)
  have z2 := z1.setAll (shc b) rfl
  have b2 : Blk ((W1.alloc (.cells Z7 77)).setCells W1.heap.size 0 (shc b).toList) w.heap.size cs 37 := b1.below hS (setCells_below (Nat.le_refl _) _ _ _ _ (Below.refl _ _))
  have hb2 := setCells_below (show w.heap.size ≤ W1.heap.size by omega) (shc b).toList 0 _ _ hb1
  clear z1 b1 hb1
  generalize (W1.alloc (.cells Z7 77)).setCells W1.heap.size 0 (shc b).toList = W2 at *
  have hW2 : w.heap.size ≤ W2.heap.size := hb2.size
  have d0 : W2.cell? ⟨w.heap.size, 0, none⟩ = some (.int .i64 1) := (b2.cell 0).trans (CC.out.h0.trans (by rw [hk]))
  have d7 := (b2.cell 7).trans CC.out.h7
  have d8 := (b2.cell 8).trans CC.out.h8
  have d9 := (b2.cell 9).trans CC.out.h9
  have d10 := (b2.cell 10).trans CC.out.h10
  have d11 := (b2.cell 11).trans CC.out.h11
  have d12 := (b2.cell 12).trans CC.out.h12
  have ZR : Hid (W2.rangeAt W1.heap.size 0 [.int .i64 b.sub, .int .u8 b.hard, .bool b.work, .bool b.chrRam, .int .i64 b.prg, .int .i64 b.chr, .int .i64 b.epoch]) := z2.range
  clear hk b2 z2 HO HS CC hN hS hr
  go_wp2_with (first
    | refine wpList_load_mid rfl 77 _ rfl W1.heap.size 0 rfl [.int .i64 b.sub, .int .u8 b.hard, .bool b.work, .bool b.chrRam, .int .i64 b.prg, .int .i64 b.chr, .int .i64 b.epoch] _ ZR.out Try.underlying77 rfl (by exact Try.infoShared) ?_)
  go_ret
  refine ⟨_, rfl, hW2, hb2.alloc hW2 _, ?_⟩
  exact Blk.new W2 _ _

set_option maxRecDepth 100000 in
set_option maxHeartbeats 1000000 in
theorem kindOf_2 (w : World) (b : Bd) (hr : b.r.length = 8) (hk : b.kind = 2) :
    Calls Try.prog 56 #[.agg b.cells] w fun e w' => ∃ m, e = .returned (.iface 82 (.pointer (some ⟨m, 0, none⟩))) ∧ w.heap.size ≤ m ∧ Below w.heap.size w w' ∧ Blk w' m (kLc b) 86 := by
  have C := isB b hr
  have SO := fun W => sharedOf_any W b hr
  generalize b.cells = cs at C SO
  have CC : Hid _ := C
  have hsz := C.size
  have HS : Hid _ := hsz
  have HO : Hid _ := SO
  clear SO
  go_enter Try.func56, Try.ntmps56
  go_upto_region 1 with fail
  have b0 : Blk (w.alloc (.cells cs 37)) w.heap.size cs 37 := Blk.new w cs _
  have hb0 : Below w.heap.size w (w.alloc (.cells cs 37)) := (Below.refl _ _).alloc (Nat.le_refl _) _
  generalize w.alloc (.cells cs 37) = W0 at *
  clear C hsz
  go_wp2_with (refine wpList_load_mid rfl 37 _ rfl w.heap.size 0 rfl cs.toList _ b0.range Try.underlying37 rfl (by rw [Array.length_toList, HS.out]; exact Try.infoBoard) ?_)
  refine (HO.out W0).mono ?_
  rintro e W1 ⟨rfl, hb1'⟩
  have hN : w.heap.size < W0.heap.size := b0.lt
  have hS : w.heap.size < W1.heap.size := by have := hb1'.size; omega
  have b1 := (b0.below hN hb1').old (.cells Z7 77)
  have hb1 : Below w.heap.size w (W1.alloc (.cells Z7 77)) := (hb0.trans (hb1'.mono (by omega))).alloc (by omega) _
  have z1 : Blk (W1.alloc (.cells Z7 77)) W1.heap.size Z7 77 := Blk.new W1 Z7 _
  clear hb0 hb1' b0
  go_upto_region 2 with (refine wpList_store_mid rfl 77 _ _ rfl W1.heap.size 0 (shc b) rfl rfl (by exact z1.there _ rfl) (by exact Try.infoShared) (shc_one b) ?_)
  have z2 := z1.setAll (shc b) rfl
  have b2 : Blk ((W1.alloc (.cells Z7 77)).setCells W1.heap.size 0 (shc b).toList) w.heap.size cs 37 := b1.below hS (setCells_below (Nat.le_refl _) _ _ _ _ (Below.refl _ _))
  have hb2 := setCells_below (show w.heap.size ≤ W1.heap.size by omega) (shc b).toList 0 _ _ hb1
  clear z1 b1 hb1
  generalize (W1.alloc (.cells Z7 77)).setCells W1.heap.size 0 (shc b).toList = W2 at *
  have hW2 : w.heap.size ≤ W2.heap.size := hb2.size
  have d0 : W2.cell? ⟨w.heap.size, 0, none⟩ = some (.int .i64 2) := (b2.cell 0).trans (CC.out.h0.trans (by rw [hk]))
  have d13 := (b2.cell 13).trans CC.out.h13
  have ZR : Hid (W2.rangeAt W1.heap.size 0 [.int .i64 b.sub, .int .u8 b.hard, .bool b.work, .bool b.chrRam, .int .i64 b.prg, .int .i64 b.chr, .int .i64 b.epoch]) := z2.range
  clear hk b2 z2 HO HS CC hN hS hr
  go_wp2_with (first
    | refine wpList_load_mid rfl 77 _ rfl W1.heap.size 0 rfl [.int .i64 b.sub, .int .u8 b.hard, .bool b.work, .bool b.chrRam, .int .i64 b.prg, .int .i64 b.chr, .int .i64 b.epoch] _ ZR.out Try.underlying77 rfl (by exact Try.infoShared) ?_)
  go_ret
  refine ⟨_, rfl, hW2, hb2.alloc hW2 _, ?_⟩
  exact Blk.new W2 _ _

set_option maxRecDepth 100000 in
set_option maxHeartbeats 1000000 in
theorem kindOf_3 (w : World) (b : Bd) (hr : b.r.length = 8) (hk : b.kind = 3) :
    Calls Try.prog 56 #[.agg b.cells] w fun e w' => ∃ m, e = .returned (.iface 87 (.pointer (some ⟨m, 0, none⟩))) ∧ w.heap.size ≤ m ∧ Below w.heap.size w w' ∧ Blk w' m (kLc b) 88 := by
  have C := isB b hr
  have SO := fun W => sharedOf_any W b hr
  generalize b.cells = cs at C SO
  have CC : Hid _ := C
  have hsz := C.size
  have HS : Hid _ := hsz
  have HO : Hid _ := SO
  clear SO
  go_enter Try.func56, Try.ntmps56
  go_upto_region 1 with fail
  have b0 : Blk (w.alloc (.cells cs 37)) w.heap.size cs 37 := Blk.new w cs _
  have hb0 : Below w.heap.size w (w.alloc (.cells cs 37)) := (Below.refl _ _).alloc (Nat.le_refl _) _
  generalize w.alloc (.cells cs 37) = W0 at *
  clear C hsz
  go_wp2_with (refine wpList_load_mid rfl 37 _ rfl w.heap.size 0 rfl cs.toList _ b0.range Try.underlying37 rfl (by rw [Array.length_toList, HS.out]; exact Try.infoBoard) ?_)
  refine (HO.out W0).mono ?_
  rintro e W1 ⟨rfl, hb1'⟩
  have hN : w.heap.size < W0.heap.size := b0.lt
  have hS : w.heap.size < W1.heap.size := by have := hb1'.size; omega
  have b1 := (b0.below hN hb1').old (.cells Z7 77)
  have hb1 : Below w.heap.size w (W1.alloc (.cells Z7 77)) := (hb0.trans (hb1'.mono (by omega))).alloc (by omega) _
  have z1 : Blk (W1.alloc (.cells Z7 77)) W1.heap.size Z7 77 := Blk.new W1 Z7 _
  clear hb0 hb1' b0
  go_upto_region 2 with (refine wpList_store_mid rfl 77 _ _ rfl W1.heap.size 0 (shc b) rfl rfl (by exact z1.there _ rfl) (by exact Try.infoShared) (shc_one b) ?_)
  have z2 := z1.setAll (shc b) rfl
  have b2 : Blk ((W1.alloc (.cells Z7 77)).setCells W1.heap.size 0 (shc b).toList) w.heap.size cs 37 := b1.below hS (setCells_below (Nat.le_refl _) _ _ _ _ (Below.refl _ _))
  have hb2 := setCells_below (show w.heap.size ≤ W1.heap.size by omega) (shc b).toList 0 _ _ hb1
  clear z1 b1 hb1
  generalize (W1.alloc (.cells Z7 77)).setCells W1.heap.size 0 (shc b).toList = W2 at *
  have hW2 : w.heap.size ≤ W2.heap.size := hb2.size
  have d0 : W2.cell? ⟨w.heap.size, 0, none⟩ = some (.int .i64 3) := (b2.cell 0).trans (CC.out.h0.trans (by rw [hk]))
  have d13 := (b2.cell 13).trans CC.out.h13
  have ZR : Hid (W2.rangeAt W1.heap.size 0 [.int .i64 b.sub, .int .u8 b.hard, .bool b.work, .bool b.chrRam, .int .i64 b.prg, .int .i64 b.chr, .int .i64 b.epoch]) := z2.range
  clear hk b2 z2 HO HS CC hN hS hr
  go_wp2_with (first
    | refine wpList_load_mid rfl 77 _ rfl W1.heap.size 0 rfl [.int .i64 b.sub, .int .u8 b.hard, .bool b.work, .bool b.chrRam, .int .i64 b.prg, .int .i64 b.chr, .int .i64 b.epoch] _ ZR.out Try.underlying77 rfl (by exact Try.infoShared) ?_)
  go_ret
  refine ⟨_, rfl, hW2, hb2.alloc hW2 _, ?_⟩
  exact Blk.new W2 _ _

set_option maxRecDepth 100000 in
set_option maxHeartbeats 1000000 in
theorem kindOf_7 (w : World) (b : Bd) (hr : b.r.length = 8) (hk : b.kind = 7) :
    Calls Try.prog 56 #[.agg b.cells] w fun e w' => ∃ m, e = .returned (.iface 94 (.pointer (some ⟨m, 0, none⟩))) ∧ w.heap.size ≤ m ∧ Below w.heap.size w w' ∧ Blk w' m (kLc b) 95 := by
  have C := isB b hr
  have SO := fun W => sharedOf_any W b hr
  generalize b.cells = cs at C SO
  have CC : Hid _ := C
  have hsz := C.size
  have HS : Hid _ := hsz
  have HO : Hid _ := SO
  clear SO
  go_enter Try.func56, Try.ntmps56
  go_upto_region 1 with fail
  have b0 : Blk (w.alloc (.cells cs 37)) w.heap.size cs 37 := Blk.new w cs _
  have hb0 : Below w.heap.size w (w.alloc (.cells cs 37)) := (Below.refl _ _).alloc (Nat.le_refl _) _
  generalize w.alloc (.cells cs 37) = W0 at *
  clear C hsz
  go_wp2_with (refine wpList_load_mid rfl 37 _ rfl w.heap.size 0 rfl cs.toList _ b0.range Try.underlying37 rfl (by rw [Array.length_toList, HS.out]; exact Try.infoBoard) ?_)
  refine (HO.out W0).mono ?_
  rintro e W1 ⟨rfl, hb1'⟩
  have hN : w.heap.size < W0.heap.size := b0.lt
  have hS : w.heap.size < W1.heap.size := by have := hb1'.size; omega
  have b1 := (b0.below hN hb1').old (.cells Z7 77)
  have hb1 : Below w.heap.size w (W1.alloc (.cells Z7 77)) := (hb0.trans (hb1'.mono (by omega))).alloc (by omega) _
  have z1 : Blk (W1.alloc (.cells Z7 77)) W1.heap.size Z7 77 := Blk.new W1 Z7 _
  clear hb0 hb1' b0
  go_upto_region 2 with (refine wpList_store_mid rfl 77 _ _ rfl W1.heap.size 0 (shc b) rfl rfl (by exact z1.there _ rfl) (by exact Try.infoShared) (shc_one b) ?_)
  have z2 := z1.setAll (shc b) rfl
  have b2 : Blk ((W1.alloc (.cells Z7 77)).setCells W1.heap.size 0 (shc b).toList) w.heap.size cs 37 := b1.below hS (setCells_below (Nat.le_refl _) _ _ _ _ (Below.refl _ _))
  have hb2 := setCells_below (show w.heap.size ≤ W1.heap.size by omega) (shc b).toList 0 _ _ hb1
  clear z1 b1 hb1
  generalize (W1.alloc (.cells Z7 77)).setCells W1.heap.size 0 (shc b).toList = W2 at *
  have hW2 : w.heap.size ≤ W2.heap.size := hb2.size
  have d0 : W2.cell? ⟨w.heap.size, 0, none⟩ = some (.int .i64 7) := (b2.cell 0).trans (CC.out.h0.trans (by rw [hk]))
  have d13 := (b2.cell 13).trans CC.out.h13
  have ZR : Hid (W2.rangeAt W1.heap.size 0 [.int .i64 b.sub, .int .u8 b.hard, .bool b.work, .bool b.chrRam, .int .i64 b.prg, .int .i64 b.chr, .int .i64 b.epoch]) := z2.range
  clear hk b2 z2 HO HS CC hN hS hr
  go_wp2_with (first
    | refine wpList_load_mid rfl 77 _ rfl W1.heap.size 0 rfl [.int .i64 b.sub, .int .u8 b.hard, .bool b.work, .bool b.chrRam, .int .i64 b.prg, .int .i64 b.chr, .int .i64 b.epoch] _ ZR.out Try.underlying77 rfl (by exact Try.infoShared) ?_)
  go_ret
  refine ⟨_, rfl, hW2, hb2.alloc hW2 _, ?_⟩
  exact Blk.new W2 _ _

set_option maxRecDepth 100000 in
set_option maxHeartbeats 1000000 in
theorem kindOf_0 (w : World) (b : Bd) (hr : b.r.length = 8) (hk : b.kind = 0) :
    Calls Try.prog 56 #[.agg b.cells] w fun e w' => ∃ m, e = .returned (.iface 96 (.pointer (some ⟨m, 0, none⟩))) ∧ w.heap.size ≤ m ∧ Below w.heap.size w w' ∧ Blk w' m (k0c b) 98 := by
  have C := isB b hr
  have SO := fun W => sharedOf_any W b hr
  generalize b.cells = cs at C SO
  have CC : Hid _ := C
  have hsz := C.size
  have HS : Hid _ := hsz
  have HO : Hid _ := SO
  clear SO
  go_enter Try.func56, Try.ntmps56
  go_upto_region 1 with fail
  have b0 : Blk (w.alloc (.cells cs 37)) w.heap.size cs 37 := Blk.new w cs _
  have hb0 : Below w.heap.size w (w.alloc (.cells cs 37)) := (Below.refl _ _).alloc (Nat.le_refl _) _
  generalize w.alloc (.cells cs 37) = W0 at *
  clear C hsz
  go_wp2_with (refine wpList_load_mid rfl 37 _ rfl w.heap.size 0 rfl cs.toList _ b0.range Try.underlying37 rfl (by rw [Array.length_toList, HS.out]; exact Try.infoBoard) ?_)
  refine (HO.out W0).mono ?_
  rintro e W1 ⟨rfl, hb1'⟩
  have hN : w.heap.size < W0.heap.size := b0.lt
  have hS : w.heap.size < W1.heap.size := by have := hb1'.size; omega
  have b1 := (b0.below hN hb1').old (.cells Z7 77)
  have hb1 : Below w.heap.size w (W1.alloc (.cells Z7 77)) := (hb0.trans (hb1'.mono (by omega))).alloc (by omega) _
  have z1 : Blk (W1.alloc (.cells Z7 77)) W1.heap.size Z7 77 := Blk.new W1 Z7 _
  clear hb0 hb1' b0
  go_upto_region 2 with (refine wpList_store_mid rfl 77 _ _ rfl W1.heap.size 0 (shc b) rfl rfl (by exact z1.there _ rfl) (by exact Try.infoShared) (shc_one b) ?_)
  have z2 := z1.setAll (shc b) rfl
  have b2 : Blk ((W1.alloc (.cells Z7 77)).setCells W1.heap.size 0 (shc b).toList) w.heap.size cs 37 := b1.below hS (setCells_below (Nat.le_refl _) _ _ _ _ (Below.refl _ _))
  have hb2 := setCells_below (show w.heap.size ≤ W1.heap.size by omega) (shc b).toList 0 _ _ hb1
  clear z1 b1 hb1
  generalize (W1.alloc (.cells Z7 77)).setCells W1.heap.size 0 (shc b).toList = W2 at *
  have hW2 : w.heap.size ≤ W2.heap.size := hb2.size
  have d0 : W2.cell? ⟨w.heap.size, 0, none⟩ = some (.int .i64 0) := (b2.cell 0).trans (CC.out.h0.trans (by rw [hk]))
  have ZR : Hid (W2.rangeAt W1.heap.size 0 [.int .i64 b.sub, .int .u8 b.hard, .bool b.work, .bool b.chrRam, .int .i64 b.prg, .int .i64 b.chr, .int .i64 b.epoch]) := z2.range
  clear hk b2 z2 HO HS CC hN hS hr
  go_wp2_with (first
    | refine wpList_load_mid rfl 77 _ rfl W1.heap.size 0 rfl [.int .i64 b.sub, .int .u8 b.hard, .bool b.work, .bool b.chrRam, .int .i64 b.prg, .int .i64 b.chr, .int .i64 b.epoch] _ ZR.out Try.underlying77 rfl (by exact Try.infoShared) ?_)
  go_ret
  refine ⟨_, rfl, hW2, hb2.alloc hW2 _, ?_⟩
  exact Blk.new W2 _ _

set_option maxRecDepth 100000 in
set_option maxHeartbeats 1000000 in
theorem kindOf_4 (w : World) (b : Bd) (hr : b.r.length = 8) (hk : b.kind = 4) :
    Calls Try.prog 56 #[.agg b.cells] w fun e w' => ∃ m, e = .returned (.iface 89 (.pointer (some ⟨m, 0, none⟩))) ∧ w.heap.size ≤ m ∧ Below w.heap.size w w' ∧ Blk w' m (k4c b) 93 := by
  have C := isB b hr
  have SO := fun W => sharedOf_any W b hr
  generalize b.cells = cs at C SO
  have CC : Hid _ := C
  have hsz := C.size
  have HS : Hid _ := hsz
  have HO : Hid _ := SO
  clear SO
  go_enter Try.func56, Try.ntmps56
  go_upto_region 1 with fail
  have b0 : Blk (w.alloc (.cells cs 37)) w.heap.size cs 37 := Blk.new w cs _
  have hb0 : Below w.heap.size w (w.alloc (.cells cs 37)) := (Below.refl _ _).alloc (Nat.le_refl _) _
  generalize w.alloc (.cells cs 37) = W0 at *
  clear C hsz
  go_wp2_with (refine wpList_load_mid rfl 37 _ rfl w.heap.size 0 rfl cs.toList _ b0.range Try.underlying37 rfl (by rw [Array.length_toList, HS.out]; exact Try.infoBoard) ?_)
  refine (HO.out W0).mono ?_
  rintro e W1 ⟨rfl, hb1'⟩
  have hN : w.heap.size < W0.heap.size := b0.lt
  have hS : w.heap.size < W1.heap.size := by have := hb1'.size; omega
  have b1 := (b0.below hN hb1').old (.cells Z7 77)
  have hb1 : Below w.heap.size w (W1.alloc (.cells Z7 77)) := (hb0.trans (hb1'.mono (by omega))).alloc (by omega) _
  have z1 : Blk (W1.alloc (.cells Z7 77)) W1.heap.size Z7 77 := Blk.new W1 Z7 _
  clear hb0 hb1' b0
  go_upto_region 2 with (refine wpList_store_mid rfl 77 _ _ rfl W1.heap.size 0 (shc b) rfl rfl (by exact z1.there _ rfl) (by exact Try.infoShared) (shc_one b) ?_)
  have z2 := z1.setAll (shc b) rfl
  have b2 : Blk ((W1.alloc (.cells Z7 77)).setCells W1.heap.size 0 (shc b).toList) w.heap.size cs 37 := b1.below hS (setCells_below (Nat.le_refl _) _ _ _ _ (Below.refl _ _))
  have hb2 := setCells_below (show w.heap.size ≤ W1.heap.size by omega) (shc b).toList 0 _ _ hb1
  clear z1 b1 hb1
  generalize (W1.alloc (.cells Z7 77)).setCells W1.heap.size 0 (shc b).toList = W2 at *
  have hW2 : w.heap.size ≤ W2.heap.size := hb2.size
  have d0 : W2.cell? ⟨w.heap.size, 0, none⟩ = some (.int .i64 4) := (b2.cell 0).trans (CC.out.h0.trans (by rw [hk]))
  have d14 := (b2.cell 14).trans CC.out.h14
  have d23 := (b2.cell 23).trans CC.out.h23
  have d24 := (b2.cell 24).trans CC.out.h24
  have d25 := (b2.cell 25).trans CC.out.h25
  have d26 := (b2.cell 26).trans CC.out.h26
  have d27 := (b2.cell 27).trans CC.out.h27
  have d28 := (b2.cell 28).trans CC.out.h28
  have d29 := (b2.cell 29).trans CC.out.h29
  obtain ⟨a0, a1, a2, a3, a4, a5, a6, a7, er⟩ := Bd.eight hr
  have hR : W2.rangeAt w.heap.size 15 [.int .u8 a0, .int .u8 a1, .int .u8 a2, .int .u8 a3, .int .u8 a4, .int .u8 a5, .int .u8 a6, .int .u8 a7] := by
    intro j v hv
    rw [b2.cell (15 + j)]
    have hj : j < 8 := by have := (List.getElem?_eq_some_iff.1 hv).1; simpa using this
    rw [CC.out.r j hj, er]
    match j, hj with
    | 0, _ | 1, _ | 2, _ | 3, _ | 4, _ | 5, _ | 6, _ | 7, _ => simpa using hv
  have HR : Hid _ := hR
  have K4 : Hid (k4c b = #[.int .i64 b.sub, .int .u8 b.hard, .bool b.work, .bool b.chrRam, .int .i64 b.prg, .int .i64 b.chr, .int .i64 b.epoch, .int .u8 b.sel, .int .u8 a0, .int .u8 a1, .int .u8 a2, .int .u8 a3, .int .u8 a4, .int .u8 a5, .int .u8 a6, .int .u8 a7, .int .u8 b.turn, .int .u8 b.guard, .int .u8 b.iLatch, .int .u8 b.iCount, .bool b.iLoad, .bool b.iOn, .bool b.irq]) := by unfold Hid k4c; rw [er]; rfl
  clear er hR
  have ZR : Hid (W2.rangeAt W1.heap.size 0 [.int .i64 b.sub, .int .u8 b.hard, .bool b.work, .bool b.chrRam, .int .i64 b.prg, .int .i64 b.chr, .int .i64 b.epoch]) := z2.range
  clear hk b2 z2 HO HS CC hN hS hr
  go_wp2_with (first
    | refine wpList_load_mid rfl 77 _ rfl W1.heap.size 0 rfl [.int .i64 b.sub, .int .u8 b.hard, .bool b.work, .bool b.chrRam, .int .i64 b.prg, .int .i64 b.chr, .int .i64 b.epoch] _ ZR.out Try.underlying77 rfl (by exact Try.infoShared) ?_
    | refine wpList_load_mid rfl 35 _ rfl w.heap.size 15 rfl [.int .u8 a0, .int .u8 a1, .int .u8 a2, .int .u8 a3, .int .u8 a4, .int .u8 a5, .int .u8 a6, .int .u8 a7] _ HR.out Try.underlying35 rfl (by kernel_rfl) ?_)
  go_ret
  refine ⟨_, rfl, hW2, hb2.alloc hW2 _, ?_⟩
  exact (by rw [K4.out]; exact Blk.new W2 _ _)
end Go.Proofs.Ytecaipakaaongaa
