/-
  Small functions that New leans on: length, units, wired, powerOn; conditions: the numbers fit their kinds.
  What New answers of a cartridge; conditions: what it looks at lies in the cartridge's cells, the lengths are below 2000000.
  What New answers of a cartridge that fits; conditions: what it looks at lies in the cartridge's cells, the lengths are below 2000000.
-/
import Derived.Test.YtggphgmpdanliaaMPlain4
import Derived.Test.YtggphgmpdanliaaMPlain1
import Derived.Test.YtggphgmpdanliaaMPlainL
import Derived.Test.YtggphgmpdanliaaMKindOf
import Derived.OrdersHeld
import Derived.Deep.CutBlock
import Derived.Deep.RegionWith
import Derived.Test.YtggphgmpdanliaaMOpen
namespace Go.Proofs.Ytggphgmpdanliaa
open Go.RowKit Classical
theorem tmod_add (n m : Int) (hm : 0 < m) : n % m = if n.tmod m < 0 then n.tmod m + m else n.tmod m := by
  have h1 := Int.emod_nonneg n (show m ≠ 0 by omega)
  have h2 := Int.emod_lt_of_pos n hm
  have h3 := Int.tmod_eq_emod (a := n) (b := m)
  rw [h3]
  have h4 : (m.natAbs : Int) = m := Int.natAbs_of_nonneg (by omega)
  generalize n % m = r at *
  by_cases hc : 0 ≤ n ∨ m ∣ n
  · rw [if_pos hc, if_neg (by simp; omega)]
    simp
  · rw [if_neg hc, if_pos (by omega)]
    omega
theorem length_any (n m : Int) (w : World) (_hn : -9223372036854775808 ≤ n ∧ n ≤ 9223372036854775807) (hm : 0 < m ∧ m ≤ 2000000) :
    Calls Try.prog 19 #[.int .i64 n, .int .i64 m] w fun e w' => e = .returned (.int .i64 (n % m)) ∧ w' = w := by
  have h1 := Int.emod_nonneg n (show m ≠ 0 by omega)
  have h2 := Int.emod_lt_of_pos n (show 0 < m by omega)
  have hT := tmod_add n m hm.1
  by_cases h : n.tmod m < 0
  · rw [if_pos h] at hT
    have EH : Hid _ := hT
    have hb : n.tmod m + m ≤ 2000000 ∧ 0 ≤ n.tmod m + m := by omega
    clear hT h1 h2
    go_enter Try.func19, Try.ntmps19
    go_wp2
    go_ret
    exact ⟨by rw [EH.out]; rfl, rfl⟩
  · rw [if_neg h] at hT
    have EH : Hid _ := hT
    clear hT h1 h2
    go_enter Try.func19, Try.ntmps19
    go_wp2
    go_ret
    exact ⟨by rw [EH.out]; rfl, rfl⟩
theorem units_any (n u : Int) (w : World) (hn : 0 ≤ n ∧ n ≤ 2000000) (hu : 0 < u ∧ u ≤ 2000000) :
    Calls Try.prog 58 #[.int .i64 n, .int .i64 u] w fun e w' => e = .returned (.tuple #[.int .i64 (n / u), .bool (n % u == 0 && decide (n / u ≤ 64))]) ∧ w' = w := by
  have e1 : n.tdiv u = n / u := Int.tdiv_eq_ediv_of_nonneg hn.1
  have e2 : n.tmod u = n % u := Int.tmod_eq_emod_of_nonneg hn.1
  have h0 : 0 ≤ n / u := Int.ediv_nonneg hn.1 (by omega)
  have h1 : n / u ≤ n := Int.ediv_le_self _ hn.1
  by_cases c : n % u = 0
  · have K : Hid _ := c
    go_enter Try.func58, Try.ntmps58
    go_wp2
    go_ret2
    exact ⟨by rw [K.out]; rfl, rfl⟩
  · have K : Hid _ := c
    have kb : (n % u == 0) = false := beq_eq_false_iff_ne.2 c
    have KB : Hid _ := kb
    clear kb
    go_enter Try.func58, Try.ntmps58
    go_wp2
    go_ret2
    exact ⟨by rw [KB.out]; rfl, rfl⟩
/-- What New looks at of a cartridge. -/
structure IsN (cs : Array Value) (mp sub ram nv : Int) (vert four : Bool) (a1 a2 : Option Addr) (p c k1 k2 : Nat) : Prop where
  size : cs.size = 19
  one : cs.all (·.oneCell') = true
  h1 : cs[1]? = some (.int .i64 mp)
  h2 : cs[2]? = some (.int .i64 sub)
  h3 : cs[3]? = some (.bool vert)
  h4 : cs[4]? = some (.bool four)
  h11 : cs[11]? = some (.int .i64 ram)
  h12 : cs[12]? = some (.int .i64 nv)
  h16 : cs[16]? = some (.slice a1 p k1)
  h17 : cs[17]? = some (.slice a2 c k2)
/-- How the pages are wired. -/
def hardV (vert four : Bool) : Int := if four then 4 else if vert then 1 else 0
theorem wired_any (cs : Array Value) (mp sub ram nv : Int) (vert four : Bool) (a1 a2 : Option Addr) (p c k1 k2 : Nat) (C : IsN cs mp sub ram nv vert four a1 a2 p c k1 k2) (w : World) :
    Calls Try.prog 60 #[.agg cs] w fun e w' => e = .returned (.int .u8 (hardV vert four)) ∧ Below w.heap.size w w' := by
  have hsz := C.size
  have h3 := C.h3
  have h4 := C.h4
  have EH : Hid (hardV vert four = if four then 4 else if vert then 1 else 0) := rfl
  generalize hardV vert four = hv at *
  clear C
  go_enter Try.func60, Try.ntmps60
  go_upto_region 1 with fail
  have b0 : Blk (w.alloc (.cells cs 67)) w.heap.size cs 67 := Blk.new w cs _
  have hb0 : Below w.heap.size w (w.alloc (.cells cs 67)) := (Below.refl _ _).alloc (Nat.le_refl _) _
  generalize w.alloc (.cells cs 67) = W0 at *
  have d3 := (b0.cell 3).trans h3
  have d4 := (b0.cell 4).trans h4
  clear hsz h3 h4
  cases four
  · cases vert
    · go_wp2
      go_ret
      exact ⟨by rw [EH.out]; rfl, hb0⟩
    · go_wp2
      go_ret
      exact ⟨by rw [EH.out]; rfl, hb0⟩
  · go_wp2
    go_ret
    exact ⟨by rw [EH.out]; rfl, hb0⟩
theorem powerOn0 (w : World) (m : Nat) :
    Calls Try.prog 88 #[.pointer (some ⟨m, 0, none⟩)] w fun e w' => e = .returned (.tuple #[]) ∧ w' = w := by
  go_enter Try.func88, Try.ntmps88
  go_wp2
  go_end0
  exact ⟨rfl, rfl⟩
theorem powerOn1 (w : World) (m : Nat) (b : Bd) (K : Blk w m (k1c b) 99) :
    Calls Try.prog 99 #[.pointer (some ⟨m, 0, none⟩)] w fun e w' => e = .returned (.tuple #[]) ∧ Below m w w' ∧ Blk w' m (k1c { b with shift := 16, ctrl := 12, last := -2 }) 99 := by
  have hcell := K.cell
  have hfree := K.free
  have K1 := ((K.set 7 (.int .u8 16)).set 8 (.int .u8 12)).set 12 (.int .i64 (-2))
  have d7 : w.cell? ⟨m, 7, none⟩ = some (.int .u8 b.shift) := (hcell 7).trans rfl
  have d8 : w.cell? ⟨m, 8, none⟩ = some (.int .u8 b.ctrl) := (hcell 8).trans rfl
  have d12 : w.cell? ⟨m, 12, none⟩ = some (.int .i64 b.last) := (hcell 12).trans rfl
  have KH : Hid _ := K1
  clear K1 hcell K
  go_enter Try.func99, Try.ntmps99
  go_wp2
  go_end0
  refine ⟨rfl, ?_, KH.out⟩
  exact Below.setCell (p := ⟨m, 12, none⟩) (Below.setCell (p := ⟨m, 8, none⟩) (Below.setCell (p := ⟨m, 7, none⟩) (Below.refl m w) (Nat.le_refl m) _) (Nat.le_refl m) _) (Nat.le_refl m) _
set_option maxHeartbeats 1000000 in
theorem powerOn4 (w : World) (m : Nat) (b : Bd) (hr : b.r.length = 8) (K : Blk w m (k4c b) 111) :
    Calls Try.prog 113 #[.pointer (some ⟨m, 0, none⟩)] w fun e w' => e = .returned (.tuple #[]) ∧ Below m w w' ∧ Blk w' m (k4c { b with r := [0, 2, 4, 5, 6, 7, 0, 1], guard := 128 }) 111 := by
  obtain ⟨a0, a1, a2, a3, a4, a5, a6, a7, er⟩ := Bd.eight hr
  have K4 : k4c b = #[.int .i64 b.sub, .int .u8 b.hard, .bool b.work, .bool b.chrRam, .int .i64 b.prg, .int .i64 b.chr, .int .i64 b.epoch, .int .u8 b.sel, .int .u8 a0, .int .u8 a1, .int .u8 a2, .int .u8 a3, .int .u8 a4, .int .u8 a5, .int .u8 a6, .int .u8 a7, .int .u8 b.turn, .int .u8 b.guard, .int .u8 b.iLatch, .int .u8 b.iCount, .bool b.iLoad, .bool b.iOn, .bool b.irq] := by unfold k4c; rw [er]; rfl
  rw [K4] at K
  have K1 := ((((((((Blk.set K 8 (.int .u8 0)).set 9 (.int .u8 2)).set 10 (.int .u8 4)).set 11 (.int .u8 5)).set 12 (.int .u8 6)).set 13 (.int .u8 7)).set 14 (.int .u8 0)).set 15 (.int .u8 1)).set 17 (.int .u8 128)
  simp only [List.setIfInBounds_toArray, List.set_cons_succ, List.set_cons_zero] at K1
  have hcell := K.cell
  have hfree := K.free
  have KH : Hid _ := K1
  clear K1 K4 er hr K
  go_enter Try.func113, Try.ntmps113
  go_wp2
  go_end0
  refine ⟨rfl, ?_, by unfold k4c; exact KH.out⟩
  exact Below.setCell (p := ⟨m, 17, none⟩) (Below.setCell (p := ⟨m, 15, none⟩) (Below.setCell (p := ⟨m, 14, none⟩) (Below.setCell (p := ⟨m, 13, none⟩) (Below.setCell (p := ⟨m, 12, none⟩) (Below.setCell (p := ⟨m, 11, none⟩) (Below.setCell (p := ⟨m, 10, none⟩) (Below.setCell (p := ⟨m, 9, none⟩) (Below.setCell (p := ⟨m, 8, none⟩) (Below.refl m w) (Nat.le_refl m) _) (Nat.le_refl m) _) (Nat.le_refl m) _) (Nat.le_refl m) _) (Nat.le_refl m) _) (Nat.le_refl m) _) (Nat.le_refl m) _) (Nat.le_refl m) _) (Nat.le_refl m) _
end Go.Proofs.Ytggphgmpdanliaa
namespace Go.Proofs.Ytggphgmpdanliaa
open Go.RowKit Classical
theorem results_cell_tmp {fn : Func} {p q : Tmp} {ty : TypeId} (h : fn.results = #[.cell p ty, .tmp q]) (tmps : Array Value) (P : Program) (w : World) :
    (results fn tmps).run P w = ((asAddr (tmps.getD p undef)).run P w).andThen fun a w₁ => ((loadVar ty a).run P w₁).andThen fun v w₂ => .ok (.tuple #[v, tmps.getD q undef]) w₂ := by
  simp only [results, h]
  simp [Sem.run_bind, Result.andThen]
theorem ret_agg2 {P : Program} {fn : Func} {R : Ending → World → Prop} {tmps : Array Value} {w : World} {p q : Tmp} {ty : TypeId} {m : Nat} {L : Array Value} {d : TypeDesc} {t : TypeId} {x : Value} (h : fn.results = #[.cell p ty, .tmp q]) (hp : tmps.getD p undef = .pointer (some ⟨m, 0, none⟩)) (hq : tmps.getD q undef = x)
    (hb : Blk w m L t) (hu : P.underlying ty = some d) (hd : d.isRow = true) (hi : (P.info? ty).map (·.size) = some L.size) (hR : R (.returned (.tuple #[.agg L, x])) w) : bodyPost P fn R .ret ⟨tmps, []⟩ w := by
  refine bodyPost_ret (v := .tuple #[.agg L, x]) ?_ rfl hR
  rw [results_cell_tmp h]
  show ((asAddr (tmps.getD p undef)).run P w).andThen _ = _
  rw [hp, hq]
  have hr := run_loadVar_mid (P := P) w m 0 ty L.toList d hb.range hu hd (by rw [Array.length_toList]; exact hi)
  simp only [asAddr, Sem.run_pure, Result.andThen_ok]
  rw [hr]
  rfl
theorem Z31_size : Z31.size = 31 := rfl
theorem Z31_one : Z31.all (·.oneCell') = true := by kernel_rfl
set_option maxRecDepth 100000 in
theorem new_bad1 (cs : Array Value) (mp sub ram nv : Int) (vert four : Bool) (x1 x2 : Option Addr) (p c k1 k2 : Nat) (C : IsN cs mp sub ram nv vert four x1 x2 p c k1 k2) (w : World) (hl : lst mp sub = false) :
    Calls Try.prog 34 #[.agg cs] w fun e w' => e = .returned (.tuple #[.agg Z31, .int .i64 20]) ∧ Below w.heap.size w w' := by
  have hsz := C.size
  have HS : Hid _ := hsz
  have CC : Hid _ := C
  go_enter Try.func34, Try.ntmps34
  go_upto_region 1 with fail
  change Code.wp _ _ _ _ ((w.alloc (.cells cs 67)).alloc (.cells Z31 28))
  have b0 : Blk ((w.alloc (.cells cs 67)).alloc (.cells Z31 28)) w.heap.size cs 67 := (Blk.new w cs _).old _
  have z0 : Blk ((w.alloc (.cells cs 67)).alloc (.cells Z31 28)) (w.heap.size + 1) Z31 28 := by
    have := Blk.new (w.alloc (.cells cs 67)) Z31 28
    rwa [World.size_alloc] at this
  have hb0 : Below w.heap.size w ((w.alloc (.cells cs 67)).alloc (.cells Z31 28)) := ((Below.refl _ _).alloc (Nat.le_refl _) _).alloc (by simp) _
  generalize (w.alloc (.cells cs 67)).alloc (.cells Z31 28) = W0 at *
  have d1 := (b0.cell 1).trans C.h1
  have d2 := (b0.cell 2).trans C.h2
  have d16 := (b0.cell 16).trans C.h16
  have d17 := (b0.cell 17).trans C.h17
  clear C hsz
  go_wp2_with (first
    | (go_at_call 57; refine (listed_any _ _ _).mono ?_; rintro e w' ⟨rfl, rfl⟩; rw [hl])
    | refine wpList_store_mid rfl 28 _ _ rfl (w.heap.size + 1) 0 Z31 rfl rfl (by exact z0.there _ rfl) (by exact Try.infoBoard) Z31_one ?_)
  exact ret_agg2 (m := w.heap.size + 1) (L := Z31) (x := .int .i64 20) Try.results34 (by rfl) (by rfl) (z0.setAll Z31 rfl) Try.underlying28 rfl (by exact Try.infoBoard) ⟨rfl, setCells_below (Nat.le_succ _) _ _ _ _ hb0⟩
set_option maxRecDepth 100000 in
theorem new_bad2 (cs : Array Value) (mp sub ram nv : Int) (vert four : Bool) (x1 x2 : Option Addr) (p c k1 k2 : Nat) (C : IsN cs mp sub ram nv vert four x1 x2 p c k1 k2) (w : World) (hl : lst mp sub = true) (hp : p ≤ 2000000) (hc : c ≤ 2000000) (o1 o2 : Bool) (hq1 : (((p : Int) % 16384 == 0) && decide ((p : Int) / 16384 ≤ 64)) = o1) (hq2 : (((c : Int) % 8192 == 0) && decide ((c : Int) / 8192 ≤ 64)) = o2) (hb : o1 = false ∨ o2 = false ∨ p = 0) :
    Calls Try.prog 34 #[.agg cs] w fun e w' => e = .returned (.tuple #[.agg Z31, .int .i64 21]) ∧ Below w.heap.size w w' := by
  have hsz := C.size
  have HS : Hid _ := hsz
  have CC : Hid _ := C
  go_enter Try.func34, Try.ntmps34
  go_upto_region 1 with fail
  change Code.wp _ _ _ _ ((w.alloc (.cells cs 67)).alloc (.cells Z31 28))
  have b0 : Blk ((w.alloc (.cells cs 67)).alloc (.cells Z31 28)) w.heap.size cs 67 := (Blk.new w cs _).old _
  have z0 : Blk ((w.alloc (.cells cs 67)).alloc (.cells Z31 28)) (w.heap.size + 1) Z31 28 := by
    have := Blk.new (w.alloc (.cells cs 67)) Z31 28
    rwa [World.size_alloc] at this
  have hb0 : Below w.heap.size w ((w.alloc (.cells cs 67)).alloc (.cells Z31 28)) := ((Below.refl _ _).alloc (Nat.le_refl _) _).alloc (by simp) _
  generalize (w.alloc (.cells cs 67)).alloc (.cells Z31 28) = W0 at *
  have d1 := (b0.cell 1).trans C.h1
  have d2 := (b0.cell 2).trans C.h2
  have d16 := (b0.cell 16).trans C.h16
  have d17 := (b0.cell 17).trans C.h17
  clear C hsz
  have HB : Hid _ := hb
  have pb : (0 : Int) ≤ (p : Int) / 16384 ∧ (p : Int) / 16384 ≤ 2000000 := by omega
  have cb : (0 : Int) ≤ (c : Int) / 8192 ∧ (c : Int) / 8192 ≤ 2000000 := by omega
  clear hb
  go_upto_region 5 with (first
    | (go_at_call 57; refine (listed_any _ _ _).mono ?_; rintro e w' ⟨rfl, rfl⟩; rw [hl])
    | (go_at_call_of 58 (Value.int .i64 16384); refine (units_any _ _ _ (by omega) (by omega)).mono ?_; rintro e w' ⟨rfl, rfl⟩; rw [hq1]) | (go_at_call_of 58 (Value.int .i64 8192); refine (units_any _ _ _ (by omega) (by omega)).mono ?_; rintro e w' ⟨rfl, rfl⟩; rw [hq2]))
  obtain ⟨W0, hW0⟩ : ∃ x, x = w' := ⟨w', rfl⟩
  subst hW0
  generalize hP : (p : Int) / 16384 = pp at *
  generalize (c : Int) / 8192 = cc at *
  have PP : Hid _ := hP
  clear hP hq1 hq2 hl d1 d2 d16 d17 pb cb
  go_cut [5, 7, 39] (fun _ _ q wx => q = .bool true ∧ W0 = wx)
  case first =>
    cases o1
    · go_wp2
      go_meet
      exact ⟨rfl, rfl⟩
    · cases o2
      · go_wp2
        go_meet
        exact ⟨rfl, rfl⟩
      · have hz : pp = 0 := by
          rcases HB.out with h | h | h
          · exact absurd h (by decide)
          · exact absurd h (by decide)
          · have := PP.out; rw [h] at this; rw [← this]; rfl
        subst hz
        go_wp2
        go_meet
        exact ⟨rfl, rfl⟩
  case rest =>
  obtain ⟨rfl, rfl⟩ := hcut
  go_wp2_with (refine wpList_store_mid rfl 28 _ _ rfl (w.heap.size + 1) 0 Z31 rfl rfl (by exact z0.there _ rfl) (by exact Try.infoBoard) Z31_one ?_)
  exact ret_agg2 (m := w.heap.size + 1) (L := Z31) (x := .int .i64 21) Try.results34 (by rfl) (by rfl) (z0.setAll Z31 rfl) Try.underlying28 rfl (by exact Try.infoBoard) ⟨rfl, setCells_below (Nat.le_succ _) _ _ _ _ hb0⟩
end Go.Proofs.Ytggphgmpdanliaa
namespace Go.Proofs.Ytggphgmpdanliaa
open Go.RowKit Classical
theorem wpOp_run {P : Program} {ops : Array Oper} {Q : Exit → Act → World → Prop} {i : Nat} {K : Act → World → Prop} {a : Act} {w : World} {o : Oper} {v : Value}
    (hi : ops[i]? = some o) (hw : Region.wanted o (yielded ops a.tmps) = true) (he : (execOp a.eval o).run P w = .ok (.value v) w) (a' : Act) (ha : a.put o.dst v = a') (h : K a' w) : wpOp P ops Q i K a w := by
  subst ha
  unfold wpOp
  rw [hi]
  simp only [hw, if_true]
  left
  unfold Oper.wp
  rw [he]
  exact h
theorem wpOp_contractE {P : Program} {ops : Array Oper} {Q : Exit → Act → World → Prop} {i : Nat} {K : Act → World → Prop} {a : Act} {w : World} {o : Oper} {f : FuncId} {args : Array Value} {V : Nat → Value} {R : Nat → World → Prop}
    (hi : ops[i]? = some o) (hw : Region.wanted o (yielded ops a.tmps) = true) (he : (execOp a.eval o).run P w = .ok (.enter f args) w)
    (hc : Calls P f args w fun e w' => ∃ m, e = .returned (V m) ∧ R m w') (A : Nat → Act) (ha : ∀ m, a.put o.dst (V m) = A m) (h : ∀ m w', R m w' → K (A m) w') : wpOp P ops Q i K a w := by
  unfold wpOp
  rw [hi]
  simp only [hw, if_true]
  left
  unfold Oper.wp
  rw [he, Oper.upon_enter]
  refine hc.mono ?_
  rintro e w' ⟨m, rfl, hR⟩
  have := h m w' hR
  rw [← ha m] at this
  exact this
/-- The board ahead of powerOn. -/
def nB0 (mp sub ram nv : Int) (vert four : Bool) (pp cc : Int) : Bd := { kind := mp, sub := sub, hard := hardV vert four, work := decide (0 < ram) || decide (0 < nv), prg := pp * 2, chr := max cc 1 * 8, chrRam := cc == 0, shift := 0, ctrl := 0, chrA := 0, chrB := 0, prgR := 0, last := 0, latch := 0, sel := 0, r := [0, 0, 0, 0, 0, 0, 0, 0], turn := 0, guard := 0, iLatch := 0, iCount := 0, iLoad := false, iOn := false, irq := false, epoch := 0 }
set_option maxRecDepth 100000 in
set_option maxHeartbeats 2000000 in
theorem new_ok (cs : Array Value) (mp sub ram nv : Int) (vert four : Bool) (x1 x2 : Option Addr) (p c k1 k2 : Nat) (C : IsN cs mp sub ram nv vert four x1 x2 p c k1 k2) (w : World) (hl : lst mp sub = true) (hp : p ≤ 2000000) (hc : c ≤ 2000000) (hq1 : (((p : Int) % 16384 == 0) && decide ((p : Int) / 16384 ≤ 64)) = true) (hq2 : (((c : Int) % 8192 == 0) && decide ((c : Int) / 8192 ≤ 64)) = true) (hp0 : ((p : Int) / 16384 == 0) = false)
    (IT tt : TypeId) (kc kc' : Array Value) (fp : FuncId) (D : Bd) (hD : D.r.length = 8)
    (HKO : ∀ W, Calls Try.prog 59 #[.agg (nB0 mp sub ram nv vert four ((p : Int) / 16384) ((c : Int) / 8192)).cells] W fun e w' => ∃ m, e = .returned (.iface IT (.pointer (some ⟨m, 0, none⟩))) ∧ W.heap.size ≤ m ∧ Below W.heap.size W w' ∧ Blk w' m kc tt)
    (HM : ∀ (m : Nat) (w : World), (method 241 IT (.pointer (some ⟨m, 0, none⟩)) "tandem/mapper.powerOn").run Try.prog w = .ok (fp, .pointer (some ⟨m, 0, none⟩)) w)
    (HE : ∀ (args : Array Value) (w : World), (callFunc fp args).run Try.prog w = .ok (.enter fp args) w)
    (HPO : ∀ W m, Blk W m kc tt → Calls Try.prog fp #[.pointer (some ⟨m, 0, none⟩)] W fun e w' => e = .returned (.tuple #[]) ∧ Below m W w' ∧ Blk w' m kc' tt)
    (HPL : ∀ W m, Blk W m kc' tt → Calls Try.prog 41 #[(.iface IT (.pointer (some ⟨m, 0, none⟩)))] W fun e w' => e = .returned (.agg D.cells) ∧ Below W.heap.size W w') :
    Calls Try.prog 34 #[.agg cs] w fun e w' => e = .returned (.tuple #[.agg D.cells, .int .i64 0]) ∧ Below w.heap.size w w' := by
  have hsz := C.size
  have HS : Hid _ := hsz
  have CC : Hid _ := C
  go_enter Try.func34, Try.ntmps34
  go_upto_region 1 with fail
  change Code.wp _ _ _ _ ((w.alloc (.cells cs 67)).alloc (.cells Z31 28))
  have b0 : Blk ((w.alloc (.cells cs 67)).alloc (.cells Z31 28)) w.heap.size cs 67 := (Blk.new w cs _).old _
  have z0 : Blk ((w.alloc (.cells cs 67)).alloc (.cells Z31 28)) (w.heap.size + 1) Z31 28 := by
    have := Blk.new (w.alloc (.cells cs 67)) Z31 28
    rwa [World.size_alloc] at this
  have hb0 : Below w.heap.size w ((w.alloc (.cells cs 67)).alloc (.cells Z31 28)) := ((Below.refl _ _).alloc (Nat.le_refl _) _).alloc (by simp) _
  generalize (w.alloc (.cells cs 67)).alloc (.cells Z31 28) = W0 at *
  have d1 := (b0.cell 1).trans C.h1
  have d2 := (b0.cell 2).trans C.h2
  have d16 := (b0.cell 16).trans C.h16
  have d17 := (b0.cell 17).trans C.h17
  clear C hsz
  have KOH : Hid _ := HKO
  have POH : Hid _ := HPO
  have PLH : Hid _ := HPL
  have MH : Hid _ := HM
  have EH : Hid _ := HE
  have WH : Hid _ := fun W => wired_any cs mp sub ram nv vert four x1 x2 p c k1 k2 CC.out W
  have pb : (0 : Int) ≤ (p : Int) / 16384 ∧ (p : Int) / 16384 ≤ 2000000 := by omega
  have cb : (0 : Int) ≤ (c : Int) / 8192 ∧ (c : Int) / 8192 ≤ 2000000 := by omega
  clear HKO HPO HPL HM HE
  go_upto_region 5 with (first
    | (go_at_call 57; refine (listed_any _ _ _).mono ?_; rintro e w' ⟨rfl, rfl⟩; rw [hl])
    | (go_at_call_of 58 (Value.int .i64 16384); refine (units_any _ _ _ (by omega) (by omega)).mono ?_; rintro e w' ⟨rfl, rfl⟩; rw [hq1]) | (go_at_call_of 58 (Value.int .i64 8192); refine (units_any _ _ _ (by omega) (by omega)).mono ?_; rintro e w' ⟨rfl, rfl⟩; rw [hq2]))
  obtain ⟨W0, hW0⟩ : ∃ x, x = w' := ⟨w', rfl⟩
  subst hW0
  generalize (p : Int) / 16384 = pp at *
  generalize (c : Int) / 8192 = cc at *
  clear hq1 hq2 hl d1 d2 d16 d17
  go_cut [5, 7, 39] (fun _ _ q wx => q = .bool false ∧ W0 = wx)
  case first =>
    go_wp2
    go_meet
    exact ⟨by first | rfl | (rw [hp0]), rfl⟩
  case rest =>
  obtain ⟨rfl, rfl⟩ := hcut
  go_upto_region 7 with fail
  have m1 : IntKind.i64.wrap (pp * 2) = pp * 2 := by rw [IntKind.wrap_i64]; omega
  have m2 : IntKind.i64.wrap (max cc 1 * 8) = max cc 1 * 8 := by rw [IntKind.wrap_i64]; omega
  have EB : Hid ((nB0 mp sub ram nv vert four pp cc).cells = #[.int .i64 mp, .int .i64 sub, .int .u8 (hardV vert four), .bool (decide (0 < ram) || decide (0 < nv)), .int .i64 (pp * 2), .int .i64 (max cc 1 * 8), .bool (cc == 0), .int .u8 0, .int .u8 0, .int .u8 0, .int .u8 0, .int .u8 0, .int .i64 0, .int .u8 0, .int .u8 0, .int .u8 0, .int .u8 0, .int .u8 0, .int .u8 0, .int .u8 0, .int .u8 0, .int .u8 0, .int .u8 0, .int .u8 0, .int .u8 0, .int .u8 0, .int .u8 0, .bool false, .bool false, .bool false, .int .i64 0]) := rfl
  go_cut [8] (fun q wx => ∃ m, q = (.iface IT (.pointer (some ⟨m, 0, none⟩))) ∧ w.heap.size + 1 < m ∧ Blk wx m kc tt ∧ Blk wx (w.heap.size + 1) Z31 28 ∧ Below w.heap.size w wx)
  case first =>
    have hram : decide (0 < ram) = decide (0 < ram) := rfl
    have s0 : Blk W0.drew w.heap.size cs 67 ∧ Blk W0.drew (w.heap.size + 1) Z31 28 ∧ Below w.heap.size w W0.drew := ⟨b0.drew, z0.drew, hb0.drew⟩
    have step : ∀ {v v' : World}, (Blk v w.heap.size cs 67 ∧ Blk v (w.heap.size + 1) Z31 28 ∧ Below w.heap.size w v) → Below v.heap.size v v' → (Blk v' w.heap.size cs 67 ∧ Blk v' (w.heap.size + 1) Z31 28 ∧ Below w.heap.size w v') := fun h hb => ⟨h.1.below h.1.lt hb, h.2.1.below h.2.1.lt hb, h.2.2.trans (hb.mono (Nat.le_of_lt h.1.lt))⟩
    cases hrm : decide (0 < ram)
    · skip
      refine wp_region_held (S := fun v => Blk v w.heap.size cs 67 ∧ Blk v (w.heap.size + 1) Z31 28 ∧ Below w.heap.size w v) (by kernel_rfl) ?_
      refine takeH (i := 0) (v := .pointer (some ⟨w.heap.size, 1, none⟩)) ⟨#[.agg cs, .pointer (some ⟨w.heap.size, 0, none⟩), .pointer (some ⟨w.heap.size + 1, 0, none⟩), .int .i64 0, .int .i64 pp, u5, .int .i64 cc, u7, undef, u9, u10, u11, u12, u13, u14, u15, u16, u17, u18, u19, u20, u21, u22, u23, u24, u25, u26, u27, u28, u29, u30, u31, u32, u33, u34, u35, u36, u37, u38, .bool false, u40, .pointer (some ⟨w.heap.size, 1, none⟩), u42, u43, u44, u45, u46, u47, u48, u49, u50, u51, u52, u53, u54, u55, u56, u57, u58, u59, u60, u61, u62, u63, u64, u65, u66, u67], []⟩ rfl (by kernel_rfl) (by kernel_rfl) (by kernel_rfl) (fun _ _ _ h => h) (.inl ⟨by kernel_rfl, fun _ _ => by kernel_rfl⟩) s0 (by kernel_rfl) ?_
      refine takeH (i := 1) (v := .int .i64 mp) ⟨#[.agg cs, .pointer (some ⟨w.heap.size, 0, none⟩), .pointer (some ⟨w.heap.size + 1, 0, none⟩), .int .i64 0, .int .i64 pp, u5, .int .i64 cc, u7, undef, u9, u10, u11, u12, u13, u14, u15, u16, u17, u18, u19, u20, u21, u22, u23, u24, u25, u26, u27, u28, u29, u30, u31, u32, u33, u34, u35, u36, u37, u38, .bool false, u40, .pointer (some ⟨w.heap.size, 1, none⟩), .int .i64 mp, u43, u44, u45, u46, u47, u48, u49, u50, u51, u52, u53, u54, u55, u56, u57, u58, u59, u60, u61, u62, u63, u64, u65, u66, u67], []⟩ rfl (by kernel_rfl) (by kernel_rfl) (by kernel_rfl) (fun _ _ _ h => h) (.inl ⟨by kernel_rfl, fun v hv => by have c : v.cell? ⟨w.heap.size, 1, none⟩ = some (.int .i64 mp) := (Blk.cell hv.1 1).trans CC.out.h1; go_simp⟩) s0 (by kernel_rfl) ?_
      refine takeH (i := 2) (v := .pointer (some ⟨w.heap.size, 2, none⟩)) ⟨#[.agg cs, .pointer (some ⟨w.heap.size, 0, none⟩), .pointer (some ⟨w.heap.size + 1, 0, none⟩), .int .i64 0, .int .i64 pp, u5, .int .i64 cc, u7, undef, u9, u10, u11, u12, u13, u14, u15, u16, u17, u18, u19, u20, u21, u22, u23, u24, u25, u26, u27, u28, u29, u30, u31, u32, u33, u34, u35, u36, u37, u38, .bool false, u40, .pointer (some ⟨w.heap.size, 1, none⟩), .int .i64 mp, .pointer (some ⟨w.heap.size, 2, none⟩), u44, u45, u46, u47, u48, u49, u50, u51, u52, u53, u54, u55, u56, u57, u58, u59, u60, u61, u62, u63, u64, u65, u66, u67], []⟩ rfl (by kernel_rfl) (by kernel_rfl) (by kernel_rfl) (fun _ _ _ h => h) (.inl ⟨by kernel_rfl, fun _ _ => by kernel_rfl⟩) s0 (by kernel_rfl) ?_
      refine takeH (i := 3) (v := .int .i64 sub) ⟨#[.agg cs, .pointer (some ⟨w.heap.size, 0, none⟩), .pointer (some ⟨w.heap.size + 1, 0, none⟩), .int .i64 0, .int .i64 pp, u5, .int .i64 cc, u7, undef, u9, u10, u11, u12, u13, u14, u15, u16, u17, u18, u19, u20, u21, u22, u23, u24, u25, u26, u27, u28, u29, u30, u31, u32, u33, u34, u35, u36, u37, u38, .bool false, u40, .pointer (some ⟨w.heap.size, 1, none⟩), .int .i64 mp, .pointer (some ⟨w.heap.size, 2, none⟩), .int .i64 sub, u45, u46, u47, u48, u49, u50, u51, u52, u53, u54, u55, u56, u57, u58, u59, u60, u61, u62, u63, u64, u65, u66, u67], []⟩ rfl (by kernel_rfl) (by kernel_rfl) (by kernel_rfl) (fun _ _ _ h => h) (.inl ⟨by kernel_rfl, fun v hv => by have c : v.cell? ⟨w.heap.size, 2, none⟩ = some (.int .i64 sub) := (Blk.cell hv.1 2).trans CC.out.h2; go_simp⟩) s0 (by kernel_rfl) ?_
      refine takeH (i := 4) (v := .agg cs.toList.toArray) ⟨#[.agg cs, .pointer (some ⟨w.heap.size, 0, none⟩), .pointer (some ⟨w.heap.size + 1, 0, none⟩), .int .i64 0, .int .i64 pp, u5, .int .i64 cc, u7, undef, u9, u10, u11, u12, u13, u14, u15, u16, u17, u18, u19, u20, u21, u22, u23, u24, u25, u26, u27, u28, u29, u30, u31, u32, u33, u34, u35, u36, u37, u38, .bool false, u40, .pointer (some ⟨w.heap.size, 1, none⟩), .int .i64 mp, .pointer (some ⟨w.heap.size, 2, none⟩), .int .i64 sub, .agg cs, u46, u47, u48, u49, u50, u51, u52, u53, u54, u55, u56, u57, u58, u59, u60, u61, u62, u63, u64, u65, u66, u67], []⟩ rfl (by kernel_rfl) (by kernel_rfl) (by kernel_rfl) (fun _ _ _ h => h) (yieldsIf_load_mid (by kernel_rfl) 67 (.tmp 1) rfl w.heap.size 0 (by kernel_rfl) cs.toList _ (fun v hv => Blk.range hv.1) Try.underlying67 rfl (by rw [Array.length_toList, HS.out]; kernel_rfl)) s0 (by kernel_rfl) ?_
      refine takeH (i := 6) (v := .pointer (some ⟨w.heap.size, 11, none⟩)) ⟨#[.agg cs, .pointer (some ⟨w.heap.size, 0, none⟩), .pointer (some ⟨w.heap.size + 1, 0, none⟩), .int .i64 0, .int .i64 pp, u5, .int .i64 cc, u7, undef, u9, u10, u11, u12, u13, u14, u15, u16, u17, u18, u19, u20, u21, u22, u23, u24, u25, u26, u27, u28, u29, u30, u31, u32, u33, u34, u35, u36, u37, u38, .bool false, u40, .pointer (some ⟨w.heap.size, 1, none⟩), .int .i64 mp, .pointer (some ⟨w.heap.size, 2, none⟩), .int .i64 sub, .agg cs, u46, .pointer (some ⟨w.heap.size, 11, none⟩), u48, u49, u50, u51, u52, u53, u54, u55, u56, u57, u58, u59, u60, u61, u62, u63, u64, u65, u66, u67], []⟩ rfl (by kernel_rfl) (by kernel_rfl) (by kernel_rfl) (fun _ _ _ h => h) (.inl ⟨by kernel_rfl, fun _ _ => by kernel_rfl⟩) s0 (by kernel_rfl) ?_
      refine takeH (i := 7) (v := .int .i64 ram) ⟨#[.agg cs, .pointer (some ⟨w.heap.size, 0, none⟩), .pointer (some ⟨w.heap.size + 1, 0, none⟩), .int .i64 0, .int .i64 pp, u5, .int .i64 cc, u7, undef, u9, u10, u11, u12, u13, u14, u15, u16, u17, u18, u19, u20, u21, u22, u23, u24, u25, u26, u27, u28, u29, u30, u31, u32, u33, u34, u35, u36, u37, u38, .bool false, u40, .pointer (some ⟨w.heap.size, 1, none⟩), .int .i64 mp, .pointer (some ⟨w.heap.size, 2, none⟩), .int .i64 sub, .agg cs, u46, .pointer (some ⟨w.heap.size, 11, none⟩), .int .i64 ram, u49, u50, u51, u52, u53, u54, u55, u56, u57, u58, u59, u60, u61, u62, u63, u64, u65, u66, u67], []⟩ rfl (by kernel_rfl) (by kernel_rfl) (by kernel_rfl) (fun _ _ _ h => h) (.inl ⟨by kernel_rfl, fun v hv => by have c : v.cell? ⟨w.heap.size, 11, none⟩ = some (.int .i64 ram) := (Blk.cell hv.1 11).trans CC.out.h11; go_simp⟩) s0 (by kernel_rfl) ?_
      refine takeH (i := 8) (v := .bool false) ⟨#[.agg cs, .pointer (some ⟨w.heap.size, 0, none⟩), .pointer (some ⟨w.heap.size + 1, 0, none⟩), .int .i64 0, .int .i64 pp, u5, .int .i64 cc, u7, undef, u9, u10, u11, u12, u13, u14, u15, u16, u17, u18, u19, u20, u21, u22, u23, u24, u25, u26, u27, u28, u29, u30, u31, u32, u33, u34, u35, u36, u37, u38, .bool false, u40, .pointer (some ⟨w.heap.size, 1, none⟩), .int .i64 mp, .pointer (some ⟨w.heap.size, 2, none⟩), .int .i64 sub, .agg cs, u46, .pointer (some ⟨w.heap.size, 11, none⟩), .int .i64 ram, .bool false, u50, u51, u52, u53, u54, u55, u56, u57, u58, u59, u60, u61, u62, u63, u64, u65, u66, u67], []⟩ rfl (by kernel_rfl) (by kernel_rfl) (by kernel_rfl) (fun _ _ _ h => h) (.inl ⟨by kernel_rfl, fun v _ => Eq.trans (b := .ok (.value (.bool (decide (0 < ram)))) v) (by kernel_rfl) (by rw [hrm])⟩) s0 (by kernel_rfl) ?_
      refine takeH (i := 14) (v := .int .i64 pp) ⟨#[.agg cs, .pointer (some ⟨w.heap.size, 0, none⟩), .pointer (some ⟨w.heap.size + 1, 0, none⟩), .int .i64 0, .int .i64 pp, u5, .int .i64 cc, u7, undef, u9, u10, u11, u12, u13, u14, u15, u16, u17, u18, u19, u20, u21, u22, u23, u24, u25, u26, u27, u28, u29, u30, u31, u32, u33, u34, u35, u36, u37, u38, .bool false, u40, .pointer (some ⟨w.heap.size, 1, none⟩), .int .i64 mp, .pointer (some ⟨w.heap.size, 2, none⟩), .int .i64 sub, .agg cs, u46, .pointer (some ⟨w.heap.size, 11, none⟩), .int .i64 ram, .bool false, u50, u51, u52, u53, u54, .int .i64 pp, u56, u57, u58, u59, u60, u61, u62, u63, u64, u65, u66, u67], []⟩ rfl (by kernel_rfl) (by kernel_rfl) (by kernel_rfl) (fun _ _ _ h => h) (.inl ⟨by kernel_rfl, fun _ _ => by kernel_rfl⟩) s0 (by kernel_rfl) ?_
      refine takeH (i := 15) (v := .int .i64 (pp * 2)) ⟨#[.agg cs, .pointer (some ⟨w.heap.size, 0, none⟩), .pointer (some ⟨w.heap.size + 1, 0, none⟩), .int .i64 0, .int .i64 pp, u5, .int .i64 cc, u7, undef, u9, u10, u11, u12, u13, u14, u15, u16, u17, u18, u19, u20, u21, u22, u23, u24, u25, u26, u27, u28, u29, u30, u31, u32, u33, u34, u35, u36, u37, u38, .bool false, u40, .pointer (some ⟨w.heap.size, 1, none⟩), .int .i64 mp, .pointer (some ⟨w.heap.size, 2, none⟩), .int .i64 sub, .agg cs, u46, .pointer (some ⟨w.heap.size, 11, none⟩), .int .i64 ram, .bool false, u50, u51, u52, u53, u54, .int .i64 pp, .int .i64 (pp * 2), u57, u58, u59, u60, u61, u62, u63, u64, u65, u66, u67], []⟩ rfl (by kernel_rfl) (by kernel_rfl) (by kernel_rfl) (fun _ _ _ h => h) (.inl ⟨by kernel_rfl, fun v _ => Eq.trans (b := .ok (.value (.int .i64 (IntKind.i64.wrap (pp * 2)))) v) (by kernel_rfl) (by rw [m1])⟩) s0 (by kernel_rfl) ?_
      refine takeH (i := 16) (v := .int .i64 cc) ⟨#[.agg cs, .pointer (some ⟨w.heap.size, 0, none⟩), .pointer (some ⟨w.heap.size + 1, 0, none⟩), .int .i64 0, .int .i64 pp, u5, .int .i64 cc, u7, undef, u9, u10, u11, u12, u13, u14, u15, u16, u17, u18, u19, u20, u21, u22, u23, u24, u25, u26, u27, u28, u29, u30, u31, u32, u33, u34, u35, u36, u37, u38, .bool false, u40, .pointer (some ⟨w.heap.size, 1, none⟩), .int .i64 mp, .pointer (some ⟨w.heap.size, 2, none⟩), .int .i64 sub, .agg cs, u46, .pointer (some ⟨w.heap.size, 11, none⟩), .int .i64 ram, .bool false, u50, u51, u52, u53, u54, .int .i64 pp, .int .i64 (pp * 2), .int .i64 cc, u58, u59, u60, u61, u62, u63, u64, u65, u66, u67], []⟩ rfl (by kernel_rfl) (by kernel_rfl) (by kernel_rfl) (fun _ _ _ h => h) (.inl ⟨by kernel_rfl, fun _ _ => by kernel_rfl⟩) s0 (by kernel_rfl) ?_
      refine takeH (i := 19) (v := .int .i64 cc) ⟨#[.agg cs, .pointer (some ⟨w.heap.size, 0, none⟩), .pointer (some ⟨w.heap.size + 1, 0, none⟩), .int .i64 0, .int .i64 pp, u5, .int .i64 cc, u7, undef, u9, u10, u11, u12, u13, u14, u15, u16, u17, u18, u19, u20, u21, u22, u23, u24, u25, u26, u27, u28, u29, u30, u31, u32, u33, u34, u35, u36, u37, u38, .bool false, u40, .pointer (some ⟨w.heap.size, 1, none⟩), .int .i64 mp, .pointer (some ⟨w.heap.size, 2, none⟩), .int .i64 sub, .agg cs, u46, .pointer (some ⟨w.heap.size, 11, none⟩), .int .i64 ram, .bool false, u50, u51, u52, u53, u54, .int .i64 pp, .int .i64 (pp * 2), .int .i64 cc, u58, u59, .int .i64 cc, u61, u62, u63, u64, u65, u66, u67], []⟩ rfl (by kernel_rfl) (by kernel_rfl) (by kernel_rfl) (fun _ _ _ h => h) (.inl ⟨by kernel_rfl, fun _ _ => by kernel_rfl⟩) s0 (by kernel_rfl) ?_
      refine takeH (i := 20) (v := .bool (cc == 0)) ⟨#[.agg cs, .pointer (some ⟨w.heap.size, 0, none⟩), .pointer (some ⟨w.heap.size + 1, 0, none⟩), .int .i64 0, .int .i64 pp, u5, .int .i64 cc, u7, undef, u9, u10, u11, u12, u13, u14, u15, u16, u17, u18, u19, u20, u21, u22, u23, u24, u25, u26, u27, u28, u29, u30, u31, u32, u33, u34, u35, u36, u37, u38, .bool false, u40, .pointer (some ⟨w.heap.size, 1, none⟩), .int .i64 mp, .pointer (some ⟨w.heap.size, 2, none⟩), .int .i64 sub, .agg cs, u46, .pointer (some ⟨w.heap.size, 11, none⟩), .int .i64 ram, .bool false, u50, u51, u52, u53, u54, .int .i64 pp, .int .i64 (pp * 2), .int .i64 cc, u58, u59, .int .i64 cc, .bool (cc == 0), u62, u63, u64, u65, u66, u67], []⟩ rfl (by kernel_rfl) (by kernel_rfl) (by kernel_rfl) (fun _ _ _ h => h) (.inl ⟨by kernel_rfl, fun _ _ => by kernel_rfl⟩) s0 (by kernel_rfl) ?_
      refine wpAnyH_all (rs := [5, 17]) (by kernel_rfl) (by simp) ?_
      intro i hi
      obtain rfl | rfl : i = 5 ∨ i = 17 := by simpa using hi
      · skip
        refine wpOp_contract (f := 60) rfl (by kernel_rfl) (by kernel_rfl) (WH.out W0.drew) ⟨#[.agg cs, .pointer (some ⟨w.heap.size, 0, none⟩), .pointer (some ⟨w.heap.size + 1, 0, none⟩), .int .i64 0, .int .i64 pp, u5, .int .i64 cc, u7, undef, u9, u10, u11, u12, u13, u14, u15, u16, u17, u18, u19, u20, u21, u22, u23, u24, u25, u26, u27, u28, u29, u30, u31, u32, u33, u34, u35, u36, u37, u38, .bool false, u40, .pointer (some ⟨w.heap.size, 1, none⟩), .int .i64 mp, .pointer (some ⟨w.heap.size, 2, none⟩), .int .i64 sub, .agg cs, .int .u8 (hardV vert four), .pointer (some ⟨w.heap.size, 11, none⟩), .int .i64 ram, .bool false, u50, u51, u52, u53, u54, .int .i64 pp, .int .i64 (pp * 2), .int .i64 cc, u58, u59, .int .i64 cc, .bool (cc == 0), u62, u63, u64, u65, u66, u67], []⟩ (by kernel_rfl) ?_
        intro V1 hb1
        have s1 := step s0 hb1
        refine ⟨s1, ?_⟩
        refine takeH (i := 9) (v := .bool false) ⟨#[.agg cs, .pointer (some ⟨w.heap.size, 0, none⟩), .pointer (some ⟨w.heap.size + 1, 0, none⟩), .int .i64 0, .int .i64 pp, u5, .int .i64 cc, u7, undef, u9, u10, u11, u12, u13, u14, u15, u16, u17, u18, u19, u20, u21, u22, u23, u24, u25, u26, u27, u28, u29, u30, u31, u32, u33, u34, u35, u36, u37, u38, .bool false, u40, .pointer (some ⟨w.heap.size, 1, none⟩), .int .i64 mp, .pointer (some ⟨w.heap.size, 2, none⟩), .int .i64 sub, .agg cs, .int .u8 (hardV vert four), .pointer (some ⟨w.heap.size, 11, none⟩), .int .i64 ram, .bool false, .bool false, u51, u52, u53, u54, .int .i64 pp, .int .i64 (pp * 2), .int .i64 cc, u58, u59, .int .i64 cc, .bool (cc == 0), u62, u63, u64, u65, u66, u67], []⟩ rfl (by kernel_rfl) (by kernel_rfl) (by kernel_rfl) (fun _ _ _ h => h) (.inl ⟨by kernel_rfl, fun _ _ => by kernel_rfl⟩) s1 (by kernel_rfl) ?_
        refine takeH (i := 10) (v := .pointer (some ⟨w.heap.size, 12, none⟩)) ⟨#[.agg cs, .pointer (some ⟨w.heap.size, 0, none⟩), .pointer (some ⟨w.heap.size + 1, 0, none⟩), .int .i64 0, .int .i64 pp, u5, .int .i64 cc, u7, undef, u9, u10, u11, u12, u13, u14, u15, u16, u17, u18, u19, u20, u21, u22, u23, u24, u25, u26, u27, u28, u29, u30, u31, u32, u33, u34, u35, u36, u37, u38, .bool false, u40, .pointer (some ⟨w.heap.size, 1, none⟩), .int .i64 mp, .pointer (some ⟨w.heap.size, 2, none⟩), .int .i64 sub, .agg cs, .int .u8 (hardV vert four), .pointer (some ⟨w.heap.size, 11, none⟩), .int .i64 ram, .bool false, .bool false, .pointer (some ⟨w.heap.size, 12, none⟩), u52, u53, u54, .int .i64 pp, .int .i64 (pp * 2), .int .i64 cc, u58, u59, .int .i64 cc, .bool (cc == 0), u62, u63, u64, u65, u66, u67], []⟩ rfl (by kernel_rfl) (by kernel_rfl) (by kernel_rfl) (fun _ _ _ h => h) (.inl ⟨by kernel_rfl, fun _ _ => by kernel_rfl⟩) s1 (by kernel_rfl) ?_
        refine takeH (i := 11) (v := .int .i64 nv) ⟨#[.agg cs, .pointer (some ⟨w.heap.size, 0, none⟩), .pointer (some ⟨w.heap.size + 1, 0, none⟩), .int .i64 0, .int .i64 pp, u5, .int .i64 cc, u7, undef, u9, u10, u11, u12, u13, u14, u15, u16, u17, u18, u19, u20, u21, u22, u23, u24, u25, u26, u27, u28, u29, u30, u31, u32, u33, u34, u35, u36, u37, u38, .bool false, u40, .pointer (some ⟨w.heap.size, 1, none⟩), .int .i64 mp, .pointer (some ⟨w.heap.size, 2, none⟩), .int .i64 sub, .agg cs, .int .u8 (hardV vert four), .pointer (some ⟨w.heap.size, 11, none⟩), .int .i64 ram, .bool false, .bool false, .pointer (some ⟨w.heap.size, 12, none⟩), .int .i64 nv, u53, u54, .int .i64 pp, .int .i64 (pp * 2), .int .i64 cc, u58, u59, .int .i64 cc, .bool (cc == 0), u62, u63, u64, u65, u66, u67], []⟩ rfl (by kernel_rfl) (by kernel_rfl) (by kernel_rfl) (fun _ _ _ h => h) (.inl ⟨by kernel_rfl, fun v hv => by have c : v.cell? ⟨w.heap.size, 12, none⟩ = some (.int .i64 nv) := (Blk.cell hv.1 12).trans CC.out.h12; go_simp⟩) s1 (by kernel_rfl) ?_
        refine takeH (i := 12) (v := .bool (decide (0 < nv))) ⟨#[.agg cs, .pointer (some ⟨w.heap.size, 0, none⟩), .pointer (some ⟨w.heap.size + 1, 0, none⟩), .int .i64 0, .int .i64 pp, u5, .int .i64 cc, u7, undef, u9, u10, u11, u12, u13, u14, u15, u16, u17, u18, u19, u20, u21, u22, u23, u24, u25, u26, u27, u28, u29, u30, u31, u32, u33, u34, u35, u36, u37, u38, .bool false, u40, .pointer (some ⟨w.heap.size, 1, none⟩), .int .i64 mp, .pointer (some ⟨w.heap.size, 2, none⟩), .int .i64 sub, .agg cs, .int .u8 (hardV vert four), .pointer (some ⟨w.heap.size, 11, none⟩), .int .i64 ram, .bool false, .bool false, .pointer (some ⟨w.heap.size, 12, none⟩), .int .i64 nv, .bool (decide (0 < nv)), u54, .int .i64 pp, .int .i64 (pp * 2), .int .i64 cc, u58, u59, .int .i64 cc, .bool (cc == 0), u62, u63, u64, u65, u66, u67], []⟩ rfl (by kernel_rfl) (by kernel_rfl) (by kernel_rfl) (fun _ _ _ h => h) (.inl ⟨by kernel_rfl, fun _ _ => by kernel_rfl⟩) s1 (by kernel_rfl) ?_
        refine takeH (i := 13) (v := .bool (decide (0 < nv))) ⟨#[.agg cs, .pointer (some ⟨w.heap.size, 0, none⟩), .pointer (some ⟨w.heap.size + 1, 0, none⟩), .int .i64 0, .int .i64 pp, u5, .int .i64 cc, u7, undef, u9, u10, u11, u12, u13, u14, u15, u16, u17, u18, u19, u20, u21, u22, u23, u24, u25, u26, u27, u28, u29, u30, u31, u32, u33, u34, u35, u36, u37, u38, .bool false, u40, .pointer (some ⟨w.heap.size, 1, none⟩), .int .i64 mp, .pointer (some ⟨w.heap.size, 2, none⟩), .int .i64 sub, .agg cs, .int .u8 (hardV vert four), .pointer (some ⟨w.heap.size, 11, none⟩), .int .i64 ram, .bool false, .bool false, .pointer (some ⟨w.heap.size, 12, none⟩), .int .i64 nv, .bool (decide (0 < nv)), .bool (decide (0 < nv)), .int .i64 pp, .int .i64 (pp * 2), .int .i64 cc, u58, u59, .int .i64 cc, .bool (cc == 0), u62, u63, u64, u65, u66, u67], []⟩ rfl (by kernel_rfl) (by kernel_rfl) (by kernel_rfl) (fun _ _ _ h => h) (.inl ⟨by kernel_rfl, fun _ _ => by kernel_rfl⟩) s1 (by kernel_rfl) ?_
        refine wpAnyH_all (rs := [17]) (by kernel_rfl) (by simp) ?_
        intro i hi
        obtain rfl : i = 17 := by simpa using hi
        refine wpOp_run (v := .int .i64 (max cc 1)) rfl (by kernel_rfl) (by go_simp; omega) ⟨#[.agg cs, .pointer (some ⟨w.heap.size, 0, none⟩), .pointer (some ⟨w.heap.size + 1, 0, none⟩), .int .i64 0, .int .i64 pp, u5, .int .i64 cc, u7, undef, u9, u10, u11, u12, u13, u14, u15, u16, u17, u18, u19, u20, u21, u22, u23, u24, u25, u26, u27, u28, u29, u30, u31, u32, u33, u34, u35, u36, u37, u38, .bool false, u40, .pointer (some ⟨w.heap.size, 1, none⟩), .int .i64 mp, .pointer (some ⟨w.heap.size, 2, none⟩), .int .i64 sub, .agg cs, .int .u8 (hardV vert four), .pointer (some ⟨w.heap.size, 11, none⟩), .int .i64 ram, .bool false, .bool false, .pointer (some ⟨w.heap.size, 12, none⟩), .int .i64 nv, .bool (decide (0 < nv)), .bool (decide (0 < nv)), .int .i64 pp, .int .i64 (pp * 2), .int .i64 cc, .int .i64 (max cc 1), u59, .int .i64 cc, .bool (cc == 0), u62, u63, u64, u65, u66, u67], []⟩ (by kernel_rfl) ?_
        refine ⟨s1, ?_⟩
        refine takeH (i := 18) (v := .int .i64 (max cc 1 * 8)) ⟨#[.agg cs, .pointer (some ⟨w.heap.size, 0, none⟩), .pointer (some ⟨w.heap.size + 1, 0, none⟩), .int .i64 0, .int .i64 pp, u5, .int .i64 cc, u7, undef, u9, u10, u11, u12, u13, u14, u15, u16, u17, u18, u19, u20, u21, u22, u23, u24, u25, u26, u27, u28, u29, u30, u31, u32, u33, u34, u35, u36, u37, u38, .bool false, u40, .pointer (some ⟨w.heap.size, 1, none⟩), .int .i64 mp, .pointer (some ⟨w.heap.size, 2, none⟩), .int .i64 sub, .agg cs, .int .u8 (hardV vert four), .pointer (some ⟨w.heap.size, 11, none⟩), .int .i64 ram, .bool false, .bool false, .pointer (some ⟨w.heap.size, 12, none⟩), .int .i64 nv, .bool (decide (0 < nv)), .bool (decide (0 < nv)), .int .i64 pp, .int .i64 (pp * 2), .int .i64 cc, .int .i64 (max cc 1), .int .i64 (max cc 1 * 8), .int .i64 cc, .bool (cc == 0), u62, u63, u64, u65, u66, u67], []⟩ rfl (by kernel_rfl) (by kernel_rfl) (by kernel_rfl) (fun _ _ _ h => h) (.inl ⟨by kernel_rfl, fun v _ => Eq.trans (b := .ok (.value (.int .i64 (IntKind.i64.wrap (max cc 1 * 8)))) v) (by kernel_rfl) (by rw [m2])⟩) s1 (by kernel_rfl) ?_
        refine takeH (i := 21) (v := .agg (nB0 mp sub ram nv vert four pp cc).cells) ⟨#[.agg cs, .pointer (some ⟨w.heap.size, 0, none⟩), .pointer (some ⟨w.heap.size + 1, 0, none⟩), .int .i64 0, .int .i64 pp, u5, .int .i64 cc, u7, undef, u9, u10, u11, u12, u13, u14, u15, u16, u17, u18, u19, u20, u21, u22, u23, u24, u25, u26, u27, u28, u29, u30, u31, u32, u33, u34, u35, u36, u37, u38, .bool false, u40, .pointer (some ⟨w.heap.size, 1, none⟩), .int .i64 mp, .pointer (some ⟨w.heap.size, 2, none⟩), .int .i64 sub, .agg cs, .int .u8 (hardV vert four), .pointer (some ⟨w.heap.size, 11, none⟩), .int .i64 ram, .bool false, .bool false, .pointer (some ⟨w.heap.size, 12, none⟩), .int .i64 nv, .bool (decide (0 < nv)), .bool (decide (0 < nv)), .int .i64 pp, .int .i64 (pp * 2), .int .i64 cc, .int .i64 (max cc 1), .int .i64 (max cc 1 * 8), .int .i64 cc, .bool (cc == 0), .agg (nB0 mp sub ram nv vert four pp cc).cells, u63, u64, u65, u66, u67], []⟩ rfl (by kernel_rfl) (by kernel_rfl) (by kernel_rfl) (fun _ _ _ h => h) (.inl ⟨by kernel_rfl, fun _ _ => by rw [EB.out, hrm]; kernel_rfl⟩) s1 (by kernel_rfl) ?_
        refine wpAnyH_all (rs := [22]) (by kernel_rfl) (by simp) ?_
        intro i hi
        obtain rfl : i = 22 := by simpa using hi
        refine wpOp_contractE (f := 59) (V := fun m => (.iface IT (.pointer (some ⟨m, 0, none⟩)))) rfl (by kernel_rfl) (by kernel_rfl) (KOH.out _) (fun m => ⟨#[.agg cs, .pointer (some ⟨w.heap.size, 0, none⟩), .pointer (some ⟨w.heap.size + 1, 0, none⟩), .int .i64 0, .int .i64 pp, u5, .int .i64 cc, u7, undef, u9, u10, u11, u12, u13, u14, u15, u16, u17, u18, u19, u20, u21, u22, u23, u24, u25, u26, u27, u28, u29, u30, u31, u32, u33, u34, u35, u36, u37, u38, .bool false, u40, .pointer (some ⟨w.heap.size, 1, none⟩), .int .i64 mp, .pointer (some ⟨w.heap.size, 2, none⟩), .int .i64 sub, .agg cs, .int .u8 (hardV vert four), .pointer (some ⟨w.heap.size, 11, none⟩), .int .i64 ram, .bool false, .bool false, .pointer (some ⟨w.heap.size, 12, none⟩), .int .i64 nv, .bool (decide (0 < nv)), .bool (decide (0 < nv)), .int .i64 pp, .int .i64 (pp * 2), .int .i64 cc, .int .i64 (max cc 1), .int .i64 (max cc 1 * 8), .int .i64 cc, .bool (cc == 0), .agg (nB0 mp sub ram nv vert four pp cc).cells, (.iface IT (.pointer (some ⟨m, 0, none⟩))), u64, u65, u66, u67], []⟩) (fun m => by kernel_rfl) ?_
        rintro m V2 ⟨hm, hb2, K2⟩
        have s2 := step s1 hb2
        refine ⟨s2, ?_⟩
        refine takeH (i := 23) (v := (.iface IT (.pointer (some ⟨m, 0, none⟩)))) ⟨#[.agg cs, .pointer (some ⟨w.heap.size, 0, none⟩), .pointer (some ⟨w.heap.size + 1, 0, none⟩), .int .i64 0, .int .i64 pp, u5, .int .i64 cc, u7, (.iface IT (.pointer (some ⟨m, 0, none⟩))), u9, u10, u11, u12, u13, u14, u15, u16, u17, u18, u19, u20, u21, u22, u23, u24, u25, u26, u27, u28, u29, u30, u31, u32, u33, u34, u35, u36, u37, u38, .bool false, u40, .pointer (some ⟨w.heap.size, 1, none⟩), .int .i64 mp, .pointer (some ⟨w.heap.size, 2, none⟩), .int .i64 sub, .agg cs, .int .u8 (hardV vert four), .pointer (some ⟨w.heap.size, 11, none⟩), .int .i64 ram, .bool false, .bool false, .pointer (some ⟨w.heap.size, 12, none⟩), .int .i64 nv, .bool (decide (0 < nv)), .bool (decide (0 < nv)), .int .i64 pp, .int .i64 (pp * 2), .int .i64 cc, .int .i64 (max cc 1), .int .i64 (max cc 1 * 8), .int .i64 cc, .bool (cc == 0), .agg (nB0 mp sub ram nv vert four pp cc).cells, (.iface IT (.pointer (some ⟨m, 0, none⟩))), u64, u65, u66, u67], []⟩ rfl (by kernel_rfl) (by kernel_rfl) (by kernel_rfl) (fun _ _ _ h => h) (.inl ⟨by kernel_rfl, fun _ _ => by kernel_rfl⟩) s2 (by kernel_rfl) ?_
        refine wpAnyH_done (by kernel_rfl) ?_ _
        go_wp2
        go_meet
        exact ⟨m, rfl, by have := s1.2.1.lt; omega, K2, s2.2.1, s2.2.2⟩
      · skip
        refine wpOp_run (v := .int .i64 (max cc 1)) rfl (by kernel_rfl) (by go_simp; omega) ⟨#[.agg cs, .pointer (some ⟨w.heap.size, 0, none⟩), .pointer (some ⟨w.heap.size + 1, 0, none⟩), .int .i64 0, .int .i64 pp, u5, .int .i64 cc, u7, undef, u9, u10, u11, u12, u13, u14, u15, u16, u17, u18, u19, u20, u21, u22, u23, u24, u25, u26, u27, u28, u29, u30, u31, u32, u33, u34, u35, u36, u37, u38, .bool false, u40, .pointer (some ⟨w.heap.size, 1, none⟩), .int .i64 mp, .pointer (some ⟨w.heap.size, 2, none⟩), .int .i64 sub, .agg cs, u46, .pointer (some ⟨w.heap.size, 11, none⟩), .int .i64 ram, .bool false, u50, u51, u52, u53, u54, .int .i64 pp, .int .i64 (pp * 2), .int .i64 cc, .int .i64 (max cc 1), u59, .int .i64 cc, .bool (cc == 0), u62, u63, u64, u65, u66, u67], []⟩ (by kernel_rfl) ?_
        refine ⟨s0, ?_⟩
        refine takeH (i := 18) (v := .int .i64 (max cc 1 * 8)) ⟨#[.agg cs, .pointer (some ⟨w.heap.size, 0, none⟩), .pointer (some ⟨w.heap.size + 1, 0, none⟩), .int .i64 0, .int .i64 pp, u5, .int .i64 cc, u7, undef, u9, u10, u11, u12, u13, u14, u15, u16, u17, u18, u19, u20, u21, u22, u23, u24, u25, u26, u27, u28, u29, u30, u31, u32, u33, u34, u35, u36, u37, u38, .bool false, u40, .pointer (some ⟨w.heap.size, 1, none⟩), .int .i64 mp, .pointer (some ⟨w.heap.size, 2, none⟩), .int .i64 sub, .agg cs, u46, .pointer (some ⟨w.heap.size, 11, none⟩), .int .i64 ram, .bool false, u50, u51, u52, u53, u54, .int .i64 pp, .int .i64 (pp * 2), .int .i64 cc, .int .i64 (max cc 1), .int .i64 (max cc 1 * 8), .int .i64 cc, .bool (cc == 0), u62, u63, u64, u65, u66, u67], []⟩ rfl (by kernel_rfl) (by kernel_rfl) (by kernel_rfl) (fun _ _ _ h => h) (.inl ⟨by kernel_rfl, fun v _ => Eq.trans (b := .ok (.value (.int .i64 (IntKind.i64.wrap (max cc 1 * 8)))) v) (by kernel_rfl) (by rw [m2])⟩) s0 (by kernel_rfl) ?_
        refine wpAnyH_all (rs := [5]) (by kernel_rfl) (by simp) ?_
        intro i hi
        obtain rfl : i = 5 := by simpa using hi
        refine wpOp_contract (f := 60) rfl (by kernel_rfl) (by kernel_rfl) (WH.out W0.drew) ⟨#[.agg cs, .pointer (some ⟨w.heap.size, 0, none⟩), .pointer (some ⟨w.heap.size + 1, 0, none⟩), .int .i64 0, .int .i64 pp, u5, .int .i64 cc, u7, undef, u9, u10, u11, u12, u13, u14, u15, u16, u17, u18, u19, u20, u21, u22, u23, u24, u25, u26, u27, u28, u29, u30, u31, u32, u33, u34, u35, u36, u37, u38, .bool false, u40, .pointer (some ⟨w.heap.size, 1, none⟩), .int .i64 mp, .pointer (some ⟨w.heap.size, 2, none⟩), .int .i64 sub, .agg cs, .int .u8 (hardV vert four), .pointer (some ⟨w.heap.size, 11, none⟩), .int .i64 ram, .bool false, u50, u51, u52, u53, u54, .int .i64 pp, .int .i64 (pp * 2), .int .i64 cc, .int .i64 (max cc 1), .int .i64 (max cc 1 * 8), .int .i64 cc, .bool (cc == 0), u62, u63, u64, u65, u66, u67], []⟩ (by kernel_rfl) ?_
        intro V1 hb1
        have s1 := step s0 hb1
        refine ⟨s1, ?_⟩
        refine takeH (i := 9) (v := .bool false) ⟨#[.agg cs, .pointer (some ⟨w.heap.size, 0, none⟩), .pointer (some ⟨w.heap.size + 1, 0, none⟩), .int .i64 0, .int .i64 pp, u5, .int .i64 cc, u7, undef, u9, u10, u11, u12, u13, u14, u15, u16, u17, u18, u19, u20, u21, u22, u23, u24, u25, u26, u27, u28, u29, u30, u31, u32, u33, u34, u35, u36, u37, u38, .bool false, u40, .pointer (some ⟨w.heap.size, 1, none⟩), .int .i64 mp, .pointer (some ⟨w.heap.size, 2, none⟩), .int .i64 sub, .agg cs, .int .u8 (hardV vert four), .pointer (some ⟨w.heap.size, 11, none⟩), .int .i64 ram, .bool false, .bool false, u51, u52, u53, u54, .int .i64 pp, .int .i64 (pp * 2), .int .i64 cc, .int .i64 (max cc 1), .int .i64 (max cc 1 * 8), .int .i64 cc, .bool (cc == 0), u62, u63, u64, u65, u66, u67], []⟩ rfl (by kernel_rfl) (by kernel_rfl) (by kernel_rfl) (fun _ _ _ h => h) (.inl ⟨by kernel_rfl, fun _ _ => by kernel_rfl⟩) s1 (by kernel_rfl) ?_
        refine takeH (i := 10) (v := .pointer (some ⟨w.heap.size, 12, none⟩)) ⟨#[.agg cs, .pointer (some ⟨w.heap.size, 0, none⟩), .pointer (some ⟨w.heap.size + 1, 0, none⟩), .int .i64 0, .int .i64 pp, u5, .int .i64 cc, u7, undef, u9, u10, u11, u12, u13, u14, u15, u16, u17, u18, u19, u20, u21, u22, u23, u24, u25, u26, u27, u28, u29, u30, u31, u32, u33, u34, u35, u36, u37, u38, .bool false, u40, .pointer (some ⟨w.heap.size, 1, none⟩), .int .i64 mp, .pointer (some ⟨w.heap.size, 2, none⟩), .int .i64 sub, .agg cs, .int .u8 (hardV vert four), .pointer (some ⟨w.heap.size, 11, none⟩), .int .i64 ram, .bool false, .bool false, .pointer (some ⟨w.heap.size, 12, none⟩), u52, u53, u54, .int .i64 pp, .int .i64 (pp * 2), .int .i64 cc, .int .i64 (max cc 1), .int .i64 (max cc 1 * 8), .int .i64 cc, .bool (cc == 0), u62, u63, u64, u65, u66, u67], []⟩ rfl (by kernel_rfl) (by kernel_rfl) (by kernel_rfl) (fun _ _ _ h => h) (.inl ⟨by kernel_rfl, fun _ _ => by kernel_rfl⟩) s1 (by kernel_rfl) ?_
        refine takeH (i := 11) (v := .int .i64 nv) ⟨#[.agg cs, .pointer (some ⟨w.heap.size, 0, none⟩), .pointer (some ⟨w.heap.size + 1, 0, none⟩), .int .i64 0, .int .i64 pp, u5, .int .i64 cc, u7, undef, u9, u10, u11, u12, u13, u14, u15, u16, u17, u18, u19, u20, u21, u22, u23, u24, u25, u26, u27, u28, u29, u30, u31, u32, u33, u34, u35, u36, u37, u38, .bool false, u40, .pointer (some ⟨w.heap.size, 1, none⟩), .int .i64 mp, .pointer (some ⟨w.heap.size, 2, none⟩), .int .i64 sub, .agg cs, .int .u8 (hardV vert four), .pointer (some ⟨w.heap.size, 11, none⟩), .int .i64 ram, .bool false, .bool false, .pointer (some ⟨w.heap.size, 12, none⟩), .int .i64 nv, u53, u54, .int .i64 pp, .int .i64 (pp * 2), .int .i64 cc, .int .i64 (max cc 1), .int .i64 (max cc 1 * 8), .int .i64 cc, .bool (cc == 0), u62, u63, u64, u65, u66, u67], []⟩ rfl (by kernel_rfl) (by kernel_rfl) (by kernel_rfl) (fun _ _ _ h => h) (.inl ⟨by kernel_rfl, fun v hv => by have c : v.cell? ⟨w.heap.size, 12, none⟩ = some (.int .i64 nv) := (Blk.cell hv.1 12).trans CC.out.h12; go_simp⟩) s1 (by kernel_rfl) ?_
        refine takeH (i := 12) (v := .bool (decide (0 < nv))) ⟨#[.agg cs, .pointer (some ⟨w.heap.size, 0, none⟩), .pointer (some ⟨w.heap.size + 1, 0, none⟩), .int .i64 0, .int .i64 pp, u5, .int .i64 cc, u7, undef, u9, u10, u11, u12, u13, u14, u15, u16, u17, u18, u19, u20, u21, u22, u23, u24, u25, u26, u27, u28, u29, u30, u31, u32, u33, u34, u35, u36, u37, u38, .bool false, u40, .pointer (some ⟨w.heap.size, 1, none⟩), .int .i64 mp, .pointer (some ⟨w.heap.size, 2, none⟩), .int .i64 sub, .agg cs, .int .u8 (hardV vert four), .pointer (some ⟨w.heap.size, 11, none⟩), .int .i64 ram, .bool false, .bool false, .pointer (some ⟨w.heap.size, 12, none⟩), .int .i64 nv, .bool (decide (0 < nv)), u54, .int .i64 pp, .int .i64 (pp * 2), .int .i64 cc, .int .i64 (max cc 1), .int .i64 (max cc 1 * 8), .int .i64 cc, .bool (cc == 0), u62, u63, u64, u65, u66, u67], []⟩ rfl (by kernel_rfl) (by kernel_rfl) (by kernel_rfl) (fun _ _ _ h => h) (.inl ⟨by kernel_rfl, fun _ _ => by kernel_rfl⟩) s1 (by kernel_rfl) ?_
        refine takeH (i := 13) (v := .bool (decide (0 < nv))) ⟨#[.agg cs, .pointer (some ⟨w.heap.size, 0, none⟩), .pointer (some ⟨w.heap.size + 1, 0, none⟩), .int .i64 0, .int .i64 pp, u5, .int .i64 cc, u7, undef, u9, u10, u11, u12, u13, u14, u15, u16, u17, u18, u19, u20, u21, u22, u23, u24, u25, u26, u27, u28, u29, u30, u31, u32, u33, u34, u35, u36, u37, u38, .bool false, u40, .pointer (some ⟨w.heap.size, 1, none⟩), .int .i64 mp, .pointer (some ⟨w.heap.size, 2, none⟩), .int .i64 sub, .agg cs, .int .u8 (hardV vert four), .pointer (some ⟨w.heap.size, 11, none⟩), .int .i64 ram, .bool false, .bool false, .pointer (some ⟨w.heap.size, 12, none⟩), .int .i64 nv, .bool (decide (0 < nv)), .bool (decide (0 < nv)), .int .i64 pp, .int .i64 (pp * 2), .int .i64 cc, .int .i64 (max cc 1), .int .i64 (max cc 1 * 8), .int .i64 cc, .bool (cc == 0), u62, u63, u64, u65, u66, u67], []⟩ rfl (by kernel_rfl) (by kernel_rfl) (by kernel_rfl) (fun _ _ _ h => h) (.inl ⟨by kernel_rfl, fun _ _ => by kernel_rfl⟩) s1 (by kernel_rfl) ?_
        refine takeH (i := 21) (v := .agg (nB0 mp sub ram nv vert four pp cc).cells) ⟨#[.agg cs, .pointer (some ⟨w.heap.size, 0, none⟩), .pointer (some ⟨w.heap.size + 1, 0, none⟩), .int .i64 0, .int .i64 pp, u5, .int .i64 cc, u7, undef, u9, u10, u11, u12, u13, u14, u15, u16, u17, u18, u19, u20, u21, u22, u23, u24, u25, u26, u27, u28, u29, u30, u31, u32, u33, u34, u35, u36, u37, u38, .bool false, u40, .pointer (some ⟨w.heap.size, 1, none⟩), .int .i64 mp, .pointer (some ⟨w.heap.size, 2, none⟩), .int .i64 sub, .agg cs, .int .u8 (hardV vert four), .pointer (some ⟨w.heap.size, 11, none⟩), .int .i64 ram, .bool false, .bool false, .pointer (some ⟨w.heap.size, 12, none⟩), .int .i64 nv, .bool (decide (0 < nv)), .bool (decide (0 < nv)), .int .i64 pp, .int .i64 (pp * 2), .int .i64 cc, .int .i64 (max cc 1), .int .i64 (max cc 1 * 8), .int .i64 cc, .bool (cc == 0), .agg (nB0 mp sub ram nv vert four pp cc).cells, u63, u64, u65, u66, u67], []⟩ rfl (by kernel_rfl) (by kernel_rfl) (by kernel_rfl) (fun _ _ _ h => h) (.inl ⟨by kernel_rfl, fun _ _ => by rw [EB.out, hrm]; kernel_rfl⟩) s1 (by kernel_rfl) ?_
        refine wpAnyH_all (rs := [22]) (by kernel_rfl) (by simp) ?_
        intro i hi
        obtain rfl : i = 22 := by simpa using hi
        refine wpOp_contractE (f := 59) (V := fun m => (.iface IT (.pointer (some ⟨m, 0, none⟩)))) rfl (by kernel_rfl) (by kernel_rfl) (KOH.out _) (fun m => ⟨#[.agg cs, .pointer (some ⟨w.heap.size, 0, none⟩), .pointer (some ⟨w.heap.size + 1, 0, none⟩), .int .i64 0, .int .i64 pp, u5, .int .i64 cc, u7, undef, u9, u10, u11, u12, u13, u14, u15, u16, u17, u18, u19, u20, u21, u22, u23, u24, u25, u26, u27, u28, u29, u30, u31, u32, u33, u34, u35, u36, u37, u38, .bool false, u40, .pointer (some ⟨w.heap.size, 1, none⟩), .int .i64 mp, .pointer (some ⟨w.heap.size, 2, none⟩), .int .i64 sub, .agg cs, .int .u8 (hardV vert four), .pointer (some ⟨w.heap.size, 11, none⟩), .int .i64 ram, .bool false, .bool false, .pointer (some ⟨w.heap.size, 12, none⟩), .int .i64 nv, .bool (decide (0 < nv)), .bool (decide (0 < nv)), .int .i64 pp, .int .i64 (pp * 2), .int .i64 cc, .int .i64 (max cc 1), .int .i64 (max cc 1 * 8), .int .i64 cc, .bool (cc == 0), .agg (nB0 mp sub ram nv vert four pp cc).cells, (.iface IT (.pointer (some ⟨m, 0, none⟩))), u64, u65, u66, u67], []⟩) (fun m => by kernel_rfl) ?_
        rintro m V2 ⟨hm, hb2, K2⟩
        have s2 := step s1 hb2
        refine ⟨s2, ?_⟩
        refine takeH (i := 23) (v := (.iface IT (.pointer (some ⟨m, 0, none⟩)))) ⟨#[.agg cs, .pointer (some ⟨w.heap.size, 0, none⟩), .pointer (some ⟨w.heap.size + 1, 0, none⟩), .int .i64 0, .int .i64 pp, u5, .int .i64 cc, u7, (.iface IT (.pointer (some ⟨m, 0, none⟩))), u9, u10, u11, u12, u13, u14, u15, u16, u17, u18, u19, u20, u21, u22, u23, u24, u25, u26, u27, u28, u29, u30, u31, u32, u33, u34, u35, u36, u37, u38, .bool false, u40, .pointer (some ⟨w.heap.size, 1, none⟩), .int .i64 mp, .pointer (some ⟨w.heap.size, 2, none⟩), .int .i64 sub, .agg cs, .int .u8 (hardV vert four), .pointer (some ⟨w.heap.size, 11, none⟩), .int .i64 ram, .bool false, .bool false, .pointer (some ⟨w.heap.size, 12, none⟩), .int .i64 nv, .bool (decide (0 < nv)), .bool (decide (0 < nv)), .int .i64 pp, .int .i64 (pp * 2), .int .i64 cc, .int .i64 (max cc 1), .int .i64 (max cc 1 * 8), .int .i64 cc, .bool (cc == 0), .agg (nB0 mp sub ram nv vert four pp cc).cells, (.iface IT (.pointer (some ⟨m, 0, none⟩))), u64, u65, u66, u67], []⟩ rfl (by kernel_rfl) (by kernel_rfl) (by kernel_rfl) (fun _ _ _ h => h) (.inl ⟨by kernel_rfl, fun _ _ => by kernel_rfl⟩) s2 (by kernel_rfl) ?_
        refine wpAnyH_done (by kernel_rfl) ?_ _
        go_wp2
        go_meet
        exact ⟨m, rfl, by have := s1.2.1.lt; omega, K2, s2.2.1, s2.2.2⟩
    · skip
      refine wp_region_held (S := fun v => Blk v w.heap.size cs 67 ∧ Blk v (w.heap.size + 1) Z31 28 ∧ Below w.heap.size w v) (by kernel_rfl) ?_
      refine takeH (i := 0) (v := .pointer (some ⟨w.heap.size, 1, none⟩)) ⟨#[.agg cs, .pointer (some ⟨w.heap.size, 0, none⟩), .pointer (some ⟨w.heap.size + 1, 0, none⟩), .int .i64 0, .int .i64 pp, u5, .int .i64 cc, u7, undef, u9, u10, u11, u12, u13, u14, u15, u16, u17, u18, u19, u20, u21, u22, u23, u24, u25, u26, u27, u28, u29, u30, u31, u32, u33, u34, u35, u36, u37, u38, .bool false, u40, .pointer (some ⟨w.heap.size, 1, none⟩), u42, u43, u44, u45, u46, u47, u48, u49, u50, u51, u52, u53, u54, u55, u56, u57, u58, u59, u60, u61, u62, u63, u64, u65, u66, u67], []⟩ rfl (by kernel_rfl) (by kernel_rfl) (by kernel_rfl) (fun _ _ _ h => h) (.inl ⟨by kernel_rfl, fun _ _ => by kernel_rfl⟩) s0 (by kernel_rfl) ?_
      refine takeH (i := 1) (v := .int .i64 mp) ⟨#[.agg cs, .pointer (some ⟨w.heap.size, 0, none⟩), .pointer (some ⟨w.heap.size + 1, 0, none⟩), .int .i64 0, .int .i64 pp, u5, .int .i64 cc, u7, undef, u9, u10, u11, u12, u13, u14, u15, u16, u17, u18, u19, u20, u21, u22, u23, u24, u25, u26, u27, u28, u29, u30, u31, u32, u33, u34, u35, u36, u37, u38, .bool false, u40, .pointer (some ⟨w.heap.size, 1, none⟩), .int .i64 mp, u43, u44, u45, u46, u47, u48, u49, u50, u51, u52, u53, u54, u55, u56, u57, u58, u59, u60, u61, u62, u63, u64, u65, u66, u67], []⟩ rfl (by kernel_rfl) (by kernel_rfl) (by kernel_rfl) (fun _ _ _ h => h) (.inl ⟨by kernel_rfl, fun v hv => by have c : v.cell? ⟨w.heap.size, 1, none⟩ = some (.int .i64 mp) := (Blk.cell hv.1 1).trans CC.out.h1; go_simp⟩) s0 (by kernel_rfl) ?_
      refine takeH (i := 2) (v := .pointer (some ⟨w.heap.size, 2, none⟩)) ⟨#[.agg cs, .pointer (some ⟨w.heap.size, 0, none⟩), .pointer (some ⟨w.heap.size + 1, 0, none⟩), .int .i64 0, .int .i64 pp, u5, .int .i64 cc, u7, undef, u9, u10, u11, u12, u13, u14, u15, u16, u17, u18, u19, u20, u21, u22, u23, u24, u25, u26, u27, u28, u29, u30, u31, u32, u33, u34, u35, u36, u37, u38, .bool false, u40, .pointer (some ⟨w.heap.size, 1, none⟩), .int .i64 mp, .pointer (some ⟨w.heap.size, 2, none⟩), u44, u45, u46, u47, u48, u49, u50, u51, u52, u53, u54, u55, u56, u57, u58, u59, u60, u61, u62, u63, u64, u65, u66, u67], []⟩ rfl (by kernel_rfl) (by kernel_rfl) (by kernel_rfl) (fun _ _ _ h => h) (.inl ⟨by kernel_rfl, fun _ _ => by kernel_rfl⟩) s0 (by kernel_rfl) ?_
      refine takeH (i := 3) (v := .int .i64 sub) ⟨#[.agg cs, .pointer (some ⟨w.heap.size, 0, none⟩), .pointer (some ⟨w.heap.size + 1, 0, none⟩), .int .i64 0, .int .i64 pp, u5, .int .i64 cc, u7, undef, u9, u10, u11, u12, u13, u14, u15, u16, u17, u18, u19, u20, u21, u22, u23, u24, u25, u26, u27, u28, u29, u30, u31, u32, u33, u34, u35, u36, u37, u38, .bool false, u40, .pointer (some ⟨w.heap.size, 1, none⟩), .int .i64 mp, .pointer (some ⟨w.heap.size, 2, none⟩), .int .i64 sub, u45, u46, u47, u48, u49, u50, u51, u52, u53, u54, u55, u56, u57, u58, u59, u60, u61, u62, u63, u64, u65, u66, u67], []⟩ rfl (by kernel_rfl) (by kernel_rfl) (by kernel_rfl) (fun _ _ _ h => h) (.inl ⟨by kernel_rfl, fun v hv => by have c : v.cell? ⟨w.heap.size, 2, none⟩ = some (.int .i64 sub) := (Blk.cell hv.1 2).trans CC.out.h2; go_simp⟩) s0 (by kernel_rfl) ?_
      refine takeH (i := 4) (v := .agg cs.toList.toArray) ⟨#[.agg cs, .pointer (some ⟨w.heap.size, 0, none⟩), .pointer (some ⟨w.heap.size + 1, 0, none⟩), .int .i64 0, .int .i64 pp, u5, .int .i64 cc, u7, undef, u9, u10, u11, u12, u13, u14, u15, u16, u17, u18, u19, u20, u21, u22, u23, u24, u25, u26, u27, u28, u29, u30, u31, u32, u33, u34, u35, u36, u37, u38, .bool false, u40, .pointer (some ⟨w.heap.size, 1, none⟩), .int .i64 mp, .pointer (some ⟨w.heap.size, 2, none⟩), .int .i64 sub, .agg cs, u46, u47, u48, u49, u50, u51, u52, u53, u54, u55, u56, u57, u58, u59, u60, u61, u62, u63, u64, u65, u66, u67], []⟩ rfl (by kernel_rfl) (by kernel_rfl) (by kernel_rfl) (fun _ _ _ h => h) (yieldsIf_load_mid (by kernel_rfl) 67 (.tmp 1) rfl w.heap.size 0 (by kernel_rfl) cs.toList _ (fun v hv => Blk.range hv.1) Try.underlying67 rfl (by rw [Array.length_toList, HS.out]; kernel_rfl)) s0 (by kernel_rfl) ?_
      refine takeH (i := 6) (v := .pointer (some ⟨w.heap.size, 11, none⟩)) ⟨#[.agg cs, .pointer (some ⟨w.heap.size, 0, none⟩), .pointer (some ⟨w.heap.size + 1, 0, none⟩), .int .i64 0, .int .i64 pp, u5, .int .i64 cc, u7, undef, u9, u10, u11, u12, u13, u14, u15, u16, u17, u18, u19, u20, u21, u22, u23, u24, u25, u26, u27, u28, u29, u30, u31, u32, u33, u34, u35, u36, u37, u38, .bool false, u40, .pointer (some ⟨w.heap.size, 1, none⟩), .int .i64 mp, .pointer (some ⟨w.heap.size, 2, none⟩), .int .i64 sub, .agg cs, u46, .pointer (some ⟨w.heap.size, 11, none⟩), u48, u49, u50, u51, u52, u53, u54, u55, u56, u57, u58, u59, u60, u61, u62, u63, u64, u65, u66, u67], []⟩ rfl (by kernel_rfl) (by kernel_rfl) (by kernel_rfl) (fun _ _ _ h => h) (.inl ⟨by kernel_rfl, fun _ _ => by kernel_rfl⟩) s0 (by kernel_rfl) ?_
      refine takeH (i := 7) (v := .int .i64 ram) ⟨#[.agg cs, .pointer (some ⟨w.heap.size, 0, none⟩), .pointer (some ⟨w.heap.size + 1, 0, none⟩), .int .i64 0, .int .i64 pp, u5, .int .i64 cc, u7, undef, u9, u10, u11, u12, u13, u14, u15, u16, u17, u18, u19, u20, u21, u22, u23, u24, u25, u26, u27, u28, u29, u30, u31, u32, u33, u34, u35, u36, u37, u38, .bool false, u40, .pointer (some ⟨w.heap.size, 1, none⟩), .int .i64 mp, .pointer (some ⟨w.heap.size, 2, none⟩), .int .i64 sub, .agg cs, u46, .pointer (some ⟨w.heap.size, 11, none⟩), .int .i64 ram, u49, u50, u51, u52, u53, u54, u55, u56, u57, u58, u59, u60, u61, u62, u63, u64, u65, u66, u67], []⟩ rfl (by kernel_rfl) (by kernel_rfl) (by kernel_rfl) (fun _ _ _ h => h) (.inl ⟨by kernel_rfl, fun v hv => by have c : v.cell? ⟨w.heap.size, 11, none⟩ = some (.int .i64 ram) := (Blk.cell hv.1 11).trans CC.out.h11; go_simp⟩) s0 (by kernel_rfl) ?_
      refine takeH (i := 8) (v := .bool true) ⟨#[.agg cs, .pointer (some ⟨w.heap.size, 0, none⟩), .pointer (some ⟨w.heap.size + 1, 0, none⟩), .int .i64 0, .int .i64 pp, u5, .int .i64 cc, u7, undef, u9, u10, u11, u12, u13, u14, u15, u16, u17, u18, u19, u20, u21, u22, u23, u24, u25, u26, u27, u28, u29, u30, u31, u32, u33, u34, u35, u36, u37, u38, .bool false, u40, .pointer (some ⟨w.heap.size, 1, none⟩), .int .i64 mp, .pointer (some ⟨w.heap.size, 2, none⟩), .int .i64 sub, .agg cs, u46, .pointer (some ⟨w.heap.size, 11, none⟩), .int .i64 ram, .bool true, u50, u51, u52, u53, u54, u55, u56, u57, u58, u59, u60, u61, u62, u63, u64, u65, u66, u67], []⟩ rfl (by kernel_rfl) (by kernel_rfl) (by kernel_rfl) (fun _ _ _ h => h) (.inl ⟨by kernel_rfl, fun v _ => Eq.trans (b := .ok (.value (.bool (decide (0 < ram)))) v) (by kernel_rfl) (by rw [hrm])⟩) s0 (by kernel_rfl) ?_
      refine takeH (i := 14) (v := .int .i64 pp) ⟨#[.agg cs, .pointer (some ⟨w.heap.size, 0, none⟩), .pointer (some ⟨w.heap.size + 1, 0, none⟩), .int .i64 0, .int .i64 pp, u5, .int .i64 cc, u7, undef, u9, u10, u11, u12, u13, u14, u15, u16, u17, u18, u19, u20, u21, u22, u23, u24, u25, u26, u27, u28, u29, u30, u31, u32, u33, u34, u35, u36, u37, u38, .bool false, u40, .pointer (some ⟨w.heap.size, 1, none⟩), .int .i64 mp, .pointer (some ⟨w.heap.size, 2, none⟩), .int .i64 sub, .agg cs, u46, .pointer (some ⟨w.heap.size, 11, none⟩), .int .i64 ram, .bool true, u50, u51, u52, u53, u54, .int .i64 pp, u56, u57, u58, u59, u60, u61, u62, u63, u64, u65, u66, u67], []⟩ rfl (by kernel_rfl) (by kernel_rfl) (by kernel_rfl) (fun _ _ _ h => h) (.inl ⟨by kernel_rfl, fun _ _ => by kernel_rfl⟩) s0 (by kernel_rfl) ?_
      refine takeH (i := 15) (v := .int .i64 (pp * 2)) ⟨#[.agg cs, .pointer (some ⟨w.heap.size, 0, none⟩), .pointer (some ⟨w.heap.size + 1, 0, none⟩), .int .i64 0, .int .i64 pp, u5, .int .i64 cc, u7, undef, u9, u10, u11, u12, u13, u14, u15, u16, u17, u18, u19, u20, u21, u22, u23, u24, u25, u26, u27, u28, u29, u30, u31, u32, u33, u34, u35, u36, u37, u38, .bool false, u40, .pointer (some ⟨w.heap.size, 1, none⟩), .int .i64 mp, .pointer (some ⟨w.heap.size, 2, none⟩), .int .i64 sub, .agg cs, u46, .pointer (some ⟨w.heap.size, 11, none⟩), .int .i64 ram, .bool true, u50, u51, u52, u53, u54, .int .i64 pp, .int .i64 (pp * 2), u57, u58, u59, u60, u61, u62, u63, u64, u65, u66, u67], []⟩ rfl (by kernel_rfl) (by kernel_rfl) (by kernel_rfl) (fun _ _ _ h => h) (.inl ⟨by kernel_rfl, fun v _ => Eq.trans (b := .ok (.value (.int .i64 (IntKind.i64.wrap (pp * 2)))) v) (by kernel_rfl) (by rw [m1])⟩) s0 (by kernel_rfl) ?_
      refine takeH (i := 16) (v := .int .i64 cc) ⟨#[.agg cs, .pointer (some ⟨w.heap.size, 0, none⟩), .pointer (some ⟨w.heap.size + 1, 0, none⟩), .int .i64 0, .int .i64 pp, u5, .int .i64 cc, u7, undef, u9, u10, u11, u12, u13, u14, u15, u16, u17, u18, u19, u20, u21, u22, u23, u24, u25, u26, u27, u28, u29, u30, u31, u32, u33, u34, u35, u36, u37, u38, .bool false, u40, .pointer (some ⟨w.heap.size, 1, none⟩), .int .i64 mp, .pointer (some ⟨w.heap.size, 2, none⟩), .int .i64 sub, .agg cs, u46, .pointer (some ⟨w.heap.size, 11, none⟩), .int .i64 ram, .bool true, u50, u51, u52, u53, u54, .int .i64 pp, .int .i64 (pp * 2), .int .i64 cc, u58, u59, u60, u61, u62, u63, u64, u65, u66, u67], []⟩ rfl (by kernel_rfl) (by kernel_rfl) (by kernel_rfl) (fun _ _ _ h => h) (.inl ⟨by kernel_rfl, fun _ _ => by kernel_rfl⟩) s0 (by kernel_rfl) ?_
      refine takeH (i := 19) (v := .int .i64 cc) ⟨#[.agg cs, .pointer (some ⟨w.heap.size, 0, none⟩), .pointer (some ⟨w.heap.size + 1, 0, none⟩), .int .i64 0, .int .i64 pp, u5, .int .i64 cc, u7, undef, u9, u10, u11, u12, u13, u14, u15, u16, u17, u18, u19, u20, u21, u22, u23, u24, u25, u26, u27, u28, u29, u30, u31, u32, u33, u34, u35, u36, u37, u38, .bool false, u40, .pointer (some ⟨w.heap.size, 1, none⟩), .int .i64 mp, .pointer (some ⟨w.heap.size, 2, none⟩), .int .i64 sub, .agg cs, u46, .pointer (some ⟨w.heap.size, 11, none⟩), .int .i64 ram, .bool true, u50, u51, u52, u53, u54, .int .i64 pp, .int .i64 (pp * 2), .int .i64 cc, u58, u59, .int .i64 cc, u61, u62, u63, u64, u65, u66, u67], []⟩ rfl (by kernel_rfl) (by kernel_rfl) (by kernel_rfl) (fun _ _ _ h => h) (.inl ⟨by kernel_rfl, fun _ _ => by kernel_rfl⟩) s0 (by kernel_rfl) ?_
      refine takeH (i := 20) (v := .bool (cc == 0)) ⟨#[.agg cs, .pointer (some ⟨w.heap.size, 0, none⟩), .pointer (some ⟨w.heap.size + 1, 0, none⟩), .int .i64 0, .int .i64 pp, u5, .int .i64 cc, u7, undef, u9, u10, u11, u12, u13, u14, u15, u16, u17, u18, u19, u20, u21, u22, u23, u24, u25, u26, u27, u28, u29, u30, u31, u32, u33, u34, u35, u36, u37, u38, .bool false, u40, .pointer (some ⟨w.heap.size, 1, none⟩), .int .i64 mp, .pointer (some ⟨w.heap.size, 2, none⟩), .int .i64 sub, .agg cs, u46, .pointer (some ⟨w.heap.size, 11, none⟩), .int .i64 ram, .bool true, u50, u51, u52, u53, u54, .int .i64 pp, .int .i64 (pp * 2), .int .i64 cc, u58, u59, .int .i64 cc, .bool (cc == 0), u62, u63, u64, u65, u66, u67], []⟩ rfl (by kernel_rfl) (by kernel_rfl) (by kernel_rfl) (fun _ _ _ h => h) (.inl ⟨by kernel_rfl, fun _ _ => by kernel_rfl⟩) s0 (by kernel_rfl) ?_
      refine wpAnyH_all (rs := [5, 17]) (by kernel_rfl) (by simp) ?_
      intro i hi
      obtain rfl | rfl : i = 5 ∨ i = 17 := by simpa using hi
      · skip
        refine wpOp_contract (f := 60) rfl (by kernel_rfl) (by kernel_rfl) (WH.out W0.drew) ⟨#[.agg cs, .pointer (some ⟨w.heap.size, 0, none⟩), .pointer (some ⟨w.heap.size + 1, 0, none⟩), .int .i64 0, .int .i64 pp, u5, .int .i64 cc, u7, undef, u9, u10, u11, u12, u13, u14, u15, u16, u17, u18, u19, u20, u21, u22, u23, u24, u25, u26, u27, u28, u29, u30, u31, u32, u33, u34, u35, u36, u37, u38, .bool false, u40, .pointer (some ⟨w.heap.size, 1, none⟩), .int .i64 mp, .pointer (some ⟨w.heap.size, 2, none⟩), .int .i64 sub, .agg cs, .int .u8 (hardV vert four), .pointer (some ⟨w.heap.size, 11, none⟩), .int .i64 ram, .bool true, u50, u51, u52, u53, u54, .int .i64 pp, .int .i64 (pp * 2), .int .i64 cc, u58, u59, .int .i64 cc, .bool (cc == 0), u62, u63, u64, u65, u66, u67], []⟩ (by kernel_rfl) ?_
        intro V1 hb1
        have s1 := step s0 hb1
        refine ⟨s1, ?_⟩
        refine takeH (i := 9) (v := .bool true) ⟨#[.agg cs, .pointer (some ⟨w.heap.size, 0, none⟩), .pointer (some ⟨w.heap.size + 1, 0, none⟩), .int .i64 0, .int .i64 pp, u5, .int .i64 cc, u7, undef, u9, u10, u11, u12, u13, u14, u15, u16, u17, u18, u19, u20, u21, u22, u23, u24, u25, u26, u27, u28, u29, u30, u31, u32, u33, u34, u35, u36, u37, u38, .bool false, u40, .pointer (some ⟨w.heap.size, 1, none⟩), .int .i64 mp, .pointer (some ⟨w.heap.size, 2, none⟩), .int .i64 sub, .agg cs, .int .u8 (hardV vert four), .pointer (some ⟨w.heap.size, 11, none⟩), .int .i64 ram, .bool true, .bool true, u51, u52, u53, u54, .int .i64 pp, .int .i64 (pp * 2), .int .i64 cc, u58, u59, .int .i64 cc, .bool (cc == 0), u62, u63, u64, u65, u66, u67], []⟩ rfl (by kernel_rfl) (by kernel_rfl) (by kernel_rfl) (fun _ _ _ h => h) (.inl ⟨by kernel_rfl, fun _ _ => by kernel_rfl⟩) s1 (by kernel_rfl) ?_
        refine takeH (i := 10) (v := undef) ⟨#[.agg cs, .pointer (some ⟨w.heap.size, 0, none⟩), .pointer (some ⟨w.heap.size + 1, 0, none⟩), .int .i64 0, .int .i64 pp, u5, .int .i64 cc, u7, undef, u9, u10, u11, u12, u13, u14, u15, u16, u17, u18, u19, u20, u21, u22, u23, u24, u25, u26, u27, u28, u29, u30, u31, u32, u33, u34, u35, u36, u37, u38, .bool false, u40, .pointer (some ⟨w.heap.size, 1, none⟩), .int .i64 mp, .pointer (some ⟨w.heap.size, 2, none⟩), .int .i64 sub, .agg cs, .int .u8 (hardV vert four), .pointer (some ⟨w.heap.size, 11, none⟩), .int .i64 ram, .bool true, .bool true, undef, u52, u53, u54, .int .i64 pp, .int .i64 (pp * 2), .int .i64 cc, u58, u59, .int .i64 cc, .bool (cc == 0), u62, u63, u64, u65, u66, u67], []⟩ rfl (by kernel_rfl) (by kernel_rfl) (by kernel_rfl) (fun _ _ _ h => h) (.inr ⟨by kernel_rfl, rfl⟩) s1 (by kernel_rfl) ?_
        refine takeH (i := 11) (v := undef) ⟨#[.agg cs, .pointer (some ⟨w.heap.size, 0, none⟩), .pointer (some ⟨w.heap.size + 1, 0, none⟩), .int .i64 0, .int .i64 pp, u5, .int .i64 cc, u7, undef, u9, u10, u11, u12, u13, u14, u15, u16, u17, u18, u19, u20, u21, u22, u23, u24, u25, u26, u27, u28, u29, u30, u31, u32, u33, u34, u35, u36, u37, u38, .bool false, u40, .pointer (some ⟨w.heap.size, 1, none⟩), .int .i64 mp, .pointer (some ⟨w.heap.size, 2, none⟩), .int .i64 sub, .agg cs, .int .u8 (hardV vert four), .pointer (some ⟨w.heap.size, 11, none⟩), .int .i64 ram, .bool true, .bool true, undef, undef, u53, u54, .int .i64 pp, .int .i64 (pp * 2), .int .i64 cc, u58, u59, .int .i64 cc, .bool (cc == 0), u62, u63, u64, u65, u66, u67], []⟩ rfl (by kernel_rfl) (by kernel_rfl) (by kernel_rfl) (fun _ _ _ h => h) (.inr ⟨by kernel_rfl, rfl⟩) s1 (by kernel_rfl) ?_
        refine takeH (i := 12) (v := undef) ⟨#[.agg cs, .pointer (some ⟨w.heap.size, 0, none⟩), .pointer (some ⟨w.heap.size + 1, 0, none⟩), .int .i64 0, .int .i64 pp, u5, .int .i64 cc, u7, undef, u9, u10, u11, u12, u13, u14, u15, u16, u17, u18, u19, u20, u21, u22, u23, u24, u25, u26, u27, u28, u29, u30, u31, u32, u33, u34, u35, u36, u37, u38, .bool false, u40, .pointer (some ⟨w.heap.size, 1, none⟩), .int .i64 mp, .pointer (some ⟨w.heap.size, 2, none⟩), .int .i64 sub, .agg cs, .int .u8 (hardV vert four), .pointer (some ⟨w.heap.size, 11, none⟩), .int .i64 ram, .bool true, .bool true, undef, undef, undef, u54, .int .i64 pp, .int .i64 (pp * 2), .int .i64 cc, u58, u59, .int .i64 cc, .bool (cc == 0), u62, u63, u64, u65, u66, u67], []⟩ rfl (by kernel_rfl) (by kernel_rfl) (by kernel_rfl) (fun _ _ _ h => h) (.inr ⟨by kernel_rfl, rfl⟩) s1 (by kernel_rfl) ?_
        refine takeH (i := 13) (v := .bool true) ⟨#[.agg cs, .pointer (some ⟨w.heap.size, 0, none⟩), .pointer (some ⟨w.heap.size + 1, 0, none⟩), .int .i64 0, .int .i64 pp, u5, .int .i64 cc, u7, undef, u9, u10, u11, u12, u13, u14, u15, u16, u17, u18, u19, u20, u21, u22, u23, u24, u25, u26, u27, u28, u29, u30, u31, u32, u33, u34, u35, u36, u37, u38, .bool false, u40, .pointer (some ⟨w.heap.size, 1, none⟩), .int .i64 mp, .pointer (some ⟨w.heap.size, 2, none⟩), .int .i64 sub, .agg cs, .int .u8 (hardV vert four), .pointer (some ⟨w.heap.size, 11, none⟩), .int .i64 ram, .bool true, .bool true, undef, undef, undef, .bool true, .int .i64 pp, .int .i64 (pp * 2), .int .i64 cc, u58, u59, .int .i64 cc, .bool (cc == 0), u62, u63, u64, u65, u66, u67], []⟩ rfl (by kernel_rfl) (by kernel_rfl) (by kernel_rfl) (fun _ _ _ h => h) (.inl ⟨by kernel_rfl, fun _ _ => by kernel_rfl⟩) s1 (by kernel_rfl) ?_
        refine wpAnyH_all (rs := [17]) (by kernel_rfl) (by simp) ?_
        intro i hi
        obtain rfl : i = 17 := by simpa using hi
        refine wpOp_run (v := .int .i64 (max cc 1)) rfl (by kernel_rfl) (by go_simp; omega) ⟨#[.agg cs, .pointer (some ⟨w.heap.size, 0, none⟩), .pointer (some ⟨w.heap.size + 1, 0, none⟩), .int .i64 0, .int .i64 pp, u5, .int .i64 cc, u7, undef, u9, u10, u11, u12, u13, u14, u15, u16, u17, u18, u19, u20, u21, u22, u23, u24, u25, u26, u27, u28, u29, u30, u31, u32, u33, u34, u35, u36, u37, u38, .bool false, u40, .pointer (some ⟨w.heap.size, 1, none⟩), .int .i64 mp, .pointer (some ⟨w.heap.size, 2, none⟩), .int .i64 sub, .agg cs, .int .u8 (hardV vert four), .pointer (some ⟨w.heap.size, 11, none⟩), .int .i64 ram, .bool true, .bool true, undef, undef, undef, .bool true, .int .i64 pp, .int .i64 (pp * 2), .int .i64 cc, .int .i64 (max cc 1), u59, .int .i64 cc, .bool (cc == 0), u62, u63, u64, u65, u66, u67], []⟩ (by kernel_rfl) ?_
        refine ⟨s1, ?_⟩
        refine takeH (i := 18) (v := .int .i64 (max cc 1 * 8)) ⟨#[.agg cs, .pointer (some ⟨w.heap.size, 0, none⟩), .pointer (some ⟨w.heap.size + 1, 0, none⟩), .int .i64 0, .int .i64 pp, u5, .int .i64 cc, u7, undef, u9, u10, u11, u12, u13, u14, u15, u16, u17, u18, u19, u20, u21, u22, u23, u24, u25, u26, u27, u28, u29, u30, u31, u32, u33, u34, u35, u36, u37, u38, .bool false, u40, .pointer (some ⟨w.heap.size, 1, none⟩), .int .i64 mp, .pointer (some ⟨w.heap.size, 2, none⟩), .int .i64 sub, .agg cs, .int .u8 (hardV vert four), .pointer (some ⟨w.heap.size, 11, none⟩), .int .i64 ram, .bool true, .bool true, undef, undef, undef, .bool true, .int .i64 pp, .int .i64 (pp * 2), .int .i64 cc, .int .i64 (max cc 1), .int .i64 (max cc 1 * 8), .int .i64 cc, .bool (cc == 0), u62, u63, u64, u65, u66, u67], []⟩ rfl (by kernel_rfl) (by kernel_rfl) (by kernel_rfl) (fun _ _ _ h => h) (.inl ⟨by kernel_rfl, fun v _ => Eq.trans (b := .ok (.value (.int .i64 (IntKind.i64.wrap (max cc 1 * 8)))) v) (by kernel_rfl) (by rw [m2])⟩) s1 (by kernel_rfl) ?_
        refine takeH (i := 21) (v := .agg (nB0 mp sub ram nv vert four pp cc).cells) ⟨#[.agg cs, .pointer (some ⟨w.heap.size, 0, none⟩), .pointer (some ⟨w.heap.size + 1, 0, none⟩), .int .i64 0, .int .i64 pp, u5, .int .i64 cc, u7, undef, u9, u10, u11, u12, u13, u14, u15, u16, u17, u18, u19, u20, u21, u22, u23, u24, u25, u26, u27, u28, u29, u30, u31, u32, u33, u34, u35, u36, u37, u38, .bool false, u40, .pointer (some ⟨w.heap.size, 1, none⟩), .int .i64 mp, .pointer (some ⟨w.heap.size, 2, none⟩), .int .i64 sub, .agg cs, .int .u8 (hardV vert four), .pointer (some ⟨w.heap.size, 11, none⟩), .int .i64 ram, .bool true, .bool true, undef, undef, undef, .bool true, .int .i64 pp, .int .i64 (pp * 2), .int .i64 cc, .int .i64 (max cc 1), .int .i64 (max cc 1 * 8), .int .i64 cc, .bool (cc == 0), .agg (nB0 mp sub ram nv vert four pp cc).cells, u63, u64, u65, u66, u67], []⟩ rfl (by kernel_rfl) (by kernel_rfl) (by kernel_rfl) (fun _ _ _ h => h) (.inl ⟨by kernel_rfl, fun _ _ => by rw [EB.out, hrm]; kernel_rfl⟩) s1 (by kernel_rfl) ?_
        refine wpAnyH_all (rs := [22]) (by kernel_rfl) (by simp) ?_
        intro i hi
        obtain rfl : i = 22 := by simpa using hi
        refine wpOp_contractE (f := 59) (V := fun m => (.iface IT (.pointer (some ⟨m, 0, none⟩)))) rfl (by kernel_rfl) (by kernel_rfl) (KOH.out _) (fun m => ⟨#[.agg cs, .pointer (some ⟨w.heap.size, 0, none⟩), .pointer (some ⟨w.heap.size + 1, 0, none⟩), .int .i64 0, .int .i64 pp, u5, .int .i64 cc, u7, undef, u9, u10, u11, u12, u13, u14, u15, u16, u17, u18, u19, u20, u21, u22, u23, u24, u25, u26, u27, u28, u29, u30, u31, u32, u33, u34, u35, u36, u37, u38, .bool false, u40, .pointer (some ⟨w.heap.size, 1, none⟩), .int .i64 mp, .pointer (some ⟨w.heap.size, 2, none⟩), .int .i64 sub, .agg cs, .int .u8 (hardV vert four), .pointer (some ⟨w.heap.size, 11, none⟩), .int .i64 ram, .bool true, .bool true, undef, undef, undef, .bool true, .int .i64 pp, .int .i64 (pp * 2), .int .i64 cc, .int .i64 (max cc 1), .int .i64 (max cc 1 * 8), .int .i64 cc, .bool (cc == 0), .agg (nB0 mp sub ram nv vert four pp cc).cells, (.iface IT (.pointer (some ⟨m, 0, none⟩))), u64, u65, u66, u67], []⟩) (fun m => by kernel_rfl) ?_
        rintro m V2 ⟨hm, hb2, K2⟩
        have s2 := step s1 hb2
        refine ⟨s2, ?_⟩
        refine takeH (i := 23) (v := (.iface IT (.pointer (some ⟨m, 0, none⟩)))) ⟨#[.agg cs, .pointer (some ⟨w.heap.size, 0, none⟩), .pointer (some ⟨w.heap.size + 1, 0, none⟩), .int .i64 0, .int .i64 pp, u5, .int .i64 cc, u7, (.iface IT (.pointer (some ⟨m, 0, none⟩))), u9, u10, u11, u12, u13, u14, u15, u16, u17, u18, u19, u20, u21, u22, u23, u24, u25, u26, u27, u28, u29, u30, u31, u32, u33, u34, u35, u36, u37, u38, .bool false, u40, .pointer (some ⟨w.heap.size, 1, none⟩), .int .i64 mp, .pointer (some ⟨w.heap.size, 2, none⟩), .int .i64 sub, .agg cs, .int .u8 (hardV vert four), .pointer (some ⟨w.heap.size, 11, none⟩), .int .i64 ram, .bool true, .bool true, undef, undef, undef, .bool true, .int .i64 pp, .int .i64 (pp * 2), .int .i64 cc, .int .i64 (max cc 1), .int .i64 (max cc 1 * 8), .int .i64 cc, .bool (cc == 0), .agg (nB0 mp sub ram nv vert four pp cc).cells, (.iface IT (.pointer (some ⟨m, 0, none⟩))), u64, u65, u66, u67], []⟩ rfl (by kernel_rfl) (by kernel_rfl) (by kernel_rfl) (fun _ _ _ h => h) (.inl ⟨by kernel_rfl, fun _ _ => by kernel_rfl⟩) s2 (by kernel_rfl) ?_
        refine wpAnyH_done (by kernel_rfl) ?_ _
        go_wp2
        go_meet
        exact ⟨m, rfl, by have := s1.2.1.lt; omega, K2, s2.2.1, s2.2.2⟩
      · skip
        refine wpOp_run (v := .int .i64 (max cc 1)) rfl (by kernel_rfl) (by go_simp; omega) ⟨#[.agg cs, .pointer (some ⟨w.heap.size, 0, none⟩), .pointer (some ⟨w.heap.size + 1, 0, none⟩), .int .i64 0, .int .i64 pp, u5, .int .i64 cc, u7, undef, u9, u10, u11, u12, u13, u14, u15, u16, u17, u18, u19, u20, u21, u22, u23, u24, u25, u26, u27, u28, u29, u30, u31, u32, u33, u34, u35, u36, u37, u38, .bool false, u40, .pointer (some ⟨w.heap.size, 1, none⟩), .int .i64 mp, .pointer (some ⟨w.heap.size, 2, none⟩), .int .i64 sub, .agg cs, u46, .pointer (some ⟨w.heap.size, 11, none⟩), .int .i64 ram, .bool true, u50, u51, u52, u53, u54, .int .i64 pp, .int .i64 (pp * 2), .int .i64 cc, .int .i64 (max cc 1), u59, .int .i64 cc, .bool (cc == 0), u62, u63, u64, u65, u66, u67], []⟩ (by kernel_rfl) ?_
        refine ⟨s0, ?_⟩
        refine takeH (i := 18) (v := .int .i64 (max cc 1 * 8)) ⟨#[.agg cs, .pointer (some ⟨w.heap.size, 0, none⟩), .pointer (some ⟨w.heap.size + 1, 0, none⟩), .int .i64 0, .int .i64 pp, u5, .int .i64 cc, u7, undef, u9, u10, u11, u12, u13, u14, u15, u16, u17, u18, u19, u20, u21, u22, u23, u24, u25, u26, u27, u28, u29, u30, u31, u32, u33, u34, u35, u36, u37, u38, .bool false, u40, .pointer (some ⟨w.heap.size, 1, none⟩), .int .i64 mp, .pointer (some ⟨w.heap.size, 2, none⟩), .int .i64 sub, .agg cs, u46, .pointer (some ⟨w.heap.size, 11, none⟩), .int .i64 ram, .bool true, u50, u51, u52, u53, u54, .int .i64 pp, .int .i64 (pp * 2), .int .i64 cc, .int .i64 (max cc 1), .int .i64 (max cc 1 * 8), .int .i64 cc, .bool (cc == 0), u62, u63, u64, u65, u66, u67], []⟩ rfl (by kernel_rfl) (by kernel_rfl) (by kernel_rfl) (fun _ _ _ h => h) (.inl ⟨by kernel_rfl, fun v _ => Eq.trans (b := .ok (.value (.int .i64 (IntKind.i64.wrap (max cc 1 * 8)))) v) (by kernel_rfl) (by rw [m2])⟩) s0 (by kernel_rfl) ?_
        refine wpAnyH_all (rs := [5]) (by kernel_rfl) (by simp) ?_
        intro i hi
        obtain rfl : i = 5 := by simpa using hi
        refine wpOp_contract (f := 60) rfl (by kernel_rfl) (by kernel_rfl) (WH.out W0.drew) ⟨#[.agg cs, .pointer (some ⟨w.heap.size, 0, none⟩), .pointer (some ⟨w.heap.size + 1, 0, none⟩), .int .i64 0, .int .i64 pp, u5, .int .i64 cc, u7, undef, u9, u10, u11, u12, u13, u14, u15, u16, u17, u18, u19, u20, u21, u22, u23, u24, u25, u26, u27, u28, u29, u30, u31, u32, u33, u34, u35, u36, u37, u38, .bool false, u40, .pointer (some ⟨w.heap.size, 1, none⟩), .int .i64 mp, .pointer (some ⟨w.heap.size, 2, none⟩), .int .i64 sub, .agg cs, .int .u8 (hardV vert four), .pointer (some ⟨w.heap.size, 11, none⟩), .int .i64 ram, .bool true, u50, u51, u52, u53, u54, .int .i64 pp, .int .i64 (pp * 2), .int .i64 cc, .int .i64 (max cc 1), .int .i64 (max cc 1 * 8), .int .i64 cc, .bool (cc == 0), u62, u63, u64, u65, u66, u67], []⟩ (by kernel_rfl) ?_
        intro V1 hb1
        have s1 := step s0 hb1
        refine ⟨s1, ?_⟩
        refine takeH (i := 9) (v := .bool true) ⟨#[.agg cs, .pointer (some ⟨w.heap.size, 0, none⟩), .pointer (some ⟨w.heap.size + 1, 0, none⟩), .int .i64 0, .int .i64 pp, u5, .int .i64 cc, u7, undef, u9, u10, u11, u12, u13, u14, u15, u16, u17, u18, u19, u20, u21, u22, u23, u24, u25, u26, u27, u28, u29, u30, u31, u32, u33, u34, u35, u36, u37, u38, .bool false, u40, .pointer (some ⟨w.heap.size, 1, none⟩), .int .i64 mp, .pointer (some ⟨w.heap.size, 2, none⟩), .int .i64 sub, .agg cs, .int .u8 (hardV vert four), .pointer (some ⟨w.heap.size, 11, none⟩), .int .i64 ram, .bool true, .bool true, u51, u52, u53, u54, .int .i64 pp, .int .i64 (pp * 2), .int .i64 cc, .int .i64 (max cc 1), .int .i64 (max cc 1 * 8), .int .i64 cc, .bool (cc == 0), u62, u63, u64, u65, u66, u67], []⟩ rfl (by kernel_rfl) (by kernel_rfl) (by kernel_rfl) (fun _ _ _ h => h) (.inl ⟨by kernel_rfl, fun _ _ => by kernel_rfl⟩) s1 (by kernel_rfl) ?_
        refine takeH (i := 10) (v := undef) ⟨#[.agg cs, .pointer (some ⟨w.heap.size, 0, none⟩), .pointer (some ⟨w.heap.size + 1, 0, none⟩), .int .i64 0, .int .i64 pp, u5, .int .i64 cc, u7, undef, u9, u10, u11, u12, u13, u14, u15, u16, u17, u18, u19, u20, u21, u22, u23, u24, u25, u26, u27, u28, u29, u30, u31, u32, u33, u34, u35, u36, u37, u38, .bool false, u40, .pointer (some ⟨w.heap.size, 1, none⟩), .int .i64 mp, .pointer (some ⟨w.heap.size, 2, none⟩), .int .i64 sub, .agg cs, .int .u8 (hardV vert four), .pointer (some ⟨w.heap.size, 11, none⟩), .int .i64 ram, .bool true, .bool true, undef, u52, u53, u54, .int .i64 pp, .int .i64 (pp * 2), .int .i64 cc, .int .i64 (max cc 1), .int .i64 (max cc 1 * 8), .int .i64 cc, .bool (cc == 0), u62, u63, u64, u65, u66, u67], []⟩ rfl (by kernel_rfl) (by kernel_rfl) (by kernel_rfl) (fun _ _ _ h => h) (.inr ⟨by kernel_rfl, rfl⟩) s1 (by kernel_rfl) ?_
        refine takeH (i := 11) (v := undef) ⟨#[.agg cs, .pointer (some ⟨w.heap.size, 0, none⟩), .pointer (some ⟨w.heap.size + 1, 0, none⟩), .int .i64 0, .int .i64 pp, u5, .int .i64 cc, u7, undef, u9, u10, u11, u12, u13, u14, u15, u16, u17, u18, u19, u20, u21, u22, u23, u24, u25, u26, u27, u28, u29, u30, u31, u32, u33, u34, u35, u36, u37, u38, .bool false, u40, .pointer (some ⟨w.heap.size, 1, none⟩), .int .i64 mp, .pointer (some ⟨w.heap.size, 2, none⟩), .int .i64 sub, .agg cs, .int .u8 (hardV vert four), .pointer (some ⟨w.heap.size, 11, none⟩), .int .i64 ram, .bool true, .bool true, undef, undef, u53, u54, .int .i64 pp, .int .i64 (pp * 2), .int .i64 cc, .int .i64 (max cc 1), .int .i64 (max cc 1 * 8), .int .i64 cc, .bool (cc == 0), u62, u63, u64, u65, u66, u67], []⟩ rfl (by kernel_rfl) (by kernel_rfl) (by kernel_rfl) (fun _ _ _ h => h) (.inr ⟨by kernel_rfl, rfl⟩) s1 (by kernel_rfl) ?_
        refine takeH (i := 12) (v := undef) ⟨#[.agg cs, .pointer (some ⟨w.heap.size, 0, none⟩), .pointer (some ⟨w.heap.size + 1, 0, none⟩), .int .i64 0, .int .i64 pp, u5, .int .i64 cc, u7, undef, u9, u10, u11, u12, u13, u14, u15, u16, u17, u18, u19, u20, u21, u22, u23, u24, u25, u26, u27, u28, u29, u30, u31, u32, u33, u34, u35, u36, u37, u38, .bool false, u40, .pointer (some ⟨w.heap.size, 1, none⟩), .int .i64 mp, .pointer (some ⟨w.heap.size, 2, none⟩), .int .i64 sub, .agg cs, .int .u8 (hardV vert four), .pointer (some ⟨w.heap.size, 11, none⟩), .int .i64 ram, .bool true, .bool true, undef, undef, undef, u54, .int .i64 pp, .int .i64 (pp * 2), .int .i64 cc, .int .i64 (max cc 1), .int .i64 (max cc 1 * 8), .int .i64 cc, .bool (cc == 0), u62, u63, u64, u65, u66, u67], []⟩ rfl (by kernel_rfl) (by kernel_rfl) (by kernel_rfl) (fun _ _ _ h => h) (.inr ⟨by kernel_rfl, rfl⟩) s1 (by kernel_rfl) ?_
        refine takeH (i := 13) (v := .bool true) ⟨#[.agg cs, .pointer (some ⟨w.heap.size, 0, none⟩), .pointer (some ⟨w.heap.size + 1, 0, none⟩), .int .i64 0, .int .i64 pp, u5, .int .i64 cc, u7, undef, u9, u10, u11, u12, u13, u14, u15, u16, u17, u18, u19, u20, u21, u22, u23, u24, u25, u26, u27, u28, u29, u30, u31, u32, u33, u34, u35, u36, u37, u38, .bool false, u40, .pointer (some ⟨w.heap.size, 1, none⟩), .int .i64 mp, .pointer (some ⟨w.heap.size, 2, none⟩), .int .i64 sub, .agg cs, .int .u8 (hardV vert four), .pointer (some ⟨w.heap.size, 11, none⟩), .int .i64 ram, .bool true, .bool true, undef, undef, undef, .bool true, .int .i64 pp, .int .i64 (pp * 2), .int .i64 cc, .int .i64 (max cc 1), .int .i64 (max cc 1 * 8), .int .i64 cc, .bool (cc == 0), u62, u63, u64, u65, u66, u67], []⟩ rfl (by kernel_rfl) (by kernel_rfl) (by kernel_rfl) (fun _ _ _ h => h) (.inl ⟨by kernel_rfl, fun _ _ => by kernel_rfl⟩) s1 (by kernel_rfl) ?_
        refine takeH (i := 21) (v := .agg (nB0 mp sub ram nv vert four pp cc).cells) ⟨#[.agg cs, .pointer (some ⟨w.heap.size, 0, none⟩), .pointer (some ⟨w.heap.size + 1, 0, none⟩), .int .i64 0, .int .i64 pp, u5, .int .i64 cc, u7, undef, u9, u10, u11, u12, u13, u14, u15, u16, u17, u18, u19, u20, u21, u22, u23, u24, u25, u26, u27, u28, u29, u30, u31, u32, u33, u34, u35, u36, u37, u38, .bool false, u40, .pointer (some ⟨w.heap.size, 1, none⟩), .int .i64 mp, .pointer (some ⟨w.heap.size, 2, none⟩), .int .i64 sub, .agg cs, .int .u8 (hardV vert four), .pointer (some ⟨w.heap.size, 11, none⟩), .int .i64 ram, .bool true, .bool true, undef, undef, undef, .bool true, .int .i64 pp, .int .i64 (pp * 2), .int .i64 cc, .int .i64 (max cc 1), .int .i64 (max cc 1 * 8), .int .i64 cc, .bool (cc == 0), .agg (nB0 mp sub ram nv vert four pp cc).cells, u63, u64, u65, u66, u67], []⟩ rfl (by kernel_rfl) (by kernel_rfl) (by kernel_rfl) (fun _ _ _ h => h) (.inl ⟨by kernel_rfl, fun _ _ => by rw [EB.out, hrm]; kernel_rfl⟩) s1 (by kernel_rfl) ?_
        refine wpAnyH_all (rs := [22]) (by kernel_rfl) (by simp) ?_
        intro i hi
        obtain rfl : i = 22 := by simpa using hi
        refine wpOp_contractE (f := 59) (V := fun m => (.iface IT (.pointer (some ⟨m, 0, none⟩)))) rfl (by kernel_rfl) (by kernel_rfl) (KOH.out _) (fun m => ⟨#[.agg cs, .pointer (some ⟨w.heap.size, 0, none⟩), .pointer (some ⟨w.heap.size + 1, 0, none⟩), .int .i64 0, .int .i64 pp, u5, .int .i64 cc, u7, undef, u9, u10, u11, u12, u13, u14, u15, u16, u17, u18, u19, u20, u21, u22, u23, u24, u25, u26, u27, u28, u29, u30, u31, u32, u33, u34, u35, u36, u37, u38, .bool false, u40, .pointer (some ⟨w.heap.size, 1, none⟩), .int .i64 mp, .pointer (some ⟨w.heap.size, 2, none⟩), .int .i64 sub, .agg cs, .int .u8 (hardV vert four), .pointer (some ⟨w.heap.size, 11, none⟩), .int .i64 ram, .bool true, .bool true, undef, undef, undef, .bool true, .int .i64 pp, .int .i64 (pp * 2), .int .i64 cc, .int .i64 (max cc 1), .int .i64 (max cc 1 * 8), .int .i64 cc, .bool (cc == 0), .agg (nB0 mp sub ram nv vert four pp cc).cells, (.iface IT (.pointer (some ⟨m, 0, none⟩))), u64, u65, u66, u67], []⟩) (fun m => by kernel_rfl) ?_
        rintro m V2 ⟨hm, hb2, K2⟩
        have s2 := step s1 hb2
        refine ⟨s2, ?_⟩
        refine takeH (i := 23) (v := (.iface IT (.pointer (some ⟨m, 0, none⟩)))) ⟨#[.agg cs, .pointer (some ⟨w.heap.size, 0, none⟩), .pointer (some ⟨w.heap.size + 1, 0, none⟩), .int .i64 0, .int .i64 pp, u5, .int .i64 cc, u7, (.iface IT (.pointer (some ⟨m, 0, none⟩))), u9, u10, u11, u12, u13, u14, u15, u16, u17, u18, u19, u20, u21, u22, u23, u24, u25, u26, u27, u28, u29, u30, u31, u32, u33, u34, u35, u36, u37, u38, .bool false, u40, .pointer (some ⟨w.heap.size, 1, none⟩), .int .i64 mp, .pointer (some ⟨w.heap.size, 2, none⟩), .int .i64 sub, .agg cs, .int .u8 (hardV vert four), .pointer (some ⟨w.heap.size, 11, none⟩), .int .i64 ram, .bool true, .bool true, undef, undef, undef, .bool true, .int .i64 pp, .int .i64 (pp * 2), .int .i64 cc, .int .i64 (max cc 1), .int .i64 (max cc 1 * 8), .int .i64 cc, .bool (cc == 0), .agg (nB0 mp sub ram nv vert four pp cc).cells, (.iface IT (.pointer (some ⟨m, 0, none⟩))), u64, u65, u66, u67], []⟩ rfl (by kernel_rfl) (by kernel_rfl) (by kernel_rfl) (fun _ _ _ h => h) (.inl ⟨by kernel_rfl, fun _ _ => by kernel_rfl⟩) s2 (by kernel_rfl) ?_
        refine wpAnyH_done (by kernel_rfl) ?_ _
        go_wp2
        go_meet
        exact ⟨m, rfl, by have := s1.2.1.lt; omega, K2, s2.2.1, s2.2.2⟩
  case rest =>
  clear b0 z0 hb0
  obtain ⟨m, rfl, hm, K1, z1, hb1⟩ := hcut
  have hM := fun w => MH.out m w
  have hE := fun w => EH.out #[.pointer (some ⟨m, 0, none⟩)] w
  have HDs : Hid _ := (isB D hD).size
  have HD1 : Hid _ := (isB D hD).one
  generalize hL : D.cells = L at *
  have HL : Hid _ := hL
  clear hL
  have PO : Hid _ := POH.out wc m K1
  clear K1 POH
  go_wp2_with fail
  refine Calls.mono PO.out ?_
  rintro e W2 ⟨rfl, hb2', K2⟩
  have z2 := z1.below (by omega) hb2'
  have hb2 := hb1.trans (hb2'.mono (by omega))
  have PLK : Hid _ := PLH.out W2 m K2
  clear z1 hb1 hb2' K2 PO PLH
  go_wp2_with fail
  refine Calls.mono PLK.out ?_
  rintro e W3 ⟨rfl, hb3'⟩
  have z3 := z2.below z2.lt hb3'
  have hb3 := hb2.trans (hb3'.mono hb2.size)
  clear z2 hb2 hb3' PLK
  go_wp2_with (refine wpList_store_mid rfl 28 _ _ rfl (w.heap.size + 1) 0 L rfl rfl (by exact z3.there _ HDs.out.symm) (by rw [HDs.out]; exact Try.infoBoard) HD1.out ?_)
  exact ret_agg2 (m := w.heap.size + 1) (L := L) (x := .int .i64 0) Try.results34 (by rfl) (by rfl) (z3.setAll L HDs.out) Try.underlying28 rfl (by rw [HDs.out]; exact Try.infoBoard) ⟨by rw [HL.out], setCells_below (Nat.le_succ _) _ _ _ _ hb3⟩
end Go.Proofs.Ytggphgmpdanliaa
