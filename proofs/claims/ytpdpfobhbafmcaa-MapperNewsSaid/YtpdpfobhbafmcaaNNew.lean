/-
  What New answers of a cartridge; conditions: what it looks at lies in the cartridge's cells, the lengths are below 2000000.
-/
import Derived.Test.YtpdpfobhbafmcaaNLeaf
import Derived.Test.YtpdpfobhbafmcaaMPlainL
import Derived.Test.YtpdpfobhbafmcaaMKindOf
import Derived.OrdersHeld
import Derived.Deep.CutBlock
import Derived.Deep.RegionWith
namespace Go.Proofs.Ytpdpfobhbafmcaa
open Go.RowKit Classical
theorem results_cell_tmp {fn : Func} {p q : Tmp} {ty : TypeId} (h : fn.results = #[.cell p ty, .tmp q]) (tmps : Array Value) (P : Program) (w : World) :
    (results fn tmps).run P w = ((asAddr (tmps.getD p undef)).run P w).andThen fun a w₁ => ((loadVar ty a).run P w₁).andThen fun v w₂ => .ok (.tuple #[v, tmps.getD q undef]) w₂ := by
  simp only [results, h]
  simp [Sem.run_bind, Result.andThen]
theorem ret_agg2 {P : Program} {fn : Func} {R : Ending → World → Prop} {tmps : Array Value} {w : World} {p q : Tmp} {ty : TypeId} {m : Nat} {L : Array Value} {d : TypeDesc} {t : TypeId} {x : Value} (h : fn.results = #[.cell p ty, .tmp q]) (hp : tmps.getD p undef = .pointer (some ⟨m, 0, none⟩)) (hq : tmps.getD q undef = x)
    (hb : Blk w m L t) (hu : P.underlying ty = some d) (hd : d.isRow = true) (hi : (P.info? ty).map (·.size) = some L.size) (hR : R (.returned (.tuple #[.agg L, x])) w) : bodyPost P fn R .ret ⟨tmps, []⟩ w := by
  refine bodyPost_ret (v := .tuple #[.agg L, x]) ?_ rfl hR
  rw [results_cell_tmp h]
  show ((asAddr (tmps.getD p undef)).run P w).andThen _ = _
  rw [hp, hq]
  have hr := run_loadVar_mid (P := P) w m 0 ty L.toList d hb.range hu hd (by rw [Array.length_toList]; exact hi)
  simp only [asAddr, Sem.run_pure, Result.andThen_ok]
  rw [hr]
  rfl
theorem Z31_size : Z31.size = 31 := rfl
theorem Z31_one : Z31.all (·.oneCell') = true := by kernel_rfl
set_option maxRecDepth 100000 in
theorem new_bad1 (cs : Array Value) (mp sub ram nv : Int) (vert four : Bool) (x1 x2 : Option Addr) (p c k1 k2 : Nat) (C : IsN cs mp sub ram nv vert four x1 x2 p c k1 k2) (w : World) (hl : lst mp sub = false) :
    Calls Try.prog 6 #[.agg cs] w fun e w' => e = .returned (.tuple #[.agg Z31, .int .i64 20]) ∧ Below w.heap.size w w' := by
  have hsz := C.size
  have HS : Hid _ := hsz
  have CC : Hid _ := C
  go_enter Try.func6, Try.ntmps6
  go_upto_region 1 with fail
  change Code.wp _ _ _ _ ((w.alloc (.cells cs 33)).alloc (.cells Z31 27))
  have b0 : Blk ((w.alloc (.cells cs 33)).alloc (.cells Z31 27)) w.heap.size cs 33 := (Blk.new w cs _).old _
  have z0 : Blk ((w.alloc (.cells cs 33)).alloc (.cells Z31 27)) (w.heap.size + 1) Z31 27 := by
    have := Blk.new (w.alloc (.cells cs 33)) Z31 27
    rwa [World.size_alloc] at this
  have hb0 : Below w.heap.size w ((w.alloc (.cells cs 33)).alloc (.cells Z31 27)) := ((Below.refl _ _).alloc (Nat.le_refl _) _).alloc (by simp) _
  generalize (w.alloc (.cells cs 33)).alloc (.cells Z31 27) = W0 at *
  have d1 := (b0.cell 1).trans C.h1
  have d2 := (b0.cell 2).trans C.h2
  have d16 := (b0.cell 16).trans C.h16
  have d17 := (b0.cell 17).trans C.h17
  clear C hsz
  go_wp2_with (first
    | (go_at_call 15; refine (listed_any _ _ _).mono ?_; rintro e w' ⟨rfl, rfl⟩; rw [hl])
    | refine wpList_store_mid rfl 27 _ _ rfl (w.heap.size + 1) 0 Z31 rfl rfl (by exact z0.there _ rfl) (by exact Try.infoBoard) Z31_one ?_)
  exact ret_agg2 (m := w.heap.size + 1) (L := Z31) (x := .int .i64 20) Try.results6 (by rfl) (by rfl) (z0.setAll Z31 rfl) Try.underlying27 rfl (by exact Try.infoBoard) ⟨rfl, setCells_below (Nat.le_succ _) _ _ _ _ hb0⟩
set_option maxRecDepth 100000 in
theorem new_bad2 (cs : Array Value) (mp sub ram nv : Int) (vert four : Bool) (x1 x2 : Option Addr) (p c k1 k2 : Nat) (C : IsN cs mp sub ram nv vert four x1 x2 p c k1 k2) (w : World) (hl : lst mp sub = true) (hp : p ≤ 2000000) (hc : c ≤ 2000000) (o1 o2 : Bool) (hq1 : (((p : Int) % 16384 == 0) && decide ((p : Int) / 16384 ≤ 64)) = o1) (hq2 : (((c : Int) % 8192 == 0) && decide ((c : Int) / 8192 ≤ 64)) = o2) (hb : o1 = false ∨ o2 = false ∨ p = 0) :
    Calls Try.prog 6 #[.agg cs] w fun e w' => e = .returned (.tuple #[.agg Z31, .int .i64 21]) ∧ Below w.heap.size w w' := by
  have hsz := C.size
  have HS : Hid _ := hsz
  have CC : Hid _ := C
  go_enter Try.func6, Try.ntmps6
  go_upto_region 1 with fail
  change Code.wp _ _ _ _ ((w.alloc (.cells cs 33)).alloc (.cells Z31 27))
  have b0 : Blk ((w.alloc (.cells cs 33)).alloc (.cells Z31 27)) w.heap.size cs 33 := (Blk.new w cs _).old _
  have z0 : Blk ((w.alloc (.cells cs 33)).alloc (.cells Z31 27)) (w.heap.size + 1) Z31 27 := by
    have := Blk.new (w.alloc (.cells cs 33)) Z31 27
    rwa [World.size_alloc] at this
  have hb0 : Below w.heap.size w ((w.alloc (.cells cs 33)).alloc (.cells Z31 27)) := ((Below.refl _ _).alloc (Nat.le_refl _) _).alloc (by simp) _
  generalize (w.alloc (.cells cs 33)).alloc (.cells Z31 27) = W0 at *
  have d1 := (b0.cell 1).trans C.h1
  have d2 := (b0.cell 2).trans C.h2
  have d16 := (b0.cell 16).trans C.h16
  have d17 := (b0.cell 17).trans C.h17
  clear C hsz
  have HB : Hid _ := hb
  have pb : (0 : Int) ≤ (p : Int) / 16384 ∧ (p : Int) / 16384 ≤ 2000000 := by omega
  have cb : (0 : Int) ≤ (c : Int) / 8192 ∧ (c : Int) / 8192 ≤ 2000000 := by omega
  clear hb
  go_upto_region 5 with (first
    | (go_at_call 15; refine (listed_any _ _ _).mono ?_; rintro e w' ⟨rfl, rfl⟩; rw [hl])
    | (go_at_call_of 16 (Value.int .i64 16384); refine (units_any _ _ _ (by omega) (by omega)).mono ?_; rintro e w' ⟨rfl, rfl⟩; rw [hq1]) | (go_at_call_of 16 (Value.int .i64 8192); refine (units_any _ _ _ (by omega) (by omega)).mono ?_; rintro e w' ⟨rfl, rfl⟩; rw [hq2]))
  obtain ⟨W0, hW0⟩ : ∃ x, x = w' := ⟨w', rfl⟩
  subst hW0
  generalize hP : (p : Int) / 16384 = pp at *
  generalize (c : Int) / 8192 = cc at *
  have PP : Hid _ := hP
  clear hP hq1 hq2 hl d1 d2 d16 d17 pb cb
  go_cut [5, 7, 39] (fun _ _ q wx => q = .bool true ∧ W0 = wx)
  case first =>
    cases o1
    · go_wp2
      go_meet
      exact ⟨rfl, rfl⟩
    · cases o2
      · go_wp2
        go_meet
        exact ⟨rfl, rfl⟩
      · have hz : pp = 0 := by
          rcases HB.out with h | h | h
          · exact absurd h (by decide)
          · exact absurd h (by decide)
          · have := PP.out; rw [h] at this; rw [← this]; rfl
        subst hz
        go_wp2
        go_meet
        exact ⟨rfl, rfl⟩
  case rest =>
  obtain ⟨rfl, rfl⟩ := hcut
  go_wp2_with (refine wpList_store_mid rfl 27 _ _ rfl (w.heap.size + 1) 0 Z31 rfl rfl (by exact z0.there _ rfl) (by exact Try.infoBoard) Z31_one ?_)
  exact ret_agg2 (m := w.heap.size + 1) (L := Z31) (x := .int .i64 21) Try.results6 (by rfl) (by rfl) (z0.setAll Z31 rfl) Try.underlying27 rfl (by exact Try.infoBoard) ⟨rfl, setCells_below (Nat.le_succ _) _ _ _ _ hb0⟩
end Go.Proofs.Ytpdpfobhbafmcaa
