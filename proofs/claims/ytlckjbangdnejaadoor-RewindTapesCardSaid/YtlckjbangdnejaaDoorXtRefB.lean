/-
  The document's tape: Back, At.
-/
import Derived.Test.YtlckjbangdnejaaDoorXtRef
set_option linter.unusedSimpArgs false
set_option linter.unusedVariables false
namespace Go.Proofs.YtlckjbangdnejaaDoor
open Go.RowKit Classical
theorem wrap_small (m : Nat) (h : m ≤ 100000) : IntKind.i64.wrap (m : Int) = (m : Int) := by
  simp [IntKind.wrap, IntKind.bits, IntKind.signed, Int.bmod]
  omega
theorem last_getD (Os : List (List Nat)) (S : List Nat) : (Os ++ [S]).getD Os.length [] = S := by simp [List.getD]
theorem init_getD (Os : List (List Nat)) (S : List Nat) (i : Nat) (h : i < Os.length) : (Os ++ [S]).getD i [] = Os.getD i [] := by simp [List.getD, List.getElem?_append_left h]
/-- What lies in a tape that is not empty. -/
theorem dt_opened {FU : Nat → Prop} {u lim : Nat} {Os : List (List Nat)} {w : World} (h : Dt FU u lim Os w) (hn : 0 < Os.length) :
    ∃ (g o c : Nat) (cur : Array Value) (es : List Value), FU u ∧ FU g ∧ g ≠ u ∧ Blk w u #[.int .i64 lim, .slice (some ⟨g, o, none⟩) Os.length c] 68 ∧ Blk w g cur 28 ∧ o + c ≤ cur.size ∧ Os.length ≤ c ∧ es.length = Os.length ∧ (∀ i, i < Os.length → cur[o + i]? = es[i]?) ∧ (∀ i, i < Os.length → Eo FU w (es.getD i undef) (Os.getD i [])) ∧ Os.length ≤ lim ∧ ∀ S ∈ Os, Good S := by
  obtain ⟨v, es, hu, hB, ⟨a, c, rfl, hnone, hx⟩, hE, hl, hG⟩ := h
  have hes := hE.1
  cases a with
  | none => have := (hnone rfl).1; rw [this] at hes; simp at hes; omega
  | some p =>
    obtain ⟨g, o, cur, rfl, hg, hC, hoc, hnc, hcells⟩ := hx p rfl
    rw [hes] at hB hnc hcells
    exact ⟨g, o, c, cur, es, hu, hg, blk_ne hC hB (by decide), hB, hC, hoc, hnc, hes, hcells, fun i hi => hE.2 i (by omega), hl, hG⟩
/-- A cell of it. -/
theorem Eo.form {FU : Nat → Prop} {w : World} {e : Value} {S : List Nat} (h : Eo FU w e S) : ∃ a k, e = .slice a S.length k ∧ Row w a S := by
  obtain ⟨a, k, e, hR⟩ := h.1.rowF
  exact ⟨a, k, e, hR.row⟩
theorem Row.kept {W W' : World} {a : Option Addr} {l : List Nat} (h : Row W a l) (hk : ∀ p, a = some p → W'.heap[p.block]? = W.heap[p.block]?) : Row W' a l := by
  rcases h with h | ⟨b, o, e, hc⟩
  · exact .inl h
  · exact .inr ⟨b, o, e, fun i hi => (World.cell?_of_block (a := ⟨b, o + i, none⟩) (hk ⟨b, o, none⟩ e)).trans (hc i hi)⟩
set_option maxRecDepth 100000 in
set_option maxHeartbeats 3200000 in
theorem dback_some (FU : Nat → Prop) (u lim : Nat) (Os : List (List Nat)) (S : List Nat) (w : World) (h : Dt FU u lim (Os ++ [S]) w) (hlim : lim ≤ 4096) :
    Calls Tryd.prog 41 #[.pointer (some ⟨u, 0, none⟩)] w fun e w' => ∃ a k, e = .returned (.tuple #[.slice a S.length k, .int .i64 0]) ∧ Row w' a S ∧ Dt FU u lim Os w' ∧ Kp FU w w' := by
  obtain ⟨g, o, c, cur, es, hu, hg, hgu, hB, hC, hoc, hnc, hes, hcells, hE, hl, hG⟩ := dt_opened h (by simp)
  obtain ⟨m, hm⟩ : ∃ m, m = Os.length := ⟨_, rfl⟩
  obtain ⟨n, hn⟩ : ∃ n, n = m + 1 := ⟨_, rfl⟩
  have hlen : (Os ++ [S]).length = n := by simp; omega
  rw [hlen] at hB hnc hes hcells hE hl
  have hEm := hE m (by omega)
  rw [show (Os ++ [S]).getD m [] = S by rw [hm]; exact last_getD Os S] at hEm
  obtain ⟨ea, ek, hee, hRow⟩ := hEm.form
  have cm : w.cell? ⟨g, o + m, none⟩ = some (.slice ea S.length ek) := by rw [hC.cell, hcells m (by omega), getD_lt es m undef (by omega), hee]
  have c1 : w.cell? ⟨u, 1, none⟩ = some (.slice (some ⟨g, o, none⟩) n c) := hB.cell 1
  have f1 := hB.free 1
  obtain ⟨sl, hsl⟩ : ∃ sl, sl = S.length := ⟨_, rfl⟩
  rw [← hsl] at cm ⊢
  have i1 : (n : Int) - 1 = (m : Int) := by omega
  have i2 : (m : Int) < (n : Int) := by omega
  have i3 : ¬ n = 0 := by omega
  have i4 : m ≤ c := by omega
  have i5 : m ≤ 4096 := by omega
  have i6 : n ≤ 4097 := by omega
  have HB : Hid (Blk w u #[.int .i64 lim, .slice (some ⟨g, o, none⟩) n c] 68) := hB
  have FIN : Hid (∀ nq, Row ((w.drewN nq).setCell ⟨u, 1, none⟩ (.slice (some ⟨g, o, none⟩) m c)) ea S ∧ Dt FU u lim Os ((w.drewN nq).setCell ⟨u, 1, none⟩ (.slice (some ⟨g, o, none⟩) m c)) ∧ Kp FU w ((w.drewN nq).setCell ⟨u, 1, none⟩ (.slice (some ⟨g, o, none⟩) m c))) := fun nq => by
    have hb := below_drawsX (Below.refl w.heap.size w) nq
    have hB2 := hB.below hB.lt hb
    have hK : Kp (fun k => k = u) w ((w.drewN nq).setCell ⟨u, 1, none⟩ (.slice (some ⟨g, o, none⟩) m c)) := (Kp.of_below hb).trans (Kp.set _ u 1 _ rfl)
    have hne : ∀ i, i < n → ∀ k, (es.getD i undef).ownBlock = some k → k ≠ u := fun i hi k hk e => by
      rw [e] at hk
      exact (hE i hi).1.notBlk hB (by decide) hk
    refine ⟨hRow.kept fun p hp => hK.block _ ?_ ?_, ⟨.slice (some ⟨g, o, none⟩) m c, es.dropLast, hu, hB2.set 1 _, ⟨_, c, by rw [List.length_dropLast, hes, hn, Nat.add_sub_cancel], fun h => (by cases h), fun p hp => ?_⟩, ⟨by rw [List.length_dropLast, hes, ← hm]; omega, fun i hi => ?_⟩, by omega, fun T hT => hG T (List.mem_append_left _ hT)⟩, hK.mono fun k hk => hk ▸ hu⟩
    · have h1 := (hE m (by omega)).1.block p.block (by rw [hee, hp]; rfl)
      exact h1.2
    · exact hne m (by omega) p.block (by rw [hee, hp]; rfl)
    · cases hp
      refine ⟨g, o, cur, rfl, hg, hK.blk hC hgu, hoc, by rw [List.length_dropLast]; omega, fun i hi => ?_⟩
      rw [List.length_dropLast] at hi
      rw [hcells i (by omega), List.getElem?_dropLast, if_pos (by omega)]
    · rw [List.length_dropLast] at hi
      have h1 := hE i (by omega)
      rw [init_getD _ _ _ (by omega)] at h1
      have e1 : es.dropLast.getD i undef = es.getD i undef := by simp only [List.getD, List.getElem?_dropLast]; rw [if_pos (by omega)]
      rw [e1]
      exact ⟨h1.1.keep fun k hk => hK.block k (h1.1.block k hk).2 (hne i (by omega) k hk), h1.2⟩
  clear hB hC hoc hnc hes hcells hE hEm hG hee hRow hm hn hlen hsl h hl
  go_enter Tryd.func41, Tryd.ntmps41
  go_upto_region 5 with fail
  go_quiet (fail)
  have FIN2 : Hid (∀ w9, w9 = (w.drewN nq) → ∀ n2, Row ((w9.drewN n2).setCell ⟨u, 1, none⟩ (.slice (some ⟨g, o, none⟩) m c)) ea S ∧ Dt FU u lim Os ((w9.drewN n2).setCell ⟨u, 1, none⟩ (.slice (some ⟨g, o, none⟩) m c)) ∧ Kp FU w ((w9.drewN n2).setCell ⟨u, 1, none⟩ (.slice (some ⟨g, o, none⟩) m c))) := fun w9 h9 n2 => by
    subst h9
    rw [drewN_two]
    exact FIN.out _
  have B9 : Hid (Blk (w.drewN nq) u #[.int .i64 lim, .slice (some ⟨g, o, none⟩) n c] 68) := HB.out.below HB.out.lt (below_drawsX (Below.refl _ _) nq)
  go_upto_region 6 with fail
  have FIN3 := FIN2.out _ rfl 1
  generalize w.drewN nq = W9 at *
  clear FIN FIN2 HB c1 cm f1
  have HF3 : Hid (Row ((W9.drewN 1).setCell ⟨u, 1, none⟩ (.slice (some ⟨g, o, none⟩) m c)) ea S ∧ Dt FU u lim Os ((W9.drewN 1).setCell ⟨u, 1, none⟩ (.slice (some ⟨g, o, none⟩) m c)) ∧ Kp FU w ((W9.drewN 1).setCell ⟨u, 1, none⟩ (.slice (some ⟨g, o, none⟩) m c))) := FIN3
  clear FIN3
  have s0 : (fun v => Blk v u #[.int .i64 lim, .slice (some ⟨g, o, none⟩) n c] 68) (W9.drewN 1) := B9.out.below B9.out.lt (below_drawsX (Below.refl _ _) 1)
  refine regionM 14 (S := fun v => Blk v u #[.int .i64 lim, .slice (some ⟨g, o, none⟩) n c] 68) (by kernel_rfl) ?_
  change AnyM _ _ _ _ _ _ _ _ (W9.drewN 1)
  refine takeM (i := 0) (v := .pointer (some ⟨u, 0, none⟩)) _ rfl (by kernel_rfl) (by kernel_rfl) (by kernel_rfl) (by kernel_rfl) (fun _ _ _ h => h) (.inl ⟨by kernel_rfl, fun _ _ => by kernel_rfl⟩) s0 rfl ?_
  refine takeM (i := 1) (v := .pointer (some ⟨u, 0, none⟩)) _ rfl (by kernel_rfl) (by kernel_rfl) (by kernel_rfl) (by kernel_rfl) (fun _ _ _ h => h) (.inl ⟨by kernel_rfl, fun _ _ => by kernel_rfl⟩) s0 rfl ?_
  refine takeM (i := 5) (v := .pointer (some ⟨u, 0, none⟩)) _ rfl (by kernel_rfl) (by kernel_rfl) (by kernel_rfl) (by kernel_rfl) (fun _ _ _ h => h) (.inl ⟨by kernel_rfl, fun _ _ => by kernel_rfl⟩) s0 rfl ?_
  refine takeM (i := 2) (v := .pointer (some ⟨u, 0, none⟩)) _ rfl (by kernel_rfl) (by kernel_rfl) (by kernel_rfl) (by kernel_rfl) (fun _ _ _ h => h) (.inl ⟨by kernel_rfl, fun _ _ => by kernel_rfl⟩) s0 rfl ?_
  refine takeM (i := 3) (v := .pointer (some ⟨u, 1, none⟩)) _ rfl (by kernel_rfl) (by kernel_rfl) (by kernel_rfl) (by kernel_rfl) (fun _ _ _ h => h) (.inl ⟨by kernel_rfl, fun _ _ => by kernel_rfl⟩) s0 rfl ?_
  refine takeM (i := 4) (v := .slice (some ⟨g, o, none⟩) n c) _ rfl (by kernel_rfl) (by kernel_rfl) (by kernel_rfl) (by kernel_rfl) (fun _ _ _ h => h) (.inl ⟨by kernel_rfl, fun v hv => by have c : v.cell? ⟨u, 1, none⟩ = some (.slice (some ⟨g, o, none⟩) n c) := hv.cell 1; go_simp⟩) s0 rfl ?_
  refine takeM (i := 6) (v := .pointer (some ⟨u, 0, none⟩)) _ rfl (by kernel_rfl) (by kernel_rfl) (by kernel_rfl) (by kernel_rfl) (fun _ _ _ h => h) (.inl ⟨by kernel_rfl, fun _ _ => by kernel_rfl⟩) s0 rfl ?_
  refine takeM (i := 7) (v := .pointer (some ⟨u, 1, none⟩)) _ rfl (by kernel_rfl) (by kernel_rfl) (by kernel_rfl) (by kernel_rfl) (fun _ _ _ h => h) (.inl ⟨by kernel_rfl, fun _ _ => by kernel_rfl⟩) s0 rfl ?_
  refine takeM (i := 8) (v := .slice (some ⟨g, o, none⟩) n c) _ rfl (by kernel_rfl) (by kernel_rfl) (by kernel_rfl) (by kernel_rfl) (fun _ _ _ h => h) (.inl ⟨by kernel_rfl, fun v hv => by have c : v.cell? ⟨u, 1, none⟩ = some (.slice (some ⟨g, o, none⟩) n c) := hv.cell 1; go_simp⟩) s0 rfl ?_
  refine takeM (i := 9) (v := .int .i64 (n : Nat)) _ rfl (by kernel_rfl) (by kernel_rfl) (by kernel_rfl) (by kernel_rfl) (fun _ _ _ h => h) (.inl ⟨by kernel_rfl, fun _ _ => by kernel_rfl⟩) s0 rfl ?_
  refine takeM (i := 10) (v := .int .i64 (m : Nat)) _ rfl (by kernel_rfl) (by kernel_rfl) (by kernel_rfl) (by kernel_rfl) (fun _ _ _ h => h) (.inl ⟨by kernel_rfl, fun v hv => by have hw := wrap_small m (by omega); go_simp⟩) s0 rfl ?_
  refine takeM (i := 11) (v := .slice (some ⟨g, o, none⟩) m c) _ rfl (by kernel_rfl) (by kernel_rfl) (by kernel_rfl) (by kernel_rfl) (fun _ _ _ h => h) (.inl ⟨by kernel_rfl, fun v hv => by have := i4; have := i5; go_simp⟩) s0 rfl ?_
  refine worldMX (i := 12) (v := .pointer (some ⟨u, 0, none⟩)) (w1 := (W9.drewN 1)) _ (by kernel_rfl) rfl (by kernel_rfl) (by kernel_rfl) rfl ⟨s0, ?_⟩
  refine worldMX (i := 13) (v := .pointer (some ⟨u, 1, none⟩)) (w1 := (W9.drewN 1)) _ (by kernel_rfl) rfl (by kernel_rfl) (by kernel_rfl) rfl ⟨s0, ?_⟩
  refine storeM (by kernel_rfl) (by kernel_rfl) ?_
  refine wpOp_store rfl (by kernel_rfl) 22 (.tmp 38) (.tmp 36) rfl u 1 (.slice (some ⟨g, o, none⟩) m c) #[.slice (some ⟨g, o, none⟩) m c] (by kernel_rfl) (by kernel_rfl) rfl (s0.thereAt 1 1 (by simp)) (by kernel_rfl) (by kernel_rfl) _ rfl ?_
  intro W6 eW6
  have HF6 : Hid (Row W6 ea S ∧ Dt FU u lim Os W6 ∧ Kp FU w W6) := by rw [eW6]; exact HF3.out
  clear eW6 HF3 s0 B9
  go_upto_region 7 with fail
  go_wp2
  go_ret2
  exact ⟨ea, ek, rfl, HF6.out⟩
set_option maxRecDepth 100000 in
set_option maxHeartbeats 3200000 in
theorem dat_bad (FU : Nat → Prop) (u lim : Nat) (Os : List (List Nat)) (w : World) (h : Dt FU u lim Os w) (i : Int) (hi : i < 0 ∨ (Os.length : Int) ≤ i) :
    Calls Tryd.prog 42 #[.pointer (some ⟨u, 0, none⟩), .int .i64 i] w fun e w' => e = .returned (.tuple #[.slice none 0 0, .int .i64 2]) ∧ w' = w := by
  obtain ⟨v, es, hu, hB, ⟨a, c, rfl, -⟩, hE, -⟩ := h
  have c1 : w.cell? ⟨u, 1, none⟩ = some (.slice a es.length c) := hB.cell 1
  rw [← hE.1] at hi
  clear hB hE
  generalize es.length = n at *
  by_cases h0 : i < 0
  · clear hi
    go_enter Tryd.func42, Tryd.ntmps42
    go_wp2
    go_ret2
    exact ⟨rfl, rfl⟩
  · have h1 : (n : Int) ≤ i := by omega
    clear hi
    go_enter Tryd.func42, Tryd.ntmps42
    go_wp2
    go_ret2
    exact ⟨rfl, rfl⟩
set_option maxRecDepth 100000 in
set_option maxHeartbeats 3200000 in
theorem dat_good (FU : Nat → Prop) (u lim : Nat) (Os : List (List Nat)) (w : World) (h : Dt FU u lim Os w) (hlim : lim ≤ 4096) (i : Nat) (hi : i < Os.length) :
    Calls Tryd.prog 42 #[.pointer (some ⟨u, 0, none⟩), .int .i64 i] w fun e w' => ∃ v, e = .returned (.tuple #[v, .int .i64 0]) ∧ Tx w' w.heap.size v (Os.getD (Os.length - 1 - i) []) ∧ Below w.heap.size w w' := by
  obtain ⟨g, o, c, cur, es, hu, hg, hgu, hB, hC, hoc, hnc, hes, hcells, hE, hl, hG⟩ := dt_opened h (by omega)
  obtain ⟨n, hn⟩ : ∃ n, n = Os.length := ⟨_, rfl⟩
  rw [← hn] at hi hB hnc hes hcells hE hl ⊢
  obtain ⟨m, hm⟩ : ∃ m, m = n - 1 - i := ⟨_, rfl⟩
  rw [← hm]
  have hEm := hE m (by omega)
  obtain ⟨ea, ek, hee, hRow⟩ := hEm.form
  obtain ⟨S, hS⟩ : ∃ S, S = Os.getD m [] := ⟨_, rfl⟩
  have hgood : Good S := by rw [hS, List.getD, List.getElem?_eq_getElem (by omega), Option.getD_some]; exact hG _ (List.getElem_mem _)
  rw [← hS] at hee hRow ⊢
  have cm : w.cell? ⟨g, o + m, none⟩ = some (.slice ea S.length ek) := by rw [hC.cell, hcells m (by omega), getD_lt es m undef (by omega), hee]
  have c1 : w.cell? ⟨u, 1, none⟩ = some (.slice (some ⟨g, o, none⟩) n c) := hB.cell 1
  have hsl2 := hgood.2
  obtain ⟨sl, hsl⟩ : ∃ sl, S.length = sl := ⟨_, rfl⟩
  rw [hsl] at cm hsl2
  obtain ⟨n1, hn1⟩ : ∃ n1, n1 = n - 1 := ⟨_, rfl⟩
  have i1 : (n : Int) - 1 = (n1 : Int) := by omega
  have i2 : (n1 : Int) - (i : Int) = (m : Int) := by omega
  have i3 : (m : Int) < (n : Int) := by omega
  have i4 : m ≤ 4096 := by omega
  have i5 : n1 ≤ 4096 := by omega
  have i6 : ¬ (i : Int) < 0 := by omega
  have i7 : ¬ (n : Int) ≤ (i : Int) := by omega
  have HW : Hid (∀ V, Below w.heap.size w V → V.cell? ⟨u, 1, none⟩ = some (.slice (some ⟨g, o, none⟩) n c) ∧ V.cell? ⟨g, o + m, none⟩ = some (.slice ea sl ek) ∧ Row V ea S) := fun V hb => ⟨(hB.below hB.lt hb).cell 1, (hb.cell (p := ⟨g, o + m, none⟩) (cell_lt cm)).trans cm, hRow.below hb⟩
  have HSL : Hid (S.length = sl) := hsl
  clear hB hC hoc hnc hes hcells hE hEm hG hee hRow hm hn hsl h hl hS hgood hn1 cm hi
  go_enter Tryd.func42, Tryd.ntmps42
  go_upto_region 5 with fail
  clear c1
  have s0 : (fun V => Below w.heap.size w V) (w.drewN 1) := below_drawsX (Below.refl _ _) 1
  refine wp_region_held (S := fun V => Below w.heap.size w V) (by kernel_rfl) ?_
  change wpAnyH _ _ _ _ _ _ _ _ (w.drewN 1)
  refine takeH (i := 0) (v := .pointer (some ⟨u, 0, none⟩)) _ rfl (by kernel_rfl) (by kernel_rfl) (by kernel_rfl) (fun _ _ _ h => h) (.inl ⟨by kernel_rfl, fun _ _ => by kernel_rfl⟩) s0 rfl ?_
  refine takeH (i := 4) (v := .pointer (some ⟨u, 0, none⟩)) _ rfl (by kernel_rfl) (by kernel_rfl) (by kernel_rfl) (fun _ _ _ h => h) (.inl ⟨by kernel_rfl, fun _ _ => by kernel_rfl⟩) s0 rfl ?_
  refine takeH (i := 10) (v := .int .i64 (i : Nat)) _ rfl (by kernel_rfl) (by kernel_rfl) (by kernel_rfl) (fun _ _ _ h => h) (.inl ⟨by kernel_rfl, fun _ _ => by kernel_rfl⟩) s0 rfl ?_
  refine takeH (i := 1) (v := .pointer (some ⟨u, 0, none⟩)) _ rfl (by kernel_rfl) (by kernel_rfl) (by kernel_rfl) (fun _ _ _ h => h) (.inl ⟨by kernel_rfl, fun _ _ => by kernel_rfl⟩) s0 rfl ?_
  refine takeH (i := 2) (v := .pointer (some ⟨u, 1, none⟩)) _ rfl (by kernel_rfl) (by kernel_rfl) (by kernel_rfl) (fun _ _ _ h => h) (.inl ⟨by kernel_rfl, fun _ _ => by kernel_rfl⟩) s0 rfl ?_
  refine takeH (i := 3) (v := .slice (some ⟨g, o, none⟩) n c) _ rfl (by kernel_rfl) (by kernel_rfl) (by kernel_rfl) (fun _ _ _ h => h) (.inl ⟨by kernel_rfl, fun v hv => by have c : v.cell? ⟨u, 1, none⟩ = some (.slice (some ⟨g, o, none⟩) n c) := (HW.out v hv).1; go_simp⟩) s0 rfl ?_
  refine takeH (i := 5) (v := .pointer (some ⟨u, 0, none⟩)) _ rfl (by kernel_rfl) (by kernel_rfl) (by kernel_rfl) (fun _ _ _ h => h) (.inl ⟨by kernel_rfl, fun _ _ => by kernel_rfl⟩) s0 rfl ?_
  refine takeH (i := 6) (v := .pointer (some ⟨u, 1, none⟩)) _ rfl (by kernel_rfl) (by kernel_rfl) (by kernel_rfl) (fun _ _ _ h => h) (.inl ⟨by kernel_rfl, fun _ _ => by kernel_rfl⟩) s0 rfl ?_
  refine takeH (i := 7) (v := .slice (some ⟨g, o, none⟩) n c) _ rfl (by kernel_rfl) (by kernel_rfl) (by kernel_rfl) (fun _ _ _ h => h) (.inl ⟨by kernel_rfl, fun v hv => by have c : v.cell? ⟨u, 1, none⟩ = some (.slice (some ⟨g, o, none⟩) n c) := (HW.out v hv).1; go_simp⟩) s0 rfl ?_
  refine takeH (i := 8) (v := .int .i64 (n : Nat)) _ rfl (by kernel_rfl) (by kernel_rfl) (by kernel_rfl) (fun _ _ _ h => h) (.inl ⟨by kernel_rfl, fun _ _ => by kernel_rfl⟩) s0 rfl ?_
  refine takeH (i := 9) (v := .int .i64 (n1 : Nat)) _ rfl (by kernel_rfl) (by kernel_rfl) (by kernel_rfl) (fun _ _ _ h => h) (.inl ⟨by kernel_rfl, fun v hv => by have hw := wrap_small n1 (by omega); go_simp⟩) s0 rfl ?_
  refine takeH (i := 11) (v := .int .i64 (m : Nat)) _ rfl (by kernel_rfl) (by kernel_rfl) (by kernel_rfl) (fun _ _ _ h => h) (.inl ⟨by kernel_rfl, fun v hv => by have hw := wrap_small m (by omega); go_simp⟩) s0 rfl ?_
  refine takeH (i := 12) (v := .pointer (some ⟨g, o + m, none⟩)) _ rfl (by kernel_rfl) (by kernel_rfl) (by kernel_rfl) (fun _ _ _ h => h) (.inl ⟨by kernel_rfl, fun v hv => by have := i3; go_simp⟩) s0 rfl ?_
  refine takeH (i := 13) (v := .slice ea sl ek) _ rfl (by kernel_rfl) (by kernel_rfl) (by kernel_rfl) (fun _ _ _ h => h) (.inl ⟨by kernel_rfl, fun v hv => by have c : v.cell? ⟨g, o + m, none⟩ = some (.slice ea sl ek) := (HW.out v hv).2.1; go_simp⟩) s0 rfl ?_
  refine callHE (i := 14) (f := 53) (args := #[.slice ea sl ek]) (R := fun v w' => Tx w' (w.drewN 1).heap.size v S ∧ Below (w.drewN 1).heap.size (w.drewN 1) w') (by kernel_rfl) rfl (by kernel_rfl) (by kernel_rfl) (whole_any S ea sl ek HSL.out (by omega) _ (HW.out _ s0).2.2) ?_
  rintro v9 w9 ⟨T9, B9⟩
  have b9 : Below w.heap.size w w9 := s0.trans B9
  have HT9 : Hid (Tx w9 w.heap.size v9 S ∧ Below w.heap.size w w9) := ⟨T9, b9⟩
  refine ⟨b9, ?_⟩
  refine takeH (i := 15) (v := v9) _ rfl (by kernel_rfl) (by kernel_rfl) (by kernel_rfl) (fun _ _ _ h => h) (.inl ⟨by kernel_rfl, fun _ _ => by kernel_rfl⟩) b9 rfl ?_
  refine takeH (i := 16) (v := .int .i64 0) _ rfl (by kernel_rfl) (by kernel_rfl) (by kernel_rfl) (fun _ _ _ h => h) (.inl ⟨by kernel_rfl, fun _ _ => by kernel_rfl⟩) b9 rfl ?_
  refine wpAnyH_done (by kernel_rfl) ?_ _
  clear T9 B9 b9 s0
  go_wp2
  go_ret2
  exact ⟨v9, rfl, HT9.out⟩
end Go.Proofs.YtlckjbangdnejaaDoor
