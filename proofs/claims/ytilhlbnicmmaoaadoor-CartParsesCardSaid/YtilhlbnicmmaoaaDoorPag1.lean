/-
  What the header's format, reserved and sizes answer, and how a reader gives up; conditions: the bytes are bytes.
-/
import Derived.Test.YtilhlbnicmmaoaaDoorPagSpec
import Derived.BigQuiet
import Derived.Deep.Heap
set_option linter.unusedSimpArgs false
set_option linter.unusedVariables false
namespace Go.Proofs.YtilhlbnicmmaoaaDoor
open Go.RowKit
/-- How a reader gives up. -/
def fault (e : Ending) (x p : Int) : Prop := e = .panicked [{ v := .iface 55 (.agg #[.int .i64 x, .int .i64 p]), recovered := false }]
theorem giveUp_any (x p : Int) (w : World) : Calls Tryd.prog 40 #[.int .i64 x, .int .i64 p] w fun e w' => fault e x p ∧ w' = w := by
  go_enter Tryd.func40, Tryd.ntmps40
  go_wp2
  exact ⟨rfl, rfl, rfl⟩
/-- A header's cells. -/
def hv (h : Hq) : Array Value := (vals h.l).toArray
set_option maxHeartbeats 1000000 in
theorem format_g (h : Hq) (B : h.Ok) (hs : Array Value) (HH0 : hs = hv h) (w : World) :
    Calls Tryd.prog 59 #[.agg hs] w fun e w' => e = .returned (.int .i64 ((h.f : Nat) : Int)) ∧ Below w.heap.size w w' := by
  have HH : Hid (hs = _) := HH0
  have hsz : hs.size = 16 := by rw [HH0]; rfl
  clear HH0
  obtain ⟨c1, l1, o1, z1⟩ := or_any h.b12 h.b13 B.k12 B.k13
  obtain ⟨c2, l2, o2, z2⟩ := or_any c1 h.b14 l1 B.k14
  obtain ⟨c3, l3, o3, z3⟩ := or_any c2 h.b15 l2 B.k15
  have HZ : Hid (c3 = 0 ↔ h.b12 = 0 ∧ h.b13 = 0 ∧ h.b14 = 0 ∧ h.b15 = 0) := by
    unfold Hid; rw [z3, z2, z1]
    exact ⟨fun ⟨⟨⟨p, q⟩, r⟩, s⟩ => ⟨p, q, r, s⟩, fun ⟨p, q, r, s⟩ => ⟨⟨⟨p, q⟩, r⟩, s⟩⟩
  clear z1 z2 z3 l1 l2
  have a12 := (by_and h.b7 B.k7).1
  have HF : Hid (h.f = if h.b7 / 4 % 4 = 2 then 2 else if h.b7 / 4 % 4 = 0 ∧ c3 = 0 then 1 else 0) := by
    unfold Hid Hq.f
    by_cases h0 : c3 = 0
    · obtain ⟨p, q, r, s⟩ := HZ.out.1 h0
      simp [h0, p, q, r, s]
    · rw [if_neg (c := h.b7 / 4 % 4 = 0 ∧ c3 = 0) (fun x => h0 x.2), if_neg (c := h.b7 / 4 % 4 = 0 ∧ _) (fun x => h0 (HZ.out.2 x.2))]
  obtain ⟨ff, hff⟩ : ∃ ff, h.f = ff := ⟨_, rfl⟩
  rw [hff] at HF ⊢
  clear hff HZ
  go_enter Tryd.func59, Tryd.ntmps59
  go_upto_region 1 with fail
  have hb0 : Below w.heap.size w (w.alloc (.cells hs 67)) := (Below.refl _ _).alloc (Nat.le_refl _) _
  have b0 : Blk (w.alloc (.cells hs 67)) w.heap.size hs 67 := Blk.new w hs _
  generalize w.alloc (.cells hs 67) = W0 at *
  have d7 := (b0.cell 7).trans (show hs[7]? = some (.int .u8 ((h.b7 : Nat) : Int)) by rw [HH.out]; rfl)
  have d12 := (b0.cell 12).trans (show hs[12]? = some (.int .u8 ((h.b12 : Nat) : Int)) by rw [HH.out]; rfl)
  have d13 := (b0.cell 13).trans (show hs[13]? = some (.int .u8 ((h.b13 : Nat) : Int)) by rw [HH.out]; rfl)
  have d14 := (b0.cell 14).trans (show hs[14]? = some (.int .u8 ((h.b14 : Nat) : Int)) by rw [HH.out]; rfl)
  have d15 := (b0.cell 15).trans (show hs[15]? = some (.int .u8 ((h.b15 : Nat) : Int)) by rw [HH.out]; rfl)
  clear hsz
  generalize h.b7 / 4 % 4 = t at *
  generalize h.b7 = y7 at *
  generalize h.b12 = u12 at *
  generalize h.b13 = u13 at *
  generalize h.b14 = u14 at *
  generalize h.b15 = u15 at *
  by_cases h2 : t = 2
  · subst h2
    have e : bits BinOp.and IntKind.u8 (y7 : Int) 12 = 8 := a12
    have e2 : ff = 2 := HF.out
    subst e2
    clear a12
    go_wp2
    go_ret
    exact ⟨rfl, hb0⟩
  · have e : (bits BinOp.and IntKind.u8 (y7 : Int) 12 == 8) = false := by rw [a12, beq_eq_false_iff_ne]; omega
    by_cases h0 : t = 0
    · subst h0
      have e0 : bits BinOp.and IntKind.u8 (y7 : Int) 12 = 0 := a12
      clear a12 e
      by_cases hc : c3 = 0
      · have hc' : ((c3 : Int) == 0) = true := by rw [hc]; rfl
        have e2 : ff = 1 := by rw [HF.out, if_neg h2, if_pos ⟨rfl, hc⟩]
        subst e2
        clear hc h2
        go_wp2
        go_ret
        exact ⟨rfl, hb0⟩
      · have hc' : ((c3 : Int) == 0) = false := by rw [beq_eq_false_iff_ne]; omega
        have e2 : ff = 0 := by rw [HF.out, if_neg h2, if_neg (fun x => hc x.2)]
        subst e2
        clear hc h2
        go_wp2
        go_ret
        exact ⟨rfl, hb0⟩
    · have e0 : (bits BinOp.and IntKind.u8 (y7 : Int) 12 == 0) = false := by rw [a12, beq_eq_false_iff_ne]; omega
      have e2 : ff = 0 := by rw [HF.out, if_neg h2, if_neg (fun x => h0 x.1)]
      subst e2
      clear a12 h0 h2
      go_wp2
      go_ret
      exact ⟨rfl, hb0⟩
set_option maxHeartbeats 1000000 in
theorem reserved_g (h : Hq) (B : h.Ok) (hs : Array Value) (HH0 : hs = hv h) (w : World) :
    Calls Tryd.prog 58 #[.agg hs] w fun e w' => e = .returned (.agg (vals h.rs).toArray) ∧ Below w.heap.size w w' := by
  have HH : Hid (hs = _) := HH0
  have hsz : hs.size = 16 := by rw [HH0]; rfl
  have HSZ : Hid (hs.size = 16) := hsz
  have FC : Hid (∀ W : World, Calls _ _ _ _ _) := fun W => format_g h B hs HH0 W
  clear HH0
  have a3 := (by_and h.b7 B.k7).2.1
  obtain ⟨rr, hrr⟩ : ∃ rr, h.rs = rr := ⟨_, rfl⟩
  have HR : Hid (h.rs = rr) := hrr
  rw [hrr]
  clear hrr
  go_enter Tryd.func58, Tryd.ntmps58
  go_upto_region 1 with fail
  have K0 : Blk ((w.alloc (.cells hs 67)).alloc (.cells Z16 67)) w.heap.size hs 67 ∧ Blk ((w.alloc (.cells hs 67)).alloc (.cells Z16 67)) (w.heap.size + 1) Z16 67 ∧ Below w.heap.size w ((w.alloc (.cells hs 67)).alloc (.cells Z16 67)) :=
    ⟨(Blk.new w hs _).old _, by have := Blk.new (w.alloc (.cells hs 67)) Z16 67; rwa [World.size_alloc] at this, ((Below.refl _ _).alloc (Nat.le_refl _) _).alloc (by simp) _⟩
  generalize (w.alloc (.cells hs 67)).alloc (.cells Z16 67) = W0 at *
  obtain ⟨b0, z0, hb0⟩ := K0
  clear hsz
  have FC1 : Hid (Calls _ _ _ _ _) := FC.out W0
  obtain ⟨ff, hff⟩ : ∃ ff, h.f = ff := ⟨_, rfl⟩
  have HF : Hid (h.f = ff) := hff
  rw [hff] at FC1
  clear hff FC
  go_wp2_with (refine wpList_load_mid rfl 67 _ rfl w.heap.size 0 rfl hs.toList _ b0.range Tryd.underlying67 rfl (by rw [Array.length_toList, HSZ.out]; exact infoHdr) ?_; rw [Array.toArray_toList])
  refine FC1.out.mono ?_
  rintro e W1 ⟨rfl, hb1⟩
  have b1 := b0.below b0.lt hb1
  have z1 := z0.below z0.lt hb1
  have hbw := hb0.trans (hb1.mono hb0.size)
  clear FC1 b0 z0 hb0 hb1
  have c7 := (b1.cell 7).trans (show hs[7]? = some (.int .u8 ((h.b7 : Nat) : Int)) by rw [HH.out]; rfl)
  have h3 : h.b7 % 4 < 4 := Nat.mod_lt _ (by decide)
  have hf3 : ff = 0 ∨ ff = 1 ∨ ff = 2 := by rw [← HF.out]; exact h.f_lt
  have HR' : Hid (rr = if ff = 1 then [0, 0, 0, 0, 0, 0, 0, if h.b7 % 4 = 3 then 3 else 0, 0, 254, 255, 255, 0, 0, 0, 0] else if ff = 2 then [0, 0, 0, 0, 0, 0, 0, 0, 0, 0, 0, 0, 252, Hq.kdM (h.b7 % 4), 252, 192] else [0, 0, 0, 0, 0, 0, 0, 0, 0, 0, 0, 0, 0, 0, 0, 0]) := by
    unfold Hid; rw [← HR.out, ← HF.out]; rfl
  have H7 : Hid (hs[7]? = some (.int .u8 ((h.b7 : Nat) : Int))) := by unfold Hid; rw [HH.out]; rfl
  clear HR HF HH B
  generalize h.b7 % 4 = kk at *
  generalize h.b7 = y7 at *
  have GC : Hid (∀ (n : Int) (W : World), Calls _ _ _ _ _) := fun n W => greatestKind_any n W
  rcases hf3 with rfl | rfl | rfl
  · have e : rr = [0, 0, 0, 0, 0, 0, 0, 0, 0, 0, 0, 0, 0, 0, 0, 0] := HR'.out
    subst e
    have HS : Hid ((vals [0, 0, 0, 0, 0, 0, 0, 0, 0, 0, 0, 0, 0, 0, 0, 0]).toArray.size = 16 ∧ (vals [0, 0, 0, 0, 0, 0, 0, 0, 0, 0, 0, 0, 0, 0, 0, 0]).toArray.all (·.oneCell') = true) := ⟨rfl, by simp [vals, Value.oneCell']⟩
    clear GC c7 a3 h3
    go_wp2_with (refine wpList_store_mid rfl 67 _ _ rfl (w.heap.size + 1) 0 (vals [0, 0, 0, 0, 0, 0, 0, 0, 0, 0, 0, 0, 0, 0, 0, 0]).toArray rfl rfl (by exact z1.there _ HS.out.1.symm) (by rw [HS.out.1]; exact infoHdr) HS.out.2 ?_)
    refine ret_agg1 (m := w.heap.size + 1) (L := (vals [0, 0, 0, 0, 0, 0, 0, 0, 0, 0, 0, 0, 0, 0, 0, 0]).toArray) Tryd.results58 (by rfl) (z1.setAll (by rfl)) Tryd.underlying67 rfl (by exact infoHdr) ?_
    exact ⟨rfl, setCells_below (by omega) _ _ _ _ hbw⟩
  · have e : rr = [0, 0, 0, 0, 0, 0, 0, if kk = 3 then 3 else 0, 0, 254, 255, 255, 0, 0, 0, 0] := HR'.out
    have HS : Hid ((vals [0, 0, 0, 0, 0, 0, 0, 0, 0, 254, 255, 255, 0, 0, 0, 0]).toArray.size = 16 ∧ (vals [0, 0, 0, 0, 0, 0, 0, 0, 0, 254, 255, 255, 0, 0, 0, 0]).toArray.all (·.oneCell') = true) := ⟨rfl, by simp [vals, Value.oneCell']⟩
    have HS3 : Hid ((vals [0, 0, 0, 0, 0, 0, 0, 3, 0, 254, 255, 255, 0, 0, 0, 0]).toArray.size = 16 ∧ (vals [0, 0, 0, 0, 0, 0, 0, 3, 0, 254, 255, 255, 0, 0, 0, 0]).toArray.all (·.oneCell') = true) := ⟨rfl, by simp [vals, Value.oneCell']⟩
    clear GC
    go_upto_region 3 with fail
    go_cut [3] (fun p wx => ∃ g, p = .pointer (some ⟨g, 0, none⟩) ∧ Blk wx g (vals [0, 0, 0, 0, 0, 0, 0, 0, 0, 254, 255, 255, 0, 0, 0, 0]).toArray 67 ∧ w.heap.size + 1 < g ∧ Blk wx w.heap.size hs 67 ∧ Blk wx (w.heap.size + 1) Z16 67 ∧ Below w.heap.size w wx)
    case first =>
      have hz := z1.lt
      go_wp2_with (refine wpList_store_mid rfl 67 _ _ rfl _ 0 (vals [0, 0, 0, 0, 0, 0, 0, 0, 0, 254, 255, 255, 0, 0, 0, 0]).toArray rfl rfl ((Blk.new _ _ _).there _ (by first | exact HS.out.1.symm | (rw [HS.out.1]; rfl))) (by rw [HS.out.1]; exact infoHdr) HS.out.2 ?_)
      go_meet
      have hl : Below W1.heap.size W1 ((W1.alloc (.cells Z16 67)).setCells W1.heap.size 0 (vals [0, 0, 0, 0, 0, 0, 0, 0, 0, 254, 255, 255, 0, 0, 0, 0]).toArray.toList) := setCells_below (Nat.le_refl _) _ _ _ _ ((Below.refl _ _).alloc (Nat.le_refl _) _)
      exact ⟨_, rfl, (Blk.new W1 Z16 67).setAll (L := (vals [0, 0, 0, 0, 0, 0, 0, 0, 0, 254, 255, 255, 0, 0, 0, 0]).toArray) HS.out.1, hz, b1.below b1.lt hl, z1.below z1.lt hl, hbw.trans (hl.mono hbw.size)⟩
    case rest =>
    clear b1 z1 hbw c7
    obtain ⟨g, rfl, bg, hg, b1, z1, hbw⟩ := hcut
    generalize wc = W2 at *
    have c7 : W2.cell? ⟨w.heap.size, 7, none⟩ = some (.int .u8 ((y7 : Nat) : Int)) := (b1.cell 7).trans H7.out
    by_cases hk : kk = 3
    · subst hk
      have e3 : bits BinOp.and IntKind.u8 (y7 : Int) 3 = 3 := a3
      have e' : rr = [0, 0, 0, 0, 0, 0, 0, 3, 0, 254, 255, 255, 0, 0, 0, 0] := e
      subst e'
      clear a3 h3 e
      have d7 := (bg.cell 7).trans (show _ = some (.int .u8 0) from rfl)
      have f7 := bg.free 7
      go_upto_region 6 with fail
      have bg2 : Blk (W2.setCell ⟨g, 7, none⟩ (.int .u8 3)) g (vals [0, 0, 0, 0, 0, 0, 0, 3, 0, 254, 255, 255, 0, 0, 0, 0]).toArray 67 := bg.set 7 (.int .u8 3)
      have z2 := z1.other (m := g) (by omega) 7 (.int .u8 3)
      have hb2 := hbw.setCell (p := ⟨g, 7, none⟩) (by show w.heap.size ≤ g; omega) (.int .u8 3)
      clear bg z1 hbw b1 d7 f7 c7
      generalize W2.setCell ⟨g, 7, none⟩ (.int .u8 3) = W3 at *
      go_wp2_with (first
        | refine wpList_load_mid rfl 67 _ rfl g 0 rfl (vals [0, 0, 0, 0, 0, 0, 0, 3, 0, 254, 255, 255, 0, 0, 0, 0]).toArray.toList _ bg2.range Tryd.underlying67 rfl (by exact infoHdr) ?_
        | refine wpList_store_mid rfl 67 _ _ rfl (w.heap.size + 1) 0 (vals [0, 0, 0, 0, 0, 0, 0, 3, 0, 254, 255, 255, 0, 0, 0, 0]).toArray rfl rfl (by exact z2.there _ HS3.out.1.symm) (by rw [HS3.out.1]; exact infoHdr) HS3.out.2 ?_)
      refine ret_agg1 (m := w.heap.size + 1) (L := (vals [0, 0, 0, 0, 0, 0, 0, 3, 0, 254, 255, 255, 0, 0, 0, 0]).toArray) Tryd.results58 (by rfl) (z2.setAll (by rfl)) Tryd.underlying67 rfl (by exact infoHdr) ?_
      exact ⟨rfl, setCells_below (by omega) _ _ _ _ hb2⟩
    · have e3 : (bits BinOp.and IntKind.u8 (y7 : Int) 3 == 3) = false := by rw [a3, beq_eq_false_iff_ne]; omega
      have e' : rr = [0, 0, 0, 0, 0, 0, 0, 0, 0, 254, 255, 255, 0, 0, 0, 0] := by rw [e, if_neg hk]
      subst e'
      clear a3 h3 e hk
      go_upto_region 6 with fail
      go_wp2_with (first
        | refine wpList_load_mid rfl 67 _ rfl g 0 rfl (vals [0, 0, 0, 0, 0, 0, 0, 0, 0, 254, 255, 255, 0, 0, 0, 0]).toArray.toList _ bg.range Tryd.underlying67 rfl (by exact infoHdr) ?_
        | refine wpList_store_mid rfl 67 _ _ rfl (w.heap.size + 1) 0 (vals [0, 0, 0, 0, 0, 0, 0, 0, 0, 254, 255, 255, 0, 0, 0, 0]).toArray rfl rfl (by exact z1.there _ HS.out.1.symm) (by rw [HS.out.1]; exact infoHdr) HS.out.2 ?_)
      refine ret_agg1 (m := w.heap.size + 1) (L := (vals [0, 0, 0, 0, 0, 0, 0, 0, 0, 254, 255, 255, 0, 0, 0, 0]).toArray) Tryd.results58 (by rfl) (z1.setAll (by rfl)) Tryd.underlying67 rfl (by exact infoHdr) ?_
      exact ⟨rfl, setCells_below (by omega) _ _ _ _ hbw⟩
  · have e : rr = [0, 0, 0, 0, 0, 0, 0, 0, 0, 0, 0, 0, 252, Hq.kdM kk, 252, 192] := HR'.out
    rcases (show kk = 0 ∨ kk = 1 ∨ kk = 2 ∨ kk = 3 by omega) with rfl | rfl | rfl | rfl
    · have e3 : bits BinOp.and IntKind.u8 (y7 : Int) 3 = 0 := a3
      have e' : rr = [0, 0, 0, 0, 0, 0, 0, 0, 0, 0, 0, 0, 252, 255, 252, 192] := e
      subst e'
      have GK : Hid (∀ W : World, Calls _ _ _ _ _) := fun W => GC.out 0 W
      have HS : Hid ((vals [0, 0, 0, 0, 0, 0, 0, 0, 0, 0, 0, 0, 252, 255, 252, 192]).toArray.size = 16 ∧ (vals [0, 0, 0, 0, 0, 0, 0, 0, 0, 0, 0, 0, 252, 255, 252, 192]).toArray.all (·.oneCell') = true) := ⟨rfl, by simp [vals, Value.oneCell']⟩
      clear GC a3 h3 e
      go_wp2_with (first
        | (go_at_call 80; go_must (refine (GK.out _).mono ?_; rintro e w1 ⟨rfl, hw1⟩; obtain rfl := hw1.symm))
        | refine wpList_store_mid rfl 67 _ _ rfl (w.heap.size + 1) 0 (vals [0, 0, 0, 0, 0, 0, 0, 0, 0, 0, 0, 0, 252, 255, 252, 192]).toArray rfl rfl (by exact z1.there _ HS.out.1.symm) (by rw [HS.out.1]; exact infoHdr) HS.out.2 ?_)
      refine ret_agg1 (m := w.heap.size + 1) (L := (vals [0, 0, 0, 0, 0, 0, 0, 0, 0, 0, 0, 0, 252, 255, 252, 192]).toArray) Tryd.results58 (by rfl) (z1.setAll (by rfl)) Tryd.underlying67 rfl (by exact infoHdr) ?_
      exact ⟨rfl, setCells_below (by omega) _ _ _ _ hbw⟩
    · have e3 : bits BinOp.and IntKind.u8 (y7 : Int) 3 = 1 := a3
      have e' : rr = [0, 0, 0, 0, 0, 0, 0, 0, 0, 0, 0, 0, 252, 0, 252, 192] := e
      subst e'
      have GK : Hid (∀ W : World, Calls _ _ _ _ _) := fun W => GC.out 1 W
      have HS : Hid ((vals [0, 0, 0, 0, 0, 0, 0, 0, 0, 0, 0, 0, 252, 0, 252, 192]).toArray.size = 16 ∧ (vals [0, 0, 0, 0, 0, 0, 0, 0, 0, 0, 0, 0, 252, 0, 252, 192]).toArray.all (·.oneCell') = true) := ⟨rfl, by simp [vals, Value.oneCell']⟩
      clear GC a3 h3 e
      go_wp2_with (first
        | (go_at_call 80; go_must (refine (GK.out _).mono ?_; rintro e w1 ⟨rfl, hw1⟩; obtain rfl := hw1.symm))
        | refine wpList_store_mid rfl 67 _ _ rfl (w.heap.size + 1) 0 (vals [0, 0, 0, 0, 0, 0, 0, 0, 0, 0, 0, 0, 252, 0, 252, 192]).toArray rfl rfl (by exact z1.there _ HS.out.1.symm) (by rw [HS.out.1]; exact infoHdr) HS.out.2 ?_)
      refine ret_agg1 (m := w.heap.size + 1) (L := (vals [0, 0, 0, 0, 0, 0, 0, 0, 0, 0, 0, 0, 252, 0, 252, 192]).toArray) Tryd.results58 (by rfl) (z1.setAll (by rfl)) Tryd.underlying67 rfl (by exact infoHdr) ?_
      exact ⟨rfl, setCells_below (by omega) _ _ _ _ hbw⟩
    · have e3 : bits BinOp.and IntKind.u8 (y7 : Int) 3 = 2 := a3
      have e' : rr = [0, 0, 0, 0, 0, 0, 0, 0, 0, 0, 0, 0, 252, 255, 252, 192] := e
      subst e'
      have GK : Hid (∀ W : World, Calls _ _ _ _ _) := fun W => GC.out 2 W
      have HS : Hid ((vals [0, 0, 0, 0, 0, 0, 0, 0, 0, 0, 0, 0, 252, 255, 252, 192]).toArray.size = 16 ∧ (vals [0, 0, 0, 0, 0, 0, 0, 0, 0, 0, 0, 0, 252, 255, 252, 192]).toArray.all (·.oneCell') = true) := ⟨rfl, by simp [vals, Value.oneCell']⟩
      clear GC a3 h3 e
      go_wp2_with (first
        | (go_at_call 80; go_must (refine (GK.out _).mono ?_; rintro e w1 ⟨rfl, hw1⟩; obtain rfl := hw1.symm))
        | refine wpList_store_mid rfl 67 _ _ rfl (w.heap.size + 1) 0 (vals [0, 0, 0, 0, 0, 0, 0, 0, 0, 0, 0, 0, 252, 255, 252, 192]).toArray rfl rfl (by exact z1.there _ HS.out.1.symm) (by rw [HS.out.1]; exact infoHdr) HS.out.2 ?_)
      refine ret_agg1 (m := w.heap.size + 1) (L := (vals [0, 0, 0, 0, 0, 0, 0, 0, 0, 0, 0, 0, 252, 255, 252, 192]).toArray) Tryd.results58 (by rfl) (z1.setAll (by rfl)) Tryd.underlying67 rfl (by exact infoHdr) ?_
      exact ⟨rfl, setCells_below (by omega) _ _ _ _ hbw⟩
    · have e3 : bits BinOp.and IntKind.u8 (y7 : Int) 3 = 3 := a3
      have e' : rr = [0, 0, 0, 0, 0, 0, 0, 0, 0, 0, 0, 0, 252, 240, 252, 192] := e
      subst e'
      have GK : Hid (∀ W : World, Calls _ _ _ _ _) := fun W => GC.out 3 W
      have HS : Hid ((vals [0, 0, 0, 0, 0, 0, 0, 0, 0, 0, 0, 0, 252, 240, 252, 192]).toArray.size = 16 ∧ (vals [0, 0, 0, 0, 0, 0, 0, 0, 0, 0, 0, 0, 252, 240, 252, 192]).toArray.all (·.oneCell') = true) := ⟨rfl, by simp [vals, Value.oneCell']⟩
      clear GC a3 h3 e
      go_wp2_with (first
        | (go_at_call 80; go_must (refine (GK.out _).mono ?_; rintro e w1 ⟨rfl, hw1⟩; obtain rfl := hw1.symm))
        | refine wpList_store_mid rfl 67 _ _ rfl (w.heap.size + 1) 0 (vals [0, 0, 0, 0, 0, 0, 0, 0, 0, 0, 0, 0, 252, 240, 252, 192]).toArray rfl rfl (by exact z1.there _ HS.out.1.symm) (by rw [HS.out.1]; exact infoHdr) HS.out.2 ?_)
      refine ret_agg1 (m := w.heap.size + 1) (L := (vals [0, 0, 0, 0, 0, 0, 0, 0, 0, 0, 0, 0, 252, 240, 252, 192]).toArray) Tryd.results58 (by rfl) (z1.setAll (by rfl)) Tryd.underlying67 rfl (by exact infoHdr) ?_
      exact ⟨rfl, setCells_below (by omega) _ _ _ _ hbw⟩
end Go.Proofs.YtilhlbnicmmaoaaDoor
