/-
  What runOf of package isa answers; conditions: the row of a byte.
-/
import Derived.Test.YtfdiplgjiidnbaaDoorIRow
import Derived.Test.YtfdiplgjiidnbaaDoorIAdd3
import Derived.Deep.MidRow
import Derived.Deep.CutBlock
set_option linter.unusedSimpArgs false
set_option linter.unusedVariables false
namespace Go.Proofs.YtfdiplgjiidnbaaDoor
open Go.RowKit
theorem Tryd.infoRun : (Tryd.prog.info? 68).map (·.size) = some 9 := by kernel_rfl
theorem Blk.range {w : World} {b : Nat} {cs : Array Value} {t : TypeId} (h : Blk w b cs t) : w.rangeAt b 0 cs.toList := fun j v hv => by
  rw [Nat.zero_add, h.cell j]; simpa using hv
theorem Blk.there {w : World} {b : Nat} {cs : Array Value} {t : TypeId} (h : Blk w b cs t) (n : Nat) (hn : cs.size = n) : w.there b 0 n := fun j hj => by
  rw [Nat.zero_add, h.cell j]; exact ⟨by simp; omega, h.free j⟩
theorem setCells_below {B b : Nat} (hB : B ≤ b) : ∀ (vs : List Value) (o : Nat) (a w : World), Below B a w → Below B a (w.setCells b o vs)
  | [], _, _, _, h => h
  | _ :: vs, o, a, _, h => setCells_below hB vs (o + 1) a _ (h.setCell (p := ⟨b, o, none⟩) hB _)
theorem runC_one {l : List Nat} : ∀ v ∈ runC l, v.oneCell' = true := by
  intro v hv
  simp only [runC, List.mem_append, List.mem_singleton] at hv
  rcases hv with h | rfl
  · exact ints_one _ v h
  · rfl
theorem mdN_lt13 : ∀ k, k < 256 → mdN k < 13 := by decide +kernel
theorem shQ_rest {k : Nat} {cr tk : Bool} (h : ¬ (kdN k = 1 ∨ kdN k = 2 ∨ kdN k = 3 ∨ kdN k = 4 ∨ kdN k = 5)) : shQ k cr tk = [0] ++ rsL (opN k) (mdN k) := by
  unfold shQ shp
  split <;> first | rfl | (exfalso; omega)
theorem Hid.mk1' {p : Prop} (h : p) : Hid p := h
theorem results_cell {fn : Func} {p : Tmp} {ty : TypeId} (h : fn.results = #[.cell p ty]) (tmps : Array Value) (P : Program) (w : World) :
    (results fn tmps).run P w = ((asAddr (tmps.getD p undef)).run P w).andThen fun a w₁ => (loadVar ty a).run P w₁ := by
  simp only [results, h]
  simp [Sem.run_bind, Result.andThen]
abbrev Z9 : Array Value := #[.int .i64 0, .int .i64 0, .int .i64 0, .int .i64 0, .int .i64 0, .int .i64 0, .int .i64 0, .int .i64 0, .int .i64 0]
set_option maxRecDepth 100000 in
set_option maxHeartbeats 1000000 in
theorem runOf_any (k : Nat) (hk : k < 256) (cr tk : Bool) (w : World) :
    Calls Tryd.prog 28 #[.agg #[.int .i64 (opN k : Nat), .int .i64 (mdN k : Nat), .int .i64 (clN k : Nat)], .bool cr, .bool tk] w fun e w' => e = .returned (.agg (runC (shQ k cr tk)).toArray) ∧ Below w.heap.size w w' := by
  have hlen := (shp_length k hk cr tk).1
  have KC := fun W => kindOf_any k hk W
  unfold rowV at KC
  have HK : Hid _ := KC
  clear KC
  go_enter Tryd.func28, Tryd.ntmps28
  go_upto_region 2 with fail
  have hb0 : Below w.heap.size w (((w.alloc (.cells #[.int .i64 (opN k : Nat), .int .i64 (mdN k : Nat), .int .i64 (clN k : Nat)] 63)).alloc (.cells Z9 68)).alloc (.cells Z9 68)) := (((Below.refl _ _).alloc (Nat.le_refl _) _).alloc (by simp) _).alloc (by simp; omega) _
  have bw : Blk (((w.alloc (.cells #[.int .i64 (opN k : Nat), .int .i64 (mdN k : Nat), .int .i64 (clN k : Nat)] 63)).alloc (.cells Z9 68)).alloc (.cells Z9 68)) w.heap.size #[.int .i64 (opN k : Nat), .int .i64 (mdN k : Nat), .int .i64 (clN k : Nat)] 63 := ((Blk.new w _ _).old _).old _
  have bz : Blk (((w.alloc (.cells #[.int .i64 (opN k : Nat), .int .i64 (mdN k : Nat), .int .i64 (clN k : Nat)] 63)).alloc (.cells Z9 68)).alloc (.cells Z9 68)) (w.heap.size + 1) Z9 68 := by
    have := (Blk.new (w.alloc (.cells #[.int .i64 (opN k : Nat), .int .i64 (mdN k : Nat), .int .i64 (clN k : Nat)] 63)) Z9 68).old (.cells Z9 68)
    rwa [World.size_alloc] at this
  have hR : Blk (((w.alloc (.cells #[.int .i64 (opN k : Nat), .int .i64 (mdN k : Nat), .int .i64 (clN k : Nat)] 63)).alloc (.cells Z9 68)).alloc (.cells Z9 68)) (w.heap.size + 1 + 1) (runC []).toArray 68 := by
    have := Blk.new ((w.alloc (.cells #[.int .i64 (opN k : Nat), .int .i64 (mdN k : Nat), .int .i64 (clN k : Nat)] 63)).alloc (.cells Z9 68)) Z9 68
    rwa [World.size_alloc, World.size_alloc] at this
  change Code.wp _ _ _ _ (((w.alloc (.cells #[.int .i64 (opN k : Nat), .int .i64 (mdN k : Nat), .int .i64 (clN k : Nat)] 63)).alloc (.cells Z9 68)).alloc (.cells Z9 68))
  generalize (((w.alloc (.cells #[.int .i64 (opN k : Nat), .int .i64 (mdN k : Nat), .int .i64 (clN k : Nat)] 63)).alloc (.cells Z9 68)).alloc (.cells Z9 68)) = W at *
  have hb : Below (w.heap.size + 1 + 1) W W := Below.refl _ _
  go_wp2_with fail
  refine (add_new (m := [0]) hR hb (Nat.le_refl _) (by simp) (by simp)).mono ?_
  rintro e w1 ⟨rfl, hR1, hb1⟩
  rw [List.nil_append] at hR1
  have bw1 := bw.below (by omega) hb1
  have cw1 := bw1.cell
  clear hR hb
  go_upto_block 0 with (go_at_call 29; go_must (refine (HK.out _).mono ?_; rintro e w2 ⟨rfl, hb2⟩))
  have hlt1 := hR1.lt
  have hb2w : Below (w.heap.size + 1 + 1) W w2 := hb1.trans (hb2.mono (by omega))
  have hR2 := hR1.below hlt1 hb2
  have bw2 := bw.below (by omega) hb2w
  have cw2 := bw2.cell
  clear hR1 hb1 bw1 cw1 hb2 hlt1
  go_cut [12] (fun q wx => Blk wx (w.heap.size + 1 + 1) (runC (shQ k cr tk)).toArray 68 ∧ Below (w.heap.size + 1 + 1) W wx)
  case first =>
    have hk6 : kdN k = 1 ∨ kdN k = 4 ∨ kdN k = 2 ∨ kdN k = 3 ∨ kdN k = 5 ∨ ¬ (kdN k = 1 ∨ kdN k = 2 ∨ kdN k = 3 ∨ kdN k = 4 ∨ kdN k = 5) := by omega
    rcases hk6 with hkd | hkd | hkd | hkd | hkd | hkd
    · rw [hkd]
      go_wp2_with fail
      refine (reach_any (mdN k) (mdN_lt13 k hk) cr _ _ W w2 _ (Nat.le_refl _) hb2w hR2 (by simp)).mono ?_
      rintro e w3 ⟨rfl, hR3, hb3⟩
      go_wp2_with fail
      refine (add_new (m := [7]) hR3 hb3 (Nat.le_refl _) (by simp; have := rchL_length (mdN k) cr; have := rchL_length (mdN k) true; omega) (by simp)).mono ?_
      rintro e w4 ⟨rfl, hR4, hb4⟩
      go_wp2_with fail
      go_meet
      exact ⟨by rw [show shQ k cr tk = _ by unfold shQ shp; rw [hkd]]; simpa only [List.append_assoc] using hR4, hb4⟩
    · rw [hkd]
      go_wp2_with fail
      refine (reach_any (mdN k) (mdN_lt13 k hk) true _ _ W w2 _ (Nat.le_refl _) hb2w hR2 (by simp)).mono ?_
      rintro e w3 ⟨rfl, hR3, hb3⟩
      go_wp2_with fail
      refine (add_new (m := [7]) hR3 hb3 (Nat.le_refl _) (by simp; have := rchL_length (mdN k) cr; have := rchL_length (mdN k) true; omega) (by simp)).mono ?_
      rintro e w4 ⟨rfl, hR4, hb4⟩
      go_wp2_with fail
      go_meet
      exact ⟨by rw [show shQ k cr tk = _ by unfold shQ shp; rw [hkd]]; simpa only [List.append_assoc] using hR4, hb4⟩
    · rw [hkd]
      go_wp2_with fail
      refine (reach_any (mdN k) (mdN_lt13 k hk) true _ _ W w2 _ (Nat.le_refl _) hb2w hR2 (by simp)).mono ?_
      rintro e w3 ⟨rfl, hR3, hb3⟩
      go_wp2_with fail
      refine (add_new (m := [9]) hR3 hb3 (Nat.le_refl _) (by simp; have := rchL_length (mdN k) cr; have := rchL_length (mdN k) true; omega) (by simp)).mono ?_
      rintro e w4 ⟨rfl, hR4, hb4⟩
      go_wp2_with fail
      go_meet
      exact ⟨by rw [show shQ k cr tk = _ by unfold shQ shp; rw [hkd]]; simpa only [List.append_assoc] using hR4, hb4⟩
    · rw [hkd]
      go_wp2_with fail
      refine (reach_any (mdN k) (mdN_lt13 k hk) true _ _ W w2 _ (Nat.le_refl _) hb2w hR2 (by simp)).mono ?_
      rintro e w3 ⟨rfl, hR3, hb3⟩
      go_wp2_with fail
      refine (add_new (m := [7, 8, 9]) hR3 hb3 (Nat.le_refl _) (by simp; have := rchL_length (mdN k) cr; have := rchL_length (mdN k) true; omega) (by simp)).mono ?_
      rintro e w4 ⟨rfl, hR4, hb4⟩
      go_wp2_with fail
      go_meet
      exact ⟨by rw [show shQ k cr tk = _ by unfold shQ shp; rw [hkd]]; simpa only [List.append_assoc] using hR4, hb4⟩
    · rw [hkd]
      go_wp2_with fail
      refine (branch_any cr tk _ _ W w2 _ (Nat.le_refl _) hb2w hR2 (by simp)).mono ?_
      rintro e w3 ⟨rfl, hR3, hb3⟩
      go_wp2_with fail
      go_meet
      exact ⟨by rw [show shQ k cr tk = _ by unfold shQ shp; rw [hkd]]; simpa only [List.append_assoc] using hR3, hb3⟩
    · have t1 : ((kdN k : Int) == 1) = false := by rw [beq_eq_false_iff_ne]; omega
      have t2 : ((kdN k : Int) == 2) = false := by rw [beq_eq_false_iff_ne]; omega
      have t3 : ((kdN k : Int) == 3) = false := by rw [beq_eq_false_iff_ne]; omega
      have t4 : ((kdN k : Int) == 4) = false := by rw [beq_eq_false_iff_ne]; omega
      have t5 : ((kdN k : Int) == 5) = false := by rw [beq_eq_false_iff_ne]; omega
      have HD : Hid _ := hkd
      clear hkd
      go_wp2_with fail
      refine (rest_any k hk HD.out _ _ W w2 _ (Nat.le_refl _) hb2w hR2 (by simp)).mono ?_
      rintro e w3 ⟨rfl, hR3, hb3⟩
      go_wp2_with fail
      go_meet
      exact ⟨by rw [show shQ k cr tk = [0] ++ rsL (opN k) (mdN k) from shQ_rest HD.out]; exact hR3, hb3⟩
  case rest =>
  obtain ⟨hR3, hb3⟩ := hcut
  clear hR2 hb2w cw2 bw2
  have hsz : (runC (shQ k cr tk)).toArray.size = 9 := by simpa using runC_length hlen
  have h1 : (runC (shQ k cr tk)).toArray.all (·.oneCell') = true := all_oneCell_toArray runC_one
  have z3 := bz.below (by omega) hb3
  have hbw := hb0.trans (hb3.mono (by omega))
  obtain ⟨L, hL⟩ : ∃ L, L = (runC (shQ k cr tk)).toArray := ⟨_, rfl⟩
  rw [← hL] at hsz h1 hR3
  have HL := Hid.mk1' hL
  clear hL
  have HS := Hid.mk1' hsz
  have H1 := Hid.mk1' h1
  clear hsz h1 bw bz hb3 hb0 hlen
  go_upto_region 19 with fail
  go_wp2_with (first
    | refine wpList_load_mid rfl 68 _ rfl (w.heap.size + 1 + 1) 0 rfl L.toList _ hR3.range Tryd.underlying68 rfl (by rw [Array.length_toList, HS.out]; exact Tryd.infoRun) ?_
    | refine wpList_store_mid rfl 68 _ _ rfl (w.heap.size + 1) 0 L rfl rfl (by exact z3.there _ HS.out.symm) (by rw [HS.out]; exact Tryd.infoRun) H1.out ?_)
  refine bodyPost_ret (v := .agg L) ?_ rfl ⟨by rw [HL.out], setCells_below (by omega) _ _ _ _ hbw⟩
  rw [results_cell Tryd.results28]
  have hr := fun (W4 : World) (z4 : Blk W4 (w.heap.size + 1) Z9 68) => run_loadVar_mid (P := Tryd.prog) (W4.setCells (w.heap.size + 1) 0 L.toList) (w.heap.size + 1) 0 68 L.toList _ (World.rangeAt_setCells_same W4 (w.heap.size + 1) 0 L.toList (z4.there _ (by rw [Array.length_toList]; exact HS.out.symm))) Tryd.underlying68 rfl (by rw [Array.length_toList, HS.out]; exact Tryd.infoRun)
  simp only [Array.toArray_toList] at hr
  refine Eq.trans (b := ((asAddr (.pointer (some ⟨w.heap.size + 1, 0, none⟩))).run Tryd.prog _).andThen fun a w₁ => (loadVar 68 a).run Tryd.prog w₁) rfl ?_
  simp only [asAddr, Sem.run_pure, Result.andThen_ok]
  exact hr _ z3
end Go.Proofs.YtfdiplgjiidnbaaDoor
