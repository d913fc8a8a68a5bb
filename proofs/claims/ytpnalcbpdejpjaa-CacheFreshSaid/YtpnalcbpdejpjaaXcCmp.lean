/-
  What inOrder compares by.
-/
import Derived.Test.YtpnalcbpdejpjaaXcGet2
import Derived.Sort.Grow
set_option linter.unusedSimpArgs false
set_option linter.unusedVariables false
namespace Go.Proofs.Ytpnalcbpdejpjaa
open Go.RowKit Classical
/-- cmp.Compare of numbers. -/
def cpI (x y : Int) : Int := if x < y then -1 else if y < x then 1 else 0
/-- cmp.Or of two numbers. -/
def orI (a b : Int) : Int := if a = 0 then b else a
set_option maxRecDepth 100000 in
set_option maxHeartbeats 4000000 in
theorem nan_u (x : Int) (w : World) : Calls Try.prog 75 #[.int .u16 x] w fun e w' => e = .returned (.bool false) ∧ w' = w := by
  go_enter Try.func75, Try.ntmps75
  go_wp2
  go_ret
  exact ⟨by simp, rfl⟩
set_option maxRecDepth 100000 in
set_option maxHeartbeats 4000000 in
theorem cmp_u (x y : Int) (w : World) : Calls Try.prog 68 #[.int .u16 x, .int .u16 y] w fun e w' => e = .returned (.int .i64 (cpI x y)) ∧ w' = w := by
  have N : Hid (∀ z W, Calls _ _ _ W _) := fun z W => nan_u z W
  have hc : (x < y ∧ cpI x y = -1) ∨ (¬ x < y ∧ y < x ∧ cpI x y = 1) ∨ (¬ x < y ∧ ¬ y < x ∧ cpI x y = 0) := by
    unfold cpI
    by_cases h1 : x < y
    · exact .inl ⟨h1, by rw [if_pos h1]⟩
    · by_cases h2 : y < x
      · exact .inr (.inl ⟨h1, h2, by rw [if_neg h1, if_pos h2]⟩)
      · exact .inr (.inr ⟨h1, h2, by rw [if_neg h1, if_neg h2]⟩)
  rcases hc with ⟨h1, e⟩ | ⟨h1, h2, e⟩ | ⟨h1, h2, e⟩ <;> rw [e]
  all_goals
    go_enter Try.func68, Try.ntmps68
    go_wp2_with (go_at_call 75; go_must (refine (N.out _ _).mono ?_; rintro e W5 ⟨rfl, hw⟩; obtain rfl := hw.symm))
    go_ret
    exact ⟨rfl, rfl⟩
set_option maxRecDepth 100000 in
set_option maxHeartbeats 4000000 in
theorem nan_i (x : Int) (w : World) : Calls Try.prog 76 #[.int .i64 x] w fun e w' => e = .returned (.bool false) ∧ w' = w := by
  go_enter Try.func76, Try.ntmps76
  go_wp2
  go_ret
  exact ⟨by simp, rfl⟩
set_option maxRecDepth 100000 in
set_option maxHeartbeats 4000000 in
theorem cmp_i (x y : Int) (w : World) : Calls Try.prog 69 #[.int .i64 x, .int .i64 y] w fun e w' => e = .returned (.int .i64 (cpI x y)) ∧ w' = w := by
  have N : Hid (∀ z W, Calls _ _ _ W _) := fun z W => nan_i z W
  have hc : (x < y ∧ cpI x y = -1) ∨ (¬ x < y ∧ y < x ∧ cpI x y = 1) ∨ (¬ x < y ∧ ¬ y < x ∧ cpI x y = 0) := by
    unfold cpI
    by_cases h1 : x < y
    · exact .inl ⟨h1, by rw [if_pos h1]⟩
    · by_cases h2 : y < x
      · exact .inr (.inl ⟨h1, h2, by rw [if_neg h1, if_pos h2]⟩)
      · exact .inr (.inr ⟨h1, h2, by rw [if_neg h1, if_neg h2]⟩)
  rcases hc with ⟨h1, e⟩ | ⟨h1, h2, e⟩ | ⟨h1, h2, e⟩ <;> rw [e]
  all_goals
    go_enter Try.func69, Try.ntmps69
    go_wp2_with (go_at_call 76; go_must (refine (N.out _ _).mono ?_; rintro e W5 ⟨rfl, hw⟩; obtain rfl := hw.symm))
    go_ret
    exact ⟨rfl, rfl⟩
set_option maxRecDepth 100000 in
set_option maxHeartbeats 4000000 in
theorem or_any (b c : Nat) (x y : Int) (w : World) (h0 : w.cell? ⟨b, 0, none⟩ = some (.int .i64 x)) (h1 : w.cell? ⟨b, 1, none⟩ = some (.int .i64 y)) :
    Calls Try.prog 67 #[.slice (some ⟨b, 0, none⟩) 2 c] w fun e w' => e = .returned (.int .i64 (orI x y)) ∧ w' = w := by
  go_enter Try.func67, Try.ntmps67
  go_upto_region 3 with fail
  go_loopw [8] (fun i wr => wr = w ∧ (i = .int .i64 0 ∨ (i = .int .i64 1 ∧ x = 0) ∨ (i = .int .i64 2 ∧ x = 0 ∧ y = 0))) (fun i _ => (2 - intOf i).toNat)
  case atStart => exact ⟨rfl, .inl rfl⟩
  case round =>
    obtain ⟨rfl, rfl | ⟨rfl, rfl⟩ | ⟨rfl, rfl, rfl⟩⟩ := hrel
    · by_cases hx : x = 0
      · subst hx
        go_wp2
        go_roundw
        case rel => exact ⟨trivial, .inr (.inl ⟨by go_num, trivial⟩)⟩
        case measure => simp [intOf]
      · go_wp2
        go_ret
        exact ⟨by rw [orI, if_neg hx]; rfl, rfl⟩
    · by_cases hy : y = 0
      · subst hy
        go_wp2
        go_roundw
        case rel => exact ⟨trivial, .inr (.inr ⟨by go_num, trivial, trivial⟩)⟩
        case measure => simp [intOf]
      · go_wp2
        go_ret
        exact ⟨by rw [orI, if_pos rfl]; rfl, rfl⟩
    · go_wp2
      go_ret
      exact ⟨rfl, rfl⟩
/-- The worlds of the closure: both keys' boxes. -/
structure Cs (w : World) (X Y : Array Value) (v : World) : Prop where
  x : Blk v w.heap.size X 24
  y : Blk v (w.heap.size + 1) Y 24
  g : ∃ q os, v = Sort.grow (w.drewN q) os
theorem gr_alloc {w v : World} (h : ∃ q os, v = Sort.grow (w.drewN q) os) (o : Obj) : ∃ q os, v.alloc o = Sort.grow (w.drewN q) os := by
  obtain ⟨q, os, rfl⟩ := h
  exact ⟨q, os ++ #[o], by rw [Sort.alloc_eq_grow, Sort.grow_grow]⟩
theorem gr_drew {w v : World} (h : ∃ q os, v = Sort.grow (w.drewN q) os) : ∃ q os, v.drew = Sort.grow (w.drewN q) os := by
  obtain ⟨q, os, rfl⟩ := h
  exact ⟨q + 1, os, by simp [Sort.grow, World.drew, World.drewN, Nat.add_assoc]⟩
theorem gr_refl (w : World) : ∃ q os, w = Sort.grow (w.drewN q) os := ⟨0, #[], by simp [Sort.grow, World.drewN]⟩
set_option maxRecDepth 100000 in
set_option maxHeartbeats 4000000 in
theorem less_any (xp xt yp yt : Int) (w : World) : Calls Try.prog 66 #[.agg #[.int .u16 xp, .int .i64 xt], .agg #[.int .u16 yp, .int .i64 yt]] w fun e w' => e = .returned (.int .i64 (orI (cpI xp yp) (cpI xt yt))) ∧ ∃ q os, w' = Sort.grow (w.drewN q) os := by
  have s0 : Cs w #[.int .u16 xp, .int .i64 xt] #[.int .u16 yp, .int .i64 yt] ((w.alloc (.cells #[.int .u16 xp, .int .i64 xt] 24)).alloc (.cells #[.int .u16 yp, .int .i64 yt] 24)) := ⟨(Blk.new w _ _).old _, by have := Blk.new (w.alloc (.cells #[.int .u16 xp, .int .i64 xt] 24)) #[.int .u16 yp, .int .i64 yt] 24; simpa using this, gr_alloc (gr_alloc (gr_refl w) _) _⟩
  go_enter Try.func66, Try.ntmps66
  go_upto_region 1 with fail
  generalize ((w.alloc (.cells #[.int .u16 xp, .int .i64 xt] 24)).alloc (.cells #[.int .u16 yp, .int .i64 yt] 24)) = W0 at *
  replace s0 : Cs w #[.int .u16 xp, .int .i64 xt] #[.int .u16 yp, .int .i64 yt] W0.drew := ⟨s0.x.drew, s0.y.drew, gr_drew s0.g⟩
  go_cut [4] (fun a wx => a = .int .i64 (orI (cpI xp yp) (cpI xt yt)) ∧ Cs w #[.int .u16 xp, .int .i64 xt] #[.int .u16 yp, .int .i64 yt] wx)
  case first =>
    rename_i J0 K0 hJ0 hK0
    refine wp_region_held (S := Cs w #[.int .u16 xp, .int .i64 xt] #[.int .u16 yp, .int .i64 yt]) (by kernel_rfl) ?_
    refine takeH (i := 0) (v := .pointer (some ⟨w.heap.size, 0, none⟩)) _ rfl (by kernel_rfl) (by kernel_rfl) (by kernel_rfl) (fun _ _ _ h => h) (.inl ⟨by kernel_rfl, fun _ _ => by kernel_rfl⟩) s0 rfl ?_
    refine takeH (i := 1) (v := .int .u16 xp) _ rfl (by kernel_rfl) (by kernel_rfl) (by kernel_rfl) (fun _ _ _ h => h) (.inl ⟨by kernel_rfl, fun v hv => by have c : v.cell? ⟨w.heap.size, 0, none⟩ = some (.int .u16 xp) := hv.x.cell 0; go_simp⟩) s0 rfl ?_
    refine takeH (i := 2) (v := .pointer (some ⟨w.heap.size + 1, 0, none⟩)) _ rfl (by kernel_rfl) (by kernel_rfl) (by kernel_rfl) (fun _ _ _ h => h) (.inl ⟨by kernel_rfl, fun _ _ => by kernel_rfl⟩) s0 rfl ?_
    refine takeH (i := 3) (v := .int .u16 yp) _ rfl (by kernel_rfl) (by kernel_rfl) (by kernel_rfl) (fun _ _ _ h => h) (.inl ⟨by kernel_rfl, fun v hv => by have c : v.cell? ⟨w.heap.size + 1, 0, none⟩ = some (.int .u16 yp) := hv.y.cell 0; go_simp⟩) s0 rfl ?_
    refine takeH (i := 5) (v := .pointer (some ⟨w.heap.size, 1, none⟩)) _ rfl (by kernel_rfl) (by kernel_rfl) (by kernel_rfl) (fun _ _ _ h => h) (.inl ⟨by kernel_rfl, fun _ _ => by kernel_rfl⟩) s0 rfl ?_
    refine takeH (i := 6) (v := .int .i64 xt) _ rfl (by kernel_rfl) (by kernel_rfl) (by kernel_rfl) (fun _ _ _ h => h) (.inl ⟨by kernel_rfl, fun v hv => by have c : v.cell? ⟨w.heap.size, 1, none⟩ = some (.int .i64 xt) := hv.x.cell 1; go_simp⟩) s0 rfl ?_
    refine takeH (i := 7) (v := .pointer (some ⟨w.heap.size + 1, 1, none⟩)) _ rfl (by kernel_rfl) (by kernel_rfl) (by kernel_rfl) (fun _ _ _ h => h) (.inl ⟨by kernel_rfl, fun _ _ => by kernel_rfl⟩) s0 rfl ?_
    refine takeH (i := 8) (v := .int .i64 yt) _ rfl (by kernel_rfl) (by kernel_rfl) (by kernel_rfl) (fun _ _ _ h => h) (.inl ⟨by kernel_rfl, fun v hv => by have c : v.cell? ⟨w.heap.size + 1, 1, none⟩ = some (.int .i64 yt) := hv.y.cell 1; go_simp⟩) s0 rfl ?_
    refine callH (i := 4) (f := 68) (v := .int .i64 (cpI xp yp)) _ (by kernel_rfl) rfl (by kernel_rfl) (by kernel_rfl) (cmp_u xp yp _) rfl ?_
    rintro _ rfl
    refine ⟨s0, ?_⟩
    refine callH (i := 9) (f := 69) (v := .int .i64 (cpI xt yt)) _ (by kernel_rfl) rfl (by kernel_rfl) (by kernel_rfl) (cmp_i xt yt _) rfl ?_
    rintro _ rfl
    refine ⟨s0, ?_⟩
    obtain ⟨qb, hqb⟩ : ∃ qh, qh = (W0.drew).heap.size := ⟨_, rfl⟩
    obtain ⟨V4, hv4⟩ : ∃ V', V' = (W0.drew).alloc (.cells #[.int .i64 (cpI xp yp), .int .i64 (cpI xt yt)] 3) := ⟨_, rfl⟩
    have s4 : Cs w #[.int .u16 xp, .int .i64 xt] #[.int .u16 yp, .int .i64 yt] V4 := by rw [hv4]; exact ⟨s0.x.old _, s0.y.old _, gr_alloc s0.g _⟩
    have y4 : Blk V4 qb #[.int .i64 (cpI xp yp), .int .i64 (cpI xt yt)] 3 := by rw [hv4, hqb]; exact Blk.new (W0.drew) _ _
    refine worldH (i := 10) (v := .slice (some ⟨qb, 0, none⟩) 2 2) (w1 := V4) _ (by kernel_rfl) rfl (by kernel_rfl) (by subst hqb; subst hv4; kernel_rfl) rfl ⟨s4, ?_⟩
    refine callH (i := 11) (f := 67) (v := .int .i64 (orI (cpI xp yp) (cpI xt yt))) _ (by kernel_rfl) rfl (by kernel_rfl) (by kernel_rfl) (or_any qb 2 _ _ _ (y4.cell 0) (y4.cell 1)) rfl ?_
    rintro _ rfl
    refine ⟨s4, ?_⟩
    refine takeH (i := 12) (v := .int .i64 (orI (cpI xp yp) (cpI xt yt))) _ rfl (by kernel_rfl) (by kernel_rfl) (by kernel_rfl) (fun _ _ _ h => h) (.inl ⟨by kernel_rfl, fun _ _ => by kernel_rfl⟩) s4 rfl ?_
    refine wpAnyH_done (by kernel_rfl) ?_ _
    exact hK0 _ _ (Met.intro (hJ0 _ _ ⟨.int .i64 (orI (cpI xp yp) (cpI xt yt)), .pointer (some ⟨w.heap.size, 0, none⟩), .int .u16 xp, .pointer (some ⟨w.heap.size + 1, 0, none⟩), .int .u16 yp, .int .i64 (cpI xp yp), .pointer (some ⟨w.heap.size, 1, none⟩), .int .i64 xt, .pointer (some ⟨w.heap.size + 1, 1, none⟩), .int .i64 yt, .int .i64 (cpI xt yt), .slice (some ⟨qb, 0, none⟩) 2 2, .int .i64 (orI (cpI xp yp) (cpI xt yt)), ⟨rfl, s4⟩, by kernel_rfl⟩))
  case rest =>

    obtain ⟨rfl, s1⟩ := hcut
    go_wp2
    go_ret
    exact ⟨rfl, s1.g⟩
end Go.Proofs.Ytpnalcbpdejpjaa
