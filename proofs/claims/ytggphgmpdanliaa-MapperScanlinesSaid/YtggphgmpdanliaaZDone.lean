/-
  What a step does to a board.
-/
import Derived.Test.YtggphgmpdanliaaYG
import Derived.Test.YtggphgmpdanliaaYWrite
import Derived.Test.YtggphgmpdanliaaMT
set_option linter.unusedSimpArgs false
set_option linter.unusedVariables false
namespace Go.Proofs.Ytggphgmpdanliaa
open Go.RowKit Classical
/-- What a step does. -/
def clockA (b : Bd) (n : Int) : Bd := if validB b = true ∧ 0 < n ∧ b.kind = 4 then clkB b n (b.sub == 4) else b
theorem clock_all (w : World) (b : Bd) (n : Int) (B : b.Wf) (hn : n ≤ 9223372036854775807) :
    Calls Try.prog 24 #[.agg b.cells, .int .i64 n] w fun e w' => e = .returned (.agg (clockA b n).cells) ∧ Below w.heap.size w w' := by
  unfold clockA
  by_cases hz : validB b = false ∨ n ≤ 0
  · rw [if_neg (by rintro ⟨h1, h2, -⟩; rcases hz with h | h; · rw [h] at h1; cases h1
                   · omega)]
    exact clockSame w b n B.rlen hz
  · have hv : validB b = true := by
      cases h : validB b
      · exact absurd (Or.inl h) hz
      · rfl
    have hn1 : 0 < n ∧ n ≤ 9223372036854775807 := ⟨by omega, hn⟩
    have o := Bd.ok B hv
    have hl := valid_lst hv
    rcases o.kd with hk | hk | hk | hk | hk | hk
    · rw [if_neg (by omega)]
      have h := clockM_0 w b n B hn1 hk hl (valid_kk (validB_0 hk) hv).2
      rwa [o.v0 hk] at h
    · rw [if_neg (by omega)]
      have h := clockM_1 w b n B hn1 hk hl (valid_kk (validB_1 hk) hv).2
      rwa [o.v1 hk] at h
    · rw [if_neg (by omega)]
      have h := clockM_2 w b n B hn1 hk hl (valid_kk (validB_2 hk) hv).2
      rwa [o.v2 hk] at h
    · rw [if_neg (by omega)]
      have h := clockM_3 w b n B hn1 hk hl (valid_kk (validB_3 hk) hv).2
      rwa [o.v3 hk] at h
    · rw [if_pos ⟨hv, hn1.1, hk⟩]
      have h := clockM_4 w b n B hn1 hk hl (valid_kk (validB_4 hk) hv).2
      rwa [n4_clkB b n _ (o.v4 hk)] at h
    · rw [if_neg (by omega)]
      have h := clockM_7 w b n B hn1 hk hl (valid_kk (validB_7 hk) hv).2
      rwa [o.v7 hk] at h
theorem clkB_bd {b : Bd} (o : b.Ok) (n : Int) (h : 0 < n) : 0 ≤ (clkB b n (b.sub == 4)).iCount ∧ (clkB b n (b.sub == 4)).iCount ≤ 255 := by
  rw [clkB_eq]
  have := cN_bd b.iCount b.iLatch n o.wf.iCount.1 o.wf.iLatch.1 (by omega)
  have h1 := o.wf.iCount.2
  have h2 := o.wf.iLatch.2
  exact ⟨this.1, by have := this.2; simp only; omega⟩
theorem clockA_ok {b : Bd} (o : b.Ok) (n : Int) : (clockA b n).Ok := by
  unfold clockA
  split
  · rename_i h
    obtain ⟨f1, f2⟩ := o.fits h.2.2
    obtain ⟨q1, q2, q3, _⟩ := o.r4 h.2.2
    have cb := clkB_bd o n h.2.1
    have W := o.wf
    have e := clkB_eq b n (b.sub == 4)
    have ao : ∀ x : Bool, (b.irq || askV b (zeroV b (b.sub == 4)) n) = true → b.iOn = true := fun _ hh => by
      rcases Bool.or_eq_true_iff.1 hh with hh | hh
      · exact f2 hh
      · unfold askV at hh
        exact (Bool.and_eq_true_iff.1 hh).1
    rw [e] at cb ⊢
    exact o.scn h.2.2 b.sel b.r b.turn b.guard b.iLatch _ false b.iOn _ W.sel.1 W.sel.2 q1 W.rlen W.rall W.turn.1 q2 W.guard.1 W.guard.2 q3 W.iLatch.1 W.iLatch.2 cb.1 cb.2 (fun h => by cases h) (ao true)
  · exact o
theorem clockA_fix (b : Bd) (n : Int) : (clockA b n).kind = b.kind ∧ (clockA b n).sub = b.sub ∧ (clockA b n).hard = b.hard ∧ (clockA b n).work = b.work ∧ (clockA b n).prg = b.prg ∧ (clockA b n).chr = b.chr ∧ (clockA b n).chrRam = b.chrRam ∧ (clockA b n).epoch = b.epoch := by
  unfold clockA
  split
  · exact ⟨rfl, rfl, rfl, rfl, rfl, rfl, rfl, rfl⟩
  · exact ⟨rfl, rfl, rfl, rfl, rfl, rfl, rfl, rfl⟩
def doneB (b : Bd) (s : Sp) : Bd := if s.k = 0 then wrA b s.a s.v s.u s.c else clockA b s.n
theorem wrA_okk {b : Bd} (o : b.Ok) (a v u c : Int) (v0 : 0 ≤ v) (v1 : v ≤ 255) (u0 : 0 ≤ u) (u1 : u ≤ 255) (c1 : c ≤ 9223372036854775807) : (wrA b a v u c).Ok := by
  unfold wrA
  split
  · rename_i h
    exact wrB_ok o a v u c v0 v1 u0 u1 h.2.2 c1
  · exact o
theorem wrA_fix (b : Bd) (a v u c : Int) : (wrA b a v u c).kind = b.kind ∧ (wrA b a v u c).sub = b.sub ∧ (wrA b a v u c).hard = b.hard ∧ (wrA b a v u c).work = b.work ∧ (wrA b a v u c).prg = b.prg ∧ (wrA b a v u c).chr = b.chr ∧ (wrA b a v u c).chrRam = b.chrRam := by
  unfold wrA
  split
  · exact wrB_fix b a v u c
  · exact ⟨rfl, rfl, rfl, rfl, rfl, rfl, rfl⟩
theorem wrA_wf {b : Bd} (B : b.Wf) (a v u c : Int) (v0 : 0 ≤ v) (v1 : v ≤ 255) (u0 : 0 ≤ u) (u1 : u ≤ 255) (c1 : c ≤ 9223372036854775807) : (wrA b a v u c).Wf := by
  unfold wrA
  split
  · rename_i h
    exact (wrB_ok (Bd.ok B h.1) a v u c v0 v1 u0 u1 h.2.2 c1).wf
  · exact B
theorem doneB_ok {b : Bd} (o : b.Ok) {s : Sp} (h : s.Ok) : (doneB b s).Ok := by
  unfold doneB
  split
  · exact wrA_okk o _ _ _ _ h.v.1 h.v.2 h.u.1 h.u.2 h.c.2
  · exact clockA_ok o _
theorem doneB_fix (b : Bd) (s : Sp) : (doneB b s).kind = b.kind ∧ (doneB b s).sub = b.sub ∧ (doneB b s).hard = b.hard ∧ (doneB b s).work = b.work ∧ (doneB b s).prg = b.prg ∧ (doneB b s).chr = b.chr ∧ (doneB b s).chrRam = b.chrRam := by
  unfold doneB
  split
  · exact wrA_fix b _ _ _ _
  · have h := clockA_fix b s.n
    exact ⟨h.1, h.2.1, h.2.2.1, h.2.2.2.1, h.2.2.2.2.1, h.2.2.2.2.2.1, h.2.2.2.2.2.2.1⟩
set_option maxRecDepth 100000 in
set_option maxHeartbeats 1000000 in
theorem done_any (w : World) (b : Bd) (s : Sp) (B : b.Wf) (o : s.Ok) :
    Calls Try.prog 21 #[.agg b.cells, .agg s.cells] w fun e w' => e = .returned (.agg (doneB b s).cells) ∧ Below w.heap.size w w' := by
  have HR : Hid _ := B.rlen
  have W1 : Hid _ := fun (W : World) => write_all W b s.a s.v s.u s.c B o.a.2 o.v.1 o.v.2 o.u.1 o.u.2 o.c.2
  have C1 : Hid _ := fun (W : World) => clock_all W b s.n B o.n.2
  have L1 : Hid ((wrA b s.a s.v s.u s.c).r.length = 8) := (wrA_wf B s.a s.v s.u s.c o.v.1 o.v.2 o.u.1 o.u.2 o.c.2).rlen
  have L2 : Hid ((clockA b s.n).r.length = 8) := by unfold Hid clockA; split <;> exact B.rlen
  have DD : Hid (doneB b s = if s.k = 0 then wrA b s.a s.v s.u s.c else clockA b s.n) := rfl
  clear B o
  go_enter Try.func21, Try.ntmps21
  go_upto_region 1 with fail
  have s0 : G w [(w.heap.size, b.cells, 28), (w.heap.size + 1, s.cells, 34), (w.heap.size + 2, Z31, 28)] (((w.alloc (.cells b.cells 28)).alloc (.cells s.cells 34)).alloc (.cells Z31 28)) :=
    ⟨fun p hp => by
      simp only [List.mem_cons, List.not_mem_nil, or_false] at hp
      rcases hp with rfl | rfl | rfl
      · exact ((Blk.new w _ _).old _).old _
      · have := (Blk.new (w.alloc (.cells b.cells 28)) s.cells 34).old (.cells Z31 28); rwa [World.size_alloc] at this
      · have := Blk.new ((w.alloc (.cells b.cells 28)).alloc (.cells s.cells 34)) Z31 28; rwa [World.size_alloc, World.size_alloc] at this, (((Below.refl _ _).alloc (Nat.le_refl _) _).alloc (by simp) _).alloc (by simp; omega) _⟩
  change Code.wp _ _ _ _ (((w.alloc (.cells b.cells 28)).alloc (.cells s.cells 34)).alloc (.cells Z31 28))
  generalize (((w.alloc (.cells b.cells 28)).alloc (.cells s.cells 34)).alloc (.cells Z31 28)) = W0 at *
  have d0 : W0.cell? ⟨w.heap.size + 1, 0, none⟩ = some (.int .i64 s.k) := (s0.blk (w.heap.size + 1) s.cells 34 (by simp)).cell 0
  have d1 : W0.cell? ⟨w.heap.size + 1, 1, none⟩ = some (.int .u16 s.a) := (s0.blk (w.heap.size + 1) s.cells 34 (by simp)).cell 1
  have d2 : W0.cell? ⟨w.heap.size + 1, 2, none⟩ = some (.int .u8 s.v) := (s0.blk (w.heap.size + 1) s.cells 34 (by simp)).cell 2
  have d3 : W0.cell? ⟨w.heap.size + 1, 3, none⟩ = some (.int .u8 s.u) := (s0.blk (w.heap.size + 1) s.cells 34 (by simp)).cell 3
  have d4 : W0.cell? ⟨w.heap.size + 1, 4, none⟩ = some (.int .i64 s.c) := (s0.blk (w.heap.size + 1) s.cells 34 (by simp)).cell 4
  have d5 : W0.cell? ⟨w.heap.size + 1, 5, none⟩ = some (.int .i64 s.n) := (s0.blk (w.heap.size + 1) s.cells 34 (by simp)).cell 5
  by_cases hk : s.k = 0
  · have EF : Hid (doneB b s = wrA b s.a s.v s.u s.c) := by unfold Hid; rw [DD.out, if_pos hk]
    have hb : (s.k == 0) = true := by simpa using hk
    have DL : Hid _ := L1.out
    clear hk DD
    go_wp2_with (refine wpList_load_mid rfl 28 _ rfl (w.heap.size) 0 rfl (b).cells.toList _ (s0.blk (w.heap.size) (b).cells 28 (by simp)).range Try.underlying28 rfl (by rw [Array.length_toList]; exact infoB' _ HR.out) ?_)
    refine (W1.out _).mono ?_
    rintro e W1' ⟨rfl, hb1⟩
    replace s0 := s0.on hb1
    clear hb1 W1 C1 d0 d1 d2 d3 d4 d5
    have Hs : Hid _ := (isB (wrA b s.a s.v s.u s.c) DL.out).size
    have H1 : Hid _ := (isB (wrA b s.a s.v s.u s.c) DL.out).one
    have z7 := s0.blk (w.heap.size + 2) Z31 28 (by simp)
    have b7 := s0.2
    clear s0
    generalize hL : (wrA b s.a s.v s.u s.c).cells = L at *
    have HL : Hid _ := hL
    clear hL
    go_wp2_with (refine wpList_store_mid rfl 28 _ _ rfl (w.heap.size + 2) 0 L rfl rfl (by exact z7.there _ Hs.out.symm) (by rw [Hs.out]; exact Try.infoBoard) H1.out ?_)
    exact ret_agg (m := w.heap.size + 2) (L := L) Try.results21 (by rfl) (z7.setAll L Hs.out) Try.underlying28 rfl (by rw [Hs.out]; exact Try.infoBoard) ⟨by rw [EF.out, HL.out], setCells_below (by omega) _ _ _ _ b7⟩
  · have EF : Hid (doneB b s = clockA b s.n) := by unfold Hid; rw [DD.out, if_neg hk]
    have hb : (s.k == 0) = false := by simpa using hk
    have DL : Hid _ := L2.out
    clear hk DD
    go_wp2_with (refine wpList_load_mid rfl 28 _ rfl (w.heap.size) 0 rfl (b).cells.toList _ (s0.blk (w.heap.size) (b).cells 28 (by simp)).range Try.underlying28 rfl (by rw [Array.length_toList]; exact infoB' _ HR.out) ?_)
    refine (C1.out _).mono ?_
    rintro e W1' ⟨rfl, hb1⟩
    replace s0 := s0.on hb1
    clear hb1 W1 C1 d0 d1 d2 d3 d4 d5
    have Hs : Hid _ := (isB (clockA b s.n) DL.out).size
    have H1 : Hid _ := (isB (clockA b s.n) DL.out).one
    have z7 := s0.blk (w.heap.size + 2) Z31 28 (by simp)
    have b7 := s0.2
    clear s0
    generalize hL : (clockA b s.n).cells = L at *
    have HL : Hid _ := hL
    clear hL
    go_wp2_with (refine wpList_store_mid rfl 28 _ _ rfl (w.heap.size + 2) 0 L rfl rfl (by exact z7.there _ Hs.out.symm) (by rw [Hs.out]; exact Try.infoBoard) H1.out ?_)
    exact ret_agg (m := w.heap.size + 2) (L := L) Try.results21 (by rfl) (z7.setAll L Hs.out) Try.underlying28 rfl (by rw [Hs.out]; exact Try.infoBoard) ⟨by rw [EF.out, HL.out], setCells_below (by omega) _ _ _ _ b7⟩
end Go.Proofs.Ytggphgmpdanliaa
