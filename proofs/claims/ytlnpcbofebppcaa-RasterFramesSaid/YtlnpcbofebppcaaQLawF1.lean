/-
  The law RasterFrames returns true elsewhere.
-/
import Derived.Test.YtlnpcbofebppcaaQSt3
import Derived.Test.YtlnpcbofebppcaaQNear
import Derived.Test.YtlnpcbofebppcaaQAdv
import Derived.Test.YtlnpcbofebppcaaQFrm
set_option linter.unusedSimpArgs false
set_option linter.unusedVariables false
namespace Go.Proofs.Ytlnpcbofebppcaa
open Go.RowKit Classical
set_option maxHeartbeats 2000000 in
theorem frames_else (r : Rs) (w : World) (o : r.Ok) (hx : r.nr.V) (hco : ¬ (r.nr.line = 261 ∧ r.nr.dot = 340)) :
    Calls Try.prog 6 #[.agg r.cells] w fun e w' => e = .returned (.bool true) ∧ Below w.heap.size w w' := by
  have NR : Hid _ := fun (W : World) => near_any r W o
  clear o
  generalize r.nr = x at *
  have v1 : ({ x with draw := true } : Rs).V := Rs.V.alter hx rfl rfl rfl rfl
  have v2 : ({ x with draw := false } : Rs).V := Rs.V.alter hx rfl rfl rfl rfl
  have A1 : Hid _ := fun (W : World) => adv_any { x with draw := true } 59561 W v1.ok (by decide) (by decide)
  have A2 : Hid _ := fun (W : World) => adv_any { x with draw := false } 89342 W v2.ok (by decide) (by decide)
  have A3 : Hid _ := fun (W : World) => adv_any { x with draw := false } 59561 W v2.ok (by decide) (by decide)
  obtain ⟨a1, a2, a3, a4, a5⟩ := Rs.frames_drawn v1 rfl (fun h1 h2 => absurd (And.intro h1 h2) hco)
  obtain ⟨b1, b2, b3, b4, b5⟩ := Rs.frames_blank v2 rfl
  rw [a5] at A1
  rw [b4] at A2
  simp only at a1 a2 a3 b1 b2 b3 b5
  clear v1 v2 hx a5 b4
  generalize hp : ({ x with draw := false } : Rs).advK 59561 = kk at *
  generalize Rs.adv { x with draw := true } 59561 = a at *
  generalize Rs.adv { x with draw := false } 89342 = bb at *
  generalize Rs.adv { x with draw := false } 59561 = c at *
  clear hp
  go_enter Try.func6, Try.ntmps6
  go_upto_region 1 with fail
  have s0 : St w [(w.heap.size, r)] (w.alloc (.cells r.cells 23)) := St.start w r
  generalize w.alloc (.cells r.cells 23) = W0 at *
  go_upto_region 2 with (first
    | (refine wpList_load_blk rfl 23 _ rfl w.heap.size rfl (Rs.cells r) _ (s0.blk w.heap.size r (by simp)) Try.underlying23 rfl (infoR' _) ?_)
    | (go_at_call 9; refine (NR.out _).mono ?_; rintro e Wx ⟨rfl, hbx⟩; replace s0 := s0.on hbx; clear hbx)
    | (refine wpList_store_blk rfl 23 _ _ rfl w.heap.size _ (Rs.cells x) 23 rfl rfl (s0.blk w.heap.size _ (List.mem_cons_self ..)) rfl (infoR' _) (Rs.cells_one _) w.heap.size w (Nat.le_refl _) s0.2 ?_; intro Wy by1 hby hoy; replace s0 := St.sto s0 (by simp) by1 hby hoy; clear by1 hby hoy))
  have f0 : _ = some (Value.int .i64 (x).line) := (s0.blk w.heap.size x (by simp)).cell 0
  have f1 : _ = some (Value.int .i64 (x).dot) := (s0.blk w.heap.size x (by simp)).cell 1
  have f2 : _ = some (Value.bool (x).odd) := (s0.blk w.heap.size x (by simp)).cell 2
  have f3 : _ = some (Value.bool (x).vbl) := (s0.blk w.heap.size x (by simp)).cell 3
  have f4 : _ = some (Value.bool (x).nmi) := (s0.blk w.heap.size x (by simp)).cell 4
  have f5 : _ = some (Value.bool (x).draw) := (s0.blk w.heap.size x (by simp)).cell 5
  have f6 : _ = some (Value.bool (x).hold) := (s0.blk w.heap.size x (by simp)).cell 6
  have ff := (s0.blk w.heap.size x (by simp)).free
  have hcb : ((x.line == 261) && (x.dot == 340)) = false := by
    cases h8 : (x.line == 261)
    · rfl
    · cases h9 : (x.dot == 340)
      · rfl
      · exfalso; simp at h8 h9; exact hco ⟨h8, h9⟩
  have sH : Hid (St _ _ _) := s0
  clear s0
  cases hxl : (x.line == 261)
  all_goals
    first | (rw [hxl] at hcb; simp only [Bool.true_and] at hcb) | skip
    go_upto_region 5 with fail
    have s0 := sH.out.fld (d := { x with draw := true }) (by simp) (Nat.le_refl _) 5 (.bool true) rfl
    clear sH f0 f1 f2 f3 f4 f5 f6 ff hxl hcb
    generalize World.setCell _ _ _ = Wf at *
    go_upto_region 6 with (first
      | (refine wpList_load_blk rfl 23 _ rfl w.heap.size rfl (Rs.cells { x with draw := true }) _ (s0.blk w.heap.size { x with draw := true } (by simp)) Try.underlying23 rfl (infoR' _) ?_)
      | (go_at_call 23; refine (A1.out _).mono ?_; rintro e Wx ⟨rfl, hbx⟩; replace s0 := s0.on hbx; clear hbx)
      | (refine wpList_store_blk rfl 23 _ _ rfl Wx.heap.size zeroR.cells (Rs.cells a) 23 rfl rfl (Blk.new Wx _ _) rfl (infoR' _) (Rs.cells_one _) w.heap.size w s0.2.size (s0.2.alloc s0.2.size _) ?_; intro Wy by1 hby hoy; have hlt : w.heap.size < Wx.heap.size := (s0.blk w.heap.size { x with draw := true } (by simp)).lt; replace s0 := St.more s0 by1 hby hoy; clear by1 hby hoy))
    generalize Wx.heap.size = m1 at *
    replace s0 : St w [(w.heap.size, { x with draw := true }), (m1, a)] _ := St.sub s0 (by simp)
    have f0 : _ = some (Value.int .i64 ({ x with draw := true }).line) := (s0.blk w.heap.size { x with draw := true } (by simp)).cell 0
    have f1 : _ = some (Value.int .i64 ({ x with draw := true }).dot) := (s0.blk w.heap.size { x with draw := true } (by simp)).cell 1
    have f2 : _ = some (Value.bool ({ x with draw := true }).odd) := (s0.blk w.heap.size { x with draw := true } (by simp)).cell 2
    have f3 : _ = some (Value.bool ({ x with draw := true }).vbl) := (s0.blk w.heap.size { x with draw := true } (by simp)).cell 3
    have f4 : _ = some (Value.bool ({ x with draw := true }).nmi) := (s0.blk w.heap.size { x with draw := true } (by simp)).cell 4
    have f5 : _ = some (Value.bool ({ x with draw := true }).draw) := (s0.blk w.heap.size { x with draw := true } (by simp)).cell 5
    have f6 : _ = some (Value.bool ({ x with draw := true }).hold) := (s0.blk w.heap.size { x with draw := true } (by simp)).cell 6
    have ff := (s0.blk w.heap.size { x with draw := true } (by simp)).free
    simp only at f0 f1 f2 f3 f4 f5 f6
    have sH : Hid (St _ _ _) := s0
    clear s0
    go_upto_region 7 with fail
    have s0 := sH.out.fld (d := { x with draw := false }) (by simp; omega) (Nat.le_refl _) 5 (.bool false) rfl
    clear sH f0 f1 f2 f3 f4 f5 f6 ff
    generalize World.setCell _ _ _ = Wg at *
    go_upto_region 8 with (first
      | (refine wpList_load_blk rfl 23 _ rfl w.heap.size rfl (Rs.cells { x with draw := false }) _ (s0.blk w.heap.size { x with draw := false } (by simp)) Try.underlying23 rfl (infoR' _) ?_)
      | (go_at_call_of 23 (Value.agg (Rs.cells { x with draw := false })); refine (A2.out _).mono ?_; rintro e Wx ⟨rfl, hbx⟩; replace s0 := s0.on hbx; clear hbx)
      | (refine wpList_store_blk rfl 23 _ _ rfl Wx.heap.size zeroR.cells (Rs.cells bb) 23 rfl rfl (Blk.new Wx _ _) rfl (infoR' _) (Rs.cells_one _) w.heap.size w s0.2.size (s0.2.alloc s0.2.size _) ?_; intro Wy by1 hby hoy; have hlt : w.heap.size < Wx.heap.size := (s0.blk w.heap.size { x with draw := false } (by simp)).lt; replace s0 := St.more s0 by1 hby hoy; clear by1 hby hoy))
    generalize Wx.heap.size = m2 at *
    have f0 : _ = some (Value.int .i64 ({ x with draw := false }).line) := (s0.blk w.heap.size { x with draw := false } (by simp)).cell 0
    have f1 : _ = some (Value.int .i64 ({ x with draw := false }).dot) := (s0.blk w.heap.size { x with draw := false } (by simp)).cell 1
    have f2 : _ = some (Value.bool ({ x with draw := false }).odd) := (s0.blk w.heap.size { x with draw := false } (by simp)).cell 2
    have g0 : _ = some (Value.int .i64 (a).line) := (s0.blk m1 a (by simp)).cell 0
    have g1 : _ = some (Value.int .i64 (a).dot) := (s0.blk m1 a (by simp)).cell 1
    have g2 : _ = some (Value.bool (a).odd) := (s0.blk m1 a (by simp)).cell 2
    have g5 : _ = some (Value.bool (a).draw) := (s0.blk m1 a (by simp)).cell 5
    simp only at f0 f1 f2
    rw [a1] at g0
    rw [a2] at g1
    rw [a3] at g2
    rw [a4] at g5
    go_upto_region 10 with (first
      | fail)
    clear f0 f1 f2 g0 g1 g2 g5
    go_upto_region 11 with (first
      | (refine wpList_load_blk rfl 23 _ rfl w.heap.size rfl (Rs.cells { x with draw := false }) _ (s0.blk w.heap.size { x with draw := false } (by simp)) Try.underlying23 rfl (infoR' _) ?_)
      | (go_at_call 23; refine (A3.out _).mono ?_; rintro e Wx ⟨rfl, hbx⟩; replace s0 := s0.on hbx; clear hbx)
      | (refine wpList_store_blk rfl 23 _ _ rfl Wx.heap.size zeroR.cells (Rs.cells c) 23 rfl rfl (Blk.new Wx _ _) rfl (infoR' _) (Rs.cells_one _) w.heap.size w s0.2.size (s0.2.alloc s0.2.size _) ?_; intro Wy by1 hby hoy; have hlt : w.heap.size < Wx.heap.size := (s0.blk w.heap.size { x with draw := false } (by simp)).lt; replace s0 := St.more s0 by1 hby hoy; clear by1 hby hoy))
    generalize Wx.heap.size = m3 at *
    have f0 : _ = some (Value.int .i64 ({ x with draw := false }).line) := (s0.blk w.heap.size { x with draw := false } (by simp)).cell 0
    have f1 : _ = some (Value.int .i64 ({ x with draw := false }).dot) := (s0.blk w.heap.size { x with draw := false } (by simp)).cell 1
    have f2 : _ = some (Value.bool ({ x with draw := false }).odd) := (s0.blk w.heap.size { x with draw := false } (by simp)).cell 2
    have g0 : _ = some (Value.int .i64 (bb).line) := (s0.blk m2 bb (by simp)).cell 0
    have g1 : _ = some (Value.int .i64 (bb).dot) := (s0.blk m2 bb (by simp)).cell 1
    have g2 : _ = some (Value.bool (bb).odd) := (s0.blk m2 bb (by simp)).cell 2
    have e0 : _ = some (Value.int .i64 (c).line) := (s0.blk m3 c (by simp)).cell 0
    have e1 : _ = some (Value.int .i64 (c).dot) := (s0.blk m3 c (by simp)).cell 1
    simp only at f0 f1 f2
    rw [b1] at g0
    rw [b2] at g1
    rw [b3] at g2
    by_cases hcl : c.line = x.line
    · have hcd : (c.dot != x.dot) = true := by simpa using b5 hcl
      have hcl2 : (c.line != x.line) = false := by simpa using hcl
      have sH : Hid (St _ _ _) := s0
      clear hcl b5 s0
      cases hod : x.odd <;> (rw [hod] at f2 g2; simp only [Bool.not_true, Bool.not_false] at g2)
      all_goals
       go_wp2
       go_ret
       exact ⟨rfl, sH.out.2⟩
    · have hcl2 : (c.line != x.line) = true := by simpa using hcl
      have sH : Hid (St _ _ _) := s0
      clear hcl b5 s0
      cases hod : x.odd <;> (rw [hod] at f2 g2; simp only [Bool.not_true, Bool.not_false] at g2)
      all_goals
       go_wp2
       go_ret
       exact ⟨rfl, sH.out.2⟩
end Go.Proofs.Ytlnpcbofebppcaa
