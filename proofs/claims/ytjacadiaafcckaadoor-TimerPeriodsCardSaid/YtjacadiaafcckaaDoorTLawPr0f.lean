/-
  The law TimerPeriods returns true, a way of it; conditions: the tables lie in their variables.
-/
import Derived.Test.YtjacadiaafcckaaDoorTSizeB
set_option linter.unusedSimpArgs false
set_option linter.unusedVariables false
namespace Go.Proofs.YtjacadiaafcckaaDoor
open Go.RowKit Classical
set_option maxHeartbeats 2000000 in
theorem law_periods_0f (latch pick k j : Int) (w : World) (T : Tabs w) (l0 : 0 ≤ latch) (l1 : latch ≤ 65535) (p0 : 0 ≤ pick) (p1 : pick ≤ 255) (hk : k % 4294967296 = 0) (hi : ((stC latch (pick % 4) false).adv (k % 4294967296 * ((latch + 1) * dv (8 * (pick % 4))) + hf j % ((latch + 1) * dv (8 * (pick % 4))))).irq = false) :
    Calls Tryd.prog 8 #[.int .u16 latch, .int .u8 pick, .int .i64 k, .int .i64 j] w fun e w' => e = .returned (.bool true) ∧ Below w.heap.size w w' := by
  have eK := and_32 k
  have eJ := and_hf j
  have hJ0 := (hf_bd j).1
  have hJ1 := (hf_bd j).2
  have K0 : 0 ≤ k % 4294967296 := by omega
  have K1 : k % 4294967296 ≤ 4294967295 := by omega
  have z0 : 0 ≤ pick % 4 := by omega
  have z1 : pick % 4 ≤ 3 := by omega
  have b1 : bits .or .u8 3 (8 * (pick % 4)) = 3 + 8 * (pick % 4) := by
    rcases (show pick % 4 = 0 ∨ pick % 4 = 1 ∨ pick % 4 = 2 ∨ pick % 4 = 3 by omega) with h | h | h | h <;> rw [h] <;> decide
  have b1' : bits .or .u8 3 (pick % 4 * 8) = 3 + 8 * (pick % 4) := by rw [Int.mul_comm]; exact b1
  have SZ : Hid _ := fun V => size_below pick V p0 p1
  have ST : Hid _ := fun V (hV : DTab V) => started_false latch pick V hV l0 l1 p0 p1
  obtain ⟨d, hd⟩ : ∃ d, d = dv (8 * (pick % 4)) := ⟨_, rfl⟩
  have hdc := dv_cases (8 * (pick % 4))
  rw [← hd] at SZ hdc
  rw [← hd] at hi
  have d0 : 1 ≤ d := by omega
  have d1 : d ≤ 256 := by omega
  have hP0 : 1 ≤ (latch + 1) * d := by rcases hdc with e | e | e | e <;> rw [e] <;> omega
  have hP1 : (latch + 1) * d ≤ 16777216 := by rcases hdc with e | e | e | e <;> rw [e] <;> omega
  have r0 := Int.emod_nonneg (hf j) (b := (latch + 1) * d) (by omega)
  have r1 := Int.emod_lt_of_pos (hf j) (b := (latch + 1) * d) (by omega)
  have rt : (hf j).tmod ((latch + 1) * d) = hf j % ((latch + 1) * d) := Int.tmod_eq_emod_of_nonneg hJ0
  generalize k % 4294967296 = K at *
  have hx : 0 ≤ K * ((latch + 1) * d) := Int.mul_nonneg K0 (by omega)
  have hx1 : K * ((latch + 1) * d) ≤ 72057594021150720 := by
    have h1 : K * ((latch + 1) * d) ≤ 4294967295 * ((latch + 1) * d) := Int.mul_le_mul_of_nonneg_right K1 (by omega)
    omega
  obtain ⟨J, eJ2⟩ : ∃ J, hf j % ((latch + 1) * d) = J := ⟨_, rfl⟩
  rw [eJ2] at r0 r1 rt hi
  obtain ⟨hper, hirq⟩ := per_adv latch (pick % 4) d K J ⟨l0, l1⟩ ⟨z0, z1⟩ hd K0 r0 r1
  have so := stC_ok latch (pick % 4) ⟨l0, l1⟩ ⟨z0, z1⟩
  have AD : Hid _ := fun V (hV : Tabs V) => adv_any (stC latch (pick % 4) false) (K * ((latch + 1) * d) + J) V so hV (by omega)
  obtain ⟨c, hc⟩ : ∃ c : Ck, c = (stC latch (pick % 4) false).adv (K * ((latch + 1) * d) + J) := ⟨_, rfl⟩
  rw [← hc] at AD hper hirq hi
  have oc : c.Ok := by rw [hc]; exact (Ck.adv_ok so _).1
  have IR : Hid _ := fun V (hV : DTab V) => irq_any c V oc hV
  rw [show c.irq = false by exact hi] at IR
  have q0 : 0 ≤ J / d := Int.ediv_nonneg r0 (by omega)
  have q1 : J / d ≤ latch := by rcases hdc with e | e | e | e <;> rw [e] at r1 ⊢ <;> omega
  have m0 := Int.emod_nonneg J (b := d) (by omega)
  have m1' := Int.emod_lt_of_pos J (b := d) (by omega)
  have td : J.tdiv d = J / d := Int.tdiv_eq_ediv_of_nonneg r0
  have tm : J.tmod d = J % d := Int.tmod_eq_emod_of_nonneg r0
  have C0 : Hid (True → c.cells[0]? = some (.int .u16 latch)) := fun _ => by show some (Value.int .u16 c.latch) = _; rw [hper.la]
  have C1 : Hid (True → c.cells[1]? = some (.int .u16 (latch - J / d))) := fun _ => by show some (Value.int .u16 c.count) = _; rw [hper.co]
  have C2 : Hid (True → c.cells[2]? = some (.int .u16 (J % d))) := fun _ => by show some (Value.int .u16 c.pre) = _; rw [hper.pr]
  have C4 : Hid (True → c.cells[4]? = some (.int .u8 (3 + 8 * (pick % 4)))) := fun _ => by show some (Value.int .u8 c.ctl) = _; rw [hper.ct]
  have C5 : Hid (True → c.cells[5]? = some (.bool false)) := fun _ => by show some (Value.bool c.flag) = _; rw [hper.fg]; congr 2; exact decide_eq_false (by omega)
  have C6 : Hid (True → c.cells[6]? = some (.bool false)) := fun _ => by show some (Value.bool c.over) = _; rw [hper.ov]; congr 2; exact decide_eq_false (by omega)
  have k1 : decide (1 ≤ K) = false := by exact decide_eq_false (by omega)
  have k2 : decide (2 ≤ K) = false := by exact decide_eq_false (by omega)
  have e1 := w64 ((latch + 1) * d) (by omega) (by omega)
  have e2 := w64 (K * ((latch + 1) * d)) (by omega) (by omega)
  obtain ⟨P, hP⟩ : ∃ P, (latch + 1) * d = P := ⟨_, rfl⟩
  rw [hP] at e1 e2 hP0 hP1 hx hx1 rt eJ2 AD r1
  have hz : (P == 0) = false := by simpa using (show ¬ P = 0 by omega)
  have hzd : (d == 0) = false := by simpa using (show ¬ d = 0 by omega)
  generalize stC latch (pick % 4) false = s at *
  generalize J / d = Q at *
  generalize J % d = R at *
  clear hc oc hper hirq so hd hdc hk hi
  have s0 : St w [] w := ⟨fun p hp => (List.not_mem_nil hp).elim, Below.refl _ _⟩
  go_enter Tryd.func8, Tryd.ntmps8
  go_upto_region 6 with (first
    | (go_at_call 17; refine (SZ.out _).mono ?_; rintro e Wx ⟨rfl, hbx⟩; replace s0 := s0.on hbx; clear hbx)
    | (go_at_call 18; refine (ST.out _ (T.d.on s0.2)).mono ?_; rintro e Wx ⟨rfl, hbx⟩; replace s0 := s0.on hbx; clear hbx)
    | (go_at_call_of 13 (Value.agg s.cells); refine (AD.out _ (T.on s0.2)).mono ?_; rintro e Wx ⟨rfl, hbx⟩; replace s0 := s0.on hbx; clear hbx)
    | (have hle := s0.2.size; refine wpList_store_blk rfl 24 _ _ rfl _ zeroC.cells (Ck.cells c) 24 rfl rfl (Blk.new _ _ _) rfl (infoC' _) (Ck.cells_one _) w.heap.size w s0.2.size (s0.2.alloc s0.2.size _) ?_; intro Wy by1 hby hoy; replace s0 := St.more s0 by1 hby hoy; clear hby hoy))
  simp only [Act.put]
  generalize Wx.heap.size = m1 at *
  have bk := s0.1 _ List.mem_cons_self
  simp only at bk
  have g0 := bk.cell 0
  rw [C0.out trivial] at g0
  have g1 := bk.cell 1
  rw [C1.out trivial] at g1
  have g2 := bk.cell 2
  rw [C2.out trivial] at g2
  have g4 := bk.cell 4
  rw [C4.out trivial] at g4
  have g5 := bk.cell 5
  rw [C5.out trivial] at g5
  have g6 := bk.cell 6
  rw [C6.out trivial] at g6
  clear by1 hle
  go_quiet (fail)
  replace s0 : St w [(m1, c)] (Wy.drewN nq) := ⟨fun p hp => s0.1 p hp, below_draws s0.2 nq⟩
  go_wp2_with (first
    | (refine wpList_load_want (by rfl) 24 _ rfl m1 rfl (Ck.cells c) _ (s0.blk m1 c (by simp)) Tryd.underlying24 rfl (infoC' _) ?_)
    | (go_at_call_of 19 (Value.agg c.cells); refine (IR.out _ (T.d.on s0.2)).mono ?_; rintro e Wx ⟨rfl, hbx⟩; replace s0 := s0.on hbx; clear hbx; have g5' := (s0.blk m1 c (by simp)).cell 5; rw [C5.out trivial] at g5'))
  go_ret
  exact ⟨rfl, s0.2⟩
end Go.Proofs.YtjacadiaafcckaaDoor
