/-
  The law TimerOnce returns true, a way of it; conditions: the tables lie in their variables.
-/
import Derived.Test.YtjacadiaafcckabDoorTSizeC
set_option linter.unusedSimpArgs false
set_option linter.unusedVariables false
namespace Go.Proofs.YtjacadiaafcckabDoor
open Go.RowKit Classical
set_option maxHeartbeats 2000000 in
theorem law_once_eg (latch pick n : Int) (w : World) (T : Tabs w) (l0 : 0 ≤ latch) (l1 : latch ≤ 65535) (p0 : 0 ≤ pick) (p1 : pick ≤ 255) (ho : hf n % 2 = 0) (hl : ¬ hf n < (latch + 1) * dv (8 * (pick % 4))) :
    Calls Tryd.prog 3 #[.int .u16 latch, .int .u8 pick, .int .i64 n] w fun e w' => e = .returned (.bool true) ∧ Below w.heap.size w w' := by
  have eN := and_hf n
  have eO := i64_and1 (hf n)
  rw [ho] at eO
  have hN0 := (hf_bd n).1
  have hN1 := (hf_bd n).2
  have z0 : 0 ≤ pick % 4 := by omega
  have z1 : pick % 4 ≤ 3 := by omega
  have b1 : bits .or .u8 6 (8 * (pick % 4)) = (6 + 8 * (pick % 4)) := by
    rcases (show pick % 4 = 0 ∨ pick % 4 = 1 ∨ pick % 4 = 2 ∨ pick % 4 = 3 by omega) with h | h | h | h <;> rw [h] <;> decide
  have b1' : bits .or .u8 6 (pick % 4 * 8) = (6 + 8 * (pick % 4)) := by rw [Int.mul_comm]; exact b1
  have SZ : Hid _ := fun V => size_below' pick V p0 p1
  have ST : Hid _ := fun V (hV : DTab V) => started_true latch pick V hV l0 l1 p0 p1
  obtain ⟨d, hd⟩ : ∃ d, d = dv (8 * (pick % 4)) := ⟨_, rfl⟩
  have hdc := dv_cases (8 * (pick % 4))
  rw [← hd] at SZ hdc hl
  have d0 : 1 ≤ d := by omega
  have d1 : d ≤ 256 := by omega
  have hP0 : 1 ≤ (latch + 1) * d := by rcases hdc with e | e | e | e <;> rw [e] <;> omega
  have hP1 : (latch + 1) * d ≤ 16777216 := by rcases hdc with e | e | e | e <;> rw [e] <;> omega
  obtain ⟨N, eN2⟩ : ∃ N, hf n = N := ⟨_, rfl⟩
  rw [eN2] at eN eO hN0 hN1 hl
  have N0 := hN0
  have N1 := hN1
  have hA := onc_adv latch (pick % 4) d N ⟨l0, l1⟩ ⟨z0, z1⟩ hd N0
  have so := stT_ok latch (pick % 4) ⟨l0, l1⟩ ⟨z0, z1⟩
  have AD : Hid _ := fun V (hV : Tabs V) => adv_any (stC latch (pick % 4) true) N V so hV (by omega)
  obtain ⟨c, hc⟩ : ∃ c : Ck, c = (stC latch (pick % 4) true).adv N := ⟨_, rfl⟩
  rw [← hc] at AD hA
  have oc : c.Ok := by rw [hc]; exact (Ck.adv_ok so _).1
  have hO := (hA.2 hl).1
  have IR : Hid _ := fun V (hV : DTab V) => irq_any c V oc hV
  rw [(hA.2 hl).2] at IR
  have C1 : Hid (True → c.cells[1]? = some (.int .u16 latch)) := fun _ => by show some (Value.int .u16 c.count) = _; rw [hO.co]
  have C2 : Hid (True → c.cells[2]? = some (.int .u16 0)) := fun _ => by show some (Value.int .u16 c.pre) = _; rw [hO.pr]
  have C4 : Hid (True → c.cells[4]? = some (.int .u8 (6 + 8 * (pick % 4)))) := fun _ => by show some (Value.int .u8 c.ctl) = _; rw [hO.ct]
  have C5 : Hid (True → c.cells[5]? = some (.bool true)) := fun _ => by show some (Value.bool c.flag) = _; rw [hO.fg]
  have C6 : Hid (True → c.cells[6]? = some (.bool false)) := fun _ => by show some (Value.bool c.over) = _; rw [hO.ov]
  have e1 := w64 ((latch + 1) * d) (by omega) (by omega)
  obtain ⟨P, hP⟩ : ∃ P, (latch + 1) * d = P := ⟨_, rfl⟩
  rw [hP] at e1 hP0 hP1 hl
  have hz : (2 * P == 0) = false := by simpa using (show ¬ 2 * P = 0 by omega)
  have hzd : (d == 0) = false := by simpa using (show ¬ d = 0 by omega)
  generalize stC latch (pick % 4) true = s at *
  clear hc oc hA hO so hd hdc ho
  have s0 : St w [] w := ⟨fun p hp => (List.not_mem_nil hp).elim, Below.refl _ _⟩
  go_enter Tryd.func3, Tryd.ntmps3
  go_upto_region 7 with (first
    | (go_at_call 9; refine (SZ.out _).mono ?_; rintro e Wx ⟨rfl, hbx⟩; replace s0 := s0.on hbx; clear hbx)
    | (go_at_call 11; refine (ST.out _ (T.d.on s0.2)).mono ?_; rintro e Wx ⟨rfl, hbx⟩; replace s0 := s0.on hbx; clear hbx)
    | (go_at_call_of 10 (Value.agg s.cells); refine (AD.out _ (T.on s0.2)).mono ?_; rintro e Wx ⟨rfl, hbx⟩; replace s0 := s0.on hbx; clear hbx)
    | (have hle := s0.2.size; refine wpList_store_blk rfl 25 _ _ rfl _ zeroC.cells (Ck.cells c) 25 rfl rfl (Blk.new _ _ _) rfl (infoC' _) (Ck.cells_one _) w.heap.size w s0.2.size (s0.2.alloc s0.2.size _) ?_; intro Wy by1 hby hoy; replace s0 := St.more s0 by1 hby hoy; clear hby hoy))
  simp only [Act.put]
  generalize Wx.heap.size = m1 at *
  have bk := s0.1 _ List.mem_cons_self
  simp only at bk
  have g1 := bk.cell 1
  rw [C1.out trivial] at g1
  have g2 := bk.cell 2
  rw [C2.out trivial] at g2
  have g4 := bk.cell 4
  rw [C4.out trivial] at g4
  have g5 := bk.cell 5
  rw [C5.out trivial] at g5
  have g6 := bk.cell 6
  rw [C6.out trivial] at g6
  clear by1 hle
  go_wp2_with (first
    | (refine wpList_load_want (by rfl) 25 _ rfl m1 rfl (Ck.cells c) _ (s0.blk m1 c (by simp)) Tryd.underlying25 rfl (infoC' _) ?_)
    | (go_at_call_of 12 (Value.agg c.cells); refine (IR.out _ (T.d.on s0.2)).mono ?_; rintro e Wx ⟨rfl, hbx⟩; replace s0 := s0.on hbx; clear hbx))
  go_ret
  exact ⟨rfl, s0.2⟩
end Go.Proofs.YtjacadiaafcckabDoor
