/-
  The document's Tick, a way of it; conditions: the numbers fit their kinds.
  The document's Tick, a way of it; conditions: the numbers fit their kinds.
  The document's Tick, a way of it; conditions: the numbers fit their kinds.
  The document's Tick, a way of it; conditions: the numbers fit their kinds.
  The document's Tick, a way of it; conditions: the numbers fit their kinds.
  The document's Tick, a way of it; conditions: the numbers fit their kinds.
  The document's Tick; conditions: the numbers fit their kinds.
-/
import Derived.Test.YtobiiogoofkmaaaDoorTRTop
import Derived.Test.YtobiiogoofkmaaaDoorTRCount
import Derived.Test.YtobiiogoofkmaaaDoorTRFW
import Derived.Test.YtobiiogoofkmaaaDoorTMixS
set_option linter.unusedSimpArgs false
set_option linter.unusedVariables false
namespace Go.Proofs.YtobiiogoofkmaaaDoor
open Go.RowKit Classical
set_option maxHeartbeats 1000000 in
theorem rtick_false_0 (c : Ck) (w : World) (o : c.Ok) (hv : c.valid = true) (h5 : c.five = false) (hw : c.wait = 0) :
    Calls Tryd.prog 29 #[.agg c.cells] w fun e w' => e = .returned (.agg c.tick.cells) ∧ Below w.heap.size w w' := by
  have v := (Ck.valid_iff c).1 hv
  have V : Hid _ := fun W => rvalid_any c W o
  rw [hv] at V
  have CT : Hid _ := fun W => rcount_any c W o v
  obtain ⟨ot, vt⟩ := Ck.tickT_ok o v
  obtain ⟨q1, q2, q3, q4, q5, q6⟩ := tickT_s c
  obtain ⟨t, ht⟩ : ∃ t : Ck, t = c.tickT := ⟨_, rfl⟩
  rw [← ht] at CT ot vt q1 q2 q3 q4 q5 q6
  have a0 := ot.at_.1
  have a1 := vt.at_
  have FV : Hid _ := fun W => four_any ({ t with at_ := t.at_ + 1 } : Ck) W ot.beats.1 vt.beats (by simp only; omega) (by simp only; omega)
  obtain ⟨m, hm⟩ : ∃ m : Ck, m = Ck.four ({ t with at_ := t.at_ + 1 } : Ck) := ⟨_, rfl⟩
  rw [← hm] at FV
  have mw : m.wait = c.wait := by rw [hm]; exact q5
  have m5 : m.five = false := by rw [hm]; exact q1.trans h5
  have mb0 : 0 ≤ m.beats := by rw [hm]; simp only [Ck.four]; omega
  have mb1 : m.beats ≤ 63 := by rw [hm]; simp only [Ck.four]; omega
  have w1 := v.wait
  have E : Hid (True → c.tick = m) := by
    intro _
    unfold Ck.tick
    rw [if_pos hv, ← ht, hm]
    unfold Ck.tickS Ck.four Ck.asks
    rw [q1.trans h5, show t.wait = c.wait from q5]
    simp only [rdL, Bool.false_eq_true, if_false, Bool.not_true, Bool.not_false, Bool.true_and, Bool.false_and, Bool.or_false]
    have x1 : ¬ c.wait = 1 := by omega
    have x0 : ¬ 0 < c.wait := by omega
    simp only [if_neg x1, if_neg x0]
    first | done | rfl
  have HW : Hid _ := fun (_ : True) => hw
  have mw2 := mw.trans hw
  have Q1 : Hid _ := fun (_ : True) => (q1.trans h5 : t.five = false)
  clear hv v ht hm q1 q2 q3 q4 q5 q6 h5 hw mw o
  go_enter Tryd.func29, Tryd.ntmps29
  go_upto_region 1 with fail
  have A : At w ((w.alloc (.cells c.cells 24)).alloc (.cells #[.int .u16 0, .int .u16 0, .int .u16 0, .int .u8 0, .int .u8 0, .bool false, .bool false, .bool false, .bool false, .bool false, .int .u16 0, .int .u8 0, .int .u8 0] 24)) w.heap.size c := At.begin w c
  generalize (w.alloc (.cells c.cells 24)).alloc (.cells #[.int .u16 0, .int .u16 0, .int .u16 0, .int .u8 0, .int .u8 0, .bool false, .bool false, .bool false, .bool false, .bool false, .int .u16 0, .int .u8 0, .int .u8 0] 24) = W0 at *
  go_upto_region 5 with (first
    | (refine wpList_load_blk rfl 24 _ rfl w.heap.size rfl _ _ A.blk Tryd.underlying24 rfl (infoC' _) ?_)
    | (go_at_call 28; refine (V.out _).mono ?_; rintro e Wx ⟨rfl, hbx⟩; replace A := A.on hbx; clear hbx)
    | (go_at_call 40; refine (CT.out _).mono ?_; rintro e Wx ⟨rfl, hbx⟩; replace A := A.on hbx; clear hbx)
    | (refine wpList_store_blk rfl 24 _ _ rfl _ _ (Ck.cells t) 24 rfl rfl A.blk rfl (infoC' _) (Ck.cells_one _) w.heap.size w A.le A.bel ?_; intro Wy h1y h2y h3y; replace A := At.sto A h1y h2y h3y; clear h1y h2y h3y))
  simp only [Act.put]
  obtain ⟨f0, f1, f2, f3, f4, f5, f6, f7, f8, f9, f10, f11, f12, ff⟩ := A.facts
  rw [Q1.out trivial] at f7
  go_upto_region 6 with fail
  replace A := At.set (c' := ({ t with at_ := t.at_ + 1 } : Ck)) A 10 (.int .u16 (t.at_ + 1)) rfl
  clear f0 f1 f2 f3 f4 f5 f6 f7 f8 f9 f10 f11 f12 ff
  generalize Wy.setCell ⟨w.heap.size, 10, none⟩ (.int .u16 (t.at_ + 1)) = Wk at *
  obtain ⟨f0, f1, f2, f3, f4, f5, f6, f7, f8, f9, f10, f11, f12, ff⟩ := A.facts
  simp only [Q1.out trivial] at f7
  go_upto_region 9 with (first
    | (refine wpList_load_blk rfl 24 _ rfl w.heap.size rfl _ _ A.blk Tryd.underlying24 rfl (infoC' _) ?_)
    | (go_at_call 42; refine (FV.out _).mono ?_; rintro e Wx ⟨rfl, hbx⟩; replace A := A.on hbx; clear hbx)
    | (refine wpList_store_blk rfl 24 _ _ rfl _ _ (Ck.cells m) 24 rfl rfl A.blk rfl (infoC' _) (Ck.cells_one _) w.heap.size w A.le A.bel ?_; intro Wy h1y h2y h3y; replace A := At.sto A h1y h2y h3y; clear h1y h2y h3y))
  simp only [Act.put]
  clear f0 f1 f2 f3 f4 f5 f6 f7 f8 f9 f10 f11 f12 ff
  obtain ⟨f0, f1, f2, f3, f4, f5, f6, f7, f8, f9, f10, f11, f12, ff⟩ := A.facts
  rw [mw2] at f11
  go_wp2_with (first
    | (refine wpList_load_blk rfl 24 _ rfl w.heap.size rfl _ _ A.blk Tryd.underlying24 rfl (infoC' _) ?_)
    | (obtain ⟨rc, hr⟩ := A.res; refine wpList_store_blk rfl 24 _ _ rfl _ rc.cells (Ck.cells m) 24 rfl rfl hr rfl (infoC' _) (Ck.cells_one _) w.heap.size w (by omega) A.bel ?_; intro W5 hr5 hb5 ho5))
  rw [E.out trivial]
  refine bodyPost_ret (v := .agg (Ck.cells m)) (res_ck (r := w.heap.size + 1) Tryd.results29 rfl hr5) rfl ⟨rfl, hb5⟩
end Go.Proofs.YtobiiogoofkmaaaDoor
namespace Go.Proofs.YtobiiogoofkmaaaDoor
open Go.RowKit Classical
set_option maxHeartbeats 1000000 in
theorem rtick_false_1 (c : Ck) (w : World) (o : c.Ok) (hv : c.valid = true) (h5 : c.five = false) (hw : c.wait = 1) :
    Calls Tryd.prog 29 #[.agg c.cells] w fun e w' => e = .returned (.agg c.tick.cells) ∧ Below w.heap.size w w' := by
  have v := (Ck.valid_iff c).1 hv
  have V : Hid _ := fun W => rvalid_any c W o
  rw [hv] at V
  have CT : Hid _ := fun W => rcount_any c W o v
  obtain ⟨ot, vt⟩ := Ck.tickT_ok o v
  obtain ⟨q1, q2, q3, q4, q5, q6⟩ := tickT_s c
  obtain ⟨t, ht⟩ : ∃ t : Ck, t = c.tickT := ⟨_, rfl⟩
  rw [← ht] at CT ot vt q1 q2 q3 q4 q5 q6
  have a0 := ot.at_.1
  have a1 := vt.at_
  have FV : Hid _ := fun W => four_any ({ t with at_ := t.at_ + 1 } : Ck) W ot.beats.1 vt.beats (by simp only; omega) (by simp only; omega)
  obtain ⟨m, hm⟩ : ∃ m : Ck, m = Ck.four ({ t with at_ := t.at_ + 1 } : Ck) := ⟨_, rfl⟩
  rw [← hm] at FV
  have mw : m.wait = c.wait := by rw [hm]; exact q5
  have m5 : m.five = false := by rw [hm]; exact q1.trans h5
  have mb0 : 0 ≤ m.beats := by rw [hm]; simp only [Ck.four]; omega
  have mb1 : m.beats ≤ 63 := by rw [hm]; simp only [Ck.four]; omega
  have w1 := v.wait
  have E : Hid (True → c.tick = ({ m with wait := 0, at_ := 0 } : Ck)) := by
    intro _
    unfold Ck.tick
    rw [if_pos hv, ← ht, hm]
    unfold Ck.tickS Ck.four Ck.asks
    rw [q1.trans h5, show t.wait = c.wait from q5]
    simp only [rdL, Bool.false_eq_true, if_false, Bool.not_true, Bool.not_false, Bool.true_and, Bool.false_and, Bool.or_false]
    have x0 : 0 < c.wait := by omega
    simp only [if_pos hw, if_pos x0]
    rw [show c.wait - 1 = 0 by omega]
    rfl
  have HW : Hid _ := fun (_ : True) => hw
  have mw2 := mw.trans hw
  have Q1 : Hid _ := fun (_ : True) => (q1.trans h5 : t.five = false)
  clear hv v ht hm q1 q2 q3 q4 q5 q6 h5 hw mw o
  go_enter Tryd.func29, Tryd.ntmps29
  go_upto_region 1 with fail
  have A : At w ((w.alloc (.cells c.cells 24)).alloc (.cells #[.int .u16 0, .int .u16 0, .int .u16 0, .int .u8 0, .int .u8 0, .bool false, .bool false, .bool false, .bool false, .bool false, .int .u16 0, .int .u8 0, .int .u8 0] 24)) w.heap.size c := At.begin w c
  generalize (w.alloc (.cells c.cells 24)).alloc (.cells #[.int .u16 0, .int .u16 0, .int .u16 0, .int .u8 0, .int .u8 0, .bool false, .bool false, .bool false, .bool false, .bool false, .int .u16 0, .int .u8 0, .int .u8 0] 24) = W0 at *
  go_upto_region 5 with (first
    | (refine wpList_load_blk rfl 24 _ rfl w.heap.size rfl _ _ A.blk Tryd.underlying24 rfl (infoC' _) ?_)
    | (go_at_call 28; refine (V.out _).mono ?_; rintro e Wx ⟨rfl, hbx⟩; replace A := A.on hbx; clear hbx)
    | (go_at_call 40; refine (CT.out _).mono ?_; rintro e Wx ⟨rfl, hbx⟩; replace A := A.on hbx; clear hbx)
    | (refine wpList_store_blk rfl 24 _ _ rfl _ _ (Ck.cells t) 24 rfl rfl A.blk rfl (infoC' _) (Ck.cells_one _) w.heap.size w A.le A.bel ?_; intro Wy h1y h2y h3y; replace A := At.sto A h1y h2y h3y; clear h1y h2y h3y))
  simp only [Act.put]
  obtain ⟨f0, f1, f2, f3, f4, f5, f6, f7, f8, f9, f10, f11, f12, ff⟩ := A.facts
  rw [Q1.out trivial] at f7
  go_upto_region 6 with fail
  replace A := At.set (c' := ({ t with at_ := t.at_ + 1 } : Ck)) A 10 (.int .u16 (t.at_ + 1)) rfl
  clear f0 f1 f2 f3 f4 f5 f6 f7 f8 f9 f10 f11 f12 ff
  generalize Wy.setCell ⟨w.heap.size, 10, none⟩ (.int .u16 (t.at_ + 1)) = Wk at *
  obtain ⟨f0, f1, f2, f3, f4, f5, f6, f7, f8, f9, f10, f11, f12, ff⟩ := A.facts
  simp only [Q1.out trivial] at f7
  go_upto_region 9 with (first
    | (refine wpList_load_blk rfl 24 _ rfl w.heap.size rfl _ _ A.blk Tryd.underlying24 rfl (infoC' _) ?_)
    | (go_at_call 42; refine (FV.out _).mono ?_; rintro e Wx ⟨rfl, hbx⟩; replace A := A.on hbx; clear hbx)
    | (refine wpList_store_blk rfl 24 _ _ rfl _ _ (Ck.cells m) 24 rfl rfl A.blk rfl (infoC' _) (Ck.cells_one _) w.heap.size w A.le A.bel ?_; intro Wy h1y h2y h3y; replace A := At.sto A h1y h2y h3y; clear h1y h2y h3y))
  simp only [Act.put]
  clear f0 f1 f2 f3 f4 f5 f6 f7 f8 f9 f10 f11 f12 ff
  obtain ⟨f0, f1, f2, f3, f4, f5, f6, f7, f8, f9, f10, f11, f12, ff⟩ := A.facts
  rw [mw2] at f11
  rw [m5] at f7
  go_upto_region 15 with fail
  replace A := At.set (c' := ({ m with wait := 0, at_ := 0 } : Ck)) (At.set (c' := ({ m with wait := 0 } : Ck)) A 11 (.int .u8 0) rfl) 10 (.int .u16 0) rfl
  clear f0 f1 f2 f3 f4 f5 f6 f7 f8 f9 f10 f11 f12 ff
  generalize (World.setCell Wy ⟨w.heap.size, 11, none⟩ (.int .u8 0)).setCell ⟨w.heap.size, 10, none⟩ (.int .u16 0) = Wk2 at *
  go_wp2_with (first
    | (refine wpList_load_blk rfl 24 _ rfl w.heap.size rfl _ _ A.blk Tryd.underlying24 rfl (infoC' _) ?_)
    | (obtain ⟨rc, hr⟩ := A.res; refine wpList_store_blk rfl 24 _ _ rfl _ rc.cells (Ck.cells ({ m with wait := 0, at_ := 0 } : Ck)) 24 rfl rfl hr rfl (infoC' _) (Ck.cells_one _) w.heap.size w (by omega) A.bel ?_; intro W5 hr5 hb5 ho5))
  rw [E.out trivial]
  refine bodyPost_ret (v := .agg (Ck.cells ({ m with wait := 0, at_ := 0 } : Ck))) (res_ck (r := w.heap.size + 1) Tryd.results29 rfl hr5) rfl ⟨rfl, hb5⟩
end Go.Proofs.YtobiiogoofkmaaaDoor
namespace Go.Proofs.YtobiiogoofkmaaaDoor
open Go.RowKit Classical
set_option maxHeartbeats 1000000 in
theorem rtick_false_m (c : Ck) (w : World) (o : c.Ok) (hv : c.valid = true) (h5 : c.five = false) (hw : 1 < c.wait) :
    Calls Tryd.prog 29 #[.agg c.cells] w fun e w' => e = .returned (.agg c.tick.cells) ∧ Below w.heap.size w w' := by
  have v := (Ck.valid_iff c).1 hv
  have V : Hid _ := fun W => rvalid_any c W o
  rw [hv] at V
  have CT : Hid _ := fun W => rcount_any c W o v
  obtain ⟨ot, vt⟩ := Ck.tickT_ok o v
  obtain ⟨q1, q2, q3, q4, q5, q6⟩ := tickT_s c
  obtain ⟨t, ht⟩ : ∃ t : Ck, t = c.tickT := ⟨_, rfl⟩
  rw [← ht] at CT ot vt q1 q2 q3 q4 q5 q6
  have a0 := ot.at_.1
  have a1 := vt.at_
  have FV : Hid _ := fun W => four_any ({ t with at_ := t.at_ + 1 } : Ck) W ot.beats.1 vt.beats (by simp only; omega) (by simp only; omega)
  obtain ⟨m, hm⟩ : ∃ m : Ck, m = Ck.four ({ t with at_ := t.at_ + 1 } : Ck) := ⟨_, rfl⟩
  rw [← hm] at FV
  have mw : m.wait = c.wait := by rw [hm]; exact q5
  have m5 : m.five = false := by rw [hm]; exact q1.trans h5
  have mb0 : 0 ≤ m.beats := by rw [hm]; simp only [Ck.four]; omega
  have mb1 : m.beats ≤ 63 := by rw [hm]; simp only [Ck.four]; omega
  have w1 := v.wait
  have E : Hid (True → c.tick = ({ m with wait := m.wait - 1 } : Ck)) := by
    intro _
    unfold Ck.tick
    rw [if_pos hv, ← ht, hm]
    unfold Ck.tickS Ck.four Ck.asks
    rw [q1.trans h5, show t.wait = c.wait from q5]
    simp only [rdL, Bool.false_eq_true, if_false, Bool.not_true, Bool.not_false, Bool.true_and, Bool.false_and, Bool.or_false]
    have x1 : ¬ c.wait = 1 := by omega
    have x0 : 0 < c.wait := by omega
    simp only [if_neg x1, if_pos x0]
    first | done | rfl
  have HW : Hid _ := fun (_ : True) => hw
  have mp : 1 < m.wait := by omega
  have mz : (m.wait - 1 == 0) = false := by simpa using (show ¬ m.wait - 1 = 0 by omega)
  have mp0 : 0 < m.wait := by omega
  have mp4 : m.wait ≤ 4 := by omega
  have Q1 : Hid _ := fun (_ : True) => (q1.trans h5 : t.five = false)
  clear hv v ht hm q1 q2 q3 q4 q5 q6 h5 hw mw o
  go_enter Tryd.func29, Tryd.ntmps29
  go_upto_region 1 with fail
  have A : At w ((w.alloc (.cells c.cells 24)).alloc (.cells #[.int .u16 0, .int .u16 0, .int .u16 0, .int .u8 0, .int .u8 0, .bool false, .bool false, .bool false, .bool false, .bool false, .int .u16 0, .int .u8 0, .int .u8 0] 24)) w.heap.size c := At.begin w c
  generalize (w.alloc (.cells c.cells 24)).alloc (.cells #[.int .u16 0, .int .u16 0, .int .u16 0, .int .u8 0, .int .u8 0, .bool false, .bool false, .bool false, .bool false, .bool false, .int .u16 0, .int .u8 0, .int .u8 0] 24) = W0 at *
  go_upto_region 5 with (first
    | (refine wpList_load_blk rfl 24 _ rfl w.heap.size rfl _ _ A.blk Tryd.underlying24 rfl (infoC' _) ?_)
    | (go_at_call 28; refine (V.out _).mono ?_; rintro e Wx ⟨rfl, hbx⟩; replace A := A.on hbx; clear hbx)
    | (go_at_call 40; refine (CT.out _).mono ?_; rintro e Wx ⟨rfl, hbx⟩; replace A := A.on hbx; clear hbx)
    | (refine wpList_store_blk rfl 24 _ _ rfl _ _ (Ck.cells t) 24 rfl rfl A.blk rfl (infoC' _) (Ck.cells_one _) w.heap.size w A.le A.bel ?_; intro Wy h1y h2y h3y; replace A := At.sto A h1y h2y h3y; clear h1y h2y h3y))
  simp only [Act.put]
  obtain ⟨f0, f1, f2, f3, f4, f5, f6, f7, f8, f9, f10, f11, f12, ff⟩ := A.facts
  rw [Q1.out trivial] at f7
  go_upto_region 6 with fail
  replace A := At.set (c' := ({ t with at_ := t.at_ + 1 } : Ck)) A 10 (.int .u16 (t.at_ + 1)) rfl
  clear f0 f1 f2 f3 f4 f5 f6 f7 f8 f9 f10 f11 f12 ff
  generalize Wy.setCell ⟨w.heap.size, 10, none⟩ (.int .u16 (t.at_ + 1)) = Wk at *
  obtain ⟨f0, f1, f2, f3, f4, f5, f6, f7, f8, f9, f10, f11, f12, ff⟩ := A.facts
  simp only [Q1.out trivial] at f7
  go_upto_region 9 with (first
    | (refine wpList_load_blk rfl 24 _ rfl w.heap.size rfl _ _ A.blk Tryd.underlying24 rfl (infoC' _) ?_)
    | (go_at_call 42; refine (FV.out _).mono ?_; rintro e Wx ⟨rfl, hbx⟩; replace A := A.on hbx; clear hbx)
    | (refine wpList_store_blk rfl 24 _ _ rfl _ _ (Ck.cells m) 24 rfl rfl A.blk rfl (infoC' _) (Ck.cells_one _) w.heap.size w A.le A.bel ?_; intro Wy h1y h2y h3y; replace A := At.sto A h1y h2y h3y; clear h1y h2y h3y))
  simp only [Act.put]
  clear f0 f1 f2 f3 f4 f5 f6 f7 f8 f9 f10 f11 f12 ff
  obtain ⟨f0, f1, f2, f3, f4, f5, f6, f7, f8, f9, f10, f11, f12, ff⟩ := A.facts
  go_upto_region 15 with fail
  replace A := At.set (c' := ({ m with wait := m.wait - 1 } : Ck)) A 11 (.int .u8 (m.wait - 1)) rfl
  clear f0 f1 f2 f3 f4 f5 f6 f7 f8 f9 f10 f11 f12 ff
  generalize World.setCell Wy ⟨w.heap.size, 11, none⟩ (.int .u8 (m.wait - 1)) = Wk2 at *
  go_wp2_with (first
    | (refine wpList_load_blk rfl 24 _ rfl w.heap.size rfl _ _ A.blk Tryd.underlying24 rfl (infoC' _) ?_)
    | (obtain ⟨rc, hr⟩ := A.res; refine wpList_store_blk rfl 24 _ _ rfl _ rc.cells (Ck.cells ({ m with wait := m.wait - 1 } : Ck)) 24 rfl rfl hr rfl (infoC' _) (Ck.cells_one _) w.heap.size w (by omega) A.bel ?_; intro W5 hr5 hb5 ho5))
  rw [E.out trivial]
  refine bodyPost_ret (v := .agg (Ck.cells ({ m with wait := m.wait - 1 } : Ck))) (res_ck (r := w.heap.size + 1) Tryd.results29 rfl hr5) rfl ⟨rfl, hb5⟩
end Go.Proofs.YtobiiogoofkmaaaDoor
namespace Go.Proofs.YtobiiogoofkmaaaDoor
open Go.RowKit Classical
set_option maxHeartbeats 1000000 in
theorem rtick_true_0 (c : Ck) (w : World) (o : c.Ok) (hv : c.valid = true) (h5 : c.five = true) (hw : c.wait = 0) :
    Calls Tryd.prog 29 #[.agg c.cells] w fun e w' => e = .returned (.agg c.tick.cells) ∧ Below w.heap.size w w' := by
  have v := (Ck.valid_iff c).1 hv
  have V : Hid _ := fun W => rvalid_any c W o
  rw [hv] at V
  have CT : Hid _ := fun W => rcount_any c W o v
  obtain ⟨ot, vt⟩ := Ck.tickT_ok o v
  obtain ⟨q1, q2, q3, q4, q5, q6⟩ := tickT_s c
  obtain ⟨t, ht⟩ : ∃ t : Ck, t = c.tickT := ⟨_, rfl⟩
  rw [← ht] at CT ot vt q1 q2 q3 q4 q5 q6
  have a0 := ot.at_.1
  have a1 := vt.at_
  have FV : Hid _ := fun W => five_any ({ t with at_ := t.at_ + 1 } : Ck) W ot.beats.1 vt.beats (by simp only; omega) (by simp only; omega)
  obtain ⟨m, hm⟩ : ∃ m : Ck, m = Ck.fiveF ({ t with at_ := t.at_ + 1 } : Ck) := ⟨_, rfl⟩
  rw [← hm] at FV
  have mw : m.wait = c.wait := by rw [hm]; exact q5
  have m5 : m.five = true := by rw [hm]; exact q1.trans h5
  have mb0 : 0 ≤ m.beats := by rw [hm]; simp only [Ck.fiveF]; omega
  have mb1 : m.beats ≤ 63 := by rw [hm]; simp only [Ck.fiveF]; omega
  have w1 := v.wait
  have E : Hid (True → c.tick = m) := by
    intro _
    unfold Ck.tick
    rw [if_pos hv, ← ht, hm]
    unfold Ck.tickS Ck.fiveF Ck.asks
    rw [q1.trans h5, show t.wait = c.wait from q5]
    simp only [rdL, if_true, Bool.not_true, Bool.not_false, Bool.true_and, Bool.false_and, Bool.or_false]
    have x1 : ¬ c.wait = 1 := by omega
    have x0 : ¬ 0 < c.wait := by omega
    simp only [if_neg x1, if_neg x0]
    first | done | rfl
  have HW : Hid _ := fun (_ : True) => hw
  have mw2 := mw.trans hw
  have Q1 : Hid _ := fun (_ : True) => (q1.trans h5 : t.five = true)
  clear hv v ht hm q1 q2 q3 q4 q5 q6 h5 hw mw o
  go_enter Tryd.func29, Tryd.ntmps29
  go_upto_region 1 with fail
  have A : At w ((w.alloc (.cells c.cells 24)).alloc (.cells #[.int .u16 0, .int .u16 0, .int .u16 0, .int .u8 0, .int .u8 0, .bool false, .bool false, .bool false, .bool false, .bool false, .int .u16 0, .int .u8 0, .int .u8 0] 24)) w.heap.size c := At.begin w c
  generalize (w.alloc (.cells c.cells 24)).alloc (.cells #[.int .u16 0, .int .u16 0, .int .u16 0, .int .u8 0, .int .u8 0, .bool false, .bool false, .bool false, .bool false, .bool false, .int .u16 0, .int .u8 0, .int .u8 0] 24) = W0 at *
  go_upto_region 5 with (first
    | (refine wpList_load_blk rfl 24 _ rfl w.heap.size rfl _ _ A.blk Tryd.underlying24 rfl (infoC' _) ?_)
    | (go_at_call 28; refine (V.out _).mono ?_; rintro e Wx ⟨rfl, hbx⟩; replace A := A.on hbx; clear hbx)
    | (go_at_call 40; refine (CT.out _).mono ?_; rintro e Wx ⟨rfl, hbx⟩; replace A := A.on hbx; clear hbx)
    | (refine wpList_store_blk rfl 24 _ _ rfl _ _ (Ck.cells t) 24 rfl rfl A.blk rfl (infoC' _) (Ck.cells_one _) w.heap.size w A.le A.bel ?_; intro Wy h1y h2y h3y; replace A := At.sto A h1y h2y h3y; clear h1y h2y h3y))
  simp only [Act.put]
  obtain ⟨f0, f1, f2, f3, f4, f5, f6, f7, f8, f9, f10, f11, f12, ff⟩ := A.facts
  rw [Q1.out trivial] at f7
  go_upto_region 6 with fail
  replace A := At.set (c' := ({ t with at_ := t.at_ + 1 } : Ck)) A 10 (.int .u16 (t.at_ + 1)) rfl
  clear f0 f1 f2 f3 f4 f5 f6 f7 f8 f9 f10 f11 f12 ff
  generalize Wy.setCell ⟨w.heap.size, 10, none⟩ (.int .u16 (t.at_ + 1)) = Wk at *
  obtain ⟨f0, f1, f2, f3, f4, f5, f6, f7, f8, f9, f10, f11, f12, ff⟩ := A.facts
  simp only [Q1.out trivial] at f7
  go_upto_region 9 with (first
    | (refine wpList_load_blk rfl 24 _ rfl w.heap.size rfl _ _ A.blk Tryd.underlying24 rfl (infoC' _) ?_)
    | (go_at_call 41; refine (FV.out _).mono ?_; rintro e Wx ⟨rfl, hbx⟩; replace A := A.on hbx; clear hbx)
    | (refine wpList_store_blk rfl 24 _ _ rfl _ _ (Ck.cells m) 24 rfl rfl A.blk rfl (infoC' _) (Ck.cells_one _) w.heap.size w A.le A.bel ?_; intro Wy h1y h2y h3y; replace A := At.sto A h1y h2y h3y; clear h1y h2y h3y))
  simp only [Act.put]
  clear f0 f1 f2 f3 f4 f5 f6 f7 f8 f9 f10 f11 f12 ff
  obtain ⟨f0, f1, f2, f3, f4, f5, f6, f7, f8, f9, f10, f11, f12, ff⟩ := A.facts
  rw [mw2] at f11
  go_wp2_with (first
    | (refine wpList_load_blk rfl 24 _ rfl w.heap.size rfl _ _ A.blk Tryd.underlying24 rfl (infoC' _) ?_)
    | (obtain ⟨rc, hr⟩ := A.res; refine wpList_store_blk rfl 24 _ _ rfl _ rc.cells (Ck.cells m) 24 rfl rfl hr rfl (infoC' _) (Ck.cells_one _) w.heap.size w (by omega) A.bel ?_; intro W5 hr5 hb5 ho5))
  rw [E.out trivial]
  refine bodyPost_ret (v := .agg (Ck.cells m)) (res_ck (r := w.heap.size + 1) Tryd.results29 rfl hr5) rfl ⟨rfl, hb5⟩
end Go.Proofs.YtobiiogoofkmaaaDoor
namespace Go.Proofs.YtobiiogoofkmaaaDoor
open Go.RowKit Classical
set_option maxHeartbeats 1000000 in
theorem rtick_true_1 (c : Ck) (w : World) (o : c.Ok) (hv : c.valid = true) (h5 : c.five = true) (hw : c.wait = 1) :
    Calls Tryd.prog 29 #[.agg c.cells] w fun e w' => e = .returned (.agg c.tick.cells) ∧ Below w.heap.size w w' := by
  have v := (Ck.valid_iff c).1 hv
  have V : Hid _ := fun W => rvalid_any c W o
  rw [hv] at V
  have CT : Hid _ := fun W => rcount_any c W o v
  obtain ⟨ot, vt⟩ := Ck.tickT_ok o v
  obtain ⟨q1, q2, q3, q4, q5, q6⟩ := tickT_s c
  obtain ⟨t, ht⟩ : ∃ t : Ck, t = c.tickT := ⟨_, rfl⟩
  rw [← ht] at CT ot vt q1 q2 q3 q4 q5 q6
  have a0 := ot.at_.1
  have a1 := vt.at_
  have FV : Hid _ := fun W => five_any ({ t with at_ := t.at_ + 1 } : Ck) W ot.beats.1 vt.beats (by simp only; omega) (by simp only; omega)
  obtain ⟨m, hm⟩ : ∃ m : Ck, m = Ck.fiveF ({ t with at_ := t.at_ + 1 } : Ck) := ⟨_, rfl⟩
  rw [← hm] at FV
  have mw : m.wait = c.wait := by rw [hm]; exact q5
  have m5 : m.five = true := by rw [hm]; exact q1.trans h5
  have mb0 : 0 ≤ m.beats := by rw [hm]; simp only [Ck.fiveF]; omega
  have mb1 : m.beats ≤ 63 := by rw [hm]; simp only [Ck.fiveF]; omega
  have w1 := v.wait
  have E : Hid (True → c.tick = ({ m with wait := 0, at_ := 0, beats := (m.beats + 1) % 64 } : Ck)) := by
    intro _
    unfold Ck.tick
    rw [if_pos hv, ← ht, hm]
    unfold Ck.tickS Ck.fiveF Ck.asks
    rw [q1.trans h5, show t.wait = c.wait from q5]
    simp only [rdL, if_true, Bool.not_true, Bool.not_false, Bool.true_and, Bool.false_and, Bool.or_false]
    have x0 : 0 < c.wait := by omega
    simp only [if_pos hw, if_pos x0]
    rw [show c.wait - 1 = 0 by omega]
    rfl
  have HW : Hid _ := fun (_ : True) => hw
  have mw2 := mw.trans hw
  have Q1 : Hid _ := fun (_ : True) => (q1.trans h5 : t.five = true)
  clear hv v ht hm q1 q2 q3 q4 q5 q6 h5 hw mw o
  go_enter Tryd.func29, Tryd.ntmps29
  go_upto_region 1 with fail
  have A : At w ((w.alloc (.cells c.cells 24)).alloc (.cells #[.int .u16 0, .int .u16 0, .int .u16 0, .int .u8 0, .int .u8 0, .bool false, .bool false, .bool false, .bool false, .bool false, .int .u16 0, .int .u8 0, .int .u8 0] 24)) w.heap.size c := At.begin w c
  generalize (w.alloc (.cells c.cells 24)).alloc (.cells #[.int .u16 0, .int .u16 0, .int .u16 0, .int .u8 0, .int .u8 0, .bool false, .bool false, .bool false, .bool false, .bool false, .int .u16 0, .int .u8 0, .int .u8 0] 24) = W0 at *
  go_upto_region 5 with (first
    | (refine wpList_load_blk rfl 24 _ rfl w.heap.size rfl _ _ A.blk Tryd.underlying24 rfl (infoC' _) ?_)
    | (go_at_call 28; refine (V.out _).mono ?_; rintro e Wx ⟨rfl, hbx⟩; replace A := A.on hbx; clear hbx)
    | (go_at_call 40; refine (CT.out _).mono ?_; rintro e Wx ⟨rfl, hbx⟩; replace A := A.on hbx; clear hbx)
    | (refine wpList_store_blk rfl 24 _ _ rfl _ _ (Ck.cells t) 24 rfl rfl A.blk rfl (infoC' _) (Ck.cells_one _) w.heap.size w A.le A.bel ?_; intro Wy h1y h2y h3y; replace A := At.sto A h1y h2y h3y; clear h1y h2y h3y))
  simp only [Act.put]
  obtain ⟨f0, f1, f2, f3, f4, f5, f6, f7, f8, f9, f10, f11, f12, ff⟩ := A.facts
  rw [Q1.out trivial] at f7
  go_upto_region 6 with fail
  replace A := At.set (c' := ({ t with at_ := t.at_ + 1 } : Ck)) A 10 (.int .u16 (t.at_ + 1)) rfl
  clear f0 f1 f2 f3 f4 f5 f6 f7 f8 f9 f10 f11 f12 ff
  generalize Wy.setCell ⟨w.heap.size, 10, none⟩ (.int .u16 (t.at_ + 1)) = Wk at *
  obtain ⟨f0, f1, f2, f3, f4, f5, f6, f7, f8, f9, f10, f11, f12, ff⟩ := A.facts
  simp only [Q1.out trivial] at f7
  go_upto_region 9 with (first
    | (refine wpList_load_blk rfl 24 _ rfl w.heap.size rfl _ _ A.blk Tryd.underlying24 rfl (infoC' _) ?_)
    | (go_at_call 41; refine (FV.out _).mono ?_; rintro e Wx ⟨rfl, hbx⟩; replace A := A.on hbx; clear hbx)
    | (refine wpList_store_blk rfl 24 _ _ rfl _ _ (Ck.cells m) 24 rfl rfl A.blk rfl (infoC' _) (Ck.cells_one _) w.heap.size w A.le A.bel ?_; intro Wy h1y h2y h3y; replace A := At.sto A h1y h2y h3y; clear h1y h2y h3y))
  simp only [Act.put]
  clear f0 f1 f2 f3 f4 f5 f6 f7 f8 f9 f10 f11 f12 ff
  obtain ⟨f0, f1, f2, f3, f4, f5, f6, f7, f8, f9, f10, f11, f12, ff⟩ := A.facts
  rw [mw2] at f11
  rw [m5] at f7
  go_upto_region 14 with fail
  replace A := At.set (c' := ({ m with wait := 0, at_ := 0 } : Ck)) (At.set (c' := ({ m with wait := 0 } : Ck)) A 11 (.int .u8 0) rfl) 10 (.int .u16 0) rfl
  clear f0 f1 f2 f3 f4 f5 f6 f7 f8 f9 f10 f11 f12 ff
  generalize (World.setCell Wy ⟨w.heap.size, 11, none⟩ (.int .u8 0)).setCell ⟨w.heap.size, 10, none⟩ (.int .u16 0) = Wk2 at *
  have RB : Hid _ := fun W => rbeat_any ({ m with wait := 0, at_ := 0 } : Ck) W mb0 mb1
  obtain ⟨m2, hm2⟩ : ∃ m2 : Ck, m2 = { m with wait := 0, at_ := 0 } := ⟨_, rfl⟩
  obtain ⟨m3, hm3⟩ : ∃ m3 : Ck, m3 = { m with wait := 0, at_ := 0, beats := (m.beats + 1) % 64 } := ⟨_, rfl⟩
  replace RB : Hid (∀ W, Calls Tryd.prog 43 #[.agg m2.cells] W fun e w' => e = .returned (.agg m3.cells) ∧ Below W.heap.size W w') := by
    unfold Hid; rw [hm2, hm3]; exact RB.out
  rw [← hm2] at A
  have E3 : Hid (True → c.tick = m3) := by rw [hm3]; exact E.out
  clear hm2 hm3 E
  go_upto_region 15 with (first
    | (refine wpList_load_blk rfl 24 _ rfl w.heap.size rfl _ _ A.blk Tryd.underlying24 rfl (infoC' _) ?_)
    | (go_at_call 43; refine (RB.out _).mono ?_; rintro e Wx ⟨rfl, hbx⟩; replace A := A.on hbx; clear hbx)
    | (refine wpList_store_blk rfl 24 _ _ rfl _ _ (Ck.cells m3) 24 rfl rfl A.blk rfl (infoC' _) (Ck.cells_one _) w.heap.size w A.le A.bel ?_; intro Wy h1y h2y h3y; replace A := At.sto A h1y h2y h3y; clear h1y h2y h3y))
  simp only [Act.put]
  go_wp2_with (first
    | (refine wpList_load_blk rfl 24 _ rfl w.heap.size rfl _ _ A.blk Tryd.underlying24 rfl (infoC' _) ?_)
    | (obtain ⟨rc, hr⟩ := A.res; refine wpList_store_blk rfl 24 _ _ rfl _ rc.cells (Ck.cells m3) 24 rfl rfl hr rfl (infoC' _) (Ck.cells_one _) w.heap.size w (by omega) A.bel ?_; intro W5 hr5 hb5 ho5))
  rw [E3.out trivial]
  refine bodyPost_ret (v := .agg (Ck.cells m3)) (res_ck (r := w.heap.size + 1) Tryd.results29 rfl hr5) rfl ⟨rfl, hb5⟩
end Go.Proofs.YtobiiogoofkmaaaDoor
namespace Go.Proofs.YtobiiogoofkmaaaDoor
open Go.RowKit Classical
set_option maxHeartbeats 1000000 in
theorem rtick_true_m (c : Ck) (w : World) (o : c.Ok) (hv : c.valid = true) (h5 : c.five = true) (hw : 1 < c.wait) :
    Calls Tryd.prog 29 #[.agg c.cells] w fun e w' => e = .returned (.agg c.tick.cells) ∧ Below w.heap.size w w' := by
  have v := (Ck.valid_iff c).1 hv
  have V : Hid _ := fun W => rvalid_any c W o
  rw [hv] at V
  have CT : Hid _ := fun W => rcount_any c W o v
  obtain ⟨ot, vt⟩ := Ck.tickT_ok o v
  obtain ⟨q1, q2, q3, q4, q5, q6⟩ := tickT_s c
  obtain ⟨t, ht⟩ : ∃ t : Ck, t = c.tickT := ⟨_, rfl⟩
  rw [← ht] at CT ot vt q1 q2 q3 q4 q5 q6
  have a0 := ot.at_.1
  have a1 := vt.at_
  have FV : Hid _ := fun W => five_any ({ t with at_ := t.at_ + 1 } : Ck) W ot.beats.1 vt.beats (by simp only; omega) (by simp only; omega)
  obtain ⟨m, hm⟩ : ∃ m : Ck, m = Ck.fiveF ({ t with at_ := t.at_ + 1 } : Ck) := ⟨_, rfl⟩
  rw [← hm] at FV
  have mw : m.wait = c.wait := by rw [hm]; exact q5
  have m5 : m.five = true := by rw [hm]; exact q1.trans h5
  have mb0 : 0 ≤ m.beats := by rw [hm]; simp only [Ck.fiveF]; omega
  have mb1 : m.beats ≤ 63 := by rw [hm]; simp only [Ck.fiveF]; omega
  have w1 := v.wait
  have E : Hid (True → c.tick = ({ m with wait := m.wait - 1 } : Ck)) := by
    intro _
    unfold Ck.tick
    rw [if_pos hv, ← ht, hm]
    unfold Ck.tickS Ck.fiveF Ck.asks
    rw [q1.trans h5, show t.wait = c.wait from q5]
    simp only [rdL, if_true, Bool.not_true, Bool.not_false, Bool.true_and, Bool.false_and, Bool.or_false]
    have x1 : ¬ c.wait = 1 := by omega
    have x0 : 0 < c.wait := by omega
    simp only [if_neg x1, if_pos x0]
    first | done | rfl
  have HW : Hid _ := fun (_ : True) => hw
  have mp : 1 < m.wait := by omega
  have mz : (m.wait - 1 == 0) = false := by simpa using (show ¬ m.wait - 1 = 0 by omega)
  have mp0 : 0 < m.wait := by omega
  have mp4 : m.wait ≤ 4 := by omega
  have Q1 : Hid _ := fun (_ : True) => (q1.trans h5 : t.five = true)
  clear hv v ht hm q1 q2 q3 q4 q5 q6 h5 hw mw o
  go_enter Tryd.func29, Tryd.ntmps29
  go_upto_region 1 with fail
  have A : At w ((w.alloc (.cells c.cells 24)).alloc (.cells #[.int .u16 0, .int .u16 0, .int .u16 0, .int .u8 0, .int .u8 0, .bool false, .bool false, .bool false, .bool false, .bool false, .int .u16 0, .int .u8 0, .int .u8 0] 24)) w.heap.size c := At.begin w c
  generalize (w.alloc (.cells c.cells 24)).alloc (.cells #[.int .u16 0, .int .u16 0, .int .u16 0, .int .u8 0, .int .u8 0, .bool false, .bool false, .bool false, .bool false, .bool false, .int .u16 0, .int .u8 0, .int .u8 0] 24) = W0 at *
  go_upto_region 5 with (first
    | (refine wpList_load_blk rfl 24 _ rfl w.heap.size rfl _ _ A.blk Tryd.underlying24 rfl (infoC' _) ?_)
    | (go_at_call 28; refine (V.out _).mono ?_; rintro e Wx ⟨rfl, hbx⟩; replace A := A.on hbx; clear hbx)
    | (go_at_call 40; refine (CT.out _).mono ?_; rintro e Wx ⟨rfl, hbx⟩; replace A := A.on hbx; clear hbx)
    | (refine wpList_store_blk rfl 24 _ _ rfl _ _ (Ck.cells t) 24 rfl rfl A.blk rfl (infoC' _) (Ck.cells_one _) w.heap.size w A.le A.bel ?_; intro Wy h1y h2y h3y; replace A := At.sto A h1y h2y h3y; clear h1y h2y h3y))
  simp only [Act.put]
  obtain ⟨f0, f1, f2, f3, f4, f5, f6, f7, f8, f9, f10, f11, f12, ff⟩ := A.facts
  rw [Q1.out trivial] at f7
  go_upto_region 6 with fail
  replace A := At.set (c' := ({ t with at_ := t.at_ + 1 } : Ck)) A 10 (.int .u16 (t.at_ + 1)) rfl
  clear f0 f1 f2 f3 f4 f5 f6 f7 f8 f9 f10 f11 f12 ff
  generalize Wy.setCell ⟨w.heap.size, 10, none⟩ (.int .u16 (t.at_ + 1)) = Wk at *
  obtain ⟨f0, f1, f2, f3, f4, f5, f6, f7, f8, f9, f10, f11, f12, ff⟩ := A.facts
  simp only [Q1.out trivial] at f7
  go_upto_region 9 with (first
    | (refine wpList_load_blk rfl 24 _ rfl w.heap.size rfl _ _ A.blk Tryd.underlying24 rfl (infoC' _) ?_)
    | (go_at_call 41; refine (FV.out _).mono ?_; rintro e Wx ⟨rfl, hbx⟩; replace A := A.on hbx; clear hbx)
    | (refine wpList_store_blk rfl 24 _ _ rfl _ _ (Ck.cells m) 24 rfl rfl A.blk rfl (infoC' _) (Ck.cells_one _) w.heap.size w A.le A.bel ?_; intro Wy h1y h2y h3y; replace A := At.sto A h1y h2y h3y; clear h1y h2y h3y))
  simp only [Act.put]
  clear f0 f1 f2 f3 f4 f5 f6 f7 f8 f9 f10 f11 f12 ff
  obtain ⟨f0, f1, f2, f3, f4, f5, f6, f7, f8, f9, f10, f11, f12, ff⟩ := A.facts
  go_upto_region 15 with fail
  replace A := At.set (c' := ({ m with wait := m.wait - 1 } : Ck)) A 11 (.int .u8 (m.wait - 1)) rfl
  clear f0 f1 f2 f3 f4 f5 f6 f7 f8 f9 f10 f11 f12 ff
  generalize World.setCell Wy ⟨w.heap.size, 11, none⟩ (.int .u8 (m.wait - 1)) = Wk2 at *
  go_wp2_with (first
    | (refine wpList_load_blk rfl 24 _ rfl w.heap.size rfl _ _ A.blk Tryd.underlying24 rfl (infoC' _) ?_)
    | (obtain ⟨rc, hr⟩ := A.res; refine wpList_store_blk rfl 24 _ _ rfl _ rc.cells (Ck.cells ({ m with wait := m.wait - 1 } : Ck)) 24 rfl rfl hr rfl (infoC' _) (Ck.cells_one _) w.heap.size w (by omega) A.bel ?_; intro W5 hr5 hb5 ho5))
  rw [E.out trivial]
  refine bodyPost_ret (v := .agg (Ck.cells ({ m with wait := m.wait - 1 } : Ck))) (res_ck (r := w.heap.size + 1) Tryd.results29 rfl hr5) rfl ⟨rfl, hb5⟩
end Go.Proofs.YtobiiogoofkmaaaDoor
namespace Go.Proofs.YtobiiogoofkmaaaDoor
open Go.RowKit Classical
set_option maxHeartbeats 1000000 in
theorem rtick_no (c : Ck) (w : World) (o : c.Ok) (hv : c.valid = false) :
    Calls Tryd.prog 29 #[.agg c.cells] w fun e w' => e = .returned (.agg c.cells) ∧ Below w.heap.size w w' := by
  have V : Hid _ := fun W => rvalid_any c W o
  rw [hv] at V
  clear hv
  go_enter Tryd.func29, Tryd.ntmps29
  go_upto_region 1 with fail
  have A : At w ((w.alloc (.cells c.cells 24)).alloc (.cells #[.int .u16 0, .int .u16 0, .int .u16 0, .int .u8 0, .int .u8 0, .bool false, .bool false, .bool false, .bool false, .bool false, .int .u16 0, .int .u8 0, .int .u8 0] 24)) w.heap.size c := At.begin w c
  generalize (w.alloc (.cells c.cells 24)).alloc (.cells #[.int .u16 0, .int .u16 0, .int .u16 0, .int .u8 0, .int .u8 0, .bool false, .bool false, .bool false, .bool false, .bool false, .int .u16 0, .int .u8 0, .int .u8 0] 24) = W0 at *
  go_wp2_with (first
    | (refine wpList_load_blk rfl 24 _ rfl w.heap.size rfl _ _ A.blk Tryd.underlying24 rfl (infoC' _) ?_)
    | (go_at_call 28; refine (V.out _).mono ?_; rintro e Wx ⟨rfl, hbx⟩; replace A := A.on hbx; clear hbx)
    | (obtain ⟨rc, hr⟩ := A.res; refine wpList_store_blk rfl 24 _ _ rfl _ rc.cells (Ck.cells c) 24 rfl rfl hr rfl (infoC' _) (Ck.cells_one _) w.heap.size w (by omega) A.bel ?_; intro W5 hr5 hb5 ho5))
  refine bodyPost_ret (v := .agg (Ck.cells c)) (res_ck (r := w.heap.size + 1) Tryd.results29 rfl hr5) rfl ⟨rfl, hb5⟩
theorem rtick_any (c : Ck) (w : World) (o : c.Ok) :
    Calls Tryd.prog 29 #[.agg c.cells] w fun e w' => e = .returned (.agg c.tick.cells) ∧ Below w.heap.size w w' := by
  cases hv : c.valid
  · rw [show c.tick = c by unfold Ck.tick; rw [hv]; rfl]; exact rtick_no c w o hv
  have hw := o.wait
  rcases (show c.five = false ∨ c.five = true by cases c.five <;> simp) with h5 | h5
  · by_cases h0 : c.wait = 0
    · exact rtick_false_0 c w o hv h5 h0
    by_cases h1 : c.wait = 1
    · exact rtick_false_1 c w o hv h5 h1
    · exact rtick_false_m c w o hv h5 (by omega)
  · by_cases h0 : c.wait = 0
    · exact rtick_true_0 c w o hv h5 h0
    by_cases h1 : c.wait = 1
    · exact rtick_true_1 c w o hv h5 h1
    · exact rtick_true_m c w o hv h5 (by omega)
end Go.Proofs.YtobiiogoofkmaaaDoor
