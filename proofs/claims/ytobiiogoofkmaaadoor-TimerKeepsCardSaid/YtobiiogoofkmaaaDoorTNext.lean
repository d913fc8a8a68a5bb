/-
  The contract of Next; conditions: the tables lie in their variables, the numbers fit their kinds.
-/
import Derived.Test.YtobiiogoofkmaaaDoorTIrq
import Derived.Test.YtobiiogoofkmaaaDoorTTop0
import Derived.Test.YtobiiogoofkmaaaDoorTWait
import Derived.Test.YtobiiogoofkmaaaDoorTNextM
set_option linter.unusedSimpArgs false
set_option linter.unusedVariables false
namespace Go.Proofs.YtobiiogoofkmaaaDoor
open Go.RowKit Classical
/-- Cycles until the timer asks, until the sequencer does; Never is 2 to the power of 62. -/
def Ck.nT (c : Ck) : Int := if c.ctl % 2 = 1 ∧ c.ctl / 2 % 2 = 1 then c.run else 4611686018427387904
def Ck.nS (c : Ck) : Int := if c.asks = true then c.toF else 4611686018427387904
def Ck.nxt (c : Ck) : Int := if c.valid = false then 4611686018427387904 else if c.irq = true then 0 else min c.nT c.nS
theorem At.of_valid (w : World) (c : Ck) (n : Nat) : At w (((w.alloc (.cells c.cells 24)).alloc (.cells c.cells 24)).drewN n) w.heap.size c := by
  have h1 : Blk ((w.alloc (.cells c.cells 24)).alloc (.cells c.cells 24)) (w.heap.size + 1) c.cells 24 := by
    have := Blk.new (w.alloc (.cells c.cells 24)) c.cells 24
    simpa using this
  have A : At w ((w.alloc (.cells c.cells 24)).alloc (.cells c.cells 24)) w.heap.size c := ⟨(Blk.new w _ _).old _, Nat.le_refl _, below_a2 _ _ _, c, h1⟩
  exact A.drews n
theorem run_le (c : Ck) (o : c.Ok) : c.run ≤ 16777216 := by
  have := run_bd c o; have := o.pre; unfold Ck.run; omega
set_option maxHeartbeats 2000000 in
theorem next_no (c : Ck) (w : World) (o : c.Ok) (T : Tabs w) (hv : c.valid = false) :
    Calls Tryd.prog 11 #[.agg c.cells] w fun e w' => e = .returned (.int .i64 (4611686018427387904)) ∧ Below w.heap.size w w' := by
  have VH : Hid _ := fun W (hW : DTab W) => valid_ex c W o hW
  rw [hv] at VH
  go_enter Tryd.func11, Tryd.ntmps11
  go_upto_region 1 with fail
  have b0 : Blk (w.alloc (.cells c.cells 24)) w.heap.size c.cells 24 := Blk.new w _ _
  go_wp2_with (first
    | (refine wpList_load_blk rfl 24 _ rfl w.heap.size rfl _ _ b0 Tryd.underlying24 rfl (infoC' _) ?_)
    | (go_at_call 5; refine (VH.out _ (T.d.on ((Below.refl _ _).alloc (Nat.le_refl _) _))).mono ?_; rintro e w2 ⟨rfl, n, rfl⟩; have A := At.of_valid w c n; generalize ((w.alloc (.cells c.cells 24)).alloc (.cells c.cells 24)).drewN n = W1 at *))
  go_ret
  exact ⟨rfl, A.bel⟩
set_option maxHeartbeats 2000000 in
theorem next_now (c : Ck) (w : World) (o : c.Ok) (T : Tabs w) (hv : c.valid = true) (hi : c.irq = true) :
    Calls Tryd.prog 11 #[.agg c.cells] w fun e w' => e = .returned (.int .i64 (0)) ∧ Below w.heap.size w w' := by
  have VH : Hid _ := fun W (hW : DTab W) => valid_ex c W o hW
  rw [hv] at VH
  have IH : Hid _ := fun W (hW : DTab W) => irq_any c W o hW
  rw [hi] at IH
  go_enter Tryd.func11, Tryd.ntmps11
  go_upto_region 1 with fail
  have b0 : Blk (w.alloc (.cells c.cells 24)) w.heap.size c.cells 24 := Blk.new w _ _
  go_wp2_with (first
    | (refine wpList_load_blk rfl 24 _ rfl w.heap.size rfl _ _ b0 Tryd.underlying24 rfl (infoC' _) ?_)
    | (go_at_call 5; refine (VH.out _ (T.d.on ((Below.refl _ _).alloc (Nat.le_refl _) _))).mono ?_; rintro e w2 ⟨rfl, n, rfl⟩; have A := At.of_valid w c n; generalize ((w.alloc (.cells c.cells 24)).alloc (.cells c.cells 24)).drewN n = W1 at *)
    | (refine wpList_load_blk rfl 24 _ rfl w.heap.size rfl _ _ A.blk Tryd.underlying24 rfl (infoC' _) ?_)
    | (go_at_call 10; refine (IH.out _ (T.d.on A.bel)).mono ?_; rintro e W2 ⟨rfl, hb⟩; replace A := A.on hb; clear hb; obtain ⟨f0, f1, f2, f3, f4, f5, f6, f7, f8, f9, f10, f11, f12, ff⟩ := A.facts))
  go_ret
  exact ⟨rfl, A.bel⟩
set_option maxHeartbeats 2000000 in
theorem next_ts (c : Ck) (w : World) (o : c.Ok) (T : Tabs w) (hv : c.valid = true) (hi : c.irq = false) (hk : c.asks = true) (h1 : c.ctl % 2 = 1) (h2 : c.ctl / 2 % 2 = 1) :
    Calls Tryd.prog 11 #[.agg c.cells] w fun e w' => e = .returned (.int .i64 (min c.run c.toF)) ∧ Below w.heap.size w w' := by
  have VH : Hid _ := fun W (hW : DTab W) => valid_ex c W o hW
  rw [hv] at VH
  have IH : Hid _ := fun W (hW : DTab W) => irq_any c W o hW
  rw [hi] at IH
  have AK : Hid _ := fun W (hA : At w W w.heap.size c) => asks_any c w W w.heap.size hA
  rw [hk] at AK
  have tb := toF_bd c o
  have rb := run_le c o
  have e1 := and1 c.ctl o.ctl.1 o.ctl.2
  have e2 := and2 c.ctl o.ctl.1 o.ctl.2
  rw [h1] at e1
  rw [if_pos h2] at e2
  have TR : Hid _ := fun W (hA : At w W w.heap.size c) => toRun_any c w W w.heap.size o T.d hA
  have m1 : ∀ (w : World), (Builtin.min_ #[3, 3] 3 #[.int .i64 4611686018427387904, .int .i64 c.run]).run Tryd.prog w = .ok (.int .i64 c.run) w := fun w => by
    rw [min2i, show min 4611686018427387904 c.run = c.run by omega]
  have TF : Hid _ := fun W (hA : At w W w.heap.size c) => toF_any c w W w.heap.size o T hA
  have m2 : ∀ (w : World), (Builtin.min_ #[3, 3] 3 #[.int .i64 (c.run), .int .i64 c.toF]).run Tryd.prog w = .ok (.int .i64 (min c.run c.toF)) w := fun w => by
    rw [min2i]
  clear hi hk tb rb
  clear h1 h2
  go_enter Tryd.func11, Tryd.ntmps11
  go_upto_region 1 with fail
  have b0 : Blk (w.alloc (.cells c.cells 24)) w.heap.size c.cells 24 := Blk.new w _ _
  go_wp2_with (first
    | (refine wpList_load_blk rfl 24 _ rfl w.heap.size rfl _ _ b0 Tryd.underlying24 rfl (infoC' _) ?_)
    | (go_at_call 5; refine (VH.out _ (T.d.on ((Below.refl _ _).alloc (Nat.le_refl _) _))).mono ?_; rintro e w2 ⟨rfl, n, rfl⟩; have A := At.of_valid w c n; generalize ((w.alloc (.cells c.cells 24)).alloc (.cells c.cells 24)).drewN n = W1 at *)
    | (refine wpList_load_blk rfl 24 _ rfl w.heap.size rfl _ _ A.blk Tryd.underlying24 rfl (infoC' _) ?_)
    | (go_at_call 10; refine (IH.out _ (T.d.on A.bel)).mono ?_; rintro e W2 ⟨rfl, hb⟩; replace A := A.on hb; clear hb; obtain ⟨f0, f1, f2, f3, f4, f5, f6, f7, f8, f9, f10, f11, f12, ff⟩ := A.facts)
    | (go_at_call 25; refine (TR.out _ A).mono ?_; rintro e W3 ⟨rfl, k3, rfl⟩; replace A := A.drews k3; clear TR; generalize W2.drewN k3 = W6 at *)
    | (go_at_call 26; refine (AK.out _ A).mono ?_; rintro e W4 ⟨rfl, rfl⟩; clear AK)
    | (go_at_call 27; refine (TF.out _ A).mono ?_; rintro e W5 ⟨rfl, k5, rfl⟩; replace A := A.drews k5; clear TF))
  go_ret
  exact ⟨rfl, A.bel⟩
set_option maxHeartbeats 2000000 in
theorem next_tn (c : Ck) (w : World) (o : c.Ok) (T : Tabs w) (hv : c.valid = true) (hi : c.irq = false) (hk : c.asks = false) (h1 : c.ctl % 2 = 1) (h2 : c.ctl / 2 % 2 = 1) :
    Calls Tryd.prog 11 #[.agg c.cells] w fun e w' => e = .returned (.int .i64 (c.run)) ∧ Below w.heap.size w w' := by
  have VH : Hid _ := fun W (hW : DTab W) => valid_ex c W o hW
  rw [hv] at VH
  have IH : Hid _ := fun W (hW : DTab W) => irq_any c W o hW
  rw [hi] at IH
  have AK : Hid _ := fun W (hA : At w W w.heap.size c) => asks_any c w W w.heap.size hA
  rw [hk] at AK
  have tb := toF_bd c o
  have rb := run_le c o
  have e1 := and1 c.ctl o.ctl.1 o.ctl.2
  have e2 := and2 c.ctl o.ctl.1 o.ctl.2
  rw [h1] at e1
  rw [if_pos h2] at e2
  have TR : Hid _ := fun W (hA : At w W w.heap.size c) => toRun_any c w W w.heap.size o T.d hA
  have m1 : ∀ (w : World), (Builtin.min_ #[3, 3] 3 #[.int .i64 4611686018427387904, .int .i64 c.run]).run Tryd.prog w = .ok (.int .i64 c.run) w := fun w => by
    rw [min2i, show min 4611686018427387904 c.run = c.run by omega]
  clear hi hk tb rb
  clear h1 h2
  go_enter Tryd.func11, Tryd.ntmps11
  go_upto_region 1 with fail
  have b0 : Blk (w.alloc (.cells c.cells 24)) w.heap.size c.cells 24 := Blk.new w _ _
  go_wp2_with (first
    | (refine wpList_load_blk rfl 24 _ rfl w.heap.size rfl _ _ b0 Tryd.underlying24 rfl (infoC' _) ?_)
    | (go_at_call 5; refine (VH.out _ (T.d.on ((Below.refl _ _).alloc (Nat.le_refl _) _))).mono ?_; rintro e w2 ⟨rfl, n, rfl⟩; have A := At.of_valid w c n; generalize ((w.alloc (.cells c.cells 24)).alloc (.cells c.cells 24)).drewN n = W1 at *)
    | (refine wpList_load_blk rfl 24 _ rfl w.heap.size rfl _ _ A.blk Tryd.underlying24 rfl (infoC' _) ?_)
    | (go_at_call 10; refine (IH.out _ (T.d.on A.bel)).mono ?_; rintro e W2 ⟨rfl, hb⟩; replace A := A.on hb; clear hb; obtain ⟨f0, f1, f2, f3, f4, f5, f6, f7, f8, f9, f10, f11, f12, ff⟩ := A.facts)
    | (go_at_call 25; refine (TR.out _ A).mono ?_; rintro e W3 ⟨rfl, k3, rfl⟩; replace A := A.drews k3; clear TR; generalize W2.drewN k3 = W6 at *)
    | (go_at_call 26; refine (AK.out _ A).mono ?_; rintro e W4 ⟨rfl, rfl⟩; clear AK))
  go_ret
  exact ⟨rfl, A.bel⟩
set_option maxHeartbeats 2000000 in
theorem next_ns0 (c : Ck) (w : World) (o : c.Ok) (T : Tabs w) (hv : c.valid = true) (hi : c.irq = false) (hk : c.asks = true) (h1 : c.ctl % 2 = 0) :
    Calls Tryd.prog 11 #[.agg c.cells] w fun e w' => e = .returned (.int .i64 (c.toF)) ∧ Below w.heap.size w w' := by
  have VH : Hid _ := fun W (hW : DTab W) => valid_ex c W o hW
  rw [hv] at VH
  have IH : Hid _ := fun W (hW : DTab W) => irq_any c W o hW
  rw [hi] at IH
  have AK : Hid _ := fun W (hA : At w W w.heap.size c) => asks_any c w W w.heap.size hA
  rw [hk] at AK
  have tb := toF_bd c o
  have rb := run_le c o
  have e1 := and1 c.ctl o.ctl.1 o.ctl.2
  have e2 := and2 c.ctl o.ctl.1 o.ctl.2
  have TF : Hid _ := fun W (hA : At w W w.heap.size c) => toF_any c w W w.heap.size o T hA
  have m2 : ∀ (w : World), (Builtin.min_ #[3, 3] 3 #[.int .i64 4611686018427387904, .int .i64 c.toF]).run Tryd.prog w = .ok (.int .i64 (c.toF)) w := fun w => by
    rw [min2i, show min 4611686018427387904 c.toF = c.toF by omega]
  clear hi hk tb rb
  rw [h1] at e1
  clear h1 e2
  go_enter Tryd.func11, Tryd.ntmps11
  go_upto_region 1 with fail
  have b0 : Blk (w.alloc (.cells c.cells 24)) w.heap.size c.cells 24 := Blk.new w _ _
  go_wp2_with (first
    | (refine wpList_load_blk rfl 24 _ rfl w.heap.size rfl _ _ b0 Tryd.underlying24 rfl (infoC' _) ?_)
    | (go_at_call 5; refine (VH.out _ (T.d.on ((Below.refl _ _).alloc (Nat.le_refl _) _))).mono ?_; rintro e w2 ⟨rfl, n, rfl⟩; have A := At.of_valid w c n; generalize ((w.alloc (.cells c.cells 24)).alloc (.cells c.cells 24)).drewN n = W1 at *)
    | (refine wpList_load_blk rfl 24 _ rfl w.heap.size rfl _ _ A.blk Tryd.underlying24 rfl (infoC' _) ?_)
    | (go_at_call 10; refine (IH.out _ (T.d.on A.bel)).mono ?_; rintro e W2 ⟨rfl, hb⟩; replace A := A.on hb; clear hb; obtain ⟨f0, f1, f2, f3, f4, f5, f6, f7, f8, f9, f10, f11, f12, ff⟩ := A.facts)
    | (go_at_call 26; refine (AK.out _ A).mono ?_; rintro e W4 ⟨rfl, rfl⟩; clear AK)
    | (go_at_call 27; refine (TF.out _ A).mono ?_; rintro e W5 ⟨rfl, k5, rfl⟩; replace A := A.drews k5; clear TF))
  go_ret
  exact ⟨rfl, A.bel⟩
set_option maxHeartbeats 2000000 in
theorem next_ns1 (c : Ck) (w : World) (o : c.Ok) (T : Tabs w) (hv : c.valid = true) (hi : c.irq = false) (hk : c.asks = true) (h1 : c.ctl % 2 = 1) (h2 : ¬ c.ctl / 2 % 2 = 1) :
    Calls Tryd.prog 11 #[.agg c.cells] w fun e w' => e = .returned (.int .i64 (c.toF)) ∧ Below w.heap.size w w' := by
  have VH : Hid _ := fun W (hW : DTab W) => valid_ex c W o hW
  rw [hv] at VH
  have IH : Hid _ := fun W (hW : DTab W) => irq_any c W o hW
  rw [hi] at IH
  have AK : Hid _ := fun W (hA : At w W w.heap.size c) => asks_any c w W w.heap.size hA
  rw [hk] at AK
  have tb := toF_bd c o
  have rb := run_le c o
  have e1 := and1 c.ctl o.ctl.1 o.ctl.2
  have e2 := and2 c.ctl o.ctl.1 o.ctl.2
  have TF : Hid _ := fun W (hA : At w W w.heap.size c) => toF_any c w W w.heap.size o T hA
  have m2 : ∀ (w : World), (Builtin.min_ #[3, 3] 3 #[.int .i64 4611686018427387904, .int .i64 c.toF]).run Tryd.prog w = .ok (.int .i64 (c.toF)) w := fun w => by
    rw [min2i, show min 4611686018427387904 c.toF = c.toF by omega]
  clear hi hk tb rb
  rw [h1] at e1
  rw [if_neg h2] at e2
  clear h1 h2
  go_enter Tryd.func11, Tryd.ntmps11
  go_upto_region 1 with fail
  have b0 : Blk (w.alloc (.cells c.cells 24)) w.heap.size c.cells 24 := Blk.new w _ _
  go_wp2_with (first
    | (refine wpList_load_blk rfl 24 _ rfl w.heap.size rfl _ _ b0 Tryd.underlying24 rfl (infoC' _) ?_)
    | (go_at_call 5; refine (VH.out _ (T.d.on ((Below.refl _ _).alloc (Nat.le_refl _) _))).mono ?_; rintro e w2 ⟨rfl, n, rfl⟩; have A := At.of_valid w c n; generalize ((w.alloc (.cells c.cells 24)).alloc (.cells c.cells 24)).drewN n = W1 at *)
    | (refine wpList_load_blk rfl 24 _ rfl w.heap.size rfl _ _ A.blk Tryd.underlying24 rfl (infoC' _) ?_)
    | (go_at_call 10; refine (IH.out _ (T.d.on A.bel)).mono ?_; rintro e W2 ⟨rfl, hb⟩; replace A := A.on hb; clear hb; obtain ⟨f0, f1, f2, f3, f4, f5, f6, f7, f8, f9, f10, f11, f12, ff⟩ := A.facts)
    | (go_at_call 26; refine (AK.out _ A).mono ?_; rintro e W4 ⟨rfl, rfl⟩; clear AK)
    | (go_at_call 27; refine (TF.out _ A).mono ?_; rintro e W5 ⟨rfl, k5, rfl⟩; replace A := A.drews k5; clear TF))
  go_ret
  exact ⟨rfl, A.bel⟩
set_option maxHeartbeats 2000000 in
theorem next_nn0 (c : Ck) (w : World) (o : c.Ok) (T : Tabs w) (hv : c.valid = true) (hi : c.irq = false) (hk : c.asks = false) (h1 : c.ctl % 2 = 0) :
    Calls Tryd.prog 11 #[.agg c.cells] w fun e w' => e = .returned (.int .i64 (4611686018427387904)) ∧ Below w.heap.size w w' := by
  have VH : Hid _ := fun W (hW : DTab W) => valid_ex c W o hW
  rw [hv] at VH
  have IH : Hid _ := fun W (hW : DTab W) => irq_any c W o hW
  rw [hi] at IH
  have AK : Hid _ := fun W (hA : At w W w.heap.size c) => asks_any c w W w.heap.size hA
  rw [hk] at AK
  have tb := toF_bd c o
  have rb := run_le c o
  have e1 := and1 c.ctl o.ctl.1 o.ctl.2
  have e2 := and2 c.ctl o.ctl.1 o.ctl.2
  clear hi hk tb rb
  rw [h1] at e1
  clear h1 e2
  go_enter Tryd.func11, Tryd.ntmps11
  go_upto_region 1 with fail
  have b0 : Blk (w.alloc (.cells c.cells 24)) w.heap.size c.cells 24 := Blk.new w _ _
  go_wp2_with (first
    | (refine wpList_load_blk rfl 24 _ rfl w.heap.size rfl _ _ b0 Tryd.underlying24 rfl (infoC' _) ?_)
    | (go_at_call 5; refine (VH.out _ (T.d.on ((Below.refl _ _).alloc (Nat.le_refl _) _))).mono ?_; rintro e w2 ⟨rfl, n, rfl⟩; have A := At.of_valid w c n; generalize ((w.alloc (.cells c.cells 24)).alloc (.cells c.cells 24)).drewN n = W1 at *)
    | (refine wpList_load_blk rfl 24 _ rfl w.heap.size rfl _ _ A.blk Tryd.underlying24 rfl (infoC' _) ?_)
    | (go_at_call 10; refine (IH.out _ (T.d.on A.bel)).mono ?_; rintro e W2 ⟨rfl, hb⟩; replace A := A.on hb; clear hb; obtain ⟨f0, f1, f2, f3, f4, f5, f6, f7, f8, f9, f10, f11, f12, ff⟩ := A.facts)
    | (go_at_call 26; refine (AK.out _ A).mono ?_; rintro e W4 ⟨rfl, rfl⟩; clear AK))
  go_ret
  exact ⟨rfl, A.bel⟩
set_option maxHeartbeats 2000000 in
theorem next_nn1 (c : Ck) (w : World) (o : c.Ok) (T : Tabs w) (hv : c.valid = true) (hi : c.irq = false) (hk : c.asks = false) (h1 : c.ctl % 2 = 1) (h2 : ¬ c.ctl / 2 % 2 = 1) :
    Calls Tryd.prog 11 #[.agg c.cells] w fun e w' => e = .returned (.int .i64 (4611686018427387904)) ∧ Below w.heap.size w w' := by
  have VH : Hid _ := fun W (hW : DTab W) => valid_ex c W o hW
  rw [hv] at VH
  have IH : Hid _ := fun W (hW : DTab W) => irq_any c W o hW
  rw [hi] at IH
  have AK : Hid _ := fun W (hA : At w W w.heap.size c) => asks_any c w W w.heap.size hA
  rw [hk] at AK
  have tb := toF_bd c o
  have rb := run_le c o
  have e1 := and1 c.ctl o.ctl.1 o.ctl.2
  have e2 := and2 c.ctl o.ctl.1 o.ctl.2
  clear hi hk tb rb
  rw [h1] at e1
  rw [if_neg h2] at e2
  clear h1 h2
  go_enter Tryd.func11, Tryd.ntmps11
  go_upto_region 1 with fail
  have b0 : Blk (w.alloc (.cells c.cells 24)) w.heap.size c.cells 24 := Blk.new w _ _
  go_wp2_with (first
    | (refine wpList_load_blk rfl 24 _ rfl w.heap.size rfl _ _ b0 Tryd.underlying24 rfl (infoC' _) ?_)
    | (go_at_call 5; refine (VH.out _ (T.d.on ((Below.refl _ _).alloc (Nat.le_refl _) _))).mono ?_; rintro e w2 ⟨rfl, n, rfl⟩; have A := At.of_valid w c n; generalize ((w.alloc (.cells c.cells 24)).alloc (.cells c.cells 24)).drewN n = W1 at *)
    | (refine wpList_load_blk rfl 24 _ rfl w.heap.size rfl _ _ A.blk Tryd.underlying24 rfl (infoC' _) ?_)
    | (go_at_call 10; refine (IH.out _ (T.d.on A.bel)).mono ?_; rintro e W2 ⟨rfl, hb⟩; replace A := A.on hb; clear hb; obtain ⟨f0, f1, f2, f3, f4, f5, f6, f7, f8, f9, f10, f11, f12, ff⟩ := A.facts)
    | (go_at_call 26; refine (AK.out _ A).mono ?_; rintro e W4 ⟨rfl, rfl⟩; clear AK))
  go_ret
  exact ⟨rfl, A.bel⟩
theorem next_any (c : Ck) (w : World) (o : c.Ok) (T : Tabs w) :
    Calls Tryd.prog 11 #[.agg c.cells] w fun e w' => e = .returned (.int .i64 c.nxt) ∧ Below w.heap.size w w' := by
  have tb := toF_bd c o
  have rb := run_le c o
  cases hv : c.valid
  · rw [show c.nxt = 4611686018427387904 by unfold Ck.nxt; rw [if_pos hv]]; exact next_no c w o T hv
  have nv : ¬ c.valid = false := by rw [hv]; decide
  cases hi : c.irq
  rotate_left
  · rw [show c.nxt = 0 by unfold Ck.nxt; rw [if_neg nv, if_pos hi]]; exact next_now c w o T hv hi
  have ni : ¬ c.irq = true := by rw [hi]; decide
  have hc : c.ctl % 2 = 0 ∨ c.ctl % 2 = 1 := by omega
  cases hk : c.asks
  · have nk : ¬ c.asks = true := by rw [hk]; decide
    rcases hc with h1 | h1
    · rw [show c.nxt = 4611686018427387904 by unfold Ck.nxt Ck.nT Ck.nS; rw [if_neg nv, if_neg ni, if_neg (by omega), if_neg nk]; rfl]; exact next_nn0 c w o T hv hi hk h1
    · by_cases h2 : c.ctl / 2 % 2 = 1
      · rw [show c.nxt = c.run by unfold Ck.nxt Ck.nT Ck.nS; rw [if_neg nv, if_neg ni, if_pos ⟨h1, h2⟩, if_neg nk]; omega]; exact next_tn c w o T hv hi hk h1 h2
      · rw [show c.nxt = 4611686018427387904 by unfold Ck.nxt Ck.nT Ck.nS; rw [if_neg nv, if_neg ni, if_neg (by omega), if_neg nk]; rfl]; exact next_nn1 c w o T hv hi hk h1 h2
  · rcases hc with h1 | h1
    · rw [show c.nxt = c.toF by unfold Ck.nxt Ck.nT Ck.nS; rw [if_neg nv, if_neg ni, if_neg (by omega), if_pos hk]; omega]; exact next_ns0 c w o T hv hi hk h1
    · by_cases h2 : c.ctl / 2 % 2 = 1
      · rw [show c.nxt = min c.run c.toF by unfold Ck.nxt Ck.nT Ck.nS; rw [if_neg nv, if_neg ni, if_pos ⟨h1, h2⟩, if_pos hk]]; exact next_ts c w o T hv hi hk h1 h2
      · rw [show c.nxt = c.toF by unfold Ck.nxt Ck.nT Ck.nS; rw [if_neg nv, if_neg ni, if_neg (by omega), if_pos hk]; omega]; exact next_ns1 c w o T hv hi hk h1 h2
end Go.Proofs.YtobiiogoofkmaaaDoor
