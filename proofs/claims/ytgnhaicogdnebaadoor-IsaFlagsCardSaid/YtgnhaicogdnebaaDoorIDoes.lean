/-
  The contracts of isa.Flags and of the law's own does.
-/
import Derived.Test.YtgnhaicogdnebaaDoorIShape
import Derived.Test.YtgnhaicogdnebaaDoorIStore
import Derived.Test.YtgnhaicogdnebaaDoorATab
set_option linter.unusedSimpArgs false
set_option linter.unusedVariables false
namespace Go.Proofs.YtgnhaicogdnebaaDoor
open Go.RowKit
theorem hidI {{p : Prop}} (h : p) : Hid p := h
theorem flags_any (k : Nat) (hk : k < 256) (w : World) (T : Tabs w) :
    Calls Tryd.prog 5 #[.int .u8 (k : Nat)] w fun e w' => e = .returned (.tuple #[.int .u8 (nd (opN k : Nat)), .int .u8 (st (opN k : Nat))]) ∧ w' = w := by
  have TT := hidI T
  clear T
  go_enter Tryd.func5, Tryd.ntmps5
  go_wp2_with (first
    | (go_at_call 12; go_must (refine (opOf_any k hk _).mono ?_; rintro e w1 ⟨rfl, hw1⟩; obtain rfl := hw1.symm))
    | (go_at_call 13; go_must (refine (needs_any _ _ TT.out).mono ?_; rintro e w1 ⟨rfl, hw1⟩; obtain rfl := hw1.symm))
    | (go_at_call 14; go_must (refine (sets_any _ _ TT.out.s).mono ?_; rintro e w1 ⟨rfl, hw1⟩; obtain rfl := hw1.symm)))
  go_ret2
  exact ⟨rfl, rfl⟩
theorem blk1 (w : World) (o o' : Obj) (cs : Array Value) : Blk (((w.alloc o).alloc (.cells cs 23)).alloc o') (w.heap.size + 1) cs 23 := by
  have h := (Blk.new (w.alloc o) cs 23).old o'
  rwa [World.size_alloc] at h
theorem blk2 (w : World) (o o' : Obj) (cs : Array Value) : Blk (((w.alloc o).alloc o').alloc (.cells cs 23)) (w.heap.size + 2) cs 23 := by
  have h := Blk.new ((w.alloc o).alloc o') cs 23
  rwa [World.size_alloc, World.size_alloc] at h
set_option maxRecDepth 100000 in
theorem does_acc (o : Int) (md kd ln nl cl : Nat) (a x y s p m : Int) (o0 o1 o2 o3 o4 o5 : Int) (w : World) (hm : md = 1)
    (hc : ∀ W, Below w.heap.size w W → Calls Tryd.prog 15 #[.int .i64 o, .agg #[.int .u8 a, .int .u8 x, .int .u8 y, .int .u8 s, .int .u8 p, .int .u8 m]] W fun e w' => e = .returned (.agg #[.int .u8 o0, .int .u8 o1, .int .u8 o2, .int .u8 o3, .int .u8 o4, .int .u8 o5]) ∧ Below W.heap.size W w') :
    Calls Tryd.prog 6 #[.agg #[.int .i64 o, .int .i64 (md : Nat), .int .i64 (kd : Nat), .int .i64 (ln : Nat), .int .i64 (nl : Nat), .int .i64 (cl : Nat)], .agg #[.int .u8 a, .int .u8 x, .int .u8 y, .int .u8 s, .int .u8 p, .int .u8 m]] w fun e w' => e = .returned (.agg #[.int .u8 o0, .int .u8 o1, .int .u8 o2, .int .u8 o3, .int .u8 o4, .int .u8 o5]) ∧ Below w.heap.size w w' := by
  have HC := hidI hc
  clear hc
  subst hm
  go_enter Tryd.func6, Tryd.ntmps6
  go_upto_region 1 with fail
  obtain ⟨W, hW⟩ : ∃ W, W = ((w.alloc (.cells #[.int .i64 o, .int .i64 1, .int .i64 (kd : Nat), .int .i64 (ln : Nat), .int .i64 (nl : Nat), .int .i64 (cl : Nat)] 28)).alloc (.cells #[.int .u8 a, .int .u8 x, .int .u8 y, .int .u8 s, .int .u8 p, .int .u8 m] 23)).alloc (.cells #[.int .u8 0, .int .u8 0, .int .u8 0, .int .u8 0, .int .u8 0, .int .u8 0] 23) := ⟨_, rfl⟩
  have iB : Blk W w.heap.size #[.int .i64 o, .int .i64 1, .int .i64 (kd : Nat), .int .i64 (ln : Nat), .int .i64 (nl : Nat), .int .i64 (cl : Nat)] 28 := by rw [hW]; exact ((Blk.new w _ _).old _).old _
  have aB : Blk W (w.heap.size + 1) #[.int .u8 a, .int .u8 x, .int .u8 y, .int .u8 s, .int .u8 p, .int .u8 m] 23 := by rw [hW]; exact blk1 _ _ _ _
  have zB : Blk W (w.heap.size + 2) #[.int .u8 0, .int .u8 0, .int .u8 0, .int .u8 0, .int .u8 0, .int .u8 0] 23 := by rw [hW]; exact blk2 _ _ _ _
  have hb : Below w.heap.size w W := by rw [hW]; exact (((Below.refl _ _).alloc (Nat.le_refl _) _).alloc (by simp) _).alloc (by simp; omega) _
  change Code.wp _ _ _ _ (((w.alloc (.cells _ 28)).alloc (.cells _ 23)).alloc (.cells _ 23))
  rw [← hW]
  clear hW
  have ic := iB.cell
  have ac := aB.cell
  go_wp2_with (first
    | (go_at_call 15; go_must (refine (HC.out _ hb).mono ?_; rintro e w1 ⟨rfl, hb1⟩; have zB1 := zB.below zB.lt hb1; have hbb := hb.trans (hb1.mono hb.size)))
    | (refine wpList_store_blk rfl 23 _ _ rfl (w.heap.size + 2) #[.int .u8 0, .int .u8 0, .int .u8 0, .int .u8 0, .int .u8 0, .int .u8 0] #[.int .u8 o0, .int .u8 o1, .int .u8 o2, .int .u8 o3, .int .u8 o4, .int .u8 o5] 23 rfl rfl zB1 rfl (by kernel_rfl) (by kernel_rfl) w.heap.size w (by omega) hbb ?_; intro w5 z5 hb5 _; have c5 := z5.cell))
  exact bodyPost_ret (v := .agg #[.int .u8 o0, .int .u8 o1, .int .u8 o2, .int .u8 o3, .int .u8 o4, .int .u8 o5]) (by simp [results, Tryd.results6, go_sem, c5]) rfl ⟨rfl, hb5⟩
set_option maxRecDepth 100000 in
theorem does_do (o : Int) (md kd ln nl cl : Nat) (a x y s p m : Int) (o0 o1 o2 o3 o4 o5 : Int) (w : World) (hm : md ≠ 1)
    (hc : ∀ W, Below w.heap.size w W → Calls Tryd.prog 16 #[.int .i64 o, .agg #[.int .u8 a, .int .u8 x, .int .u8 y, .int .u8 s, .int .u8 p, .int .u8 m]] W fun e w' => e = .returned (.agg #[.int .u8 o0, .int .u8 o1, .int .u8 o2, .int .u8 o3, .int .u8 o4, .int .u8 o5]) ∧ Below W.heap.size W w') :
    Calls Tryd.prog 6 #[.agg #[.int .i64 o, .int .i64 (md : Nat), .int .i64 (kd : Nat), .int .i64 (ln : Nat), .int .i64 (nl : Nat), .int .i64 (cl : Nat)], .agg #[.int .u8 a, .int .u8 x, .int .u8 y, .int .u8 s, .int .u8 p, .int .u8 m]] w fun e w' => e = .returned (.agg #[.int .u8 o0, .int .u8 o1, .int .u8 o2, .int .u8 o3, .int .u8 o4, .int .u8 o5]) ∧ Below w.heap.size w w' := by
  have HC := hidI hc
  clear hc
  have t1 : ((md : Int) == 1) = false := by rw [beq_eq_false_iff_ne]; omega
  clear hm
  go_enter Tryd.func6, Tryd.ntmps6
  go_upto_region 1 with fail
  obtain ⟨W, hW⟩ : ∃ W, W = ((w.alloc (.cells #[.int .i64 o, .int .i64 (md : Nat), .int .i64 (kd : Nat), .int .i64 (ln : Nat), .int .i64 (nl : Nat), .int .i64 (cl : Nat)] 28)).alloc (.cells #[.int .u8 a, .int .u8 x, .int .u8 y, .int .u8 s, .int .u8 p, .int .u8 m] 23)).alloc (.cells #[.int .u8 0, .int .u8 0, .int .u8 0, .int .u8 0, .int .u8 0, .int .u8 0] 23) := ⟨_, rfl⟩
  have iB : Blk W w.heap.size #[.int .i64 o, .int .i64 (md : Nat), .int .i64 (kd : Nat), .int .i64 (ln : Nat), .int .i64 (nl : Nat), .int .i64 (cl : Nat)] 28 := by rw [hW]; exact ((Blk.new w _ _).old _).old _
  have aB : Blk W (w.heap.size + 1) #[.int .u8 a, .int .u8 x, .int .u8 y, .int .u8 s, .int .u8 p, .int .u8 m] 23 := by rw [hW]; exact blk1 _ _ _ _
  have zB : Blk W (w.heap.size + 2) #[.int .u8 0, .int .u8 0, .int .u8 0, .int .u8 0, .int .u8 0, .int .u8 0] 23 := by rw [hW]; exact blk2 _ _ _ _
  have hb : Below w.heap.size w W := by rw [hW]; exact (((Below.refl _ _).alloc (Nat.le_refl _) _).alloc (by simp) _).alloc (by simp; omega) _
  change Code.wp _ _ _ _ (((w.alloc (.cells _ 28)).alloc (.cells _ 23)).alloc (.cells _ 23))
  rw [← hW]
  clear hW
  have ic := iB.cell
  have ac := aB.cell
  go_wp2_with (first
    | (go_at_call 16; go_must (refine (HC.out _ hb).mono ?_; rintro e w1 ⟨rfl, hb1⟩; have zB1 := zB.below zB.lt hb1; have hbb := hb.trans (hb1.mono hb.size)))
    | (refine wpList_store_blk rfl 23 _ _ rfl (w.heap.size + 2) #[.int .u8 0, .int .u8 0, .int .u8 0, .int .u8 0, .int .u8 0, .int .u8 0] #[.int .u8 o0, .int .u8 o1, .int .u8 o2, .int .u8 o3, .int .u8 o4, .int .u8 o5] 23 rfl rfl zB1 rfl (by kernel_rfl) (by kernel_rfl) w.heap.size w (by omega) hbb ?_; intro w5 z5 hb5 _; have c5 := z5.cell))
  exact bodyPost_ret (v := .agg #[.int .u8 o0, .int .u8 o1, .int .u8 o2, .int .u8 o3, .int .u8 o4, .int .u8 o5]) (by simp [results, Tryd.results6, go_sem, c5]) rfl ⟨rfl, hb5⟩
end Go.Proofs.YtgnhaicogdnebaaDoor
