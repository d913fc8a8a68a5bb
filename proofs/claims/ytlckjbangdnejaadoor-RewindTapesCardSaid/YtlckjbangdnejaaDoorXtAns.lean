/-
  answers: Len and Bytes, what does nothing, and nil tapes.
-/
import Derived.Test.YtlckjbangdnejaaDoorXtAnsS
set_option linter.unusedSimpArgs false
set_option linter.unusedVariables false
namespace Go.Proofs.YtlckjbangdnejaaDoor
open Go.RowKit Classical
set_option maxRecDepth 100000 in
set_option maxHeartbeats 6400000 in
theorem ans_other (pt pu : Option Addr) (kd nn : Int) (ea : Option Addr) (y ek : Nat) (W : World) (h1 : kd ≠ 1) (h2 : kd ≠ 2) (h3 : kd ≠ 3) (h4 : kd ≠ 4) (h5 : kd ≠ 5) :
    Calls Tryd.prog 23 #[.pointer pt, .pointer pu, .agg #[.int .i64 kd, .int .i64 nn, .slice ea y ek]] W fun e W' => e = .returned (.bool true) ∧ Below W.heap.size W W' := by
  have HB : Hid (Below W.heap.size W (W.alloc (.cells #[.int .i64 kd, .int .i64 nn, .slice ea y ek] 38))) := (Below.refl _ _).alloc (Nat.le_refl _) _
  have k1 : (kd == 1) = false := by simpa using h1
  have k2 : (kd == 2) = false := by simpa using h2
  have k3 : (kd == 3) = false := by simpa using h3
  have k4 : (kd == 4) = false := by simpa using h4
  have k5 : (kd == 5) = false := by simpa using h5
  clear h1 h2 h3 h4 h5
  go_enter Tryd.func23, Tryd.ntmps23
  go_wp2
  go_ret
  exact ⟨rfl, HB.out⟩
set_option maxRecDepth 100000 in
set_option maxHeartbeats 6400000 in
theorem ans_4 (w0 : World) (t K u : Nat) (FP FU : Nat → Prop) (Ss : List (List Nat)) (nn : Int) (ea : Option Addr) (y ek : Nat) (W : World) (h : Tu w0 t K u FP FU Ss W) (hK : K ≤ 4095) :
    Calls Tryd.prog 23 #[.pointer (some ⟨t, 0, none⟩), .pointer (some ⟨u, 0, none⟩), .agg #[.int .i64 4, .int .i64 nn, .slice ea y ek]] W fun e W' => e = .returned (.bool true) ∧ Tu w0 t K u FP FU Ss W' := by
  have HT : Hid (Tu w0 t K u FP FU Ss (W.alloc (.cells #[.int .i64 4, .int .i64 nn, .slice ea y ek] 38))) := h.on ((Below.refl _ _).alloc (Nat.le_refl _) _)
  clear h
  go_enter Tryd.func23, Tryd.ntmps23
  go_wp2_with fail
  refine (len_any FP t K Ss _ HT.out.t1).mono ?_
  rintro e w2 ⟨rfl, rfl⟩
  go_wp2_with fail
  refine (dlen_any FU u (K + 1) Ss.reverse _ HT.out.t2).mono ?_
  rintro e w3 ⟨rfl, rfl⟩
  rw [List.length_reverse]
  generalize Ss.length = n at *
  go_wp2
  go_ret
  exact ⟨rfl, HT.out⟩
set_option maxRecDepth 100000 in
set_option maxHeartbeats 6400000 in
theorem nil_4 (nn : Int) (ea : Option Addr) (y ek : Nat) (W : World) :
    Calls Tryd.prog 23 #[.pointer none, .pointer none, .agg #[.int .i64 4, .int .i64 nn, .slice ea y ek]] W fun e W' => e = .returned (.bool true) ∧ Below W.heap.size W W' := by
  have HB : Hid (Below W.heap.size W (W.alloc (.cells #[.int .i64 4, .int .i64 nn, .slice ea y ek] 38))) := (Below.refl _ _).alloc (Nat.le_refl _) _
  go_enter Tryd.func23, Tryd.ntmps23
  go_wp2_with fail
  refine (len_nil _).mono ?_
  rintro e w2 ⟨rfl, rfl⟩
  go_wp2_with fail
  refine (dlen_nil _).mono ?_
  rintro e w3 ⟨rfl, rfl⟩
  go_wp2
  go_ret
  exact ⟨rfl, HB.out⟩
set_option maxRecDepth 100000 in
set_option maxHeartbeats 6400000 in
theorem ans_5 (w0 : World) (t K u : Nat) (FP FU : Nat → Prop) (Ss : List (List Nat)) (nn : Int) (ea : Option Addr) (y ek : Nat) (W : World) (h : Tu w0 t K u FP FU Ss W) (hK : K ≤ 4095) :
    Calls Tryd.prog 23 #[.pointer (some ⟨t, 0, none⟩), .pointer (some ⟨u, 0, none⟩), .agg #[.int .i64 5, .int .i64 nn, .slice ea y ek]] W fun e W' => e = .returned (.bool true) ∧ Tu w0 t K u FP FU Ss W' := by
  have HT : Hid (Tu w0 t K u FP FU Ss (W.alloc (.cells #[.int .i64 5, .int .i64 nn, .slice ea y ek] 38))) := h.on ((Below.refl _ _).alloc (Nat.le_refl _) _)
  clear h
  go_enter Tryd.func23, Tryd.ntmps23
  go_wp2_with fail
  refine (bytes_any FP t K Ss _ HT.out.t1).mono ?_
  rintro e w2 ⟨rfl, nq, rfl⟩
  have HT2 : Hid (Tu w0 t K u FP FU Ss ((W.alloc (.cells #[.int .i64 5, .int .i64 nn, .slice ea y ek] 38)).drewN nq)) := HT.out.on (below_drawsX (Below.refl _ _) nq)
  clear HT
  generalize (W.alloc (.cells #[.int .i64 5, .int .i64 nn, .slice ea y ek] 38)).drewN nq = w2 at *
  go_wp2_with fail
  refine (dbytes_any FU u (K + 1) Ss.reverse _ HT2.out.t2 (by omega)).mono ?_
  rintro e w3 ⟨rfl, b3⟩
  rw [List.reverse_reverse]
  have HT3 : Hid (Tu w0 t K u FP FU Ss w3) := HT2.out.on b3
  clear b3 HT2
  generalize byt Ss = n at *
  go_wp2
  go_ret
  exact ⟨rfl, HT3.out⟩
set_option maxRecDepth 100000 in
set_option maxHeartbeats 6400000 in
theorem nil_5 (nn : Int) (ea : Option Addr) (y ek : Nat) (W : World) :
    Calls Tryd.prog 23 #[.pointer none, .pointer none, .agg #[.int .i64 5, .int .i64 nn, .slice ea y ek]] W fun e W' => e = .returned (.bool true) ∧ Below W.heap.size W W' := by
  have HB : Hid (Below W.heap.size W (W.alloc (.cells #[.int .i64 5, .int .i64 nn, .slice ea y ek] 38))) := (Below.refl _ _).alloc (Nat.le_refl _) _
  go_enter Tryd.func23, Tryd.ntmps23
  go_wp2_with fail
  refine (bytes_nil _).mono ?_
  rintro e w2 ⟨rfl, rfl⟩
  go_wp2_with fail
  refine (dbytes_nil _).mono ?_
  rintro e w3 ⟨rfl, rfl⟩
  go_wp2
  go_ret
  exact ⟨rfl, HB.out⟩
set_option maxRecDepth 100000 in
set_option maxHeartbeats 6400000 in
theorem nil_2 (nn : Int) (ea : Option Addr) (y ek : Nat) (W : World) :
    Calls Tryd.prog 23 #[.pointer none, .pointer none, .agg #[.int .i64 2, .int .i64 nn, .slice ea y ek]] W fun e W' => e = .returned (.bool true) ∧ Below W.heap.size W W' := by
  have HB : Hid (Below W.heap.size W (W.alloc (.cells #[.int .i64 2, .int .i64 nn, .slice ea y ek] 38))) := (Below.refl _ _).alloc (Nat.le_refl _) _
  go_enter Tryd.func23, Tryd.ntmps23
  go_wp2_with fail
  refine (back_nil _).mono ?_
  rintro e w2 ⟨rfl, rfl⟩
  go_wp2_with fail
  refine (dback_nil _).mono ?_
  rintro e w3 ⟨rfl, rfl⟩
  go_wp2_with fail
  refine (same_any [] [] 0 0 (fun _ h => by cases h) (fun _ h => by cases h) rfl rfl (by decide) none none 0 0 _ (.inl rfl) (.inl rfl)).mono ?_
  rintro e w4 ⟨rfl, b4⟩
  have HB4 : Hid (Below W.heap.size W w4) := HB.out.trans (b4.mono HB.out.size)
  clear b4 HB
  rw [sameB_self]
  go_upto_region 16 with fail
  go_loopw [16] (fun x wr => x = .int .i64 0 ∧ Hid (Below W.heap.size W wr)) (fun x _ => 0)
  case atStart => exact ⟨rfl, HB4⟩
  case round =>
    obtain ⟨rfl, hb⟩ := hrel
    go_wp2
    go_ret
    exact ⟨rfl, hb.out⟩
set_option maxRecDepth 100000 in
set_option maxHeartbeats 6400000 in
theorem nil_3 (nn : Int) (ea : Option Addr) (y ek : Nat) (W : World) :
    Calls Tryd.prog 23 #[.pointer none, .pointer none, .agg #[.int .i64 3, .int .i64 nn, .slice ea y ek]] W fun e W' => e = .returned (.bool true) ∧ Below W.heap.size W W' := by
  have HB : Hid (Below W.heap.size W (W.alloc (.cells #[.int .i64 3, .int .i64 nn, .slice ea y ek] 38))) := (Below.refl _ _).alloc (Nat.le_refl _) _
  go_enter Tryd.func23, Tryd.ntmps23
  go_wp2_with fail
  refine (at_nil nn _).mono ?_
  rintro e w2 ⟨rfl, rfl⟩
  go_wp2_with fail
  refine (dat_nil nn _).mono ?_
  rintro e w3 ⟨rfl, rfl⟩
  go_wp2_with fail
  refine (same_any [] [] 0 0 (fun _ h => by cases h) (fun _ h => by cases h) rfl rfl (by decide) none none 0 0 _ (.inl rfl) (.inl rfl)).mono ?_
  rintro e w4 ⟨rfl, b4⟩
  have HB4 : Hid (Below W.heap.size W w4) := HB.out.trans (b4.mono HB.out.size)
  clear b4 HB
  rw [sameB_self]
  go_upto_region 25 with fail
  go_loopw [22] (fun x wr => x = .int .i64 0 ∧ Hid (Below W.heap.size W wr)) (fun x _ => 0)
  case atStart => exact ⟨rfl, HB4⟩
  case round =>
    obtain ⟨rfl, hb⟩ := hrel
    go_wp2
    go_ret
    exact ⟨rfl, hb.out⟩
end Go.Proofs.YtlckjbangdnejaaDoor
