/-
  What inside answers of a valid board.
-/
import Derived.Test.YtggphgmpdanliaaZOut
import Derived.Test.YtggphgmpdanliaaZLawB
set_option linter.unusedSimpArgs false
set_option linter.unusedVariables false
namespace Go.Proofs.Ytggphgmpdanliaa
open Go.RowKit Classical
theorem wpList_load_want {P : Program} {ops : Array Oper} {rest : List Oper} {op : Oper} {a : Act} {w : World} {Q : Exit → Act → World → Prop} (hw : Region.wanted op (yielded ops a.tmps) = true) (ty : TypeId) (x : Operand) (ho : op.op = .load ty x)
    (b o : Nat) (hx : a.eval x = .pointer (some ⟨b, o, none⟩)) (cs : List Value) (d : TypeDesc) (hc : w.rangeAt b o cs)
    (hu : P.underlying ty = some d) (hd : d.isRow = true) (hi : (P.info? ty).map (·.size) = some cs.length)
    (h : wpList P ops Q rest (a.put op.dst (.agg cs.toArray)) w) : wpList P ops Q (op :: rest) a w :=
  BigFrame.wpList_want hw fun _ hK => wp_load_mid ty x ho b o hx cs d hc hu hd hi (hK _ _ h)
theorem bankB_in {b : Bd} (o : b.Ok) (x : Int) : 0 ≤ bankB b x ∧ bankB b x < b.prg ∧ b.prg ≤ 128 := ⟨Int.emod_nonneg _ (by have := o.p0; omega), Int.emod_lt_of_pos _ (by have := o.p0; omega), o.p1⟩
theorem chrB_in {b : Bd} (o : b.Ok) (x : Int) : 0 ≤ chrB b x ∧ chrB b x < b.chr ∧ b.chr ≤ 512 := ⟨Int.emod_nonneg _ (by have := o.c0; omega), Int.emod_lt_of_pos _ (by have := o.c0; omega), o.c1⟩
theorem b127 {n p : Int} (h : n < p ∧ p ≤ 128) : n ≤ 127 := by omega
theorem c511 {n p : Int} (h : n < p ∧ p ≤ 512) : n ≤ 511 := by omega
theorem pageB_bd {b : Bd} (o : b.Ok) {a : Int} (a0 : 0 ≤ a) : 0 ≤ pageB b a ∧ pageB b a ≤ 3 := by
  unfold pageB
  (repeat' split) <;> omega
theorem orHigh2 {a : Int} (h0 : 0 ≤ a) (h1 : a ≤ 65535) : 8192 ≤ bits .or .u16 a 8192 ∧ bits .or .u16 a 8192 ≤ 65535 := by
  rw [u16_or a 8192 h0 (by omega) (by decide) (by decide)]
  have h2 := Nat.or_lt_two_pow (n := 16) (x := a.toNat) (y := (8192 : Int).toNat) (by omega) (by decide)
  have h3 : (8192 : Int).toNat ≤ a.toNat ||| (8192 : Int).toNat := Nat.right_le_or
  have h4 : (8192 : Int).toNat = 8192 := rfl
  omega
theorem prgAt_w (W : World) (b : Bd) (x r : Int) (h0 : 0 ≤ x) (h1 : x ≤ 3) (r0 : 0 ≤ r) (r1 : r < 8192) (o : b.Ok) :
    Calls Try.prog 47 #[.agg b.cells, .int .u16 (32768 + 8192 * x + r)] W fun e w' => e = .returned (.int .i64 (8192 * bankB b x + r)) ∧ Below W.heap.size W w' := by
  have h := prgAt_in W b (32768 + 8192 * x + r) (by omega) (by omega) o
  rw [show (32768 + 8192 * x + r - 32768) / 8192 = x by omega, show (32768 + 8192 * x + r - 32768) % 8192 = r by omega, Int.mul_comm (bankB b x) 8192] at h
  exact h
theorem chrAt_w (W : World) (b : Bd) (x r : Int) (h0 : 0 ≤ x) (h1 : x ≤ 7) (r0 : 0 ≤ r) (r1 : r < 1024) (o : b.Ok) :
    Calls Try.prog 49 #[.agg b.cells, .int .u16 (1024 * x + r)] W fun e w' => e = .returned (.int .i64 (1024 * chrB b x + r)) ∧ Below W.heap.size W w' := by
  have h := chrAt_in W b (1024 * x + r) (by omega) (by omega) o
  rw [show (1024 * x + r) / 1024 = x by omega, show (1024 * x + r) % 1024 = r by omega, Int.mul_comm (chrB b x) 1024] at h
  exact h
set_option maxRecDepth 100000 in
set_option maxHeartbeats 1000000 in
theorem inside_any (w : World) (b : Bd) (a p c : Int) (o : b.Ok) (a0 : 0 ≤ a) (a1 : a ≤ 65535) (p0 : 0 ≤ p) (p1 : p ≤ 9223372036854775807) (c0 : 0 ≤ c) (c1 : c ≤ 9223372036854775807) (hp : p / 8192 = b.prg) (hc : c / 1024 = b.chr) :
    Calls Try.prog 33 #[.agg b.cells, .int .u16 a, .int .i64 p, .int .i64 c] w fun e w' => e = .returned (.bool true) ∧ Below w.heap.size w w' := by
  have HR : Hid _ := o.wf.rlen
  have B1 : Hid _ := fun (W : World) (x : Int) (h0 : 0 ≤ x) (h1 : x ≤ 3) => bank_in W b x h0 h1 o
  have C1 : Hid _ := fun (W : World) (x : Int) (h0 : 0 ≤ x) (h1 : x ≤ 7) => chrBank_in W b x h0 h1 o
  have P1 : Hid _ := fun (W : World) (x : Int) (h0 : 0 ≤ x) (h1 : x ≤ 3) => prgAt_w W b x (a % 8192) h0 h1 (by omega) (by omega) o
  have D1 : Hid _ := fun (W : World) (x : Int) (h0 : 0 ≤ x) (h1 : x ≤ 7) => chrAt_w W b x (a % 1024) h0 h1 (by omega) (by omega) o
  have G1 : Hid _ := fun (W : World) => page_in W b a a0 a1 o
  have PG := pageB_bd o a0
  have BB : Hid _ := fun (x : Int) => bankB_in o x
  have CC : Hid _ := fun (x : Int) => chrB_in o x
  have lo := orHigh2 a0 a1
  obtain ⟨lo0, lo1⟩ := lo
  have PO : Hid _ := fun (W : World) => prgAt_out W b (a % 32768) (by omega) o
  have CO : Hid _ := fun (W : World) => chrAt_out W b (bits .or .u16 a 8192) lo0 o
  have e1 : a.tmod 8192 = a % 8192 := Int.tmod_eq_emod_of_nonneg a0
  have e2 : a.tmod 1024 = a % 1024 := Int.tmod_eq_emod_of_nonneg a0
  have e3 : a.tmod 32768 = a % 32768 := Int.tmod_eq_emod_of_nonneg a0
  have e4 : p.tdiv 8192 = p / 8192 := Int.tdiv_eq_ediv_of_nonneg p0
  have e5 : c.tdiv 1024 = c / 1024 := Int.tdiv_eq_ediv_of_nonneg c0
  have r0 : 0 ≤ a % 8192 := by omega
  have r1 : a % 8192 ≤ 8191 := by omega
  have r2 : 0 ≤ a % 1024 := by omega
  have r3 : a % 1024 ≤ 1023 := by omega
  have r4 : 0 ≤ a % 32768 := by omega
  have r5 : a % 32768 ≤ 32767 := by omega
  have r6 : 0 ≤ p / 8192 := by omega
  have r7 : 0 ≤ c / 1024 := by omega
  rw [← hp] at BB
  rw [← hc] at CC
  generalize a % 8192 = ra at *
  generalize a % 1024 = rc at *
  generalize a % 32768 = rb at *
  generalize p / 8192 = pp at *
  generalize c / 1024 = cc at *
  obtain ⟨ao, hao⟩ : ∃ x, bits .or .u16 a 8192 = x := ⟨_, rfl⟩
  rw [hao] at CO lo0 lo1
  clear o hp hc
  go_enter Try.func33, Try.ntmps33
  go_upto_region 1 with fail
  have s0 : G w [(w.heap.size, b.cells, 28)] (w.alloc (.cells b.cells 28)) := G.start w _ _
  generalize w.alloc (.cells b.cells 28) = W0 at *
  go_wp2
  go_loopw [9] (fun i wr => ∃ k : Int, 0 ≤ k ∧ k ≤ 4 ∧ i = .int .i64 k ∧ G w [(w.heap.size, b.cells, 28)] wr) (fun i _ => (4 - intOf i).toNat)
  case atStart => exact ⟨0, by omega, by omega, rfl, s0⟩
  case round =>
    clear s0
    obtain ⟨k, k0, k1, rfl, s0⟩ := hrel
    by_cases hlt : k < 4
    · have hd : decide (k < 4) = true := decide_eq_true hlt
      have bb := BB.out k
      obtain ⟨bb0, bb1⟩ := bb
      have b1 : Hid _ := fun W => B1.out W k k0 (by omega)
      have p1 : Hid _ := fun W => P1.out W k k0 (by omega)
      generalize bankB b k = n at *
      have n0 : decide (n < 0) = false := decide_eq_false (by omega)
      have n1 : decide (pp ≤ n) = false := decide_eq_false (by omega)
      have n2 : n ≤ 127 := b127 bb1
      clear BB CC B1 C1 P1 D1 G1 PO CO
      have ldm : Hid _ := (s0.blk (w.heap.size) b.cells 28 (by simp)).range
      go_wp2_with (refine wpList_load_mid rfl 28 _ rfl (w.heap.size) 0 rfl b.cells.toList _ ldm.out Try.underlying28 rfl (by rw [Array.length_toList]; exact infoB' _ HR.out) ?_)
      refine (b1.out _).mono ?_
      rintro e W1 ⟨rfl, hb1⟩
      replace s0 := s0.on hb1
      clear hb1 ldm
      have ldm : Hid _ := (s0.blk (w.heap.size) b.cells 28 (by simp)).range
      have w0 : 0 ≤ 32768 + 8192 * k + ra := by omega
      have w1 : 32768 + 8192 * k + ra ≤ 65535 := by omega
      go_wp2_with (refine wpList_load_mid rfl 28 _ rfl (w.heap.size) 0 rfl b.cells.toList _ ldm.out Try.underlying28 rfl (by rw [Array.length_toList]; exact infoB' _ HR.out) ?_)
      refine (p1.out _).mono ?_
      rintro e W2 ⟨rfl, hb2⟩
      replace s0 := s0.on hb2
      have sH : Hid (G _ _ _) := s0
      clear hb2 ldm b1 p1 s0
      go_wp2
      go_roundw
      case rel => exact ⟨k + 1, by omega, by omega, by go_num, sH.out⟩
      case measure => simp [intOf]; omega
    · have hk : k = 4 := by omega
      subst hk
      clear hlt k0 k1
      go_wp2
      go_loopw [12] (fun i wr => ∃ k : Int, 0 ≤ k ∧ k ≤ 8 ∧ i = .int .i64 k ∧ G w [(w.heap.size, b.cells, 28)] wr) (fun i _ => (8 - intOf i).toNat)
      case atStart => exact ⟨0, by omega, by omega, rfl, s0⟩
      case round =>
        clear s0
        obtain ⟨k, k0, k1, rfl, s0⟩ := hrel
        by_cases hlt : k < 8
        · have hd : decide (k < 8) = true := decide_eq_true hlt
          have bb := CC.out k
          obtain ⟨bb0, bb1⟩ := bb
          have b1 : Hid _ := fun W => C1.out W k k0 (by omega)
          have p1 : Hid _ := fun W => D1.out W k k0 (by omega)
          generalize chrB b k = n at *
          have n0 : decide (n < 0) = false := decide_eq_false (by omega)
          have n1 : decide (cc ≤ n) = false := decide_eq_false (by omega)
          have n2 : n ≤ 511 := c511 bb1
          clear BB CC B1 C1 P1 D1 G1 PO CO
          have ldm : Hid _ := (s0.blk (w.heap.size) b.cells 28 (by simp)).range
          go_wp2_with (refine wpList_load_mid rfl 28 _ rfl (w.heap.size) 0 rfl b.cells.toList _ ldm.out Try.underlying28 rfl (by rw [Array.length_toList]; exact infoB' _ HR.out) ?_)
          refine (b1.out _).mono ?_
          rintro e W1 ⟨rfl, hb1⟩
          replace s0 := s0.on hb1
          clear hb1 ldm
          have ldm : Hid _ := (s0.blk (w.heap.size) b.cells 28 (by simp)).range
          have w0 : 0 ≤ 1024 * k + rc := by omega
          have w1 : 1024 * k + rc ≤ 8191 := by omega
          go_wp2_with (refine wpList_load_mid rfl 28 _ rfl (w.heap.size) 0 rfl b.cells.toList _ ldm.out Try.underlying28 rfl (by rw [Array.length_toList]; exact infoB' _ HR.out) ?_)
          refine (p1.out _).mono ?_
          rintro e W2 ⟨rfl, hb2⟩
          replace s0 := s0.on hb2
          have sH : Hid (G _ _ _) := s0
          clear hb2 ldm b1 p1 s0
          go_wp2
          go_roundw
          case rel => exact ⟨k + 1, by omega, by omega, by go_num, sH.out⟩
          case measure => simp [intOf]; omega
        · have hk : k = 8 := by omega
          subst hk
          clear hlt k0 k1 BB CC B1 C1 P1 D1
          have ldm : Hid _ := (s0.blk (w.heap.size) b.cells 28 (by simp)).range
          go_wp2_with (refine wpList_load_mid rfl 28 _ rfl (w.heap.size) 0 rfl b.cells.toList _ ldm.out Try.underlying28 rfl (by rw [Array.length_toList]; exact infoB' _ HR.out) ?_)
          refine (G1.out _).mono ?_
          rintro e W1 ⟨rfl, hb1⟩
          replace s0 := s0.on hb1
          clear hb1 ldm
          generalize pageB b a = pg at *
          obtain ⟨pg0, pg1⟩ := PG
          have q0 : decide (0 ≤ pg) = true := decide_eq_true pg0
          have q1 : decide (pg ≤ 3) = true := decide_eq_true pg1
          go_upto_region 20 with fail
          have ldm : Hid _ := (s0.blk (w.heap.size) b.cells 28 (by simp)).range
          go_wp2_with (refine wpList_load_want (by kernel_rfl) 28 _ rfl (w.heap.size) 0 rfl b.cells.toList _ ldm.out Try.underlying28 rfl (by rw [Array.length_toList]; exact infoB' _ HR.out) ?_)
          refine (PO.out _).mono ?_
          rintro e W2 ⟨rfl, hb2⟩
          replace s0 := s0.on hb2
          clear hb2 ldm
          have ldm : Hid _ := (s0.blk (w.heap.size) b.cells 28 (by simp)).range
          go_wp2_with (refine wpList_load_want (by kernel_rfl) 28 _ rfl (w.heap.size) 0 rfl b.cells.toList _ ldm.out Try.underlying28 rfl (by rw [Array.length_toList]; exact infoB' _ HR.out) ?_)
          refine (CO.out _).mono ?_
          rintro e W3 ⟨rfl, hb3⟩
          replace s0 := s0.on hb3
          clear hb3 ldm
          go_wp2
          go_ret
          exact ⟨rfl, s0.2⟩
end Go.Proofs.Ytggphgmpdanliaa
