/-
  What load does: a reset and five bits.
-/
import Derived.Test.YtggphgmpdanliaaZOut
import Derived.Test.YtggphgmpdanliaaZLawB
import Derived.Test.YtggphgmpdanliaaYArg2
import Derived.Test.YtggphgmpdanliaaYCel
set_option linter.unusedSimpArgs false
set_option linter.unusedVariables false
namespace Go.Proofs.Ytggphgmpdanliaa
open Go.RowKit Classical
theorem bit1i (n : Int) : bits .and .i64 n 1 = n % 2 := by
  have h : (BitVec.ofInt 64 1).toNat = 2 ^ 1 - 1 := by decide
  have key : (BitVec.ofInt 64 n &&& BitVec.ofInt 64 1).toNat = (n % ((2 ^ 64 : Nat) : Int)).toNat % 2 ^ 1 := by
    rw [BitVec.toNat_and, BitVec.toNat_ofInt, h, Nat.and_two_pow_sub_one_eq_mod]
  show IntKind.i64.wrap ((BitVec.ofInt 64 n &&& BitVec.ofInt 64 1).toNat : Nat) = n % 2
  rw [key, IntKind.wrap_i64]
  omega
/-- What i bits behind a reset have made of a board. -/
def ldB (b : Bd) (a n at_ gap : Int) : Nat → Bd
  | 0 => wrA b a 128 0 at_
  | i + 1 => wrA (ldB b a n at_ gap i) a (n / 2 ^ i % 2) 0 (at_ + (i + 1 : Nat) * gap)
theorem ldB_ok {b : Bd} (o : b.Ok) (a n at_ gap : Int) (h1 : at_ ≤ 67108864) (h2 : 0 ≤ gap ∧ gap ≤ 131072) : ∀ i : Nat, i ≤ 5 → (ldB b a n at_ gap i).Ok
  | 0, _ => wrA_okk o _ _ _ _ (by decide) (by decide) (by decide) (by decide) (by omega)
  | i + 1, hi => wrA_okk (ldB_ok o a n at_ gap h1 h2 i (by omega)) _ _ _ _ (by omega) (by omega) (by decide) (by decide) (by
      have h : ((i + 1 : Nat) : Int) * gap ≤ 5 * 131072 := Int.mul_le_mul (by omega) h2.2 h2.1 (by decide)
      omega)
set_option maxRecDepth 100000 in
set_option maxHeartbeats 1000000 in
theorem load_any (w : World) (b : Bd) (o : b.Ok) (a n at_ gap : Int) (a1 : a ≤ 65535) (n0 : 0 ≤ n) (n1 : n ≤ 31) (t0 : 0 ≤ at_) (h1 : at_ ≤ 67108864) (h2 : 0 ≤ gap ∧ gap ≤ 131072) :
    Calls Try.prog 22 #[.agg b.cells, .int .u16 a, .int .i64 n, .int .i64 at_, .int .i64 gap] w fun e w' => e = .returned (.agg (ldB b a n at_ gap 5).cells) ∧ Below w.heap.size w w' := by
  have HR : Hid _ := o.wf.rlen
  have OL : Hid _ := ldB_ok o a n at_ gap h1 h2
  have W1 : Hid _ := fun (W : World) => write_all W b a 128 0 at_ o.wf a1 (by decide) (by decide) (by decide) (by decide) (by omega)
  have E1 : wrA b a 128 0 at_ = ldB b a n at_ gap 0 := rfl
  rw [E1] at W1
  have NX : Hid (∀ i : Nat, ldB b a n at_ gap (i + 1) = wrA (ldB b a n at_ gap i) a (n / 2 ^ i % 2) 0 (at_ + (i + 1 : Nat) * gap)) := fun i => rfl
  clear o E1
  obtain ⟨L, hL⟩ : ∃ L, ldB b a n at_ gap = L := ⟨_, rfl⟩
  rw [hL] at OL W1 NX ⊢
  clear hL
  go_enter Try.func22, Try.ntmps22
  go_upto_region 1 with fail
  have s0 : G w [(w.heap.size, (b).cells, 28), (w.heap.size + 1, Z31, 28)] ((w.alloc (.cells b.cells 28)).alloc (.cells Z31 28)) := G.start2 w _ _ _ _
  change Code.wp _ _ _ _ ((w.alloc (.cells b.cells 28)).alloc (.cells Z31 28))
  generalize (w.alloc (.cells b.cells 28)).alloc (.cells Z31 28) = W0 at *
  have ldm : Hid _ := (s0.blk (w.heap.size) b.cells 28 (by simp)).range
  have L0 : Hid _ := (OL.out 0 (by decide)).wf.rlen
  go_wp2_with (refine wpList_load_mid rfl 28 _ rfl (w.heap.size) 0 rfl (b).cells.toList _ ldm.out Try.underlying28 rfl (by rw [Array.length_toList]; exact infoB' _ HR.out) ?_)
  refine (W1.out _).mono ?_
  rintro e W2 ⟨rfl, hbq⟩
  replace s0 := s0.on hbq
  clear hbq ldm W1
  have s3 := s0.setB HR.out L0.out (Nat.le_refl _) (by intro p hp; simp only [List.mem_cons, List.not_mem_nil, or_false] at hp; subst hp; dsimp only; omega)
  have stm : Hid _ := setB_there (s0.blk (w.heap.size) b.cells 28 (by simp)) HR.out L0.out
  clear s0
  go_upto_region 2 with (refine wpList_store_mid rfl 28 _ _ rfl (w.heap.size) 0 (L 0).cells rfl rfl stm.out (infoB' _ L0.out) (isB _ L0.out).one ?_)
  have s0 := s3
  clear s3 stm HR
  generalize W2.setCells (w.heap.size) 0 (L 0).cells.toList = W3 at *
  go_wp2
  go_loopw [2, 3, 11] (fun x y i wr => ∃ (k : Nat) (nn tt : Int), k ≤ 5 ∧ x = .int .i64 nn ∧ y = .int .i64 tt ∧ i = .int .i64 k ∧ nn = n / 2 ^ k ∧ 0 ≤ nn ∧ nn ≤ 31 ∧ tt = at_ + (k : Int) * gap ∧ G w [(w.heap.size, (L k).cells, 28), (w.heap.size + 1, Z31, 28)] wr) (fun _ _ i _ => (5 - intOf i).toNat)
  case atStart => exact ⟨0, n, at_, by omega, rfl, rfl, rfl, by simp, n0, n1, by simp, s0⟩
  case round =>
    clear s0 L0
    obtain ⟨k, nn, tt, hk, rfl, rfl, rfl, hn, m0, m1, ht, s0⟩ := hrel
    by_cases hlt : k < 5
    · have hd : decide ((k : Int) < 5) = true := decide_eq_true (by omega)
      have kg : 0 ≤ (k : Int) * gap ∧ (k : Int) * gap ≤ 4 * 131072 := ⟨Int.mul_nonneg (by omega) h2.1, Int.mul_le_mul (by omega) h2.2 h2.1 (by decide)⟩
      have kd : ((k + 1 : Nat) : Int) * gap = (k : Int) * gap + gap := by rw [Int.natCast_add, Int.add_mul]; omega
      have hq : nn.tdiv 2 = nn / 2 := Int.tdiv_eq_ediv_of_nonneg m0
      have hp : n / 2 ^ (k + 1) = nn / 2 := by rw [hn, Int.pow_succ, Int.ediv_ediv_of_nonneg (Int.pow_nonneg (by decide))]
      have q0 : 0 ≤ nn / 2 ∧ nn / 2 ≤ 31 := by omega
      have ad := bit1i nn
      have r0 : 0 ≤ nn % 2 := by omega
      have r1 : nn % 2 ≤ 1 := by omega
      have OK := OL.out k (by omega)
      have W1 : Hid _ := fun (W : World) => write_all W (L k) a (nn % 2) 0 (tt + gap) OK.wf a1 (by omega) (by omega) (by decide) (by decide) (by omega)
      have E1 : wrA (L k) a (nn % 2) 0 (tt + gap) = L (k + 1) := by
        have e : tt + gap = at_ + ((k + 1 : Nat) : Int) * gap := by omega
        rw [NX.out k, e, hn]
      rw [E1] at W1
      have t1 : 0 ≤ tt + gap := by omega
      have t2 : tt + gap ≤ 9223372036854775807 := by omega
      have T9 : Hid (tt + gap = at_ + ((k + 1 : Nat) : Int) * gap) := by unfold Hid; omega
      have Q9 : Hid (nn / 2 = n / 2 ^ (k + 1)) := hp.symm
      have HL : Hid _ := OK.wf.rlen
      have HL2 : Hid _ := (OL.out (k + 1) (by omega)).wf.rlen
      clear OK E1 hp kd kg ht hn
      go_upto_region 6 with fail
      generalize nn % 2 = r at *
      generalize tt + gap = t9 at *
      generalize nn / 2 = n9 at *
      obtain ⟨c, hc⟩ : ∃ c, L k = c := ⟨_, rfl⟩
      obtain ⟨d, hd2⟩ : ∃ d, L (k + 1) = d := ⟨_, rfl⟩
      rw [hc] at s0 W1 HL
      rw [hd2] at W1 HL2
      have D9 : Hid _ := hd2
      clear hc hd2
      have ldm : Hid _ := (s0.blk (w.heap.size) c.cells 28 (by simp)).range
      go_wp2_with (refine wpList_load_mid rfl 28 _ rfl (w.heap.size) 0 rfl (c).cells.toList _ ldm.out Try.underlying28 rfl (by rw [Array.length_toList]; exact infoB' _ HL.out) ?_)
      refine (W1.out _).mono ?_
      rintro e W4 ⟨rfl, hbq⟩
      replace s0 := s0.on hbq
      clear hbq ldm W1
      have s3 := s0.setB HL.out HL2.out (Nat.le_refl _) (by intro p hp; simp only [List.mem_cons, List.not_mem_nil, or_false] at hp; subst hp; dsimp only; omega)
      have stm : Hid _ := setB_there (s0.blk (w.heap.size) c.cells 28 (by simp)) HL.out HL2.out
      clear s0
      go_upto_region 7 with (refine wpList_store_mid rfl 28 _ _ rfl (w.heap.size) 0 d.cells rfl rfl stm.out (infoB' _ HL2.out) (isB _ HL2.out).one ?_)
      have sH : Hid (G _ _ _) := s3
      clear s3 stm
      generalize W4.setCells (w.heap.size) 0 d.cells.toList = W5 at *
      have g0 := q0.1
      have g1 := q0.2
      go_wp2
      go_roundw
      case rel => exact ⟨k + 1, n9, t9, by omega, rfl, rfl, by go_num, Q9.out, g0, g1, T9.out, by rw [D9.out]; exact sH.out⟩
      case measure => simp [intOf]; omega
    · have hk5 : k = 5 := by omega
      subst hk5
      clear hlt hk hn ht
      have DL : Hid _ := (OL.out 5 (by decide)).wf.rlen
      obtain ⟨d, hd2⟩ : ∃ d, L 5 = d := ⟨_, rfl⟩
      have DD : Hid _ := hd2
      rw [hd2] at s0 DL
      clear hd2
      have Hs : Hid _ := (isB d DL.out).size
      have H1 : Hid _ := (isB d DL.out).one
      have z7 := s0.blk (w.heap.size + 1) Z31 28 (by simp)
      have b7 := s0.2
      have ldm : Hid _ := (s0.blk (w.heap.size) d.cells 28 (by simp)).range
      clear s0
      go_wp2_with (first
        | (refine wpList_load_mid rfl 28 _ rfl (w.heap.size) 0 rfl (d).cells.toList _ ldm.out Try.underlying28 rfl (by rw [Array.length_toList]; exact infoB' _ DL.out) ?_)
        | (refine wpList_store_mid rfl 28 _ _ rfl (w.heap.size + 1) 0 d.cells rfl rfl (by exact z7.there _ Hs.out.symm) (by rw [Hs.out]; exact Try.infoBoard) H1.out ?_))
      exact ret_agg (m := w.heap.size + 1) (L := d.cells) Try.results22 (by rfl) (z7.setAll d.cells Hs.out) Try.underlying28 rfl (by rw [Hs.out]; exact Try.infoBoard) ⟨by rw [DD.out], setCells_below (by omega) _ _ _ _ b7⟩
end Go.Proofs.Ytggphgmpdanliaa
