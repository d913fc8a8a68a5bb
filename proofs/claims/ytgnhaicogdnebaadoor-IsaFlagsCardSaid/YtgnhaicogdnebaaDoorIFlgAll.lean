/-
  The law IsaFlags returns true for every opcode, every Alu and every flag; condition: the two tables lie in their variables.
-/
import Derived.Test.YtgnhaicogdnebaaDoorIFlg1
import Derived.Test.YtgnhaicogdnebaaDoorIFreeA
import Derived.Test.YtgnhaicogdnebaaDoorIFreeB
import Derived.Test.YtgnhaicogdnebaaDoorIFreeC
import Derived.Test.YtgnhaicogdnebaaDoorIKeep
import Derived.Test.YtgnhaicogdnebaaDoorADoA
import Derived.Test.YtgnhaicogdnebaaDoorADoB
import Derived.Test.YtgnhaicogdnebaaDoorADoS
import Derived.Test.YtgnhaicogdnebaaDoorADoU
import Derived.Test.YtgnhaicogdnebaaDoorADoV
import Derived.Test.YtgnhaicogdnebaaDoorADoQ
import Derived.Test.YtgnhaicogdnebaaDoorADoR
import Derived.Test.YtgnhaicogdnebaaDoorADoF
import Derived.Test.YtgnhaicogdnebaaDoorADoG
import Derived.Test.YtgnhaicogdnebaaDoorADoH
import Derived.Test.YtgnhaicogdnebaaDoorADoD
set_option linter.unusedSimpArgs false
set_option linter.unusedVariables false
namespace Go.Proofs.YtgnhaicogdnebaaDoor
open Go.RowKit
theorem law_flags2 (k : Nat) (hk : k < 256) (op : Int) (hop : ((opN k : Nat) : Int) = op) (a x y s m n : Int) (F : Fl) (w : World) (T : Tabs w) (n0 : 0 ≤ n) (n1 : n ≤ 255) (P : Fl → Fl) (O0 O1 O2 O3 O5 : Fl → Int) (hF : Free op P O0 O1 O2 O3 O5) (hK : Keep op P)
    (hDo : ∀ F : Fl, ∀ W, STab W → Calls Tryd.prog 6 #[.agg #[.int .i64 op, .int .i64 (mdN k : Nat), .int .i64 (kdN k : Nat), .int .i64 (lnN k : Nat), .int .i64 ((shQ k false false).length : Nat), .int .i64 (clN k : Nat)], .agg #[.int .u8 a, .int .u8 x, .int .u8 y, .int .u8 s, .int .u8 (F.val : Nat), .int .u8 m]] W fun e w' => e = .returned (.agg #[.int .u8 (O0 F), .int .u8 (O1 F), .int .u8 (O2 F), .int .u8 (O3 F), .int .u8 ((P F).val : Nat), .int .u8 (O5 F)]) ∧ Below W.heap.size W w') :
    Calls Tryd.prog 3 #[.int .u8 (k : Nat), .agg #[.int .u8 a, .int .u8 x, .int .u8 y, .int .u8 s, .int .u8 (F.val : Nat), .int .u8 m], .int .u8 n] w fun e w' => e = .returned (.bool true) ∧ Below w.heap.size w w' := by
  have hq : (n % 8).toNat < 8 := by omega
  have hf := fb_of _ hq
  have hD : ∀ W, Calls Tryd.prog 4 #[.int .u8 (k : Nat)] W fun e w' => e = .returned (.agg #[.int .i64 op, .int .i64 (mdN k : Nat), .int .i64 (kdN k : Nat), .int .i64 (lnN k : Nat), .int .i64 ((shQ k false false).length : Nat), .int .i64 (clN k : Nat)]) ∧ Below W.heap.size W w' := fun W => by
    have h := decode_any k hk W
    rw [hop] at h
    exact h
  have hFl : ∀ W, Tabs W → Calls Tryd.prog 5 #[.int .u8 (k : Nat)] W fun e w' => e = .returned (.tuple #[.int .u8 (nd op), .int .u8 (st op)]) ∧ w' = W := fun W TW => by
    have h := flags_any k hk W TW
    rw [hop] at h
    exact h
  have h105 : ∀ W, Tabs W → Calls Tryd.prog 5 #[.int .u8 105] W fun e w' => e = .returned (.tuple #[.int .u8 9, .int .u8 (st (opN 105 : Nat))]) ∧ w' = W := fun W TW => by
    have h := flags_any 105 (by decide) W TW
    rw [show nd (opN 105 : Nat) = 9 by decide +kernel] at h
    exact h
  have h42 : ∀ W, Tabs W → Calls Tryd.prog 5 #[.int .u8 42] W fun e w' => e = .returned (.tuple #[.int .u8 1, .int .u8 131]) ∧ w' = W := fun W TW => by
    have h := flags_any 42 (by decide) W TW
    rw [show nd (opN 42 : Nat) = 1 by decide +kernel, show st (opN 42 : Nat) = 131 by decide +kernel] at h
    exact h
  have k1 := keep_bits (st op) (st_bd9 op) (P F) F (fun q hq e => hK q hq e F)
  have k2 := keep_bits (st op) (st_bd9 op) (P (flip (n % 8).toNat F)) (flip (n % 8).toNat F) (fun q hq e => hK q hq e _)
  cases hN : gt (nd op) (fb (n % 8).toNat)
  · obtain ⟨e0, e1, e2, e3, e5, eP⟩ := hF _ hq hN F
    refine law_flags1 k op _ _ _ _ _ a x y s m n _ _ _ _ (O0 F) (O1 F) (O2 F) (O3 F) ((P F).val : Nat) (O5 F) ((P (flip (n % 8).toNat F)).val : Nat) F (flip (n % 8).toNat F) w T hf n0 n1 (flip_xor _ hq F) hD hFl h105 h42 (hDo F) ?_ k1 k2 hN (tk_flip op _ hq hN F) (fun hS => ?_) (fun hS => ?_)
    · intro W TW
      have h := hDo (flip (n % 8).toNat F) W TW
      rw [e0, e1, e2, e3, e5] at h
      exact h
    · have e : P (flip (n % 8).toNat F) = flip (n % 8).toNat (P F) := by rw [eP, show gt (st op) (fb (n % 8).toNat) = false from hS]; rfl
      rw [e]
      exact xor_flip _ hq _
    · have e : P (flip (n % 8).toNat F) = P F := by rw [eP, show gt (st op) (fb (n % 8).toNat) = true from hS]; rfl
      rw [e]
  · exact law_flags0 k op _ _ _ _ _ a x y s m n _ _ _ _ (O0 F) (O1 F) (O2 F) (O3 F) ((P F).val : Nat) (O5 F) (O0 (flip (n % 8).toNat F)) (O1 (flip (n % 8).toNat F)) (O2 (flip (n % 8).toNat F)) (O3 (flip (n % 8).toNat F)) ((P (flip (n % 8).toNat F)).val : Nat) (O5 (flip (n % 8).toNat F)) F (flip (n % 8).toNat F) w T hf n0 n1 (flip_xor _ hq F) hD hFl h105 h42 (hDo F) (hDo _) k1 k2 hN
theorem acc_sh (k : Nat) (hk : k < 256) (hm : mdN k = 1) : sh (opN k : Nat) = true := by
  have key : ∀ k : Nat, k < 256 → mdN k = 1 → sh (opN k : Nat) = true := by decide +kernel
  exact key k hk hm
/-- By what alu.Do answers. -/
theorem law_flags3 (k : Nat) (hk : k < 256) (hm : mdN k ≠ 1) (op : Int) (hop : ((opN k : Nat) : Int) = op) (a x y s m n : Int) (F : Fl) (w : World) (T : Tabs w) (n0 : 0 ≤ n) (n1 : n ≤ 255) (P : Fl → Fl) (O0 O1 O2 O3 O5 : Fl → Int) (hF : Free op P O0 O1 O2 O3 O5) (hK : Keep op P)
    (hDo : ∀ F : Fl, ∀ W, STab W → Calls Tryd.prog 16 #[.int .i64 op, .agg #[.int .u8 a, .int .u8 x, .int .u8 y, .int .u8 s, .int .u8 (F.val : Nat), .int .u8 m]] W fun e w' => e = .returned (.agg #[.int .u8 (O0 F), .int .u8 (O1 F), .int .u8 (O2 F), .int .u8 (O3 F), .int .u8 ((P F).val : Nat), .int .u8 (O5 F)]) ∧ Below W.heap.size W w') :
    Calls Tryd.prog 3 #[.int .u8 (k : Nat), .agg #[.int .u8 a, .int .u8 x, .int .u8 y, .int .u8 s, .int .u8 (F.val : Nat), .int .u8 m], .int .u8 n] w fun e w' => e = .returned (.bool true) ∧ Below w.heap.size w w' :=
  law_flags2 k hk op hop a x y s m n F w T n0 n1 P O0 O1 O2 O3 O5 hF hK (fun F W TW => does_do op _ _ _ _ _ a x y s _ m _ _ _ _ _ _ W hm (fun W' hb => hDo F W' (TW.on hb)))
theorem none_set (op : Int) (h : op ∉ ([29, 37, 30, 31, 62, 61, 50, 51, 53, 55, 52, 54, 47, 35, 48, 49, 65, 24, 25, 26, 20, 21, 22, 1, 34, 23, 0, 43, 58, 2, 32, 39, 40, 67, 63, 68, 64, 59, 60, 17, 18, 19, 6, 57, 56, 66, 13, 14, 15, 16, 44, 45, 46, 36, 38, 41, 10] : List Int)) (k : Nat) (hk : k < 8) : gt (st op) (fb k) = false := by
  by_cases h0 : 0 ≤ op ∧ op < 70
  · obtain ⟨j, rfl⟩ := Int.eq_ofNat_of_zero_le h0.1
    have key : ∀ j : Nat, j < 70 → ∀ k : Nat, k < 8 → ((j : Int) ∈ ([29, 37, 30, 31, 62, 61, 50, 51, 53, 55, 52, 54, 47, 35, 48, 49, 65, 24, 25, 26, 20, 21, 22, 1, 34, 23, 0, 43, 58, 2, 32, 39, 40, 67, 63, 68, 64, 59, 60, 17, 18, 19, 6, 57, 56, 66, 13, 14, 15, 16, 44, 45, 46, 36, 38, 41, 10] : List Int)) ∨ gt (st (j : Int)) (fb k) = false := by decide +kernel
    exact (key j (by omega) k hk).resolve_left h
  · have e : st op = 0 := by unfold st; rw [if_neg h0]
    rw [e]
    revert k
    decide +kernel
theorem free_other (op a x y s m : Int) (h : op ∉ ([29, 37, 30, 31, 62, 61, 50, 51, 53, 55, 52, 54, 47, 35, 48, 49, 65, 24, 25, 26, 20, 21, 22, 1, 34, 23, 0, 43, 58, 2, 32, 39, 40, 67, 63, 68, 64, 59, 60, 17, 18, 19, 6, 57, 56, 66, 13, 14, 15, 16, 44, 45, 46, 36, 38, 41, 10] : List Int)) : Free op (fun F => F) (fun _ => a) (fun _ => x) (fun _ => y) (fun _ => s) (fun _ => m) := by
  intro k hk _ F
  refine ⟨rfl, rfl, rfl, rfl, rfl, ?_⟩
  rw [none_set op h k hk]
  rfl
set_option maxRecDepth 100000 in
theorem law_isaFlags (k : Nat) (hk : k < 256) (a x y s m n : Int) (F : Fl) (w : World) (T : Tabs w) (a0 : 0 ≤ a) (a1 : a ≤ 255) (m0 : 0 ≤ m) (m1 : m ≤ 255) (n0 : 0 ≤ n) (n1 : n ≤ 255) :
    Calls Tryd.prog 3 #[.int .u8 (k : Nat), .agg #[.int .u8 a, .int .u8 x, .int .u8 y, .int .u8 s, .int .u8 (F.val : Nat), .int .u8 m], .int .u8 n] w fun e w' => e = .returned (.bool true) ∧ Below w.heap.size w w' := by
  by_cases hm : mdN k = 1
  · have hs := acc_sh k hk hm
    exact law_flags2 k hk _ rfl a x y s m n F w T n0 n1 _ _ _ _ _ _ (acc_free _ a x y s m hs) (acc_keep _ a hs) (fun F W _ => does_acc _ _ _ _ _ _ a x y s _ m _ _ _ _ _ _ W hm (fun W' _ => acc_any _ a x y s m F W' a0 a1))
  obtain ⟨op, hop⟩ : ∃ op : Int, ((opN k : Nat) : Int) = op := ⟨_, rfl⟩
  by_cases h29 : op = 29
  · subst h29
    exact law_flags3 k hk hm 29 hop a x y s _ n F w T n0 n1 _ _ _ _ _ _ (free_29 a x y s m) (keep_29 a x y s m) (fun F W _ => do_29 a x y s m F W)
  by_cases h37 : op = 37
  · subst h37
    exact law_flags3 k hk hm 37 hop a x y s _ n F w T n0 n1 _ _ _ _ _ _ (free_37 a x y s m) (keep_37 a x y s m) (fun F W _ => do_37 a x y s m F W)
  by_cases h30 : op = 30
  · subst h30
    exact law_flags3 k hk hm 30 hop a x y s _ n F w T n0 n1 _ _ _ _ _ _ (free_30 a x y s m) (keep_30 a x y s m) (fun F W _ => do_30 a x y s m F W)
  by_cases h31 : op = 31
  · subst h31
    exact law_flags3 k hk hm 31 hop a x y s _ n F w T n0 n1 _ _ _ _ _ _ (free_31 a x y s m) (keep_31 a x y s m) (fun F W _ => do_31 a x y s m F W)
  by_cases h62 : op = 62
  · subst h62
    exact law_flags3 k hk hm 62 hop a x y s _ n F w T n0 n1 _ _ _ _ _ _ (free_62 a x y s m) (keep_62 a x y s m) (fun F W _ => do_62 a x y s m F W)
  by_cases h61 : op = 61
  · subst h61
    exact law_flags3 k hk hm 61 hop a x y s _ n F w T n0 n1 _ _ _ _ _ _ (free_61 a x y s m) (keep_61 a x y s m) (fun F W _ => do_61 a x y s m F W)
  by_cases h50 : op = 50
  · subst h50
    exact law_flags3 k hk hm 50 hop a x y s _ n F w T n0 n1 _ _ _ _ _ _ (free_50 a x y s m) (keep_50 a x y s m) (fun F W _ => do_50 a x y s m F W)
  by_cases h51 : op = 51
  · subst h51
    exact law_flags3 k hk hm 51 hop a x y s _ n F w T n0 n1 _ _ _ _ _ _ (free_51 a x y s m) (keep_51 a x y s m) (fun F W _ => do_51 a x y s m F W)
  by_cases h53 : op = 53
  · subst h53
    exact law_flags3 k hk hm 53 hop a x y s _ n F w T n0 n1 _ _ _ _ _ _ (free_53 a x y s m) (keep_53 a x y s m) (fun F W _ => do_53 a x y s m F W)
  by_cases h55 : op = 55
  · subst h55
    exact law_flags3 k hk hm 55 hop a x y s _ n F w T n0 n1 _ _ _ _ _ _ (free_55 a x y s m) (keep_55 a x y s m) (fun F W _ => do_55 a x y s m F W)
  by_cases h52 : op = 52
  · subst h52
    exact law_flags3 k hk hm 52 hop a x y s _ n F w T n0 n1 _ _ _ _ _ _ (free_52 a x y s m) (keep_52 a x y s m) (fun F W _ => do_52 a x y s m F W)
  by_cases h54 : op = 54
  · subst h54
    exact law_flags3 k hk hm 54 hop a x y s _ n F w T n0 n1 _ _ _ _ _ _ (free_54 a x y s m) (keep_54 a x y s m) (fun F W _ => do_54 a x y s m F W)
  by_cases h47 : op = 47
  · subst h47
    exact law_flags3 k hk hm 47 hop a x y s _ n F w T n0 n1 _ _ _ _ _ _ (free_47 a x y s m) (keep_47 a x y s m) (fun F W _ => do_47 a x y s m F W)
  by_cases h35 : op = 35
  · subst h35
    exact law_flags3 k hk hm 35 hop a x y s _ n F w T n0 n1 _ _ _ _ _ _ (free_35 a x y s m) (keep_35 a x y s m) (fun F W _ => do_35 a x y s m F W)
  by_cases h48 : op = 48
  · subst h48
    exact law_flags3 k hk hm 48 hop a x y s _ n F w T n0 n1 _ _ _ _ _ _ (free_48 a x y s m) (keep_48 a x y s m) (fun F W _ => do_48 a x y s m F W)
  by_cases h49 : op = 49
  · subst h49
    exact law_flags3 k hk hm 49 hop a x y s _ n F w T n0 n1 _ _ _ _ _ _ (free_49 a x y s m) (keep_49 a x y s m) (fun F W _ => do_49 a x y s m F W)
  by_cases h65 : op = 65
  · subst h65
    exact law_flags3 k hk hm 65 hop a x y s _ n F w T n0 n1 _ _ _ _ _ _ (free_65 a x y s m) (keep_65 a x y s m) (fun F W _ => do_65 a x y s m F W)
  by_cases h24 : op = 24
  · subst h24
    exact law_flags3 k hk hm 24 hop a x y s _ n F w T n0 n1 _ _ _ _ _ _ (free_24 a x y s m) (keep_24 a x y s m) (fun F W _ => do_24 a x y s m F W)
  by_cases h25 : op = 25
  · subst h25
    exact law_flags3 k hk hm 25 hop a x y s _ n F w T n0 n1 _ _ _ _ _ _ (free_25 a x y s m) (keep_25 a x y s m) (fun F W _ => do_25 a x y s m F W)
  by_cases h26 : op = 26
  · subst h26
    exact law_flags3 k hk hm 26 hop a x y s _ n F w T n0 n1 _ _ _ _ _ _ (free_26 a x y s m) (keep_26 a x y s m) (fun F W _ => do_26 a x y s m F W)
  by_cases h20 : op = 20
  · subst h20
    exact law_flags3 k hk hm 20 hop a x y s _ n F w T n0 n1 _ _ _ _ _ _ (free_20 a x y s m) (keep_20 a x y s m) (fun F W _ => do_20 a x y s m F W)
  by_cases h21 : op = 21
  · subst h21
    exact law_flags3 k hk hm 21 hop a x y s _ n F w T n0 n1 _ _ _ _ _ _ (free_21 a x y s m) (keep_21 a x y s m) (fun F W _ => do_21 a x y s m F W)
  by_cases h22 : op = 22
  · subst h22
    exact law_flags3 k hk hm 22 hop a x y s _ n F w T n0 n1 _ _ _ _ _ _ (free_22 a x y s m) (keep_22 a x y s m) (fun F W _ => do_22 a x y s m F W)
  by_cases h1 : op = 1
  · subst h1
    exact law_flags3 k hk hm 1 hop a x y s _ n F w T n0 n1 _ _ _ _ _ _ (free_1 a x y s m) (keep_1 a x y s m) (fun F W _ => do_1 a x y s m F W)
  by_cases h34 : op = 34
  · subst h34
    exact law_flags3 k hk hm 34 hop a x y s _ n F w T n0 n1 _ _ _ _ _ _ (free_34 a x y s m) (keep_34 a x y s m) (fun F W _ => do_34 a x y s m F W)
  by_cases h23 : op = 23
  · subst h23
    exact law_flags3 k hk hm 23 hop a x y s _ n F w T n0 n1 _ _ _ _ _ _ (free_23 a x y s m) (keep_23 a x y s m) (fun F W _ => do_23 a x y s m F W)
  by_cases h0 : op = 0
  · subst h0
    exact law_flags3 k hk hm 0 hop a x y s _ n F w T n0 n1 _ _ _ _ _ _ (free_0 a x y s m) (keep_0 a x y s m) (fun F W _ => do_0 a x y s m F W a0 a1 m0 m1)
  by_cases h43 : op = 43
  · subst h43
    exact law_flags3 k hk hm 43 hop a x y s _ n F w T n0 n1 _ _ _ _ _ _ (free_43 a x y s m) (keep_43 a x y s m) (fun F W _ => do_43 a x y s m F W a0 a1 m0 m1)
  by_cases h58 : op = 58
  · subst h58
    exact law_flags3 k hk hm 58 hop a x y s _ n F w T n0 n1 _ _ _ _ _ _ (free_58 a x y s m) (keep_58 a x y s m) (fun F W _ => do_58 a x y s m F W a0 a1 m0 m1)
  by_cases h2 : op = 2
  · subst h2
    exact law_flags3 k hk hm 2 hop a x y s _ n F w T n0 n1 _ _ _ _ _ _ (free_2 a x y s m) (keep_2 a x y s m) (fun F W _ => do_2 a x y s m F W m0 m1)
  by_cases h32 : op = 32
  · subst h32
    exact law_flags3 k hk hm 32 hop a x y s _ n F w T n0 n1 _ _ _ _ _ _ (free_32 a x y s m) (keep_32 a x y s m) (fun F W _ => do_32 a x y s m F W m0 m1)
  by_cases h39 : op = 39
  · subst h39
    exact law_flags3 k hk hm 39 hop a x y s _ n F w T n0 n1 _ _ _ _ _ _ (free_39 a x y s m) (keep_39 a x y s m) (fun F W _ => do_39 a x y s m F W m0 m1)
  by_cases h40 : op = 40
  · subst h40
    exact law_flags3 k hk hm 40 hop a x y s _ n F w T n0 n1 _ _ _ _ _ _ (free_40 a x y s m) (keep_40 a x y s m) (fun F W _ => do_40 a x y s m F W m0 m1)
  by_cases h67 : op = 67
  · subst h67
    exact law_flags3 k hk hm 67 hop a x y s _ n F w T n0 n1 _ _ _ _ _ _ (free_67 a x y s m) (keep_67 a x y s m) (fun F W _ => do_67 a x y s m F W a0 a1 m0 m1)
  by_cases h63 : op = 63
  · subst h63
    exact law_flags3 k hk hm 63 hop a x y s _ n F w T n0 n1 _ _ _ _ _ _ (free_63 a x y s m) (keep_63 a x y s m) (fun F W _ => do_63 a x y s m F W a0 a1 m0 m1)
  by_cases h68 : op = 68
  · subst h68
    exact law_flags3 k hk hm 68 hop a x y s _ n F w T n0 n1 _ _ _ _ _ _ (free_68 a x y s m) (keep_68 a x y s m) (fun F W _ => do_68 a x y s m F W a0 a1 m0 m1)
  by_cases h64 : op = 64
  · subst h64
    exact law_flags3 k hk hm 64 hop a x y s _ n F w T n0 n1 _ _ _ _ _ _ (free_64 a x y s m) (keep_64 a x y s m) (fun F W _ => do_64 a x y s m F W a0 a1 m0 m1)
  by_cases h59 : op = 59
  · subst h59
    exact law_flags3 k hk hm 59 hop a x y s _ n F w T n0 n1 _ _ _ _ _ _ (free_59 a x y s m) (keep_59 a x y s m) (fun F W _ => do_59 a x y s m F W a0 a1 m0 m1)
  by_cases h60 : op = 60
  · subst h60
    exact law_flags3 k hk hm 60 hop a x y s _ n F w T n0 n1 _ _ _ _ _ _ (free_60 a x y s m) (keep_60 a x y s m) (fun F W _ => do_60 a x y s m F W a0 a1 m0 m1)
  by_cases h17 : op = 17
  · subst h17
    exact law_flags3 k hk hm 17 hop a x y s _ n F w T n0 n1 _ _ _ _ _ _ (free_17 a x y s m) (keep_17 a x y s m) (fun F W _ => do_17 a x y s m F W)
  by_cases h18 : op = 18
  · subst h18
    exact law_flags3 k hk hm 18 hop a x y s _ n F w T n0 n1 _ _ _ _ _ _ (free_18 a x y s m) (keep_18 a x y s m) (fun F W _ => do_18 a x y s m F W)
  by_cases h19 : op = 19
  · subst h19
    exact law_flags3 k hk hm 19 hop a x y s _ n F w T n0 n1 _ _ _ _ _ _ (free_19 a x y s m) (keep_19 a x y s m) (fun F W _ => do_19 a x y s m F W)
  by_cases h6 : op = 6
  · subst h6
    exact law_flags3 k hk hm 6 hop a x y s _ n F w T n0 n1 _ _ _ _ _ _ (free_6 a x y s m) (keep_6 a x y s m) (fun F W _ => do_6 a x y s m F W)
  by_cases h57 : op = 57
  · subst h57
    exact law_flags3 k hk hm 57 hop a x y s _ n F w T n0 n1 _ _ _ _ _ _ (free_57 a x y s m) (keep_57 a x y s m) (fun F W _ => do_57 a x y s m F W)
  by_cases h56 : op = 56
  · subst h56
    exact law_flags3 k hk hm 56 hop a x y s _ n F w T n0 n1 _ _ _ _ _ _ (free_56 a x y s m) (keep_56 a x y s m) (fun F W _ => do_56 a x y s m F W a0 a1 m0 m1)
  by_cases h66 : op = 66
  · subst h66
    exact law_flags3 k hk hm 66 hop a x y s _ n F w T n0 n1 _ _ _ _ _ _ (free_66 a x y s m) (keep_66 a x y s m) (fun F W _ => do_66 a x y s m F W)
  by_cases h13 : op = 13
  · subst h13
    exact law_flags3 k hk hm 13 hop a x y s _ n F w T n0 n1 _ _ _ _ _ _ (free_13 a x y s m) (keep_13 a x y s m) (fun F W TW => do_13 a x y s m F W TW)
  by_cases h14 : op = 14
  · subst h14
    exact law_flags3 k hk hm 14 hop a x y s _ n F w T n0 n1 _ _ _ _ _ _ (free_14 a x y s m) (keep_14 a x y s m) (fun F W TW => do_14 a x y s m F W TW)
  by_cases h15 : op = 15
  · subst h15
    exact law_flags3 k hk hm 15 hop a x y s _ n F w T n0 n1 _ _ _ _ _ _ (free_15 a x y s m) (keep_15 a x y s m) (fun F W TW => do_15 a x y s m F W TW)
  by_cases h16 : op = 16
  · subst h16
    exact law_flags3 k hk hm 16 hop a x y s _ n F w T n0 n1 _ _ _ _ _ _ (free_16 a x y s m) (keep_16 a x y s m) (fun F W TW => do_16 a x y s m F W TW)
  by_cases h44 : op = 44
  · subst h44
    exact law_flags3 k hk hm 44 hop a x y s _ n F w T n0 n1 _ _ _ _ _ _ (free_44 a x y s m) (keep_44 a x y s m) (fun F W TW => do_44 a x y s m F W TW)
  by_cases h45 : op = 45
  · subst h45
    exact law_flags3 k hk hm 45 hop a x y s _ n F w T n0 n1 _ _ _ _ _ _ (free_45 a x y s m) (keep_45 a x y s m) (fun F W TW => do_45 a x y s m F W TW)
  by_cases h46 : op = 46
  · subst h46
    exact law_flags3 k hk hm 46 hop a x y s _ n F w T n0 n1 _ _ _ _ _ _ (free_46 a x y s m) (keep_46 a x y s m) (fun F W TW => do_46 a x y s m F W TW)
  by_cases h36 : op = 36
  · subst h36
    exact law_flags3 k hk hm 36 hop a x y s _ n F w T n0 n1 _ _ _ _ _ _ (free_36 a x y s m) (keep_36 a x y s m) (fun F W _ => do_36 a x y s m F W)
  by_cases h38 : op = 38
  · subst h38
    obtain ⟨M, rfl⟩ := Fl.ofInt m m0 m1
    exact law_flags3 k hk hm 38 hop a x y s _ n F w T n0 n1 _ _ _ _ _ _ (free_38 a x y s M) (keep_38 a x y s M) (fun F W _ => do_38 a x y s F M W)
  by_cases h41 : op = 41
  · subst h41
    obtain ⟨M, rfl⟩ := Fl.ofInt m m0 m1
    exact law_flags3 k hk hm 41 hop a x y s _ n F w T n0 n1 _ _ _ _ _ _ (free_41 a x y s M) (keep_41 a x y s M) (fun F W _ => do_41 a x y s F M W)
  by_cases h10 : op = 10
  · subst h10
    exact law_flags3 k hk hm 10 hop a x y s _ n F w T n0 n1 _ _ _ _ _ _ (free_10 a x y s m) (keep_10 a x y s m) (fun F W _ => do_10 a x y s m F W)
  exact law_flags3 k hk hm op hop a x y s m n F w T n0 n1 _ _ _ _ _ _ (free_other op a x y s m (by simp only [List.mem_cons, List.not_mem_nil, or_false, not_or]; exact ⟨h29, h37, h30, h31, h62, h61, h50, h51, h53, h55, h52, h54, h47, h35, h48, h49, h65, h24, h25, h26, h20, h21, h22, h1, h34, h23, h0, h43, h58, h2, h32, h39, h40, h67, h63, h68, h64, h59, h60, h17, h18, h19, h6, h57, h56, h66, h13, h14, h15, h16, h44, h45, h46, h36, h38, h41, h10⟩)) (fun _ _ _ _ => rfl) (fun F W _ => do_other op a x y s m F W (beq_eq_false_iff_ne.2 h29) (beq_eq_false_iff_ne.2 h37) (beq_eq_false_iff_ne.2 h30) (beq_eq_false_iff_ne.2 h31) (beq_eq_false_iff_ne.2 h62) (beq_eq_false_iff_ne.2 h61) (beq_eq_false_iff_ne.2 h50) (beq_eq_false_iff_ne.2 h51) (beq_eq_false_iff_ne.2 h53) (beq_eq_false_iff_ne.2 h55) (beq_eq_false_iff_ne.2 h52) (beq_eq_false_iff_ne.2 h54) (beq_eq_false_iff_ne.2 h47) (beq_eq_false_iff_ne.2 h35) (beq_eq_false_iff_ne.2 h48) (beq_eq_false_iff_ne.2 h49) (beq_eq_false_iff_ne.2 h65) (beq_eq_false_iff_ne.2 h24) (beq_eq_false_iff_ne.2 h25) (beq_eq_false_iff_ne.2 h26) (beq_eq_false_iff_ne.2 h20) (beq_eq_false_iff_ne.2 h21) (beq_eq_false_iff_ne.2 h22) (beq_eq_false_iff_ne.2 h1) (beq_eq_false_iff_ne.2 h34) (beq_eq_false_iff_ne.2 h23) (beq_eq_false_iff_ne.2 h0) (beq_eq_false_iff_ne.2 h43) (beq_eq_false_iff_ne.2 h58) (beq_eq_false_iff_ne.2 h2) (beq_eq_false_iff_ne.2 h32) (beq_eq_false_iff_ne.2 h39) (beq_eq_false_iff_ne.2 h40) (beq_eq_false_iff_ne.2 h67) (beq_eq_false_iff_ne.2 h63) (beq_eq_false_iff_ne.2 h68) (beq_eq_false_iff_ne.2 h64) (beq_eq_false_iff_ne.2 h59) (beq_eq_false_iff_ne.2 h60) (beq_eq_false_iff_ne.2 h17) (beq_eq_false_iff_ne.2 h18) (beq_eq_false_iff_ne.2 h19) (beq_eq_false_iff_ne.2 h6) (beq_eq_false_iff_ne.2 h57) (beq_eq_false_iff_ne.2 h56) (beq_eq_false_iff_ne.2 h66) (beq_eq_false_iff_ne.2 h13) (beq_eq_false_iff_ne.2 h14) (beq_eq_false_iff_ne.2 h15) (beq_eq_false_iff_ne.2 h16) (beq_eq_false_iff_ne.2 h44) (beq_eq_false_iff_ne.2 h45) (beq_eq_false_iff_ne.2 h46) (beq_eq_false_iff_ne.2 h36) (beq_eq_false_iff_ne.2 h38) (beq_eq_false_iff_ne.2 h41) (beq_eq_false_iff_ne.2 h10))
end Go.Proofs.YtgnhaicogdnebaaDoor
