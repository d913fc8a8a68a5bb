/-
  The law AluDoes returns true for every number of an operation and every Alu; condition: the table of what is set lies in its variable.
-/
import Derived.Test.YthdmkmbgncbmgaaDoorADoes
import Derived.Test.YthdmkmbgncbmgaaDoorADoA
import Derived.Test.YthdmkmbgncbmgaaDoorADoB
import Derived.Test.YthdmkmbgncbmgaaDoorADoT
import Derived.Test.YthdmkmbgncbmgaaDoorADoS
import Derived.Test.YthdmkmbgncbmgaaDoorADoU
import Derived.Test.YthdmkmbgncbmgaaDoorADoV
import Derived.Test.YthdmkmbgncbmgaaDoorADoQ
import Derived.Test.YthdmkmbgncbmgaaDoorADoR
import Derived.Test.YthdmkmbgncbmgaaDoorADoF
import Derived.Test.YthdmkmbgncbmgaaDoorADoG
import Derived.Test.YthdmkmbgncbmgaaDoorADoH
import Derived.Test.YthdmkmbgncbmgaaDoorRDo
import Derived.Test.YthdmkmbgncbmgaaDoorRDo3
import Derived.Test.YthdmkmbgncbmgaaDoorRDo4
import Derived.Test.YthdmkmbgncbmgaaDoorRMovA
import Derived.Test.YthdmkmbgncbmgaaDoorRMovC
import Derived.Test.YthdmkmbgncbmgaaDoorRCntB
import Derived.Test.YthdmkmbgncbmgaaDoorRCntC
import Derived.Test.YthdmkmbgncbmgaaDoorRFlg
namespace Go.Proofs.YthdmkmbgncbmgaaDoor
open Go.RowKit
theorem and_com (a b : Int) : bits .and .u8 a b = bits .and .u8 b a := by simp only [bits, BitVec.and_comm]
theorem alr_eq (t : Int) (F : Fl) : shF 32 t (nzF t F) = shF 32 t F := rfl
theorem nat_and128 (a : Nat) (h : a < 256) : a &&& 128 = a / 128 * 128 := by revert a; decide +kernel
theorem u8_and128 (a : Int) (h0 : 0 ≤ a) (h1 : a ≤ 255) : bits .and .u8 a 128 = a / 128 * 128 := by
  obtain ⟨A, rfl⟩ := Int.eq_ofNat_of_zero_le h0
  have h := bits_and A 128 (by omega) (by decide)
  rw [nat_and128 A (by omega)] at h
  exact h.trans (by omega)
theorem bit_eq (m : Int) (z : Bool) (F : Fl) (m0 : 0 ≤ m) (m1 : m ≤ 255) : ((F.put 128 (decide (128 ≤ m))).put 64 (bitN m 6)).put 2 z = ((F.put 2 z).put 128 (bits .and .u8 m 128 != 0)).put 64 (bits .and .u8 m 64 != 0) := by
  have e1 : (bits .and .u8 m 128 != 0) = decide (128 ≤ m) := by
    rw [u8_and128 m m0 m1, Bool.eq_iff_iff]; simp; omega
  have e2 : (bits .and .u8 m 64 != 0) = bitN m 6 := by
    rw [u8_and64 m m0 m1, Bool.eq_iff_iff]; simp [bitN]; omega
  rw [e1, e2]
  rfl
set_option maxRecDepth 100000 in
theorem law_aluDoes (op a x y s m : Int) (F : Fl) (w : World) (T : STab w) (a0 : 0 ≤ a) (a1 : a ≤ 255) (x0 : 0 ≤ x) (x1 : x ≤ 255) (y0 : 0 ≤ y) (y1 : y ≤ 255) (m0 : 0 ≤ m) (m1 : m ≤ 255) :
    Calls Tryd.prog 5 #[.int .i64 op, .agg #[.int .u8 a, .int .u8 x, .int .u8 y, .int .u8 s, .int .u8 (F.val : Nat), .int .u8 m]] w fun e w' => e = .returned (.bool true) ∧ Below w.heap.size w w' := by
  by_cases h29 : op = 29
  · subst h29
    exact law_does 29 a x y s _ _ _ _ _ _ _ _ w T (fun W _ => do_29 a x y s m F W) (fun W => rdo_moves 29 a x y s _ m _ _ _ _ _ _ W (fun W => rmoves_29 a x y s m F W a0 a1 x0 x1 y0 y1 m0 m1))
  by_cases h37 : op = 37
  · subst h37
    exact law_does 37 a x y s _ _ _ _ _ _ _ _ w T (fun W _ => do_37 a x y s m F W) (fun W => rdo_moves 37 a x y s _ m _ _ _ _ _ _ W (fun W => rmoves_37 a x y s m F W a0 a1 x0 x1 y0 y1 m0 m1))
  by_cases h30 : op = 30
  · subst h30
    exact law_does 30 a x y s _ _ _ _ _ _ _ _ w T (fun W _ => do_30 a x y s m F W) (fun W => rdo_moves 30 a x y s _ m _ _ _ _ _ _ W (fun W => rmoves_30 a x y s m F W a0 a1 x0 x1 y0 y1 m0 m1))
  by_cases h31 : op = 31
  · subst h31
    exact law_does 31 a x y s _ _ _ _ _ _ _ _ w T (fun W _ => do_31 a x y s m F W) (fun W => rdo_moves 31 a x y s _ m _ _ _ _ _ _ W (fun W => rmoves_31 a x y s m F W a0 a1 x0 x1 y0 y1 m0 m1))
  by_cases h62 : op = 62
  · subst h62
    exact law_does 62 a x y s _ _ _ _ _ _ _ _ w T (fun W _ => do_62 a x y s m F W) (fun W => rdo_moves 62 a x y s _ m _ _ _ _ _ _ W (fun W => rmoves_62 a x y s m F W a0 a1 x0 x1 y0 y1 m0 m1))
  by_cases h61 : op = 61
  · subst h61
    exact law_does 61 a x y s _ _ _ _ _ _ _ _ w T (fun W _ => do_61 a x y s m F W) (fun W => rdo_moves 61 a x y s _ m _ _ _ _ _ _ W (fun W => by have h := rmoves_61 a x y s m F W a0 a1 x0 x1 y0 y1 m0 m1; rw [and_com m s] at h; exact h))
  by_cases h50 : op = 50
  · subst h50
    exact law_does 50 a x y s _ _ _ _ _ _ _ _ w T (fun W _ => do_50 a x y s m F W) (fun W => rdo_moves 50 a x y s _ m _ _ _ _ _ _ W (fun W => rmoves_50 a x y s m F W a0 a1 x0 x1 y0 y1 m0 m1))
  by_cases h51 : op = 51
  · subst h51
    exact law_does 51 a x y s _ _ _ _ _ _ _ _ w T (fun W _ => do_51 a x y s m F W) (fun W => rdo_moves 51 a x y s _ m _ _ _ _ _ _ W (fun W => rmoves_51 a x y s m F W a0 a1 x0 x1 y0 y1 m0 m1))
  by_cases h53 : op = 53
  · subst h53
    exact law_does 53 a x y s _ _ _ _ _ _ _ _ w T (fun W _ => do_53 a x y s m F W) (fun W => rdo_moves 53 a x y s _ m _ _ _ _ _ _ W (fun W => rmoves_53 a x y s m F W a0 a1 x0 x1 y0 y1 m0 m1))
  by_cases h55 : op = 55
  · subst h55
    exact law_does 55 a x y s _ _ _ _ _ _ _ _ w T (fun W _ => do_55 a x y s m F W) (fun W => rdo_moves 55 a x y s _ m _ _ _ _ _ _ W (fun W => rmoves_55 a x y s m F W a0 a1 x0 x1 y0 y1 m0 m1))
  by_cases h52 : op = 52
  · subst h52
    exact law_does 52 a x y s _ _ _ _ _ _ _ _ w T (fun W _ => do_52 a x y s m F W) (fun W => rdo_moves 52 a x y s _ m _ _ _ _ _ _ W (fun W => rmoves_52 a x y s m F W a0 a1 x0 x1 y0 y1 m0 m1))
  by_cases h54 : op = 54
  · subst h54
    exact law_does 54 a x y s _ _ _ _ _ _ _ _ w T (fun W _ => do_54 a x y s m F W) (fun W => rdo_moves 54 a x y s _ m _ _ _ _ _ _ W (fun W => rmoves_54 a x y s m F W a0 a1 x0 x1 y0 y1 m0 m1))
  by_cases h47 : op = 47
  · subst h47
    exact law_does 47 a x y s _ _ _ _ _ _ _ _ w T (fun W _ => do_47 a x y s m F W) (fun W => rdo_moves 47 a x y s _ m _ _ _ _ _ _ W (fun W => rmoves_47 a x y s m F W a0 a1 x0 x1 y0 y1 m0 m1))
  by_cases h35 : op = 35
  · subst h35
    exact law_does 35 a x y s _ _ _ _ _ _ _ _ w T (fun W _ => do_35 a x y s m F W) (fun W => rdo_moves 35 a x y s _ m _ _ _ _ _ _ W (fun W => rmoves_35 a x y s m F W a0 a1 x0 x1 y0 y1 m0 m1))
  by_cases h48 : op = 48
  · subst h48
    exact law_does 48 a x y s _ _ _ _ _ _ _ _ w T (fun W _ => do_48 a x y s m F W) (fun W => rdo_moves 48 a x y s _ m _ _ _ _ _ _ W (fun W => rmoves_48 a x y s m F W a0 a1 x0 x1 y0 y1 m0 m1))
  by_cases h49 : op = 49
  · subst h49
    exact law_does 49 a x y s _ _ _ _ _ _ _ _ w T (fun W _ => do_49 a x y s m F W) (fun W => rdo_moves 49 a x y s _ m _ _ _ _ _ _ W (fun W => rmoves_49 a x y s m F W a0 a1 x0 x1 y0 y1 m0 m1))
  by_cases h65 : op = 65
  · subst h65
    exact law_does 65 a x y s _ _ _ _ _ _ _ _ w T (fun W _ => do_65 a x y s m F W) (fun W => rdo_moves 65 a x y s _ m _ _ _ _ _ _ W (fun W => rmoves_65 a x y s m F W a0 a1 x0 x1 y0 y1 m0 m1))
  by_cases h24 : op = 24
  · subst h24
    exact law_does 24 a x y s _ _ _ _ _ _ _ _ w T (fun W _ => do_24 a x y s m F W) (fun W => rdo_counts 24 a x y s _ m _ _ _ _ _ _ W (fun W => rmoves_no 24 a x y s m F W (by decide) (by decide) (by decide) (by decide) (by decide) (by decide) (by decide) (by decide) (by decide) (by decide) (by decide) (by decide) (by decide) (by decide) (by decide) (by decide) (by decide)) (fun W => rsums_no 24 a x y s m F W (by decide) (by decide) (by decide) (by decide) (by decide) (by decide) (by decide) (by decide) (by decide) (by decide) (by decide) (by decide) (by decide)) (fun W => rcounts_24 a x y s m F W a0 a1 x0 x1 y0 y1 m0 m1))
  by_cases h25 : op = 25
  · subst h25
    exact law_does 25 a x y s _ _ _ _ _ _ _ _ w T (fun W _ => do_25 a x y s m F W) (fun W => rdo_counts 25 a x y s _ m _ _ _ _ _ _ W (fun W => rmoves_no 25 a x y s m F W (by decide) (by decide) (by decide) (by decide) (by decide) (by decide) (by decide) (by decide) (by decide) (by decide) (by decide) (by decide) (by decide) (by decide) (by decide) (by decide) (by decide)) (fun W => rsums_no 25 a x y s m F W (by decide) (by decide) (by decide) (by decide) (by decide) (by decide) (by decide) (by decide) (by decide) (by decide) (by decide) (by decide) (by decide)) (fun W => rcounts_25 a x y s m F W a0 a1 x0 x1 y0 y1 m0 m1))
  by_cases h26 : op = 26
  · subst h26
    exact law_does 26 a x y s _ _ _ _ _ _ _ _ w T (fun W _ => do_26 a x y s m F W) (fun W => rdo_counts 26 a x y s _ m _ _ _ _ _ _ W (fun W => rmoves_no 26 a x y s m F W (by decide) (by decide) (by decide) (by decide) (by decide) (by decide) (by decide) (by decide) (by decide) (by decide) (by decide) (by decide) (by decide) (by decide) (by decide) (by decide) (by decide)) (fun W => rsums_no 26 a x y s m F W (by decide) (by decide) (by decide) (by decide) (by decide) (by decide) (by decide) (by decide) (by decide) (by decide) (by decide) (by decide) (by decide)) (fun W => rcounts_26 a x y s m F W a0 a1 x0 x1 y0 y1 m0 m1))
  by_cases h20 : op = 20
  · subst h20
    exact law_does 20 a x y s _ _ _ _ _ _ _ _ w T (fun W _ => do_20 a x y s m F W) (fun W => rdo_counts 20 a x y s _ m _ _ _ _ _ _ W (fun W => rmoves_no 20 a x y s m F W (by decide) (by decide) (by decide) (by decide) (by decide) (by decide) (by decide) (by decide) (by decide) (by decide) (by decide) (by decide) (by decide) (by decide) (by decide) (by decide) (by decide)) (fun W => rsums_no 20 a x y s m F W (by decide) (by decide) (by decide) (by decide) (by decide) (by decide) (by decide) (by decide) (by decide) (by decide) (by decide) (by decide) (by decide)) (fun W => rcounts_20 a x y s m F W a0 a1 x0 x1 y0 y1 m0 m1))
  by_cases h21 : op = 21
  · subst h21
    exact law_does 21 a x y s _ _ _ _ _ _ _ _ w T (fun W _ => do_21 a x y s m F W) (fun W => rdo_counts 21 a x y s _ m _ _ _ _ _ _ W (fun W => rmoves_no 21 a x y s m F W (by decide) (by decide) (by decide) (by decide) (by decide) (by decide) (by decide) (by decide) (by decide) (by decide) (by decide) (by decide) (by decide) (by decide) (by decide) (by decide) (by decide)) (fun W => rsums_no 21 a x y s m F W (by decide) (by decide) (by decide) (by decide) (by decide) (by decide) (by decide) (by decide) (by decide) (by decide) (by decide) (by decide) (by decide)) (fun W => rcounts_21 a x y s m F W a0 a1 x0 x1 y0 y1 m0 m1))
  by_cases h22 : op = 22
  · subst h22
    exact law_does 22 a x y s _ _ _ _ _ _ _ _ w T (fun W _ => do_22 a x y s m F W) (fun W => rdo_counts 22 a x y s _ m _ _ _ _ _ _ W (fun W => rmoves_no 22 a x y s m F W (by decide) (by decide) (by decide) (by decide) (by decide) (by decide) (by decide) (by decide) (by decide) (by decide) (by decide) (by decide) (by decide) (by decide) (by decide) (by decide) (by decide)) (fun W => rsums_no 22 a x y s m F W (by decide) (by decide) (by decide) (by decide) (by decide) (by decide) (by decide) (by decide) (by decide) (by decide) (by decide) (by decide) (by decide)) (fun W => rcounts_22 a x y s m F W a0 a1 x0 x1 y0 y1 m0 m1))
  by_cases h1 : op = 1
  · subst h1
    exact law_does 1 a x y s _ _ _ _ _ _ _ _ w T (fun W _ => do_1 a x y s m F W) (fun W => rdo_sums 1 a x y s _ m _ _ _ _ _ _ W (fun W => rmoves_no 1 a x y s m F W (by decide) (by decide) (by decide) (by decide) (by decide) (by decide) (by decide) (by decide) (by decide) (by decide) (by decide) (by decide) (by decide) (by decide) (by decide) (by decide) (by decide)) (fun W => rsums_1 a x y s m F W a0 a1 x0 x1 y0 y1 m0 m1))
  by_cases h34 : op = 34
  · subst h34
    exact law_does 34 a x y s _ _ _ _ _ _ _ _ w T (fun W _ => do_34 a x y s m F W) (fun W => rdo_sums 34 a x y s _ m _ _ _ _ _ _ W (fun W => rmoves_no 34 a x y s m F W (by decide) (by decide) (by decide) (by decide) (by decide) (by decide) (by decide) (by decide) (by decide) (by decide) (by decide) (by decide) (by decide) (by decide) (by decide) (by decide) (by decide)) (fun W => rsums_34 a x y s m F W a0 a1 x0 x1 y0 y1 m0 m1))
  by_cases h23 : op = 23
  · subst h23
    exact law_does 23 a x y s _ _ _ _ _ _ _ _ w T (fun W _ => do_23 a x y s m F W) (fun W => rdo_sums 23 a x y s _ m _ _ _ _ _ _ W (fun W => rmoves_no 23 a x y s m F W (by decide) (by decide) (by decide) (by decide) (by decide) (by decide) (by decide) (by decide) (by decide) (by decide) (by decide) (by decide) (by decide) (by decide) (by decide) (by decide) (by decide)) (fun W => rsums_23 a x y s m F W a0 a1 x0 x1 y0 y1 m0 m1))
  by_cases h0 : op = 0
  · subst h0
    exact law_does 0 a x y s _ _ _ _ _ _ _ _ w T (fun W _ => do_0 a x y s m F W a0 a1 m0 m1) (fun W => rdo_sums 0 a x y s _ m _ _ _ _ _ _ W (fun W => rmoves_no 0 a x y s m F W (by decide) (by decide) (by decide) (by decide) (by decide) (by decide) (by decide) (by decide) (by decide) (by decide) (by decide) (by decide) (by decide) (by decide) (by decide) (by decide) (by decide)) (fun W => rsums_0 a x y s m F W a0 a1 x0 x1 y0 y1 m0 m1))
  by_cases h43 : op = 43
  · subst h43
    exact law_does 43 a x y s _ _ _ _ _ _ _ _ w T (fun W _ => do_43 a x y s m F W a0 a1 m0 m1) (fun W => rdo_sums 43 a x y s _ m _ _ _ _ _ _ W (fun W => rmoves_no 43 a x y s m F W (by decide) (by decide) (by decide) (by decide) (by decide) (by decide) (by decide) (by decide) (by decide) (by decide) (by decide) (by decide) (by decide) (by decide) (by decide) (by decide) (by decide)) (fun W => rsums_43 a x y s m F W a0 a1 x0 x1 y0 y1 m0 m1))
  by_cases h58 : op = 58
  · subst h58
    exact law_does 58 a x y s _ _ _ _ _ _ _ _ w T (fun W _ => do_58 a x y s m F W a0 a1 m0 m1) (fun W => rdo_sums 58 a x y s _ m _ _ _ _ _ _ W (fun W => rmoves_no 58 a x y s m F W (by decide) (by decide) (by decide) (by decide) (by decide) (by decide) (by decide) (by decide) (by decide) (by decide) (by decide) (by decide) (by decide) (by decide) (by decide) (by decide) (by decide)) (fun W => rsums_58 a x y s m F W a0 a1 x0 x1 y0 y1 m0 m1))
  by_cases h2 : op = 2
  · subst h2
    exact law_does 2 a x y s _ _ _ _ _ _ _ _ w T (fun W _ => do_2 a x y s m F W m0 m1) (fun W => rdo_counts 2 a x y s _ m _ _ _ _ _ _ W (fun W => rmoves_no 2 a x y s m F W (by decide) (by decide) (by decide) (by decide) (by decide) (by decide) (by decide) (by decide) (by decide) (by decide) (by decide) (by decide) (by decide) (by decide) (by decide) (by decide) (by decide)) (fun W => rsums_no 2 a x y s m F W (by decide) (by decide) (by decide) (by decide) (by decide) (by decide) (by decide) (by decide) (by decide) (by decide) (by decide) (by decide) (by decide)) (fun W => rcounts_2 a x y s m F W a0 a1 x0 x1 y0 y1 m0 m1))
  by_cases h32 : op = 32
  · subst h32
    exact law_does 32 a x y s _ _ _ _ _ _ _ _ w T (fun W _ => do_32 a x y s m F W m0 m1) (fun W => rdo_counts 32 a x y s _ m _ _ _ _ _ _ W (fun W => rmoves_no 32 a x y s m F W (by decide) (by decide) (by decide) (by decide) (by decide) (by decide) (by decide) (by decide) (by decide) (by decide) (by decide) (by decide) (by decide) (by decide) (by decide) (by decide) (by decide)) (fun W => rsums_no 32 a x y s m F W (by decide) (by decide) (by decide) (by decide) (by decide) (by decide) (by decide) (by decide) (by decide) (by decide) (by decide) (by decide) (by decide)) (fun W => rcounts_32 a x y s m F W a0 a1 x0 x1 y0 y1 m0 m1))
  by_cases h39 : op = 39
  · subst h39
    exact law_does 39 a x y s _ _ _ _ _ _ _ _ w T (fun W _ => do_39 a x y s m F W m0 m1) (fun W => rdo_counts 39 a x y s _ m _ _ _ _ _ _ W (fun W => rmoves_no 39 a x y s m F W (by decide) (by decide) (by decide) (by decide) (by decide) (by decide) (by decide) (by decide) (by decide) (by decide) (by decide) (by decide) (by decide) (by decide) (by decide) (by decide) (by decide)) (fun W => rsums_no 39 a x y s m F W (by decide) (by decide) (by decide) (by decide) (by decide) (by decide) (by decide) (by decide) (by decide) (by decide) (by decide) (by decide) (by decide)) (fun W => rcounts_39 a x y s m F W a0 a1 x0 x1 y0 y1 m0 m1))
  by_cases h40 : op = 40
  · subst h40
    exact law_does 40 a x y s _ _ _ _ _ _ _ _ w T (fun W _ => do_40 a x y s m F W m0 m1) (fun W => rdo_counts 40 a x y s _ m _ _ _ _ _ _ W (fun W => rmoves_no 40 a x y s m F W (by decide) (by decide) (by decide) (by decide) (by decide) (by decide) (by decide) (by decide) (by decide) (by decide) (by decide) (by decide) (by decide) (by decide) (by decide) (by decide) (by decide)) (fun W => rsums_no 40 a x y s m F W (by decide) (by decide) (by decide) (by decide) (by decide) (by decide) (by decide) (by decide) (by decide) (by decide) (by decide) (by decide) (by decide)) (fun W => rcounts_40 a x y s m F W a0 a1 x0 x1 y0 y1 m0 m1))
  by_cases h67 : op = 67
  · subst h67
    exact law_does 67 a x y s _ _ _ _ _ _ _ _ w T (fun W _ => do_67 a x y s m F W a0 a1 m0 m1) (fun W => rdo_counts 67 a x y s _ m _ _ _ _ _ _ W (fun W => rmoves_no 67 a x y s m F W (by decide) (by decide) (by decide) (by decide) (by decide) (by decide) (by decide) (by decide) (by decide) (by decide) (by decide) (by decide) (by decide) (by decide) (by decide) (by decide) (by decide)) (fun W => rsums_no 67 a x y s m F W (by decide) (by decide) (by decide) (by decide) (by decide) (by decide) (by decide) (by decide) (by decide) (by decide) (by decide) (by decide) (by decide)) (fun W => rcounts_67 a x y s m F W a0 a1 x0 x1 y0 y1 m0 m1))
  by_cases h63 : op = 63
  · subst h63
    exact law_does 63 a x y s _ _ _ _ _ _ _ _ w T (fun W _ => do_63 a x y s m F W a0 a1 m0 m1) (fun W => rdo_counts 63 a x y s _ m _ _ _ _ _ _ W (fun W => rmoves_no 63 a x y s m F W (by decide) (by decide) (by decide) (by decide) (by decide) (by decide) (by decide) (by decide) (by decide) (by decide) (by decide) (by decide) (by decide) (by decide) (by decide) (by decide) (by decide)) (fun W => rsums_no 63 a x y s m F W (by decide) (by decide) (by decide) (by decide) (by decide) (by decide) (by decide) (by decide) (by decide) (by decide) (by decide) (by decide) (by decide)) (fun W => rcounts_63 a x y s m F W a0 a1 x0 x1 y0 y1 m0 m1))
  by_cases h68 : op = 68
  · subst h68
    exact law_does 68 a x y s _ _ _ _ _ _ _ _ w T (fun W _ => do_68 a x y s m F W a0 a1 m0 m1) (fun W => rdo_counts 68 a x y s _ m _ _ _ _ _ _ W (fun W => rmoves_no 68 a x y s m F W (by decide) (by decide) (by decide) (by decide) (by decide) (by decide) (by decide) (by decide) (by decide) (by decide) (by decide) (by decide) (by decide) (by decide) (by decide) (by decide) (by decide)) (fun W => rsums_no 68 a x y s m F W (by decide) (by decide) (by decide) (by decide) (by decide) (by decide) (by decide) (by decide) (by decide) (by decide) (by decide) (by decide) (by decide)) (fun W => rcounts_68 a x y s m F W a0 a1 x0 x1 y0 y1 m0 m1))
  by_cases h64 : op = 64
  · subst h64
    exact law_does 64 a x y s _ _ _ _ _ _ _ _ w T (fun W _ => do_64 a x y s m F W a0 a1 m0 m1) (fun W => rdo_counts 64 a x y s _ m _ _ _ _ _ _ W (fun W => rmoves_no 64 a x y s m F W (by decide) (by decide) (by decide) (by decide) (by decide) (by decide) (by decide) (by decide) (by decide) (by decide) (by decide) (by decide) (by decide) (by decide) (by decide) (by decide) (by decide)) (fun W => rsums_no 64 a x y s m F W (by decide) (by decide) (by decide) (by decide) (by decide) (by decide) (by decide) (by decide) (by decide) (by decide) (by decide) (by decide) (by decide)) (fun W => rcounts_64 a x y s m F W a0 a1 x0 x1 y0 y1 m0 m1))
  by_cases h59 : op = 59
  · subst h59
    exact law_does 59 a x y s _ _ _ _ _ _ _ _ w T (fun W _ => do_59 a x y s m F W a0 a1 m0 m1) (fun W => rdo_counts 59 a x y s _ m _ _ _ _ _ _ W (fun W => rmoves_no 59 a x y s m F W (by decide) (by decide) (by decide) (by decide) (by decide) (by decide) (by decide) (by decide) (by decide) (by decide) (by decide) (by decide) (by decide) (by decide) (by decide) (by decide) (by decide)) (fun W => rsums_no 59 a x y s m F W (by decide) (by decide) (by decide) (by decide) (by decide) (by decide) (by decide) (by decide) (by decide) (by decide) (by decide) (by decide) (by decide)) (fun W => rcounts_59 a x y s m F W a0 a1 x0 x1 y0 y1 m0 m1))
  by_cases h60 : op = 60
  · subst h60
    exact law_does 60 a x y s _ _ _ _ _ _ _ _ w T (fun W _ => do_60 a x y s m F W a0 a1 m0 m1) (fun W => rdo_counts 60 a x y s _ m _ _ _ _ _ _ W (fun W => rmoves_no 60 a x y s m F W (by decide) (by decide) (by decide) (by decide) (by decide) (by decide) (by decide) (by decide) (by decide) (by decide) (by decide) (by decide) (by decide) (by decide) (by decide) (by decide) (by decide)) (fun W => rsums_no 60 a x y s m F W (by decide) (by decide) (by decide) (by decide) (by decide) (by decide) (by decide) (by decide) (by decide) (by decide) (by decide) (by decide) (by decide)) (fun W => rcounts_60 a x y s m F W a0 a1 x0 x1 y0 y1 m0 m1))
  by_cases h17 : op = 17
  · subst h17
    exact law_does 17 a x y s _ _ _ _ _ _ _ _ w T (fun W _ => do_17 a x y s m F W) (fun W => rdo_sums 17 a x y s _ m _ _ _ _ _ _ W (fun W => rmoves_no 17 a x y s m F W (by decide) (by decide) (by decide) (by decide) (by decide) (by decide) (by decide) (by decide) (by decide) (by decide) (by decide) (by decide) (by decide) (by decide) (by decide) (by decide) (by decide)) (fun W => rsums_17 a x y s m F W a0 a1 x0 x1 y0 y1 m0 m1))
  by_cases h18 : op = 18
  · subst h18
    exact law_does 18 a x y s _ _ _ _ _ _ _ _ w T (fun W _ => do_18 a x y s m F W) (fun W => rdo_sums 18 a x y s _ m _ _ _ _ _ _ W (fun W => rmoves_no 18 a x y s m F W (by decide) (by decide) (by decide) (by decide) (by decide) (by decide) (by decide) (by decide) (by decide) (by decide) (by decide) (by decide) (by decide) (by decide) (by decide) (by decide) (by decide)) (fun W => rsums_18 a x y s m F W a0 a1 x0 x1 y0 y1 m0 m1))
  by_cases h19 : op = 19
  · subst h19
    exact law_does 19 a x y s _ _ _ _ _ _ _ _ w T (fun W _ => do_19 a x y s m F W) (fun W => rdo_sums 19 a x y s _ m _ _ _ _ _ _ W (fun W => rmoves_no 19 a x y s m F W (by decide) (by decide) (by decide) (by decide) (by decide) (by decide) (by decide) (by decide) (by decide) (by decide) (by decide) (by decide) (by decide) (by decide) (by decide) (by decide) (by decide)) (fun W => rsums_19 a x y s m F W a0 a1 x0 x1 y0 y1 m0 m1))
  by_cases h6 : op = 6
  · subst h6
    exact law_does 6 a x y s _ _ _ _ _ _ _ _ w T (fun W _ => do_6 a x y s m F W) (fun W => rdo_sums 6 a x y s _ m _ _ _ _ _ _ W (fun W => rmoves_no 6 a x y s m F W (by decide) (by decide) (by decide) (by decide) (by decide) (by decide) (by decide) (by decide) (by decide) (by decide) (by decide) (by decide) (by decide) (by decide) (by decide) (by decide) (by decide)) (fun W => by have h := rsums_6 a x y s m F W a0 a1 x0 x1 y0 y1 m0 m1; rw [bit_eq m _ F m0 m1] at h; exact h))
  by_cases h57 : op = 57
  · subst h57
    exact law_does 57 a x y s _ _ _ _ _ _ _ _ w T (fun W _ => do_57 a x y s m F W) (fun W => rdo_sums 57 a x y s _ m _ _ _ _ _ _ W (fun W => rmoves_no 57 a x y s m F W (by decide) (by decide) (by decide) (by decide) (by decide) (by decide) (by decide) (by decide) (by decide) (by decide) (by decide) (by decide) (by decide) (by decide) (by decide) (by decide) (by decide)) (fun W => rsums_57 a x y s m F W a0 a1 x0 x1 y0 y1 m0 m1))
  by_cases h56 : op = 56
  · subst h56
    exact law_does 56 a x y s _ _ _ _ _ _ _ _ w T (fun W _ => do_56 a x y s m F W a0 a1 m0 m1) (fun W => rdo_sums 56 a x y s _ m _ _ _ _ _ _ W (fun W => rmoves_no 56 a x y s m F W (by decide) (by decide) (by decide) (by decide) (by decide) (by decide) (by decide) (by decide) (by decide) (by decide) (by decide) (by decide) (by decide) (by decide) (by decide) (by decide) (by decide)) (fun W => by have h := rsums_56 a x y s m F W a0 a1 x0 x1 y0 y1 m0 m1; rw [alr_eq, show shV 32 (bits .and .u8 a m) (nzF (bits .and .u8 a m) F).c = shV 32 (bits .and .u8 a m) F.c from rfl] at h; exact h))
  by_cases h66 : op = 66
  · subst h66
    exact law_does 66 a x y s _ _ _ _ _ _ _ _ w T (fun W _ => do_66 a x y s m F W) (fun W => rdo_sums 66 a x y s _ m _ _ _ _ _ _ W (fun W => rmoves_no 66 a x y s m F W (by decide) (by decide) (by decide) (by decide) (by decide) (by decide) (by decide) (by decide) (by decide) (by decide) (by decide) (by decide) (by decide) (by decide) (by decide) (by decide) (by decide)) (fun W => rsums_66 a x y s m F W a0 a1 x0 x1 y0 y1 m0 m1))
  by_cases h13 : op = 13
  · subst h13
    exact law_does 13 a x y s _ _ _ _ _ _ _ _ w T (fun W TW => do_13 a x y s m F W TW) (fun W => rdo_flags 13 a x y s _ m _ _ _ _ _ _ W (fun W => rmoves_no 13 a x y s m F W (by decide) (by decide) (by decide) (by decide) (by decide) (by decide) (by decide) (by decide) (by decide) (by decide) (by decide) (by decide) (by decide) (by decide) (by decide) (by decide) (by decide)) (fun W => rsums_no 13 a x y s m F W (by decide) (by decide) (by decide) (by decide) (by decide) (by decide) (by decide) (by decide) (by decide) (by decide) (by decide) (by decide) (by decide)) (fun W => rcounts_no 13 a x y s m F W (by decide) (by decide) (by decide) (by decide) (by decide) (by decide) (by decide) (by decide) (by decide) (by decide) (by decide) (by decide) (by decide) (by decide) (by decide) (by decide)) (fun W => rflags_13 a x y s m F W))
  by_cases h14 : op = 14
  · subst h14
    exact law_does 14 a x y s _ _ _ _ _ _ _ _ w T (fun W TW => do_14 a x y s m F W TW) (fun W => rdo_flags 14 a x y s _ m _ _ _ _ _ _ W (fun W => rmoves_no 14 a x y s m F W (by decide) (by decide) (by decide) (by decide) (by decide) (by decide) (by decide) (by decide) (by decide) (by decide) (by decide) (by decide) (by decide) (by decide) (by decide) (by decide) (by decide)) (fun W => rsums_no 14 a x y s m F W (by decide) (by decide) (by decide) (by decide) (by decide) (by decide) (by decide) (by decide) (by decide) (by decide) (by decide) (by decide) (by decide)) (fun W => rcounts_no 14 a x y s m F W (by decide) (by decide) (by decide) (by decide) (by decide) (by decide) (by decide) (by decide) (by decide) (by decide) (by decide) (by decide) (by decide) (by decide) (by decide) (by decide)) (fun W => rflags_14 a x y s m F W))
  by_cases h15 : op = 15
  · subst h15
    exact law_does 15 a x y s _ _ _ _ _ _ _ _ w T (fun W TW => do_15 a x y s m F W TW) (fun W => rdo_flags 15 a x y s _ m _ _ _ _ _ _ W (fun W => rmoves_no 15 a x y s m F W (by decide) (by decide) (by decide) (by decide) (by decide) (by decide) (by decide) (by decide) (by decide) (by decide) (by decide) (by decide) (by decide) (by decide) (by decide) (by decide) (by decide)) (fun W => rsums_no 15 a x y s m F W (by decide) (by decide) (by decide) (by decide) (by decide) (by decide) (by decide) (by decide) (by decide) (by decide) (by decide) (by decide) (by decide)) (fun W => rcounts_no 15 a x y s m F W (by decide) (by decide) (by decide) (by decide) (by decide) (by decide) (by decide) (by decide) (by decide) (by decide) (by decide) (by decide) (by decide) (by decide) (by decide) (by decide)) (fun W => rflags_15 a x y s m F W))
  by_cases h16 : op = 16
  · subst h16
    exact law_does 16 a x y s _ _ _ _ _ _ _ _ w T (fun W TW => do_16 a x y s m F W TW) (fun W => rdo_flags 16 a x y s _ m _ _ _ _ _ _ W (fun W => rmoves_no 16 a x y s m F W (by decide) (by decide) (by decide) (by decide) (by decide) (by decide) (by decide) (by decide) (by decide) (by decide) (by decide) (by decide) (by decide) (by decide) (by decide) (by decide) (by decide)) (fun W => rsums_no 16 a x y s m F W (by decide) (by decide) (by decide) (by decide) (by decide) (by decide) (by decide) (by decide) (by decide) (by decide) (by decide) (by decide) (by decide)) (fun W => rcounts_no 16 a x y s m F W (by decide) (by decide) (by decide) (by decide) (by decide) (by decide) (by decide) (by decide) (by decide) (by decide) (by decide) (by decide) (by decide) (by decide) (by decide) (by decide)) (fun W => rflags_16 a x y s m F W))
  by_cases h44 : op = 44
  · subst h44
    exact law_does 44 a x y s _ _ _ _ _ _ _ _ w T (fun W TW => do_44 a x y s m F W TW) (fun W => rdo_flags 44 a x y s _ m _ _ _ _ _ _ W (fun W => rmoves_no 44 a x y s m F W (by decide) (by decide) (by decide) (by decide) (by decide) (by decide) (by decide) (by decide) (by decide) (by decide) (by decide) (by decide) (by decide) (by decide) (by decide) (by decide) (by decide)) (fun W => rsums_no 44 a x y s m F W (by decide) (by decide) (by decide) (by decide) (by decide) (by decide) (by decide) (by decide) (by decide) (by decide) (by decide) (by decide) (by decide)) (fun W => rcounts_no 44 a x y s m F W (by decide) (by decide) (by decide) (by decide) (by decide) (by decide) (by decide) (by decide) (by decide) (by decide) (by decide) (by decide) (by decide) (by decide) (by decide) (by decide)) (fun W => rflags_44 a x y s m F W))
  by_cases h45 : op = 45
  · subst h45
    exact law_does 45 a x y s _ _ _ _ _ _ _ _ w T (fun W TW => do_45 a x y s m F W TW) (fun W => rdo_flags 45 a x y s _ m _ _ _ _ _ _ W (fun W => rmoves_no 45 a x y s m F W (by decide) (by decide) (by decide) (by decide) (by decide) (by decide) (by decide) (by decide) (by decide) (by decide) (by decide) (by decide) (by decide) (by decide) (by decide) (by decide) (by decide)) (fun W => rsums_no 45 a x y s m F W (by decide) (by decide) (by decide) (by decide) (by decide) (by decide) (by decide) (by decide) (by decide) (by decide) (by decide) (by decide) (by decide)) (fun W => rcounts_no 45 a x y s m F W (by decide) (by decide) (by decide) (by decide) (by decide) (by decide) (by decide) (by decide) (by decide) (by decide) (by decide) (by decide) (by decide) (by decide) (by decide) (by decide)) (fun W => rflags_45 a x y s m F W))
  by_cases h46 : op = 46
  · subst h46
    exact law_does 46 a x y s _ _ _ _ _ _ _ _ w T (fun W TW => do_46 a x y s m F W TW) (fun W => rdo_flags 46 a x y s _ m _ _ _ _ _ _ W (fun W => rmoves_no 46 a x y s m F W (by decide) (by decide) (by decide) (by decide) (by decide) (by decide) (by decide) (by decide) (by decide) (by decide) (by decide) (by decide) (by decide) (by decide) (by decide) (by decide) (by decide)) (fun W => rsums_no 46 a x y s m F W (by decide) (by decide) (by decide) (by decide) (by decide) (by decide) (by decide) (by decide) (by decide) (by decide) (by decide) (by decide) (by decide)) (fun W => rcounts_no 46 a x y s m F W (by decide) (by decide) (by decide) (by decide) (by decide) (by decide) (by decide) (by decide) (by decide) (by decide) (by decide) (by decide) (by decide) (by decide) (by decide) (by decide)) (fun W => rflags_46 a x y s m F W))
  by_cases h36 : op = 36
  · subst h36
    exact law_does 36 a x y s _ _ _ _ _ _ _ _ w T (fun W _ => do_36 a x y s m F W) (fun W => rdo_flags 36 a x y s _ m _ _ _ _ _ _ W (fun W => rmoves_no 36 a x y s m F W (by decide) (by decide) (by decide) (by decide) (by decide) (by decide) (by decide) (by decide) (by decide) (by decide) (by decide) (by decide) (by decide) (by decide) (by decide) (by decide) (by decide)) (fun W => rsums_no 36 a x y s m F W (by decide) (by decide) (by decide) (by decide) (by decide) (by decide) (by decide) (by decide) (by decide) (by decide) (by decide) (by decide) (by decide)) (fun W => rcounts_no 36 a x y s m F W (by decide) (by decide) (by decide) (by decide) (by decide) (by decide) (by decide) (by decide) (by decide) (by decide) (by decide) (by decide) (by decide) (by decide) (by decide) (by decide)) (fun W => rflags_36 a x y s m F W))
  by_cases h38 : op = 38
  · subst h38
    obtain ⟨M, rfl⟩ := Fl.ofInt m m0 m1
    exact law_does 38 a x y s _ _ _ _ _ _ _ _ w T (fun W _ => do_38 a x y s F M W) (fun W => rdo_flags 38 a x y s _ _ _ _ _ _ _ _ W (fun W => rmoves_no 38 a x y s (M.val : Nat) F W (by decide) (by decide) (by decide) (by decide) (by decide) (by decide) (by decide) (by decide) (by decide) (by decide) (by decide) (by decide) (by decide) (by decide) (by decide) (by decide) (by decide)) (fun W => rsums_no 38 a x y s (M.val : Nat) F W (by decide) (by decide) (by decide) (by decide) (by decide) (by decide) (by decide) (by decide) (by decide) (by decide) (by decide) (by decide) (by decide)) (fun W => rcounts_no 38 a x y s (M.val : Nat) F W (by decide) (by decide) (by decide) (by decide) (by decide) (by decide) (by decide) (by decide) (by decide) (by decide) (by decide) (by decide) (by decide) (by decide) (by decide) (by decide)) (fun W => rflags_38 a x y s F M W))
  by_cases h41 : op = 41
  · subst h41
    obtain ⟨M, rfl⟩ := Fl.ofInt m m0 m1
    exact law_does 41 a x y s _ _ _ _ _ _ _ _ w T (fun W _ => do_41 a x y s F M W) (fun W => rdo_flags 41 a x y s _ _ _ _ _ _ _ _ W (fun W => rmoves_no 41 a x y s (M.val : Nat) F W (by decide) (by decide) (by decide) (by decide) (by decide) (by decide) (by decide) (by decide) (by decide) (by decide) (by decide) (by decide) (by decide) (by decide) (by decide) (by decide) (by decide)) (fun W => rsums_no 41 a x y s (M.val : Nat) F W (by decide) (by decide) (by decide) (by decide) (by decide) (by decide) (by decide) (by decide) (by decide) (by decide) (by decide) (by decide) (by decide)) (fun W => rcounts_no 41 a x y s (M.val : Nat) F W (by decide) (by decide) (by decide) (by decide) (by decide) (by decide) (by decide) (by decide) (by decide) (by decide) (by decide) (by decide) (by decide) (by decide) (by decide) (by decide)) (fun W => rflags_41 a x y s F M W))
  by_cases h10 : op = 10
  · subst h10
    exact law_does 10 a x y s _ _ _ _ _ _ _ _ w T (fun W _ => do_10 a x y s m F W) (fun W => rdo_flags 10 a x y s _ m _ _ _ _ _ _ W (fun W => rmoves_no 10 a x y s m F W (by decide) (by decide) (by decide) (by decide) (by decide) (by decide) (by decide) (by decide) (by decide) (by decide) (by decide) (by decide) (by decide) (by decide) (by decide) (by decide) (by decide)) (fun W => rsums_no 10 a x y s m F W (by decide) (by decide) (by decide) (by decide) (by decide) (by decide) (by decide) (by decide) (by decide) (by decide) (by decide) (by decide) (by decide)) (fun W => rcounts_no 10 a x y s m F W (by decide) (by decide) (by decide) (by decide) (by decide) (by decide) (by decide) (by decide) (by decide) (by decide) (by decide) (by decide) (by decide) (by decide) (by decide) (by decide)) (fun W => rflags_10 a x y s m F W))
  exact law_does op a x y s _ m _ _ _ _ _ _ w T (fun W _ => do_other op a x y s m F W (beq_eq_false_iff_ne.2 h29) (beq_eq_false_iff_ne.2 h37) (beq_eq_false_iff_ne.2 h30) (beq_eq_false_iff_ne.2 h31) (beq_eq_false_iff_ne.2 h62) (beq_eq_false_iff_ne.2 h61) (beq_eq_false_iff_ne.2 h50) (beq_eq_false_iff_ne.2 h51) (beq_eq_false_iff_ne.2 h53) (beq_eq_false_iff_ne.2 h55) (beq_eq_false_iff_ne.2 h52) (beq_eq_false_iff_ne.2 h54) (beq_eq_false_iff_ne.2 h47) (beq_eq_false_iff_ne.2 h35) (beq_eq_false_iff_ne.2 h48) (beq_eq_false_iff_ne.2 h49) (beq_eq_false_iff_ne.2 h65) (beq_eq_false_iff_ne.2 h24) (beq_eq_false_iff_ne.2 h25) (beq_eq_false_iff_ne.2 h26) (beq_eq_false_iff_ne.2 h20) (beq_eq_false_iff_ne.2 h21) (beq_eq_false_iff_ne.2 h22) (beq_eq_false_iff_ne.2 h1) (beq_eq_false_iff_ne.2 h34) (beq_eq_false_iff_ne.2 h23) (beq_eq_false_iff_ne.2 h0) (beq_eq_false_iff_ne.2 h43) (beq_eq_false_iff_ne.2 h58) (beq_eq_false_iff_ne.2 h2) (beq_eq_false_iff_ne.2 h32) (beq_eq_false_iff_ne.2 h39) (beq_eq_false_iff_ne.2 h40) (beq_eq_false_iff_ne.2 h67) (beq_eq_false_iff_ne.2 h63) (beq_eq_false_iff_ne.2 h68) (beq_eq_false_iff_ne.2 h64) (beq_eq_false_iff_ne.2 h59) (beq_eq_false_iff_ne.2 h60) (beq_eq_false_iff_ne.2 h17) (beq_eq_false_iff_ne.2 h18) (beq_eq_false_iff_ne.2 h19) (beq_eq_false_iff_ne.2 h6) (beq_eq_false_iff_ne.2 h57) (beq_eq_false_iff_ne.2 h56) (beq_eq_false_iff_ne.2 h66) (beq_eq_false_iff_ne.2 h13) (beq_eq_false_iff_ne.2 h14) (beq_eq_false_iff_ne.2 h15) (beq_eq_false_iff_ne.2 h16) (beq_eq_false_iff_ne.2 h44) (beq_eq_false_iff_ne.2 h45) (beq_eq_false_iff_ne.2 h46) (beq_eq_false_iff_ne.2 h36) (beq_eq_false_iff_ne.2 h38) (beq_eq_false_iff_ne.2 h41) (beq_eq_false_iff_ne.2 h10)) (fun W => rdo_flags op a x y s _ m _ _ _ _ _ _ W (fun W => rmoves_no op a x y s m F W (beq_eq_false_iff_ne.2 h29) (beq_eq_false_iff_ne.2 h37) (beq_eq_false_iff_ne.2 h30) (beq_eq_false_iff_ne.2 h31) (beq_eq_false_iff_ne.2 h62) (beq_eq_false_iff_ne.2 h61) (beq_eq_false_iff_ne.2 h47) (beq_eq_false_iff_ne.2 h35) (beq_eq_false_iff_ne.2 h48) (beq_eq_false_iff_ne.2 h49) (beq_eq_false_iff_ne.2 h65) (beq_eq_false_iff_ne.2 h50) (beq_eq_false_iff_ne.2 h51) (beq_eq_false_iff_ne.2 h53) (beq_eq_false_iff_ne.2 h55) (beq_eq_false_iff_ne.2 h52) (beq_eq_false_iff_ne.2 h54)) (fun W => rsums_no op a x y s m F W (beq_eq_false_iff_ne.2 h1) (beq_eq_false_iff_ne.2 h57) (beq_eq_false_iff_ne.2 h56) (beq_eq_false_iff_ne.2 h34) (beq_eq_false_iff_ne.2 h23) (beq_eq_false_iff_ne.2 h6) (beq_eq_false_iff_ne.2 h0) (beq_eq_false_iff_ne.2 h43) (beq_eq_false_iff_ne.2 h58) (beq_eq_false_iff_ne.2 h17) (beq_eq_false_iff_ne.2 h18) (beq_eq_false_iff_ne.2 h19) (beq_eq_false_iff_ne.2 h66)) (fun W => rcounts_no op a x y s m F W (beq_eq_false_iff_ne.2 h24) (beq_eq_false_iff_ne.2 h60) (beq_eq_false_iff_ne.2 h20) (beq_eq_false_iff_ne.2 h59) (beq_eq_false_iff_ne.2 h2) (beq_eq_false_iff_ne.2 h67) (beq_eq_false_iff_ne.2 h39) (beq_eq_false_iff_ne.2 h63) (beq_eq_false_iff_ne.2 h32) (beq_eq_false_iff_ne.2 h68) (beq_eq_false_iff_ne.2 h40) (beq_eq_false_iff_ne.2 h64) (beq_eq_false_iff_ne.2 h25) (beq_eq_false_iff_ne.2 h21) (beq_eq_false_iff_ne.2 h26) (beq_eq_false_iff_ne.2 h22)) (fun W => rflags_no op a x y s m F W (beq_eq_false_iff_ne.2 h13) (beq_eq_false_iff_ne.2 h44) (beq_eq_false_iff_ne.2 h14) (beq_eq_false_iff_ne.2 h45) (beq_eq_false_iff_ne.2 h15) (beq_eq_false_iff_ne.2 h46) (beq_eq_false_iff_ne.2 h16) (beq_eq_false_iff_ne.2 h36) (beq_eq_false_iff_ne.2 h10) (beq_eq_false_iff_ne.2 h38) (beq_eq_false_iff_ne.2 h41)))
end Go.Proofs.YthdmkmbgncbmgaaDoor
