/-
  The law RewindOwn returns true.
-/
import Derived.Test.YtlckjbangdnejaaDoorXtOw1
set_option linter.unusedSimpArgs false
set_option linter.unusedVariables false
namespace Go.Proofs.YtlckjbangdnejaaDoor
open Go.RowKit Classical
set_option maxRecDepth 100000 in
set_option maxHeartbeats 16000000 in
theorem own_all (F T : List Nat) (nf nt : Nat) (hF : Bytes F) (hT : Bytes T) (hnf : F.length = nf) (hnt : T.length = nt) (mf : nf ≤ 140737488351232) (mt : nt ≤ 140737488351232) (a b : Option Addr) (ka kb : Nat) (w : World) (RF : Row w a F) (RT : Row w b T) (tab : Tab w) :
    Calls Tryd.prog 6 #[.slice a nf ka, .slice b nt kb] w fun e w' => e = .returned (.bool true) ∧ Below w.heap.size w w' := by
  by_cases hs : nf ≤ 65536 ∧ nt ≤ 65536
  · exact own_law F T nf nt ⟨hF, by rw [hnf]; exact hs.1⟩ ⟨hT, by rw [hnt]; exact hs.2⟩ hnf hnt a b ka kb w RF RT tab
  · have HTH : Hid (Calls Tryd.prog 18 #[.slice a nf ka, .slice b nt kb] w fun e w' => e = .returned (.bool true) ∧ Below w.heap.size w w') := there_law F T nf nt hF hT hnf hnt mf mt a b ka kb w RF RT tab
    clear hF hT hnf hnt RF RT tab
    by_cases h1 : 65536 < nf
    · have i1 : (65536 : Int) < (nf : Int) := by omega
      clear hs
      go_enter Tryd.func6, Tryd.ntmps6
      go_wp2_with fail
      refine HTH.out.mono ?_
      rintro e w1 ⟨rfl, b1⟩
      have HB1 : Hid (Below w.heap.size w w1) := b1
      clear b1
      go_wp2
      go_ret
      exact ⟨rfl, HB1.out⟩
    · have i1 : ¬ (65536 : Int) < (nf : Int) := by omega
      have i2 : (65536 : Int) < (nt : Int) := by omega
      clear hs
      go_enter Tryd.func6, Tryd.ntmps6
      go_wp2_with fail
      refine HTH.out.mono ?_
      rintro e w1 ⟨rfl, b1⟩
      have HB1 : Hid (Below w.heap.size w w1) := b1
      clear b1
      go_wp2
      go_ret
      exact ⟨rfl, HB1.out⟩
end Go.Proofs.YtlckjbangdnejaaDoor
