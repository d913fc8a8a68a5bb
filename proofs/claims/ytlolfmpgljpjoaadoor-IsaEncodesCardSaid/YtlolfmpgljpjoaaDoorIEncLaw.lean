/-
  The law IsaEncodes by what both Encode answer.
-/
import Derived.Test.YtlolfmpgljpjoaaDoorIEnc
import Derived.Test.YtlolfmpgljpjoaaDoorIRef7
set_option linter.unusedSimpArgs false
set_option linter.unusedVariables false
namespace Go.Proofs.YtlolfmpgljpjoaaDoor
open Go.RowKit
theorem law_isaEncodes (op mode : Int) (w : World) (T : NTab w ∧ LTab w) :
    Calls Tryd.prog 4 #[.int .i64 op, .int .i64 mode] w fun e w' => e = .returned (.bool true) ∧ Below w.heap.size w w' := by
  have c1 := Hid.mk1 (encode_any op mode w T.1)
  have c2 := Hid.mk1 (fun W (hW : Below w.heap.size w W) => rencode_any op mode W (T.2.below hW))
  generalize encS op mode = p at *
  obtain ⟨p1, p2⟩ := p
  go_enter Tryd.func4, Tryd.ntmps4
  go_wp2_with (first
    | (go_at_call 7; go_must (refine c1.out.mono ?_; rintro e w1 ⟨rfl, hb1⟩))
    | (go_at_call 8; go_must (refine (c2.out _ hb1).mono ?_; rintro e w2 ⟨rfl, hb2⟩)))
  go_ret
  exact ⟨rfl, hb1.trans (hb2.mono hb1.size)⟩
end Go.Proofs.YtlolfmpgljpjoaaDoor
