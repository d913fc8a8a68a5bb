/-
  The contract of told on an Alu handed in by value.
-/
import Derived.Test.YtgnhaicogdnebaaDoorACmp
import Derived.Deep.RegionWith
namespace Go.Proofs.YtgnhaicogdnebaaDoor
open Go.RowKit
theorem bcell {W w1 : World} (hb : Below W.heap.size W w1) : (∀ b o, b < W.heap.size → w1.cell? ⟨b, o, none⟩ = W.cell? ⟨b, o, none⟩) ∧ (∀ b o, b < W.heap.size → w1.frozen? ⟨b, o, none⟩ = W.frozen? ⟨b, o, none⟩) :=
  ⟨fun b o h => hb.cell (p := ⟨b, o, none⟩) h, fun b o h => hb.frozen (p := ⟨b, o, none⟩) h⟩
theorem told_any (a x y s m v : Int) (F : Fl) (w : World) :
    Calls Tryd.prog 41 #[.agg #[.int .u8 a, .int .u8 x, .int .u8 y, .int .u8 s, .int .u8 (F.val : Nat), .int .u8 m], .int .u8 v] w fun e w' =>
      e = .returned (.agg #[.int .u8 a, .int .u8 x, .int .u8 y, .int .u8 s, .int .u8 ((nzF v F).val : Nat), .int .u8 m]) ∧ Below w.heap.size w w' := by
  go_enter Tryd.func41, Tryd.ntmps41
  go_wp2_with (go_at_call 38; refine (nz_any _ _ _).mono ?_; rintro e w' ⟨rfl, rfl⟩)
  exact bodyPost_ret (v := .agg #[.int .u8 a, .int .u8 x, .int .u8 y, .int .u8 s, .int .u8 ((nzF v F).val : Nat), .int .u8 m]) (by simp [results, Tryd.results41, go_sem]) rfl ⟨rfl, ((Below.refl _ _).alloc (Nat.le_refl _) _).alloc (by simp) _⟩
end Go.Proofs.YtgnhaicogdnebaaDoor
