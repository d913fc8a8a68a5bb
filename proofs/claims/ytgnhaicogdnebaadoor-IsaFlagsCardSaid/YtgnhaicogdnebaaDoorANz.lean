/-
  The contracts of put, Nz, leaves; conditions: bytes are from 0 to 255.
-/
import Derived.Test.YtgnhaicogdnebaaDoorAFl
import Derived.Test.YtgnhaicogdnebaaDoorRows
namespace Go.Proofs.YtgnhaicogdnebaaDoor
open Go.RowKit
theorem put_any (p f : Nat) (on : Bool) (w : World) (hp : p < 256) (hf : f < 256) :
    Calls Tryd.prog 39 #[.int .u8 p, .int .u8 f, .bool on] w fun e w' => e = .returned (.int .u8 (putN p f on : Nat)) ∧ w' = w := by
  have h1 := bits_or p f hp hf
  have h2 := bits_andNot p f hp hf
  cases on
  all_goals
    go_enter Tryd.func39, Tryd.ntmps39
    go_wp2
    go_ret
    exact ⟨rfl, rfl⟩
theorem putF_any (F : Fl) (f : Int) (on : Bool) (w : World) (hf : f ∈ [(1 : Int), 2, 4, 8, 16, 32, 64, 128]) :
    Calls Tryd.prog 39 #[.int .u8 (F.val : Nat), .int .u8 f, .bool on] w fun e w' => e = .returned (.int .u8 ((F.put f on).val : Nat)) ∧ w' = w := by
  rw [← F.put_val f on hf]
  have hf' : 0 ≤ f ∧ f.toNat < 256 := by
    simp only [List.mem_cons, List.not_mem_nil, or_false] at hf
    omega
  have e : f = ((f.toNat : Nat) : Int) := by omega
  have h := put_any F.val f.toNat on w F.lt hf'.2
  rw [← e] at h
  exact h
theorem nz_any (r : Int) (F : Fl) (w : World) :
    Calls Tryd.prog 38 #[.int .u8 r, .int .u8 (F.val : Nat)] w fun e w' => e = .returned (.int .u8 ((nzF r F).val : Nat)) ∧ w' = w := by
  go_enter Tryd.func38, Tryd.ntmps38
  go_wp2_with (go_at_call 39; refine (putF_any _ _ _ _ (by decide)).mono ?_; rintro e w' ⟨rfl, rfl⟩)
  go_ret
  exact ⟨rfl, rfl⟩
end Go.Proofs.YtgnhaicogdnebaaDoor
