/-
  The contract of advanceSequencer; conditions: the numbers fit their kinds.
-/
import Derived.Test.YtobiiogoofkmaaaDoorTASw
set_option linter.unusedSimpArgs false
set_option linter.unusedVariables false
namespace Go.Proofs.YtobiiogoofkmaaaDoor
open Go.RowKit Classical
theorem advS_any (c : Ck) (n : Int) (w0 w : World) (b : Nat) (o : c.Ok) (T : Tabs w0) (A : At w0 w b c) (n0 : 1 ≤ n) (n1 : n ≤ 9223372036854775807) :
    Calls Tryd.prog 24 #[.pointer (some ⟨b, 0, none⟩), .int .i64 n] w fun e w' => e = .returned (.tuple #[]) ∧ At w0 w' b (c.advS n) := by
  have w0' := o.wait.1
  by_cases hw : c.wait = 0
  · cases hk : c.asks
    · exact advS_0n c n n0 n1 w0 w b o T A hw hk
    · by_cases hq : c.toF ≤ n
      · exact advS_0y c n n0 n1 w0 w b o T A hw hk hq
      · exact advS_0q c n n0 n1 w0 w b o T A hw hk hq
  by_cases hl : n < c.wait
  · cases hk : c.asks
    · exact advS_ln c n n0 n1 w0 w b o T A hl hk
    · by_cases hq : c.toF ≤ n
      · exact advS_ly c n n0 n1 w0 w b o T A hl hk hq
      · exact advS_lq c n n0 n1 w0 w b o T A hl hk hq
  by_cases he : n = c.wait
  · subst he
    cases hk : c.asks
    · exact advS_en c w0 w b o T A (by omega) hk
    · by_cases hq : c.toF ≤ c.wait
      · exact advS_ey c w0 w b o T A (by omega) hk hq
      · exact advS_eq c w0 w b o T A (by omega) hk hq
  · cases hk : c.asks
    · exact advS_gn c n n0 n1 w0 w b o T A (by omega) (by omega) hk
    · by_cases hq : c.toF ≤ n
      · exact advS_gy c n n0 n1 w0 w b o T A (by omega) (by omega) hk hq
      · exact advS_gq c n n0 n1 w0 w b o T A (by omega) (by omega) hk hq
end Go.Proofs.YtobiiogoofkmaaaDoor
