/-
  The law RasterExact returns true; conditions: the numbers fit their kinds.
-/
import Derived.Test.YtlnpcbofebppcabQLawEnf
import Derived.Test.YtlnpcbofebppcabQLawEnt
import Derived.Test.YtlnpcbofebppcabQLawEff
import Derived.Test.YtlnpcbofebppcabQLawEft
import Derived.Test.YtlnpcbofebppcabQLawEtf
import Derived.Test.YtlnpcbofebppcabQLawEtt
set_option linter.unusedSimpArgs false
set_option linter.unusedVariables false
namespace Go.Proofs.Ytlnpcbofebppcab
open Go.RowKit Classical
theorem law_rasterExact (r : Rs) (k : Int) (w : World) (o : r.Ok) (k0 : -9223372036854775808 ≤ k) (k1 : k ≤ 9223372036854775807) :
    Calls Try.prog 6 #[.agg r.cells, .int .i64 k] w fun e w' => e = .returned (.bool true) ∧ Below w.heap.size w w' := by
  cases hn : r.nr.nmi <;> cases hd : r.nr.draw
  · exact exact_nf r k w o k0 k1 hn hd
  · exact exact_nt r k w o k0 k1 hn hd
  · cases hv : r.nr.vbl
    · exact exact_ff r k w o k0 k1 hn hd hv
    · exact exact_tf r k w o k0 k1 hn hd hv
  · cases hv : r.nr.vbl
    · exact exact_ft r k w o k0 k1 hn hd hv
    · exact exact_tt r k w o k0 k1 hn hd hv
end Go.Proofs.Ytlnpcbofebppcab
