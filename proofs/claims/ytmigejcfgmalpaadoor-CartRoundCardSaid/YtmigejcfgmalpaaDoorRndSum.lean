/-
  What the program's Sum answers: the check sum of PRG and CHR, one behind the other; conditions: both lists' bytes lie in their slices, the table in its variable.
-/
import Derived.Test.YtmigejcfgmalpaaDoorCartsW
import Derived.Test.YtmigejcfgmalpaaDoorCrcs
import Derived.Deep.DeepCutAuto
set_option linter.unusedSimpArgs false
set_option linter.unusedVariables false
namespace Go.Proofs.YtmigejcfgmalpaaDoor
open Go.RowKit Classical
theorem feed_n (r : Nat) (hr : r < 4294967296) (n : Nat) (l : List Nat) (hn : l.length = n) (hl : Bytes l) (hlen : n ≤ 140737488351232) (a : Option Addr) (cap : Nat) (w0 w : World) (hb : Below w0.heap.size w0 w) (hrow : Row w0 a l) (tab : Tab w0) :
    Calls Tryd.prog 36 #[.int .u32 r, .slice a n cap] w fun e w' => e = .returned (.int .u32 (CrcM.feed r l : Nat)) ∧ w' = w := by
  subst hn; exact feed_any r hr l hl hlen a cap w (hrow.below hb) (tab.below tab.lt hb)
theorem crc_two (P Q : List Nat) : CrcM.feed (CrcM.feed 4294967295 P) Q ^^^ 4294967295 = crc (P ++ Q) := by rw [← CrcM.feed_append]; rfl

set_option maxHeartbeats 800000 in
theorem sum_any (cs : Array Value) (_hsz : cs.size = 19) (P Q : List Nat) (ap aq : Option Addr) (np nq kp kq : Nat) (w : World)
    (hp : P.length = np) (hq : Q.length = nq) (bp : Bytes P) (bq : Bytes Q) (lp : np ≤ 140737488351232) (lq : nq ≤ 140737488351232)
    (h16 : cs[16]? = some (.slice ap np kp)) (h17 : cs[17]? = some (.slice aq nq kq)) (rp : Row w ap P) (rq : Row w aq Q) (tab : Tab w) :
    Calls Tryd.prog 19 #[.agg cs] w fun e w' => e = .returned (.int .u32 (crc (P ++ Q) : Nat)) ∧ Below w.heap.size w w' := by
  have HL : Hid (P.length = np ∧ Q.length = nq) := ⟨hp, hq⟩
  have hx := CrcM.feed_lt P bp 4294967295 (by decide)
  have H : Hid (bits .xor .u32 4294967295 ((CrcM.feed (CrcM.feed 4294967295 P) Q : Nat) : Int) = (crc (P ++ Q) : Nat)) := by
    have := u32_xor_nat 4294967295 (CrcM.feed (CrcM.feed 4294967295 P) Q) (by decide) (CrcM.feed_lt Q bq _ hx)
    rw [Nat.xor_comm, crc_two] at this
    exact this
  clear hp hq
  go_enter Tryd.func19, Tryd.ntmps19
  go_wp2
  have hb0 : Below w.heap.size w (w.alloc (.cells cs 24)) := (Below.refl _ _).alloc (Nat.le_refl _) _
  have b0 : Blk (w.alloc (.cells cs 24)) w.heap.size cs 24 := Blk.new w cs _
  generalize w.alloc (.cells cs 24) = W at *
  have d1 := (b0.cell 16).trans h16
  have d2 := (b0.cell 17).trans h17
  clear h16 h17 _hsz
  go_quiet (first
    | (go_at_call_of 36 (Value.slice ap np kp); exact Calls.quiet_of_same (feed_n 4294967295 (by decide) np P HL.out.1 bp lp ap kp w _ (below_draws hb0 _) rp tab))
    | (go_at_call_of 36 (Value.slice aq nq kq); exact Calls.quiet_of_same (feed_n (CrcM.feed 4294967295 P) hx nq Q HL.out.2 bq lq aq kq w _ (below_draws hb0 _) rq tab)))
  go_wp2
  go_ret
  exact ⟨congrArg (fun n => Ending.returned (.int .u32 n)) H.out, below_draws hb0 _⟩

end Go.Proofs.YtmigejcfgmalpaaDoor
