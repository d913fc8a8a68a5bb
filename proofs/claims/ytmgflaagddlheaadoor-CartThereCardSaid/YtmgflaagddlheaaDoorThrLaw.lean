/-
  The law CartThere returns true of every cartridge; conditions: its numbers are ints, the tables lie in their variables.
-/
import Derived.Test.YtmgflaagddlheaaDoorThrPlain
import Derived.Test.YtmgflaagddlheaaDoorThrTwice
set_option linter.unusedSimpArgs false
set_option linter.unusedVariables false
namespace Go.Proofs.YtmgflaagddlheaaDoor
open Go.RowKit Classical
set_option maxRecDepth 100000 in
set_option maxHeartbeats 3200000 in
theorem there_law (cs : Array Value) (c : CF) (p q fill : Int) (w : World) (C : IsC cs c)
    (h0 : -9223372036854775808 ≤ c.fmt ∧ c.fmt ≤ 9223372036854775807) (h1 : -9223372036854775808 ≤ c.map ∧ c.map ≤ 9223372036854775807) (h6 : -9223372036854775808 ≤ c.con ∧ c.con ≤ 9223372036854775807) (h8 : -9223372036854775808 ≤ c.tim ∧ c.tim ≤ 9223372036854775807) (h11 : -9223372036854775808 ≤ c.pr ∧ c.pr ≤ 9223372036854775807)
    (hp : -9223372036854775808 ≤ p ∧ p ≤ 9223372036854775807) (hq : -9223372036854775808 ≤ q ∧ q ≤ 9223372036854775807) (hf : -9223372036854775808 ≤ fill ∧ fill ≤ 9223372036854775807) (B : Bnd w) (Tt : Tz w) :
    Calls Tryd.prog 3 #[.agg cs, .int .i64 p, .int .i64 q, .int .i64 fill] w fun e w' => e = .returned (.bool true) ∧ Below w.heap.size w w' := by
  have HS : Hid (cs.size = 19) := C.size
  have hsz := C.size
  have PC : Hid (∀ W : World, Calls _ _ _ _ _) := fun W => plain_any cs c p q fill W C h0 h1 h6 h8 h11 hp hq hf
  clear h0 h1 h6 h8 h11 hp hq hf
  go_enter Tryd.func3, Tryd.ntmps3
  go_upto_region 1 with fail
  have hb0 : Below w.heap.size w (w.alloc (.cells cs 24)) := (Below.refl _ _).alloc (Nat.le_refl _) _
  have b0 : Blk (w.alloc (.cells cs 24)) w.heap.size cs 24 := Blk.new w cs _
  generalize w.alloc (.cells cs 24) = W0 at *
  clear hsz C
  go_cut [] (fun wx => ∃ ds d T P Q R, Blk wx w.heap.size ds 24 ∧ Ct wx ds d T P Q R ∧ Th d ∧ Below w.heap.size w wx)
  case first =>
    go_wp2_with (first
      | (refine wpList_load_mid rfl 24 _ rfl w.heap.size 0 rfl cs.toList _ b0.range Tryd.underlying24 rfl (by rw [Array.length_toList, HS.out]; exact Tryd.infoCart) ?_; rw [Array.toArray_toList])
      | (go_at_call 6; go_must (refine (PC.out _).mono ?_; rintro e W1 ⟨ds, d, T, P, Q, R, rfl, D, th, lt, lp, lq, lr, L1, L2, L3, L4, hb1⟩; have HD : Hid (ds.size = 19 ∧ ds.all (·.oneCell') = true) := ⟨D.size, D.one⟩; have b1 := b0.below b0.lt hb1; have hbw1 := hb0.trans (hb1.mono hb0.size); have hlt := b0.lt))
      | (refine wpList_store_mid rfl 24 _ _ rfl w.heap.size 0 ds rfl rfl (by exact b1.there _ (by rw [HD.out.1]; exact HS.out)) (by rw [HD.out.1]; exact Tryd.infoCart) HD.out.2 ?_))
    go_meet
    have M1 := L1.puts hlt ds.toList 0
    have M2 := L2.puts hlt ds.toList 0
    have M3 := L3.puts hlt ds.toList 0
    have M4 := L4.puts hlt ds.toList 0
    exact ⟨ds, d, T, P, Q, R, b1.setAll (L := ds) (by rw [HD.out.1, HS.out]), ⟨⟨D, lt, lp, lq, lr, M1.at lt, M2.at lp, M3.at lq, M4.at lr⟩, M1.bytes, M2.bytes, M3.bytes, M4.bytes⟩, th, setCells_below (Nat.le_refl _) _ _ _ _ hbw1⟩
  case rest =>
  clear b0 hb0 PC HS
  obtain ⟨ds, d, T, P, Q, R, bD, X, th, hbw⟩ := hcut
  generalize wc = W1 at *
  clear W0
  have HS : Hid (ds.size = 19) := X.x.c.size
  have TC : Hid (∀ (f : Int) (W : World), Fit d f → Below W1.heap.size W1 W → Calls _ _ _ _ _) := fun f W hf hb => twice_any ds d T P Q R f W (X.below hb) th hf (B.below B.lt (hbw.trans (hb.mono hbw.size))) (Tt.below (hbw.trans (hb.mono hbw.size)))
  have T2 : Hid (Calls _ _ _ _ _) := TC.out 2 W1 (.inl rfl) (Below.refl _ _)
  have d0 := (bD.cell 0).trans X.x.c.h0
  go_wp2_with (refine wpList_load_mid rfl 24 _ rfl w.heap.size 0 rfl ds.toList _ bD.range Tryd.underlying24 rfl (by rw [Array.length_toList, HS.out]; exact Tryd.infoCart) ?_; rw [Array.toArray_toList])
  refine T2.out.mono ?_
  rintro e W2 ⟨rfl, hb2⟩
  have bD2 := bD.below bD.lt hb2
  have hbw2 := hbw.trans (hb2.mono hbw.size)
  have d0 := (bD2.cell 0).trans X.x.c.h0
  have T3 : Hid (Calls _ _ _ _ _) := TC.out d.fmt W2 (.inr (.inl rfl)) hb2
  clear T2
  go_wp2_with (refine wpList_load_want (by rfl) 24 _ rfl w.heap.size 0 rfl ds.toList _ bD2.range Tryd.underlying24 rfl (by rw [Array.length_toList, HS.out]; exact Tryd.infoCart) ?_; rw [Array.toArray_toList])
  refine T3.out.mono ?_
  rintro e W3 ⟨rfl, hb3⟩
  have bD3 := bD2.below bD2.lt hb3
  have hbw3 := hbw2.trans (hb3.mono hbw2.size)
  have hb23 := hb2.trans (hb3.mono hb2.size)
  have d0 := (bD3.cell 0).trans X.x.c.h0
  clear T3
  rcases th.f with e0 | e1
  · have T4 : Hid (Calls _ _ _ _ _) := TC.out 1 W3 (.inr (.inr ⟨e0, rfl⟩)) hb23
    rw [e0] at d0
    clear TC
    go_wp2_with (refine wpList_load_want (by rfl) 24 _ rfl w.heap.size 0 rfl ds.toList _ bD3.range Tryd.underlying24 rfl (by rw [Array.length_toList, HS.out]; exact Tryd.infoCart) ?_; rw [Array.toArray_toList])
    refine T4.out.mono ?_
    rintro e W4 ⟨rfl, hb4⟩
    go_wp2
    go_ret
    exact ⟨rfl, hbw3.trans (hb4.mono hbw3.size)⟩
  · rw [e1] at d0
    clear TC
    go_wp2
    go_ret
    exact ⟨rfl, hbw3⟩
end Go.Proofs.YtmgflaagddlheaaDoor
