/-
  The law CartParses returns true; conditions: the image lies in memory, its four first bytes in the document's table.
-/
import Derived.Test.YtilhlbnicmmaoaaDoorPreSp
import Derived.Test.YtilhlbnicmmaoaaDoorPre5
set_option linter.unusedSimpArgs false
set_option linter.unusedVariables false
namespace Go.Proofs.YtilhlbnicmmaoaaDoor
open Go.RowKit
/-- The law's block with a cartridge. -/
structure Nk (w : World) (g : Nat) (xs : Array Value) (L : List Nat) (W : World) : Prop where
  b : Blk W g xs 25
  c : Cl W xs (pC L) (pT L) (pP L) (pQ L) (pR L)
theorem Nk.below {w W W' : World} {g : Nat} {xs : Array Value} {L : List Nat} (K : Nk w g xs L W) (hb : Below W.heap.size W W') : Nk w g xs L W' := ⟨K.b.below K.b.lt hb, K.c.below hb⟩
set_option maxRecDepth 100000 in
set_option maxHeartbeats 3200000 in
theorem parses_law (L : List Nat) (hB : Bytes L) (a : Option Addr) (n k : Nat) (w : World) (hI : L.length = n) (hlen : n ≤ 140737488351232) (hr : Row w a L) (M : MgW w) :
    Calls Tryd.prog 3 #[.slice a n k] w fun e w' => e = .returned (.bool true) ∧ Below w.heap.size w w' := by
  have SP : Hid (Calls _ _ _ _ _) := spare_n n L hI hB hlen a k w hr
  have HIL : Hid (L.length = n ∧ Bytes L) := ⟨hI, hB⟩
  have HRW : Hid (Row w a L ∧ MgW w) := ⟨hr, M⟩
  clear hI hB hr M
  go_enter Tryd.func3, Tryd.ntmps3
  go_upto_region 1 with fail
  go_wp2_with fail
  refine SP.out.mono ?_
  rintro e W1 ⟨g0, rfl, hg0, ho, hb1⟩
  clear SP
  have HG0 : Hid (w.heap.size ≤ g0) := hg0
  clear hg0
  have hbw : Hid (Below w.heap.size w W1) := hb1
  have hrm : Row W1 (some ⟨g0, 0, none⟩) L := ho.front
  have PG : Hid (∀ cap : Nat, n ≤ cap → Calls _ _ _ _ _) := fun cap hc => parse_g L HIL.out.2 (some ⟨g0, 0, none⟩) n cap W1 HIL.out.1 hc hrm
  have HO : Hid (Own W1 g0 (marked L)) := ho
  clear hb1 ho hrm
  obtain ⟨x, hx⟩ : ∃ x : Int, ((pz L).1 : Nat) = x := ⟨_, rfl⟩
  obtain ⟨y, hy⟩ : ∃ x : Int, ((pz L).2 : Nat) = x := ⟨_, rfl⟩
  have HXY : Hid (∀ (w0 : World) e w', PaG L w0 e w' → ∃ xs, e = .returned (.tuple #[.agg xs, .int .i64 x, .int .i64 y]) ∧ Cl w' xs (pC L) (pT L) (pP L) (pQ L) (pR L) ∧ Below w0.heap.size w0 w') := fun w0 e w' ⟨xs, h1, h2, h3⟩ => ⟨xs, by rw [h1, hx, hy], h2, h3⟩
  clear hx hy
  go_upto_region 2 with fail
  go_cut [4, 5, 6] (fun p q r wx => ∃ g xs, p = .pointer (some ⟨g, 0, none⟩) ∧ q = .int .i64 x ∧ r = .int .i64 y ∧ Nk w g xs L wx ∧ Own wx g0 (marked L) ∧ Below w.heap.size w wx)
  case first =>
    go_wp2_with (first
      | (go_at_call 8; go_must (refine (PG.out _ (by omega)).mono ?_; intro e W6 hp; obtain ⟨xs, rfl, XL, hb6⟩ := HXY.out _ _ _ hp; clear hp; have HX6 : Hid (xs.size = 19 ∧ xs.all (·.oneCell') = true) := ⟨XL.c.size, XL.c.one⟩))
      | (refine wpList_store_mid rfl 25 _ _ rfl _ 0 xs rfl rfl ((Blk.new _ _ _).there _ (by first | exact HX6.out.1.symm | (rw [HX6.out.1]; rfl))) (by rw [HX6.out.1]; exact Tryd.infoCart) HX6.out.2 ?_))
    go_meet
    have hl : Below W6.heap.size W6 ((W6.alloc (.cells Z19 25)).setCells W6.heap.size 0 xs.toList) := setCells_below (Nat.le_refl _) _ _ _ _ ((Below.refl _ _).alloc (Nat.le_refl _) _)
    have h16 : Below W1.heap.size W1 ((W6.alloc (.cells Z19 25)).setCells W6.heap.size 0 xs.toList) := hb6.trans (hl.mono hb6.size)
    exact ⟨_, xs, rfl, rfl, rfl, ⟨(Blk.new W6 Z19 25).setAll (L := xs) (by rw [HX6.out.1]; rfl), XL.below hl⟩, HO.out.below HO.out.lt h16, hbw.out.trans (h16.mono hbw.out.size)⟩
  case rest =>
  clear PG HO hbw
  obtain ⟨g1, xs, rfl, rfl, rfl, K1, ho, hb1⟩ := hcut
  generalize wc = W2 at *
  have PG : Hid (Calls _ _ _ _ _) := rparse_g L HIL.out.2 a n k W2 HIL.out.1 (by omega) (HRW.out.1.below hb1) (HRW.out.2.below hb1)
  go_upto_region 3 with fail
  go_cut [7, 8, 9] (fun p q r wx => ∃ g ys, p = .pointer (some ⟨g, 0, none⟩) ∧ q = .int .i64 x ∧ r = .int .i64 y ∧ Nk w g ys L wx ∧ Nk w g1 xs L wx ∧ Own wx g0 (marked L) ∧ Below w.heap.size w wx)
  case first =>
    go_wp2_with (first
      | (go_at_call 9; go_must (refine PG.out.mono ?_; intro e W6 hp; obtain ⟨ys, rfl, YL, hb6⟩ := HXY.out _ _ _ hp; clear hp; have HX6 : Hid (ys.size = 19 ∧ ys.all (·.oneCell') = true) := ⟨YL.c.size, YL.c.one⟩))
      | (refine wpList_store_mid rfl 25 _ _ rfl _ 0 ys rfl rfl ((Blk.new _ _ _).there _ (by first | exact HX6.out.1.symm | (rw [HX6.out.1]; rfl))) (by rw [HX6.out.1]; exact Tryd.infoCart) HX6.out.2 ?_))
    go_meet
    have hl : Below W6.heap.size W6 ((W6.alloc (.cells Z19 25)).setCells W6.heap.size 0 ys.toList) := setCells_below (Nat.le_refl _) _ _ _ _ ((Below.refl _ _).alloc (Nat.le_refl _) _)
    have h16 : Below W2.heap.size W2 ((W6.alloc (.cells Z19 25)).setCells W6.heap.size 0 ys.toList) := hb6.trans (hl.mono hb6.size)
    exact ⟨_, ys, rfl, rfl, rfl, ⟨(Blk.new W6 Z19 25).setAll (L := ys) (by rw [HX6.out.1]; rfl), YL.below hl⟩, K1.below h16, ho.below ho.lt h16, hb1.trans (h16.mono hb1.size)⟩
  case rest =>
  clear PG K1 ho hb1
  obtain ⟨g2, ys, rfl, rfl, rfl, K2, K1, ho, hb1⟩ := hcut
  generalize wc = W3 at *
  have HXS : Hid (xs.size = 19 ∧ ys.size = 19) := ⟨K1.c.c.size, K2.c.c.size⟩
  have EQ1 : Hid (Calls _ _ _ _ _) := equal_yes xs ys _ _ _ _ _ W3 K1.c K2.c
  have eX : (x == x) = true := by simp
  have eY : (y == y) = true := by simp
  have b1 := K1.b
  have b2 := K2.b
  have HOO : Hid (Own W3 g0 (marked L)) := ho
  clear K1 K2 ho
  go_upto_region 4 with fail
  go_wp2_with (first
    | (refine wpList_load_want (by rfl) 25 _ rfl g1 0 rfl xs.toList _ b1.range Tryd.underlying25 rfl (by rw [Array.length_toList, HXS.out.1]; exact Tryd.infoCart) ?_; rw [Array.toArray_toList])
    | (refine wpList_load_want (by rfl) 25 _ rfl g2 0 rfl ys.toList _ b2.range Tryd.underlying25 rfl (by rw [Array.length_toList, HXS.out.2]; exact Tryd.infoCart) ?_; rw [Array.toArray_toList])
    | (go_at_call 10; go_must (refine EQ1.out.mono ?_; rintro e W4 ⟨rfl, hb4⟩; have ho4 := HOO.out.below HOO.out.lt hb4; have hbw4 := hb1.trans (hb4.mono hb1.size)))
    | (go_at_call 11; go_must (refine (untouched_n n L HIL.out.1 hlen g0 a k W4 ho4 (HRW.out.1.below hbw4)).mono ?_; rintro e W5 ⟨rfl, hb5⟩)))
  go_ret
  exact ⟨rfl, hbw4.trans (hb5.mono hbw4.size)⟩
end Go.Proofs.YtilhlbnicmmaoaaDoor
