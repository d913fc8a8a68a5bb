/-
  The law IsaLines returns true; conditions: the tables lie in their variables.
-/
import Derived.Test.YtebnapgnnflnhaaDoorILLine
import Derived.Test.YtebnapgnnflnhaaDoorILRLine
import Derived.Test.YtebnapgnnflnhaaDoorILCop
import Derived.Test.YtebnapgnnflnhaaDoorILSame
import Derived.Test.YtebnapgnnflnhaaDoorILApp
set_option linter.unusedSimpArgs false
set_option linter.unusedVariables false
namespace Go.Proofs.YtebnapgnnflnhaaDoor
open Go.RowKit
/-- What a line is answered with. -/
def ansT (l : List Nat) (pc : Nat) : List UInt8 := if l.length = 0 ∨ l.length < lnN (l.getD 0 0) then [] else lineT (l.getD 0 0) (l.getD 1 0) (l.getD 2 0) pc
def ansE (l : List Nat) : Int := if l.length = 0 ∨ l.length < lnN (l.getD 0 0) then 11 else 0
theorem hd_of {w : World} {b off : Nat} {l : List Nat} (hl : Bytes l) (hc : ∀ i, i < l.length → w.cell? ⟨b, off + i, none⟩ = some (.int .u8 (l.getD i 0 : Nat))) : Hd w b off l.length (fun i => l.getD i 0) := ⟨hc, fun i => bytes_at hl i⟩
theorem lineRow (l : List Nat) (hl : Bytes l) (hlen : l.length ≤ 140737488351232) (a : Option Addr) (cap pc : Nat) (hp : pc < 65536) (w : World) (hr : Row w a l) (NT : NTab w) (FT : FTab w) :
    Calls Tryd.prog 5 #[.slice a l.length cap, .int .u16 (pc : Nat)] w fun e w' => e = .returned (.tuple #[.string ⟨(ansT l pc).toArray⟩, .int .i64 (ansE l)]) ∧ Below w.heap.size w w' := by
  by_cases h0 : l.length = 0
  · have e1 : ansT l pc = [] := by unfold ansT; rw [if_pos (.inl h0)]
    have e2 : ansE l = 11 := by unfold ansE; rw [if_pos (.inl h0)]
    rw [e1, e2, h0]
    exact isaLine_none pc w a cap
  rcases hr with rfl | ⟨b, off, rfl, hc⟩
  · exact absurd rfl h0
  by_cases hs : l.length < lnN (l.getD 0 0)
  · have e1 : ansT l pc = [] := by unfold ansT; rw [if_pos (.inr hs)]
    have e2 : ansE l = 11 := by unfold ansE; rw [if_pos (.inr hs)]
    rw [e1, e2]
    exact isaLine_short _ (bytes_at hl 0) pc w b off l.length cap _ (hd_of hl hc) rfl (by omega) hs
  · have e1 : ansT l pc = lineT (l.getD 0 0) (l.getD 1 0) (l.getD 2 0) pc := by unfold ansT; rw [if_neg (by omega)]
    have e2 : ansE l = 0 := by unfold ansE; rw [if_neg (by omega)]
    rw [e1, e2]
    have h := isaLine_any (l.getD 0 0) (bytes_at hl 0) pc hp w b off l.length cap (fun i => l.getD i 0) (hd_of hl hc) rfl (by omega) (by omega) NT FT
    exact h
theorem rlineRow (l : List Nat) (hl : Bytes l) (hlen : l.length ≤ 140737488351232) (a : Option Addr) (cap pc : Nat) (hp : pc < 65536) (w : World) (hr : Row w a l) (LT : LTab w) (FT : RFTab w) :
    Calls Tryd.prog 6 #[.slice a l.length cap, .int .u16 (pc : Nat)] w fun e w' => e = .returned (.tuple #[.string ⟨(ansT l pc).toArray⟩, .int .i64 (ansE l)]) ∧ Below w.heap.size w w' := by
  by_cases h0 : l.length = 0
  · have e1 : ansT l pc = [] := by unfold ansT; rw [if_pos (.inl h0)]
    have e2 : ansE l = 11 := by unfold ansE; rw [if_pos (.inl h0)]
    rw [e1, e2, h0]
    exact rline_none pc w a cap
  rcases hr with rfl | ⟨b, off, rfl, hc⟩
  · exact absurd rfl h0
  by_cases hs : l.length < lnN (l.getD 0 0)
  · have e1 : ansT l pc = [] := by unfold ansT; rw [if_pos (.inr hs)]
    have e2 : ansE l = 11 := by unfold ansE; rw [if_pos (.inr hs)]
    rw [e1, e2]
    exact rline_short _ (bytes_at hl 0) pc w b off l.length cap _ (hd_of hl hc) rfl (by omega) hs LT
  · have e1 : ansT l pc = lineT (l.getD 0 0) (l.getD 1 0) (l.getD 2 0) pc := by unfold ansT; rw [if_neg (by omega)]
    have e2 : ansE l = 0 := by unfold ansE; rw [if_neg (by omega)]
    rw [e1, e2]
    have h := rline_any (l.getD 0 0) (bytes_at hl 0) pc hp w b off l.length cap (fun i => l.getD i 0) (hd_of hl hc) rfl (by omega) (by omega) LT FT
    exact h
/-- The four tables. -/
structure LTabs (w : World) : Prop where
  nt : NTab w
  ft : FTab w
  lt : LTab w
  rt : RFTab w
theorem LTabs.below {w w' : World} (h : LTabs w) (hb : Below w.heap.size w w') : LTabs w' := ⟨h.nt.below9 hb, h.ft.below hb, h.lt.below hb, h.rt.below hb⟩
theorem copied_n (l : List Nat) (n : Nat) (hn : l.length = n) (hl : Bytes l) (hlen : n ≤ 140737488351232) (a : Option Addr) (cap : Nat) (w : World) (hrow : Row w a l) :
    Calls Tryd.prog 4 #[.slice a n cap] w fun e w' => ∃ g, e = .returned (.slice (some ⟨g, 0, none⟩) n n) ∧ w.heap.size ≤ g ∧ Own w' g l ∧ Below w.heap.size w w' := by
  subst hn
  exact copied_any l hl hlen a cap w hrow
set_option maxRecDepth 100000 in
set_option maxHeartbeats 2000000 in
theorem law_isaLines (l : List Nat) (hl : Bytes l) (hlen : l.length ≤ 140737488351232) (a : Option Addr) (cap pc : Nat) (hp : pc < 65536) (w : World) (hr : Row w a l) (T : LTabs w) :
    Calls Tryd.prog 3 #[.slice a l.length cap, .int .u16 (pc : Nat)] w fun e w' => e = .returned (.bool true) ∧ Below w.heap.size w w' := by
  have CC : Hid (Calls _ _ _ _ _) := copied_any l hl hlen a cap w hr
  go_enter Tryd.func3, Tryd.ntmps3
  go_upto_region 2 with (first
    | (go_at_call 4; go_must (refine CC.out.mono ?_; rintro e w1 ⟨g, rfl, hg, hown, hb1⟩))
    | (refine wpList_app2 rfl _ _ rfl hown hg hb1 hb1.size rfl rfl hlen ?_; intro g' cap' w2 hrow hcap hb2 hsz2))
  have htk : (l ++ [234, 165]).take l.length = l := by simp
  have r2 : Row w2 (some ⟨g', 0, none⟩) l := by have := hrow.row.take l.length; rw [htk] at this; exact this
  have T2 := T.below hb2
  have LC : Hid (Calls _ _ _ _ _) := lineRow l hl hlen (some ⟨g', 0, none⟩) cap' pc hp w2 r2 T2.nt T2.ft
  have HR : Hid (RowN w2 g' (l ++ [234, 165]) ∧ Row w2 a l) := ⟨hrow, hr.below hb2⟩
  have HT2 : Hid (LTabs w2) := T2
  have HB : Hid (Bytes l) := hl
  clear CC hown hb1 hg hrow r2 T2 T hr hl htk
  go_upto_region 3 with (go_at_call 5; go_must (refine LC.out.mono ?_; rintro e w3 ⟨rfl, hb3⟩))
  have RC : Hid (Calls _ _ _ _ _) := rlineRow l HB.out hlen a cap pc hp w3 (HR.out.2.below hb3) (HT2.out.below hb3).lt (HT2.out.below hb3).rt
  clear LC
  go_upto_region 4 with (go_at_call 6; go_must (refine RC.out.mono ?_; rintro e w4 ⟨rfl, hb4⟩))
  clear RC HT2 HB
  have r3 := HR.out.1.below hb3
  have r4 := r3.below hb4
  have s4 := (HR.out.2.below hb3).below hb4
  have hbl : Below w.heap.size w w4 := (hb2.trans (hb3.mono hsz2)).trans (hb4.mono (Nat.le_trans hsz2 hb3.size))
  have htk : (l ++ [234, 165]).take l.length = l := by simp
  have q4 : Row w4 (some ⟨g', 0, none⟩) l := by have := r4.row.take l.length; rw [htk] at this; exact this
  have SC : Hid (Calls _ _ _ _ _) := same_true l (by omega) (some ⟨g', 0, none⟩) a cap' cap w4 q4 s4
  have cA : w4.cell? ⟨g', l.length, none⟩ = some (.int .u8 234) := by have := r4 l.length (by simp); simpa using this
  have cB : w4.cell? ⟨g', l.length + 1, none⟩ = some (.int .u8 165) := by have := r4 (l.length + 1) (by simp); simpa [List.getD] using this
  clear r3 r4 s4 q4 hb4 hb3 hb2 HR htk hsz2
  generalize ansT l pc = t at *
  generalize ansE l = en at *
  go_wp2_with (go_at_call 7; go_must (refine SC.out.mono ?_; rintro e w5 ⟨rfl, m, rfl⟩))
  go_ret
  exact ⟨rfl, hbl.trans ⟨rfl, rfl, rfl, Nat.le_refl _, fun _ _ => rfl⟩⟩
end Go.Proofs.YtebnapgnnflnhaaDoor
