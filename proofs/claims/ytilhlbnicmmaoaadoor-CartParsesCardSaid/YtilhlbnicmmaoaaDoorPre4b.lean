/-
  What the document's front, rest and piece answer; conditions: the image lies in memory, its four first bytes in the document's table.
-/
import Derived.Test.YtilhlbnicmmaoaaDoorPre1
set_option linter.unusedSimpArgs false
set_option linter.unusedVariables false
namespace Go.Proofs.YtilhlbnicmmaoaaDoor
open Go.RowKit
/-- The document's four first bytes lie in memory. -/
def MgW (w : World) : Prop := ∀ j, j < 4 → w.cell? ⟨0, j, none⟩ = some (.int .u8 (([78, 69, 83, 26] : List Nat).getD j 0 : Nat))
theorem MgW.below {w w' : World} (h : MgW w) (hb : Below w.heap.size w w') : MgW w' := fun j hj => (hb.cell (p := ⟨0, j, none⟩) (cell_lt (p := ⟨0, j, none⟩) (h j hj))).trans (h j hj)
def fz (L : List Nat) : Nat × Nat := if 2097152 < L.length then (1, 0) else frontE L L.length
def fmgL : List Nat := [78, 69, 83, 26]
theorem ffront_short {L : List Nat} {n i : Nat} (h4 : i < 4) (hj : ∀ j, j < i → j < n ∧ L.getD j 0 = fmgL.getD j 0) (hn : n ≤ i) : frontE L n = (11, n) := by
  unfold frontE
  rcases (show i = 0 ∨ i = 1 ∨ i = 2 ∨ i = 3 by omega) with rfl | rfl | rfl | rfl
  · rw [if_pos hn]
  · have h0 := hj 0 (by omega)
    rw [if_neg (by omega), if_neg (by rw [h0.2]; decide), if_pos hn]
  · have h0 := hj 0 (by omega)
    have h1 := hj 1 (by omega)
    rw [if_neg (by omega), if_neg (by rw [h0.2]; decide), if_neg (by omega), if_neg (by rw [h1.2]; decide), if_pos hn]
  · have h0 := hj 0 (by omega)
    have h1 := hj 1 (by omega)
    have h2 := hj 2 (by omega)
    rw [if_neg (by omega), if_neg (by rw [h0.2]; decide), if_neg (by omega), if_neg (by rw [h1.2]; decide), if_neg (by omega), if_neg (by rw [h2.2]; decide), if_pos hn]
theorem ffront_magic {L : List Nat} {n i : Nat} (h4 : i < 4) (hj : ∀ j, j < i → j < n ∧ L.getD j 0 = fmgL.getD j 0) (hn : i < n) (hx : L.getD i 0 ≠ fmgL.getD i 0) : frontE L n = (10, i) := by
  unfold frontE
  rcases (show i = 0 ∨ i = 1 ∨ i = 2 ∨ i = 3 by omega) with rfl | rfl | rfl | rfl
  · rw [if_neg (by omega), if_pos (show L.getD 0 0 ≠ 78 from hx)]
  · have h0 := hj 0 (by omega)
    rw [if_neg (by omega), if_neg (by rw [h0.2]; decide), if_neg (by omega), if_pos (show L.getD 1 0 ≠ 69 from hx)]
  · have h0 := hj 0 (by omega)
    have h1 := hj 1 (by omega)
    rw [if_neg (by omega), if_neg (by rw [h0.2]; decide), if_neg (by omega), if_neg (by rw [h1.2]; decide), if_neg (by omega), if_pos (show L.getD 2 0 ≠ 83 from hx)]
  · have h0 := hj 0 (by omega)
    have h1 := hj 1 (by omega)
    have h2 := hj 2 (by omega)
    rw [if_neg (by omega), if_neg (by rw [h0.2]; decide), if_neg (by omega), if_neg (by rw [h1.2]; decide), if_neg (by omega), if_neg (by rw [h2.2]; decide), if_neg (by omega), if_pos (show L.getD 3 0 ≠ 26 from hx)]
theorem ffront_all {L : List Nat} {n : Nat} (hj : ∀ j, j < 4 → j < n ∧ L.getD j 0 = fmgL.getD j 0) : frontE L n = if n < 16 then (11, n) else (0, 0) := by
  unfold frontE
  have h0 := hj 0 (by omega)
  have h1 := hj 1 (by omega)
  have h2 := hj 2 (by omega)
  have h3 := hj 3 (by omega)
  rw [if_neg (by omega), if_neg (by rw [h0.2]; decide), if_neg (by omega), if_neg (by rw [h1.2]; decide), if_neg (by omega), if_neg (by rw [h2.2]; decide), if_neg (by omega), if_neg (by rw [h3.2]; decide)]
set_option maxRecDepth 20000 in
set_option maxHeartbeats 2000000 in
theorem rfront_g (L : List Nat) (a : Option Addr) (n k : Nat) (hI : L.length = n) (hlen : n ≤ 140737488355328) (w : World) (hr : Row w a L) (M : MgW w) :
    Calls Tryd.prog 27 #[.slice a n k] w fun e w' => e = .returned (.tuple #[.int .i64 ((fz L).1 : Nat), .int .i64 ((fz L).2 : Nat)]) ∧ Below w.heap.size w w' := by
  obtain ⟨x, hx⟩ : ∃ x, (fz L).1 = x := ⟨_, rfl⟩
  obtain ⟨y, hy⟩ : ∃ x, (fz L).2 = x := ⟨_, rfl⟩
  have HXY : Hid (fz L = (x, y)) := by unfold Hid; rw [← hx, ← hy]
  rw [hx, hy]
  clear hx hy
  by_cases hbig : 2097152 < n
  · have e : Hid (x = 1 ∧ y = 0) := by
      have := HXY.out; unfold fz at this; rw [hI, if_pos hbig] at this
      exact ⟨(congrArg Prod.fst this).symm, (congrArg Prod.snd this).symm⟩
    have hb' : (2097152 : Int) < (n : Int) := by omega
    go_enter Tryd.func27, Tryd.ntmps27
    go_wp2
    go_ret2
    exact ⟨by rw [e.out.1, e.out.2]; rfl, Below.refl _ _⟩
  have hb' : ¬ (2097152 : Int) < (n : Int) := by omega
  have HZ : Hid ((x, y) = frontE L n) := by
    have := HXY.out; unfold fz at this; rw [hI, if_neg hbig] at this
    exact this.symm
  have HI : Hid (L.length = n) := hI
  have HR : Hid (Row w a L) := hr
  have HM : Hid (MgW w) := M
  clear HXY hI hr M hbig
  go_enter Tryd.func27, Tryd.ntmps27
  go_upto_region 4 with fail
  go_loopw [4] (fun z wr => ∃ i : Nat, i ≤ 4 ∧ z = .int .i64 (i : Nat) ∧ (∀ j, j < i → j < n ∧ L.getD j 0 = fmgL.getD j 0) ∧ Below w.heap.size w wr) (fun z _ => 4 - (intOf z).toNat)
  case atStart => exact ⟨0, Nat.zero_le _, rfl, (fun _ hh => absurd hh (Nat.not_lt_zero _)), Below.refl _ _⟩
  case round =>
    obtain ⟨i, hi4, rfl, hj, hbr⟩ := hrel
    have HJ : Hid _ := hj
    clear hj
    by_cases h4 : i < 4
    · have i4 : (i : Int) < 4 := by omega
      by_cases hin : n ≤ i
      · have hin' : (n : Int) ≤ (i : Int) := by omega
        have HE : Hid ((x, y) = (11, n)) := HZ.out.trans (ffront_short h4 HJ.out hin)
        go_wp2
        go_ret2
        exact ⟨by rw [show x = 11 from congrArg Prod.fst HE.out, show y = n from congrArg Prod.snd HE.out]; rfl, hbr⟩
      have hin' : ¬ (n : Int) ≤ (i : Int) := by omega
      have iN : (i : Int) < (n : Int) := by omega
      have jN : i < n := by omega
      rcases HR.out with hnil | ⟨b, off, rfl, hc⟩
      · exfalso; have := HI.out; rw [hnil] at this; simp at this; omega
      have c1 : wr.cell? ⟨b, off + i, none⟩ = some (.int .u8 (L.getD i 0 : Nat)) := (hbr.cell (p := ⟨b, off + i, none⟩) (cell_lt (p := ⟨b, off + i, none⟩) (hc i (by rw [HI.out]; exact jN)))).trans (hc i (by rw [HI.out]; exact jN))
      have c2 : wr.cell? ⟨0, i, none⟩ = some (.int .u8 (fmgL.getD i 0 : Nat)) := (hbr.cell (p := ⟨0, i, none⟩) (cell_lt (p := ⟨0, i, none⟩) (HM.out i h4))).trans (HM.out i h4)
      clear hc
      obtain ⟨u, hu⟩ : ∃ u, L.getD i 0 = u := ⟨_, rfl⟩
      obtain ⟨q, hq⟩ : ∃ q, fmgL.getD i 0 = q := ⟨_, rfl⟩
      have HU : Hid (L.getD i 0 = u ∧ fmgL.getD i 0 = q) := ⟨hu, hq⟩
      rw [hu] at c1
      rw [hq] at c2
      clear hu hq
      by_cases huq : u = q
      · subst huq
        go_upto_region 8 with fail
        go_quiet (fail)
        go_wp2
        go_roundw
        case rel => exact ⟨i + 1, by omega, by go_num, (fun j hj => by
          rcases (show j < i ∨ j = i by omega) with hh | rfl
          · exact HJ.out j hh
          · exact ⟨jN, by rw [HU.out.1, HU.out.2]⟩), below_draws hbr _⟩
        case measure => simp [intOf]; omega
      · have HE : Hid ((x, y) = (10, i)) := HZ.out.trans (ffront_magic h4 HJ.out jN (by rw [HU.out.1, HU.out.2]; exact huq))
        have hne : ((u : Int) != (q : Int)) = true := by rw [bne_iff_ne]; omega
        clear huq
        go_upto_region 8 with fail
        go_quiet (fail)
        go_wp2
        go_ret2
        exact ⟨by rw [show x = 10 from congrArg Prod.fst HE.out, show y = i from congrArg Prod.snd HE.out]; rfl, below_draws hbr _⟩
    · obtain rfl : i = 4 := by omega
      have HE : Hid ((x, y) = if n < 16 then (11, n) else (0, 0)) := HZ.out.trans (ffront_all HJ.out)
      by_cases h16 : n < 16
      · have h16' : (n : Int) < 16 := by omega
        have HE2 : Hid ((x, y) = (11, n)) := by have := HE.out; rwa [if_pos h16] at this
        clear HE h16
        go_wp2
        go_ret2
        exact ⟨by rw [show x = 11 from congrArg Prod.fst HE2.out, show y = n from congrArg Prod.snd HE2.out]; rfl, hbr⟩
      · have h16' : ¬ (n : Int) < 16 := by omega
        have HE2 : Hid ((x, y) = (0, 0)) := by have := HE.out; rwa [if_neg h16] at this
        clear HE h16
        go_wp2
        go_ret2
        exact ⟨by rw [show x = 0 from congrArg Prod.fst HE2.out, show y = 0 from congrArg Prod.snd HE2.out]; rfl, hbr⟩
/-- What the document says of what follows CHR. -/
def rtE (c : CF) (n : Int) : Int := if c.fmt = 1 ∧ c.con = 2 ∧ n < 8192 then 11 else if c.fmt = 2 ∧ c.misc = 0 ∧ 0 < n then 15 else if c.fmt = 2 ∧ n < c.misc then 11 else 0
set_option maxRecDepth 20000 in
set_option maxHeartbeats 2000000 in
theorem rrest_g (cs : Array Value) (c : CF) (C : IsC cs c) (n : Int) (w : World) :
    Calls Tryd.prog 29 #[.agg cs, .int .i64 n] w fun e w' => e = .returned (.int .i64 (rtE c n)) ∧ Below w.heap.size w w' := by
  have hsz : cs.size = 19 := C.size
  have b0 := Blk.new w cs 25
  have hb0 : Below w.heap.size w (w.alloc (.cells cs 25)) := (Below.refl _ _).alloc (Nat.le_refl _) _
  have d0 := (b0.cell 0).trans C.h0
  have d6 := (b0.cell 6).trans C.h6
  have d10 := (b0.cell 10).trans C.h10
  obtain ⟨r, hr⟩ : ∃ r, rtE c n = r := ⟨_, rfl⟩
  have HR : Hid (rtE c n = r) := hr
  rw [hr]
  unfold rtE at HR
  clear hr C
  generalize c.fmt = f at *
  generalize c.con = o at *
  generalize c.misc = m at *
  by_cases f1 : f = 1
  · subst f1
    by_cases o2 : o = 2
    · subst o2
      by_cases n8 : n < 8192
      · have HE : Hid (r = 11) := by have := HR.out; rw [if_pos ⟨rfl, rfl, n8⟩] at this; exact this.symm
        go_enter Tryd.func29, Tryd.ntmps29
        go_upto_region 1 with fail
        generalize w.alloc (.cells cs 25) = W0 at *
        go_wp2
        go_ret
        exact ⟨by rw [HE.out]; rfl, hb0⟩
      · have HE : Hid (r = 0) := by have := HR.out; rw [if_neg (fun h => n8 h.2.2), if_neg (fun h => absurd h.1 (by decide)), if_neg (fun h => absurd h.1 (by decide))] at this; exact this.symm
        go_enter Tryd.func29, Tryd.ntmps29
        go_upto_region 1 with fail
        generalize w.alloc (.cells cs 25) = W0 at *
        go_wp2
        go_ret
        exact ⟨by rw [HE.out]; rfl, hb0⟩
    · have HE : Hid (r = 0) := by have := HR.out; rw [if_neg (fun h => o2 h.2.1), if_neg (fun h => absurd h.1 (by decide)), if_neg (fun h => absurd h.1 (by decide))] at this; exact this.symm
      have e : (o == 2) = false := by rw [beq_eq_false_iff_ne]; exact o2
      go_enter Tryd.func29, Tryd.ntmps29
      go_upto_region 1 with fail
      generalize w.alloc (.cells cs 25) = W0 at *
      go_wp2
      go_ret
      exact ⟨by rw [HE.out]; rfl, hb0⟩
  · by_cases f2 : f = 2
    · subst f2
      by_cases m0 : m = 0
      · subst m0
        by_cases n0 : 0 < n
        · have HE : Hid (r = 15) := by have := HR.out; rw [if_neg (fun h => f1 h.1), if_pos ⟨rfl, rfl, n0⟩] at this; exact this.symm
          go_enter Tryd.func29, Tryd.ntmps29
          go_upto_region 1 with fail
          generalize w.alloc (.cells cs 25) = W0 at *
          go_wp2
          go_ret
          exact ⟨by rw [HE.out]; rfl, hb0⟩
        · by_cases nn : n < 0
          · have HE : Hid (r = 11) := by have := HR.out; rw [if_neg (fun h => f1 h.1), if_neg (fun h => n0 h.2.2), if_pos ⟨rfl, nn⟩] at this; exact this.symm
            go_enter Tryd.func29, Tryd.ntmps29
            go_upto_region 1 with fail
            generalize w.alloc (.cells cs 25) = W0 at *
            go_wp2
            go_ret
            exact ⟨by rw [HE.out]; rfl, hb0⟩
          · have HE : Hid (r = 0) := by have := HR.out; rw [if_neg (fun h => f1 h.1), if_neg (fun h => n0 h.2.2), if_neg (fun h => nn h.2)] at this; exact this.symm
            go_enter Tryd.func29, Tryd.ntmps29
            go_upto_region 1 with fail
            generalize w.alloc (.cells cs 25) = W0 at *
            go_wp2
            go_ret
            exact ⟨by rw [HE.out]; rfl, hb0⟩
      · have e : (m == 0) = false := by rw [beq_eq_false_iff_ne]; exact m0
        by_cases nn : n < m
        · have HE : Hid (r = 11) := by have := HR.out; rw [if_neg (fun h => f1 h.1), if_neg (fun h => m0 h.2.1), if_pos ⟨rfl, nn⟩] at this; exact this.symm
          go_enter Tryd.func29, Tryd.ntmps29
          go_upto_region 1 with fail
          generalize w.alloc (.cells cs 25) = W0 at *
          go_wp2
          go_ret
          exact ⟨by rw [HE.out]; rfl, hb0⟩
        · have HE : Hid (r = 0) := by have := HR.out; rw [if_neg (fun h => f1 h.1), if_neg (fun h => m0 h.2.1), if_neg (fun h => nn h.2)] at this; exact this.symm
          go_enter Tryd.func29, Tryd.ntmps29
          go_upto_region 1 with fail
          generalize w.alloc (.cells cs 25) = W0 at *
          go_wp2
          go_ret
          exact ⟨by rw [HE.out]; rfl, hb0⟩
    · have HE : Hid (r = 0) := by have := HR.out; rw [if_neg (fun h => f1 h.1), if_neg (fun h => f2 h.1), if_neg (fun h => f2 h.1)] at this; exact this.symm
      have e : (f == 1) = false := by rw [beq_eq_false_iff_ne]; exact f1
      have e2 : (f == 2) = false := by rw [beq_eq_false_iff_ne]; exact f2
      go_enter Tryd.func29, Tryd.ntmps29
      go_upto_region 1 with fail
      generalize w.alloc (.cells cs 25) = W0 at *
      go_wp2
      go_ret
      exact ⟨by rw [HE.out]; rfl, hb0⟩
theorem take_next (L : List Nat) (a i : Nat) (h : a + i < L.length) : (L.drop a).take i ++ [L.getD (a + i) 0] = (L.drop a).take (i + 1) := by
  have h' : i < (L.drop a).length := by rw [List.length_drop]; omega
  rw [List.take_add_one, List.getElem?_eq_getElem h', List.getElem_drop, List.getD_eq_getElem?_getD, List.getElem?_eq_getElem h]
  rfl
set_option maxRecDepth 20000 in
set_option maxHeartbeats 2000000 in
theorem rpiece_g (L : List Nat) (a : Option Addr) (n k from' nn : Nat) (hI : L.length = n) (hlen : n ≤ 2097152) (hf : from' + nn ≤ n) (w : World) (hr : Row w a L) :
    Calls Tryd.prog 30 #[.slice a n k, .int .i64 (from' : Nat), .int .i64 (nn : Nat)] w fun e w' => ∃ v, e = .returned v ∧ Tx w' w.heap.size v ((L.drop from').take nn) ∧ Below w.heap.size w w' := by
  have HI : Hid (L.length = n) := hI
  have HR : Hid (Row w a L) := hr
  clear hI hr
  go_enter Tryd.func30, Tryd.ntmps30
  go_upto_region 3 with fail
  go_loopw [7, 8] (fun v z wr => ∃ i : Nat, i ≤ nn ∧ z = .int .i64 (i : Nat) ∧ Tx wr w.heap.size v ((L.drop from').take i) ∧ Below w.heap.size w wr) (fun _ z _ => nn - (intOf z).toNat)
  case atStart => exact ⟨0, Nat.zero_le _, rfl, World.ownsRow_nil _ _ _ _, Below.refl _ _⟩
  case round =>
    obtain ⟨i, hin, rfl, ht, hbr⟩ := hrel
    by_cases h : i < nn
    · have h' : (i : Int) < (nn : Int) := by omega
      rcases HR.out with hnil | ⟨b, off, rfl, hc⟩
      · exfalso; have := HI.out; rw [hnil] at this; simp at this; omega
      have hl : from' + i < L.length := by rw [HI.out]; omega
      have c1 : wr.cell? ⟨b, off + (from' + i), none⟩ = some (.int .u8 (L.getD (from' + i) 0 : Nat)) := (hbr.cell (p := ⟨b, off + (from' + i), none⟩) (cell_lt (p := ⟨b, off + (from' + i), none⟩) (hc _ hl))).trans (hc _ hl)
      have HT2 : Hid ((L.drop from').take i ++ [L.getD (from' + i) 0] = (L.drop from').take (i + 1)) := take_next L from' i hl
      have HLI : Hid (((L.drop from').take i).length + 1 ≤ 140737488355328) := by unfold Hid; rw [List.length_take]; omega
      have e1 : ((from' : Nat) : Int) + ((i : Nat) : Int) = ((from' + i : Nat) : Int) := by omega
      have e2 : from' + i < n := by omega
      generalize L.getD (from' + i) 0 = y at *
      have HO : Hid (Tx (wr.alloc (.cells #[.int .u8 (y : Nat)] 5)) w.heap.size u7 ((L.drop from').take i)) := World.ownsRow.alloc ht _
      have HB : Hid (Below w.heap.size w (wr.alloc (.cells #[.int .u8 (y : Nat)] 5)) ∧ w.heap.size ≤ (wr.alloc (.cells #[.int .u8 (y : Nat)] 5)).heap.size) := ⟨hbr.alloc hbr.size _, by rw [World.size_alloc]; have := hbr.size; omega⟩
      have HRW : Hid (Row (wr.alloc (.cells #[.int .u8 (y : Nat)] 5)) (some ⟨wr.heap.size, 0, none⟩) [y]) := .inr ⟨wr.heap.size, 0, rfl, fun j hj => by
        obtain rfl : j = 0 := by simpa using hj
        exact (Blk.new wr #[.int .u8 (y : Nat)] 5).cell 0⟩
      generalize from' + i = fi at *
      clear hc ht hl
      go_wp2_with (at_builtin; refine wpList_appR rfl _ _ rfl (r := [y]) HO.out HB.out.1 HB.out.2 rfl rfl rfl HRW.out HLI.out ?_; intro v' Wx hux hbx hsx)
      rw [HT2.out] at hux
      go_roundw
      case rel => exact ⟨i + 1, by omega, by go_num, hux, hbx⟩
      case measure => simp [intOf]; omega
    · obtain rfl : i = nn := by omega
      go_wp2
      go_ret
      exact ⟨_, rfl, ht, hbr⟩
end Go.Proofs.YtilhlbnicmmaoaaDoor
