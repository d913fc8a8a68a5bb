/-
  What the document's Print answers: the error, or the header and the four lists; conditions: the lists lie in memory, the tables in their variables.
-/
import Derived.Test.YtmjolcdocoiaeaaDoorPrtModern
import Derived.Test.YtmjolcdocoiaeaaDoorPrtCode
namespace Go.Proofs.YtmjolcdocoiaeaaDoor
open Go.RowKit
/-- The document's four bytes. -/
def Mg (w : World) : Prop := ∀ j, j < 4 → w.cell? ⟨0, j, none⟩ = some (.int .u8 (([78, 69, 83, 26] : List Nat).getD j 0 : Nat))
theorem Mg.below {w w' : World} (h : Mg w) (hb : Below w.heap.size w w') : Mg w' := fun j hj => (hb.cell (p := ⟨0, j, none⟩) (cell_lt (p := ⟨0, j, none⟩) (h j hj))).trans (h j hj)
/-- The argument's block and the row of the header. -/
structure Rd (w : World) (cs : Array Value) (g : Nat) (l : List Nat) (W : World) : Prop where
  b : Blk W w.heap.size cs 24
  o : Own W g l
  hg : w.heap.size < g
  bl : Below w.heap.size w W
theorem Rd.put {w W : World} {cs : Array Value} {g : Nat} {l : List Nat} (K : Rd w cs g l W) (i v : Nat) {l' : List Nat} (e : l.set i v = l') : Rd w cs g l' (W.setCell ⟨g, i, none⟩ (.int .u8 (v : Nat))) :=
  ⟨K.b.other (by have := K.hg; omega) i _, e ▸ K.o.set i v, K.hg, K.bl.setCell (p := ⟨g, i, none⟩) (by have := K.hg; show w.heap.size ≤ g; omega) _⟩
theorem Rd.next {w W W' : World} {cs : Array Value} {g : Nat} {l l' : List Nat} (K : Rd w cs g l W) (hb : Below g W W') (o : Own W' g l') : Rd w cs g l' W' :=
  ⟨K.b.below K.hg hb, o, K.hg, K.bl.trans (hb.mono (Nat.le_of_lt K.hg))⟩
theorem own_tx {W : World} {g n : Nat} {l : List Nat} (hn : l.length = n) (hm : n ≤ 140737488355328) (o : Own W g l) : Tx W g (.slice (some ⟨g, 0, none⟩) n n) l := by
  subst hn
  exact ⟨by simp [vals], .inr ⟨g, l.length, (vals l).toArray, rfl, Nat.le_refl _, o, Nat.le_refl _, by unfold maxLen; omega, by simp [vals], by rw [Nat.mul_one]; exact List.take_of_length_le (by simp [vals])⟩⟩
/-- The header behind i of its first bytes. -/
def mgL (i : Nat) : List Nat := ([78, 69, 83, 26] : List Nat).take i ++ List.replicate (16 - i) 0
set_option maxRecDepth 100000 in
set_option maxHeartbeats 6400000 in
theorem rprint_any (cs : Array Value) (c : CF) (x : HN) (T P Q R : List Nat) (w : World) (X : Cl w cs c T P Q R) (hx : ckE c = 0 → Hb c x)
    (hpr : -9223372036854775808 ≤ c.pr ∧ c.pr ≤ 9223372036854775807) (hpn : -9223372036854775808 ≤ c.pn ∧ c.pn ≤ 9223372036854775807) (Mw : Mg w) :
    Calls Tryd.prog 7 #[.agg cs] w (PrOk c (imL c x T P Q R) w) := by
  have HS : Hid (cs.size = 19) := X.c.size
  have hsz := X.c.size
  have MW : Hid (Mg w) := Mw
  go_enter Tryd.func7, Tryd.ntmps7
  go_upto_region 1 with fail
  have hb0 : Below w.heap.size w (w.alloc (.cells cs 24)) := (Below.refl _ _).alloc (Nat.le_refl _) _
  have b0 : Blk (w.alloc (.cells cs 24)) w.heap.size cs 24 := Blk.new w cs _
  generalize w.alloc (.cells cs 24) = W0 at *
  clear hsz Mw
  have CK : Hid (Calls _ _ _ _ _) := rcheck_any cs c X.c hpr hpn W0
  go_wp2_with (refine wpList_load_mid rfl 24 _ rfl w.heap.size 0 rfl cs.toList _ b0.range Tryd.underlying24 rfl (by rw [Array.length_toList, HS.out]; exact Tryd.infoCart) ?_; rw [Array.toArray_toList])
  refine CK.out.mono ?_
  rintro e W1 ⟨rfl, hb1⟩
  have b1 := b0.below b0.lt hb1
  have hbw1 := hb0.trans (hb1.mono hb0.size)
  clear CK b0 hb0 hb1
  by_cases h0 : ckE c = 0
  · have u : (ckE c != 0) = false := by simp [h0]
    have Y := hx h0
    have C := X.c
    have H0 : Hid (ckE c = 0) := h0
    clear h0 hx
    go_upto_region 4 with fail
    clear u
    obtain ⟨i0, hi, hz0, hz1, hz2⟩ := info_parts Tryd.infoU8
    go_upto_region 5 with (at_make; refine wpList_make_full _ rfl _ _ 22 rfl W1.heap.size 5 i0 (.int .u8 0) 1 Tryd.underlying22 hi hz0 hz1 .i64 .i64 _ _ 16 rfl rfl rfl rfl (by rw [hz2]; decide) (by unfold maxLen; decide) (Nat.le_refl _) ?_; intro W2 hown hgrow)
    have K0 : Rd w cs W1.heap.size (mgL 0) W2 := by
      have hb := (Below.refl W1.heap.size W1).grown hgrow (Nat.le_refl _) (by simp)
      exact ⟨b1.below b1.lt hb, Own.of_row (List.replicate 16 0) (vals_zero _) hown, b1.lt, hbw1.trans (hb.mono hbw1.size)⟩
    clear hown hgrow hi hz0 hz1 hz2 b1 hbw1
    generalize W1.heap.size = g at *
    clear W0 W1
    go_upto_region 6 with fail
    go_loopw [8] (fun y wr => ∃ i : Nat, i ≤ 4 ∧ y = .int .i64 i ∧ Rd w cs g (mgL i) wr) (fun y _ => 4 - (intOf y).toNat)
    case atStart => exact ⟨0, by omega, rfl, K0⟩
    case round =>
      clear K0
      obtain ⟨i, hi4, rfl, K⟩ := hrel
      by_cases h4 : i < 4
      · rcases (show i = 0 ∨ i = 1 ∨ i = 2 ∨ i = 3 by omega) with rfl | rfl | rfl | rfl
        · have cm := (MW.out.below K.bl) 0 (by decide)
          have dh := (K.o.cell 0 (show 0 < 16 by decide)).trans (show _ = some (.int .u8 0) from rfl)
          have fh := K.o.free 0
          replace cm : wr.cell? ⟨0, 0, none⟩ = some (.int .u8 78) := cm
          go_wp2
          go_roundw
          case rel => exact ⟨1, by decide, by go_num, K.put 0 78 rfl⟩
          case measure => simp [intOf]
        · have cm := (MW.out.below K.bl) 1 (by decide)
          have dh := (K.o.cell 1 (show 1 < 16 by decide)).trans (show _ = some (.int .u8 0) from rfl)
          have fh := K.o.free 1
          replace cm : wr.cell? ⟨0, 1, none⟩ = some (.int .u8 69) := cm
          go_wp2
          go_roundw
          case rel => exact ⟨2, by decide, by go_num, K.put 1 69 rfl⟩
          case measure => simp [intOf]
        · have cm := (MW.out.below K.bl) 2 (by decide)
          have dh := (K.o.cell 2 (show 2 < 16 by decide)).trans (show _ = some (.int .u8 0) from rfl)
          have fh := K.o.free 2
          replace cm : wr.cell? ⟨0, 2, none⟩ = some (.int .u8 83) := cm
          go_wp2
          go_roundw
          case rel => exact ⟨3, by decide, by go_num, K.put 2 83 rfl⟩
          case measure => simp [intOf]
        · have cm := (MW.out.below K.bl) 3 (by decide)
          have dh := (K.o.cell 3 (show 3 < 16 by decide)).trans (show _ = some (.int .u8 0) from rfl)
          have fh := K.o.free 3
          replace cm : wr.cell? ⟨0, 3, none⟩ = some (.int .u8 26) := cm
          go_wp2
          go_roundw
          case rel => exact ⟨4, by decide, by go_num, K.put 3 26 rfl⟩
          case measure => simp [intOf]
      · obtain rfl : i = 4 := by omega
        replace K : Rd w cs g [78, 69, 83, 26, 0, 0, 0, 0, 0, 0, 0, 0, 0, 0, 0, 0] wr := K
        generalize wr = W0 at *
        go_upto_region 9 with fail
        clear h4 hi4
        have K0 := K
        clear K
        have Hm := Y.m
        obtain ⟨a15, k15, e15⟩ := C.h15
        obtain ⟨a16, k16, e16⟩ := C.h16
        obtain ⟨a17, k17, e17⟩ := C.h17
        have hnp := Y.np
        have hnq := Y.nq
        have d := (K0.b.cell 16).trans e16
        have g1 : (c.np : Int) / 16384 = ((c.np / 16384 : Nat) : Int) := by omega
        have g2 : ((c.np / 16384 : Nat) : Int) < 256 := by omega
        generalize hy4 : c.np / 16384 = y4 at *
        have HY4 : Hid (c.np / 16384 = y4) := hy4
        clear hy4
        have dh := (K0.o.cell 4 (show 4 < 16 by decide)).trans (show _ = some (.int .u8 ((0 : Nat) : Int)) from rfl)
        have fh := K0.o.free 4
        go_upto_region 10 with fail
        have K1 := K0.put 4 y4 (l' := [78, 69, 83, 26, y4, 0, 0, 0, 0, 0, 0, 0, 0, 0, 0, 0]) rfl
        clear K0 dh fh
        generalize W0.setCell ⟨g, 4, none⟩ (.int .u8 ((y4 : Nat) : Int)) = W1 at *
        clear d g1 g2
        have d := (K1.b.cell 17).trans e17
        have g1 : (c.nq : Int) / 8192 = ((c.nq / 8192 : Nat) : Int) := by omega
        have g2 : ((c.nq / 8192 : Nat) : Int) < 256 := by omega
        generalize hy5 : c.nq / 8192 = y5 at *
        have HY5 : Hid (c.nq / 8192 = y5) := hy5
        clear hy5
        have dh := (K1.o.cell 5 (show 5 < 16 by decide)).trans (show _ = some (.int .u8 ((0 : Nat) : Int)) from rfl)
        have fh := K1.o.free 5
        go_upto_region 11 with fail
        have K2 := K1.put 5 y5 (l' := [78, 69, 83, 26, y4, y5, 0, 0, 0, 0, 0, 0, 0, 0, 0, 0]) rfl
        clear K1 dh fh
        generalize W1.setCell ⟨g, 5, none⟩ (.int .u8 ((y5 : Nat) : Int)) = W2 at *
        clear d g1 g2
        have d1 := (K2.b.cell 1).trans (show _ = some (.int .i64 ((x.m : Nat) : Int)) by rw [C.h1, Y.cm])
        have g1 : ((x.m : Nat) : Int) % 16 = ((x.m % 16 : Nat) : Int) := by omega
        have g2 : ((x.m % 16 : Nat) : Int) < 16 := by omega
        have g3 : ((x.m % 16 : Nat) : Int) * 16 = ((x.m % 16 * 16 : Nat) : Int) := by omega
        have hv0 : x.m % 16 * 16 ≤ 240 := by omega
        generalize hv : x.m % 16 * 16 = v0 at *
        have HV0 : Hid (x.m % 16 * 16 = v0) := hv
        clear hv
        generalize x.m % 16 = y at g1 g2 g3
        have dh := (K2.o.cell 6 (show 6 < 16 by decide)).trans (show _ = some (.int .u8 ((0 : Nat) : Int)) from rfl)
        have fh := K2.o.free 6
        go_upto_region 12 with fail
        have K3 := K2.put 6 v0 (l' := [78, 69, 83, 26, y4, y5, v0, 0, 0, 0, 0, 0, 0, 0, 0, 0]) rfl
        clear K2 dh fh
        generalize W2.setCell ⟨g, 6, none⟩ (.int .u8 ((v0 : Nat) : Int)) = W3 at *
        clear g1 g2 g3 d1
        have d := (K3.b.cell 3).trans C.h3
        have dh := (K3.o.cell 6 (show 6 < 16 by decide)).trans (show _ = some (.int .u8 ((v0 : Nat) : Int)) from rfl)
        have fh := K3.o.free 6
        go_upto_if 51 with fail
        go_cut [] (fun wx => ∃ v1 : Nat, v1 = v0 + (if c.vert then 1 else 0) ∧ Rd w cs g [78, 69, 83, 26, y4, y5, v1, 0, 0, 0, 0, 0, 0, 0, 0, 0] wx)
        case first =>
          cases hz : c.vert
          · rw [hz] at d
            go_wp2
            go_meet
            exact ⟨v0, by rw [hz]; rfl, K3⟩
          · rw [hz] at d
            go_wp2
            go_meet
            exact ⟨v0 + 1, by rw [hz]; rfl, K3.put 6 (v0 + 1) rfl⟩
        case rest =>
        clear K3 d dh fh
        obtain ⟨v1, hv, K4⟩ := hcut
        have HV1 : Hid (v1 = v0 + (if c.vert then 1 else 0)) := hv
        have hv1 : v1 ≤ 241 := by
          rw [hv]
          have := hv0
          split <;> omega
        clear hv
        generalize wc = W4 at *
        have d := (K4.b.cell 5).trans C.h5
        have dh := (K4.o.cell 6 (show 6 < 16 by decide)).trans (show _ = some (.int .u8 ((v1 : Nat) : Int)) from rfl)
        have fh := K4.o.free 6
        go_upto_if 58 with fail
        go_cut [] (fun wx => ∃ v2 : Nat, v2 = v1 + (if c.bat then 2 else 0) ∧ Rd w cs g [78, 69, 83, 26, y4, y5, v2, 0, 0, 0, 0, 0, 0, 0, 0, 0] wx)
        case first =>
          cases hz : c.bat
          · rw [hz] at d
            go_wp2
            go_meet
            exact ⟨v1, by rw [hz]; rfl, K4⟩
          · rw [hz] at d
            go_wp2
            go_meet
            exact ⟨v1 + 2, by rw [hz]; rfl, K4.put 6 (v1 + 2) rfl⟩
        case rest =>
        clear K4 d dh fh
        obtain ⟨v2, hv, K5⟩ := hcut
        have HV2 : Hid (v2 = v1 + (if c.bat then 2 else 0)) := hv
        have hv2 : v2 ≤ 243 := by
          rw [hv]
          have := hv1
          split <;> omega
        clear hv
        generalize wc = W5 at *
        have d := (K5.b.cell 15).trans e15
        have hmt := C.mt
        have dh := (K5.o.cell 6 (show 6 < 16 by decide)).trans (show _ = some (.int .u8 ((v2 : Nat) : Int)) from rfl)
        have fh := K5.o.free 6
        go_upto_if 67 with fail
        go_cut [] (fun wx => ∃ v3 : Nat, v3 = v2 + (if 0 < c.nt then 4 else 0) ∧ Rd w cs g [78, 69, 83, 26, y4, y5, v3, 0, 0, 0, 0, 0, 0, 0, 0, 0] wx)
        case first =>
          by_cases hz : 0 < c.nt
          · have hz' : (0 : Int) < (c.nt : Int) := by omega
            have HZ : Hid (0 < c.nt) := hz
            clear hz
            go_wp2
            go_meet
            exact ⟨v2 + 4, by rw [if_pos HZ.out], K5.put 6 (v2 + 4) rfl⟩
          · have hz' : ¬ (0 : Int) < (c.nt : Int) := by omega
            have HZ : Hid (¬ 0 < c.nt) := hz
            clear hz
            go_wp2
            go_meet
            exact ⟨v2, by rw [if_neg HZ.out]; rfl, K5⟩
        case rest =>
        clear K5 d dh fh hmt
        obtain ⟨v3, hv, K6⟩ := hcut
        have HV3 : Hid (v3 = v2 + (if 0 < c.nt then 4 else 0)) := hv
        have hv3 : v3 ≤ 247 := by
          rw [hv]
          have := hv2
          split <;> omega
        clear hv
        generalize wc = W6 at *
        have d := (K6.b.cell 4).trans C.h4
        have dh := (K6.o.cell 6 (show 6 < 16 by decide)).trans (show _ = some (.int .u8 ((v3 : Nat) : Int)) from rfl)
        have fh := K6.o.free 6
        go_upto_if 74 with fail
        go_cut [] (fun wx => ∃ v4 : Nat, v4 = v3 + (if c.four then 8 else 0) ∧ Rd w cs g [78, 69, 83, 26, y4, y5, v4, 0, 0, 0, 0, 0, 0, 0, 0, 0] wx)
        case first =>
          cases hz : c.four
          · rw [hz] at d
            go_wp2
            go_meet
            exact ⟨v3, by rw [hz]; rfl, K6⟩
          · rw [hz] at d
            go_wp2
            go_meet
            exact ⟨v3 + 8, by rw [hz]; rfl, K6.put 6 (v3 + 8) rfl⟩
        case rest =>
        clear K6 d dh fh
        obtain ⟨v4, hv, K7⟩ := hcut
        have HV4 : Hid (v4 = v3 + (if c.four then 8 else 0)) := hv
        have hv4 : v4 ≤ 255 := by
          rw [hv]
          have := hv3
          split <;> omega
        clear hv
        generalize wc = W7 at *
        have H6 : Hid (h6 c x = v4) := by
          unfold Hid h6
          rw [HV4.out, HV3.out, HV2.out, HV1.out, HV0.out]
        have hf := Y.f
        have np4 : Hid (x.f ≠ 2 → loB c.np 16384 = y4) := fun h => by unfold loB; rw [if_pos (Y.npu.resolve_right fun e => h e.1)]; exact HY4.out
        have nq5 : Hid (x.f ≠ 2 → loB c.nq 8192 = y5) := fun h => by unfold loB; rw [if_pos (Y.nqu.resolve_right fun e => h e.1)]; exact HY5.out
        go_upto_region 20 with fail
        rcases (show x.f = 0 ∨ x.f = 1 ∨ x.f = 2 by omega) with f0 | f1 | f2
        · have d0 := (K7.b.cell 0).trans (show _ = some (.int .i64 0) by rw [C.h0, Y.cf, f0]; rfl)
          have dh := (K7.o.cell 7 (show 7 < 16 by decide)).trans (show _ = some (.int .u8 ((0 : Nat) : Int)) from rfl)
          have fh := K7.o.free 7
          go_upto_region 31 with fail
          have K8 := K7.put 7 4 (l' := [78, 69, 83, 26, y4, y5, v4, 4, 0, 0, 0, 0, 0, 0, 0, 0]) rfl
          clear K7 dh fh
          generalize W7.setCell ⟨g, 7, none⟩ (.int .u8 4) = W8 at *
          clear d0
          have KH : Rd w cs g (hdL c x) W8 := by
            have e : hdL c x = [78, 69, 83, 26, y4, y5, v4, 4, 0, 0, 0, 0, 0, 0, 0, 0] := by unfold hdL; rw [H6.out, if_pos f0, np4.out (by omega), nq5.out (by omega)]; rfl
            rw [e]
            exact K8
          clear K8
          have tx := own_tx (hdL_len c x) (by decide) KH.o
          have hb45 := Below.refl g W8
          have hs45 := Nat.le_of_lt KH.o.lt
          have FW : Hid (∀ W : World, Below g W8 W → Below w.heap.size w W) := fun W h => KH.bl.trans (h.mono (Nat.le_of_lt KH.hg))
          have XW : Hid (∀ W : World, Below g W8 W → Cl W cs c T P Q R) := fun W h => X.below (FW.out W h)
          have BW : Hid (∀ W : World, Below g W8 W → Blk W w.heap.size cs 24) := fun W h => KH.b.below KH.hg h
          have LH : Hid ((hdL c x).length = 16) := hdL_len c x
          have HC : Hid (16 + T.length + P.length + Q.length + R.length ≤ 2097152) := by
            have h := Y.len
            unfold Chk.imageLen at h
            rw [← X.lt, ← X.lp, ← X.lq, ← X.lr] at h
            exact h
          clear KH
          skip
          obtain ⟨aa, ka, ea, ra⟩ := (XW.out _ hb45).rt
          have dd := ((BW.out _ hb45).cell 15).trans ea
          have LT : Hid (T.length = c.nt) := X.lt
          have RT : Hid (Row W8 aa T) := ra
          have LN : Hid ((hdL c x).length + T.length ≤ 140737488355328) := by
            have h := HC.out
            have h2 := LH.out
            unfold Hid
            try simp only [List.length_append]
            omega
          clear ea ra
          go_cut [7] (fun v wx => Tx wx g v (hdL c x ++ T) ∧ Below g W8 wx ∧ g ≤ wx.heap.size)
          case first =>
            go_wp2_with (at_builtin; refine wpList_appR rfl _ _ rfl tx hb45 hs45 rfl rfl LT.out RT.out LN.out ?_; intro v' W6 t6 hb6 hs6)
            go_meet
            exact ⟨t6, hb6, hs6⟩
          case rest =>
          clear tx hb45 hs45 dd LT RT LN
          obtain ⟨tx, hb45, hs45⟩ := hcut
          generalize wc = V1 at *
          go_upto_region 32 with fail
          obtain ⟨aa, ka, ea, ra⟩ := (XW.out _ hb45).rp
          have dd := ((BW.out _ hb45).cell 16).trans ea
          have LT : Hid (P.length = c.np) := X.lp
          have RT : Hid (Row V1 aa P) := ra
          have LN : Hid ((hdL c x ++ T).length + P.length ≤ 140737488355328) := by
            have h := HC.out
            have h2 := LH.out
            unfold Hid
            try simp only [List.length_append]
            omega
          clear ea ra
          go_cut [7] (fun v wx => Tx wx g v (hdL c x ++ T ++ P) ∧ Below g W8 wx ∧ g ≤ wx.heap.size)
          case first =>
            go_wp2_with (at_builtin; refine wpList_appR rfl _ _ rfl tx hb45 hs45 rfl rfl LT.out RT.out LN.out ?_; intro v' W6 t6 hb6 hs6)
            go_meet
            exact ⟨t6, hb6, hs6⟩
          case rest =>
          clear tx hb45 hs45 dd LT RT LN
          obtain ⟨tx, hb45, hs45⟩ := hcut
          generalize wc = V2 at *
          go_upto_region 33 with fail
          obtain ⟨aa, ka, ea, ra⟩ := (XW.out _ hb45).rq
          have dd := ((BW.out _ hb45).cell 17).trans ea
          have LT : Hid (Q.length = c.nq) := X.lq
          have RT : Hid (Row V2 aa Q) := ra
          have LN : Hid ((hdL c x ++ T ++ P).length + Q.length ≤ 140737488355328) := by
            have h := HC.out
            have h2 := LH.out
            unfold Hid
            try simp only [List.length_append]
            omega
          clear ea ra
          go_cut [7] (fun v wx => Tx wx g v (hdL c x ++ T ++ P ++ Q) ∧ Below g W8 wx ∧ g ≤ wx.heap.size)
          case first =>
            go_wp2_with (at_builtin; refine wpList_appR rfl _ _ rfl tx hb45 hs45 rfl rfl LT.out RT.out LN.out ?_; intro v' W6 t6 hb6 hs6)
            go_meet
            exact ⟨t6, hb6, hs6⟩
          case rest =>
          clear tx hb45 hs45 dd LT RT LN
          obtain ⟨tx, hb45, hs45⟩ := hcut
          generalize wc = V3 at *
          go_upto_region 34 with fail
          obtain ⟨aa, ka, ea, ra⟩ := (XW.out _ hb45).rr
          have dd := ((BW.out _ hb45).cell 18).trans ea
          have LT : Hid (R.length = c.nr) := X.lr
          have RT : Hid (Row V3 aa R) := ra
          have LN : Hid ((hdL c x ++ T ++ P ++ Q).length + R.length ≤ 140737488355328) := by
            have h := HC.out
            have h2 := LH.out
            unfold Hid
            try simp only [List.length_append]
            omega
          clear ea ra
          go_cut [7] (fun v wx => Tx wx g v (hdL c x ++ T ++ P ++ Q ++ R) ∧ Below g W8 wx ∧ g ≤ wx.heap.size)
          case first =>
            go_wp2_with (at_builtin; refine wpList_appR rfl _ _ rfl tx hb45 hs45 rfl rfl LT.out RT.out LN.out ?_; intro v' W6 t6 hb6 hs6)
            go_meet
            exact ⟨t6, hb6, hs6⟩
          case rest =>
          clear tx hb45 hs45 dd LT RT LN
          obtain ⟨tx, hb45, hs45⟩ := hcut
          generalize wc = V4 at *
          go_wp2
          go_ret3
          exact PrOk.good H0.out tx (FW.out _ hb45)
        · have d0 := (K7.b.cell 0).trans (show _ = some (.int .i64 1) by rw [C.h0, Y.cf, f1]; rfl)
          have d1 := (K7.b.cell 1).trans (show _ = some (.int .i64 ((x.m : Nat) : Int)) by rw [C.h1, Y.cm])
          have d6 := (K7.b.cell 6).trans (show _ = some (.int .i64 ((x.k : Nat) : Int)) by rw [C.h6, Y.ck])
          have Hk := Y.k
          have hm1 := Y.m1 f1
          obtain ⟨hsum, hu1, hu2⟩ := Y.w f1
          have g1 : ((x.m : Nat) : Int) / 16 = ((x.m / 16 : Nat) : Int) := by omega
          have g2 : ((x.m / 16 : Nat) : Int) < 16 := by omega
          have g3 : ((x.m / 16 : Nat) : Int) * 16 + ((x.k : Nat) : Int) = ((x.m / 16 * 16 + x.k : Nat) : Int) := by omega
          generalize hv : x.m / 16 * 16 + x.k = v7 at *
          have HV7 : Hid (x.m / 16 * 16 + x.k = v7) := hv
          clear hv
          generalize x.m / 16 = z at g1 g2 g3
          have dh := (K7.o.cell 7 (show 7 < 16 by decide)).trans (show _ = some (.int .u8 ((0 : Nat) : Int)) from rfl)
          have fh := K7.o.free 7
          go_upto_region 25 with fail
          have K8 := K7.put 7 v7 (l' := [78, 69, 83, 26, y4, y5, v4, v7, 0, 0, 0, 0, 0, 0, 0, 0]) rfl
          clear K7 dh fh
          generalize W7.setCell ⟨g, 7, none⟩ (.int .u8 ((v7 : Nat) : Int)) = W8 at *
          clear g1 g2 g3 d1 d6 d0
          have d11 := (K8.b.cell 11).trans C.h11
          have d12 := (K8.b.cell 12).trans C.h12
          have hs : c.pr + c.pn = ((8192 * x.u : Nat) : Int) := by rw [hsum]; simp
          have g2 : ((8192 * x.u : Nat) : Int).tdiv 8192 = ((x.u : Nat) : Int) := by rw [Int.tdiv_eq_ediv_of_nonneg (by omega)]; omega
          have g3 : ((8192 * x.u : Nat) : Int) / 8192 = ((x.u : Nat) : Int) := by omega
          have g5 : ((8192 * x.u : Nat) : Int) ≤ 2097152 := by omega
          clear hsum
          generalize 8192 * x.u = wk at *
          have dh := (K8.o.cell 8 (show 8 < 16 by decide)).trans (show _ = some (.int .u8 ((0 : Nat) : Int)) from rfl)
          have fh := K8.o.free 8
          go_upto_region 26 with fail
          try simp only [g2, g3]
          have K9 := K8.put 8 x.u (l' := [78, 69, 83, 26, y4, y5, v4, v7, x.u, 0, 0, 0, 0, 0, 0, 0]) rfl
          clear K8 dh fh
          generalize W8.setCell ⟨g, 8, none⟩ (.int .u8 ((x.u : Nat) : Int)) = W9 at *
          clear g2 g3 g5 hs d11 d12
          have dh := (K9.o.cell 8 (show 8 < 16 by decide)).trans (show _ = some (.int .u8 ((x.u : Nat) : Int)) from rfl)
          have fh := K9.o.free 8
          go_upto_if 111 with fail
          go_cut [] (fun wx => ∃ u8 : Nat, u8 = (if x.u = 1 then 0 else x.u) ∧ Rd w cs g [78, 69, 83, 26, y4, y5, v4, v7, u8, 0, 0, 0, 0, 0, 0, 0] wx)
          case first =>
            by_cases hu : x.u = 1
            · have hu' : (((x.u : Nat) : Int) == 1) = true := by rw [beq_iff_eq]; omega
              have HU : Hid (x.u = 1) := hu
              clear hu
              go_wp2
              go_meet
              exact ⟨0, by rw [if_pos HU.out], K9.put 8 0 rfl⟩
            · have hu' : (((x.u : Nat) : Int) == 1) = false := by rw [beq_eq_false_iff_ne]; omega
              have HU : Hid (¬ x.u = 1) := hu
              clear hu
              go_wp2
              go_meet
              exact ⟨x.u, by rw [if_neg HU.out], K9⟩
          case rest =>
          clear K9 dh fh
          obtain ⟨u8, hu8, K10⟩ := hcut
          have HU8 : Hid (u8 = (if x.u = 1 then 0 else x.u)) := hu8
          clear hu8
          generalize wc = W10 at *
          have d8 := (K10.b.cell 8).trans (show _ = some (.int .i64 ((x.t : Nat) : Int)) by rw [C.h8, Y.ct])
          have ht := Y.t
          have g1 : ((x.t : Nat) : Int) % 256 = ((x.t : Nat) : Int) := by omega
          go_upto_region 28 with fail
          have dh := (K10.o.cell 9 (show 9 < 16 by decide)).trans (show _ = some (.int .u8 ((0 : Nat) : Int)) from rfl)
          have fh := K10.o.free 9
          go_upto_region 31 with fail
          try simp only [g1]
          have K11 := K10.put 9 x.t (l' := [78, 69, 83, 26, y4, y5, v4, v7, u8, x.t, 0, 0, 0, 0, 0, 0]) rfl
          clear K10 dh fh
          generalize W10.setCell ⟨g, 9, none⟩ (.int .u8 ((x.t : Nat) : Int)) = W11 at *
          clear g1 d8
          have KH : Rd w cs g (hdL c x) W11 := by
            have e : hdL c x = [78, 69, 83, 26, y4, y5, v4, v7, u8, x.t, 0, 0, 0, 0, 0, 0] := by unfold hdL; rw [H6.out, if_neg (by omega), if_pos f1, np4.out (by omega), nq5.out (by omega), HV7.out, ← HU8.out]; rfl
            rw [e]
            exact K11
          clear K11
          have tx := own_tx (hdL_len c x) (by decide) KH.o
          have hb45 := Below.refl g W11
          have hs45 := Nat.le_of_lt KH.o.lt
          have FW : Hid (∀ W : World, Below g W11 W → Below w.heap.size w W) := fun W h => KH.bl.trans (h.mono (Nat.le_of_lt KH.hg))
          have XW : Hid (∀ W : World, Below g W11 W → Cl W cs c T P Q R) := fun W h => X.below (FW.out W h)
          have BW : Hid (∀ W : World, Below g W11 W → Blk W w.heap.size cs 24) := fun W h => KH.b.below KH.hg h
          have LH : Hid ((hdL c x).length = 16) := hdL_len c x
          have HC : Hid (16 + T.length + P.length + Q.length + R.length ≤ 2097152) := by
            have h := Y.len
            unfold Chk.imageLen at h
            rw [← X.lt, ← X.lp, ← X.lq, ← X.lr] at h
            exact h
          clear KH
          skip
          obtain ⟨aa, ka, ea, ra⟩ := (XW.out _ hb45).rt
          have dd := ((BW.out _ hb45).cell 15).trans ea
          have LT : Hid (T.length = c.nt) := X.lt
          have RT : Hid (Row W11 aa T) := ra
          have LN : Hid ((hdL c x).length + T.length ≤ 140737488355328) := by
            have h := HC.out
            have h2 := LH.out
            unfold Hid
            try simp only [List.length_append]
            omega
          clear ea ra
          go_cut [7] (fun v wx => Tx wx g v (hdL c x ++ T) ∧ Below g W11 wx ∧ g ≤ wx.heap.size)
          case first =>
            go_wp2_with (at_builtin; refine wpList_appR rfl _ _ rfl tx hb45 hs45 rfl rfl LT.out RT.out LN.out ?_; intro v' W6 t6 hb6 hs6)
            go_meet
            exact ⟨t6, hb6, hs6⟩
          case rest =>
          clear tx hb45 hs45 dd LT RT LN
          obtain ⟨tx, hb45, hs45⟩ := hcut
          generalize wc = V1 at *
          go_upto_region 32 with fail
          obtain ⟨aa, ka, ea, ra⟩ := (XW.out _ hb45).rp
          have dd := ((BW.out _ hb45).cell 16).trans ea
          have LT : Hid (P.length = c.np) := X.lp
          have RT : Hid (Row V1 aa P) := ra
          have LN : Hid ((hdL c x ++ T).length + P.length ≤ 140737488355328) := by
            have h := HC.out
            have h2 := LH.out
            unfold Hid
            try simp only [List.length_append]
            omega
          clear ea ra
          go_cut [7] (fun v wx => Tx wx g v (hdL c x ++ T ++ P) ∧ Below g W11 wx ∧ g ≤ wx.heap.size)
          case first =>
            go_wp2_with (at_builtin; refine wpList_appR rfl _ _ rfl tx hb45 hs45 rfl rfl LT.out RT.out LN.out ?_; intro v' W6 t6 hb6 hs6)
            go_meet
            exact ⟨t6, hb6, hs6⟩
          case rest =>
          clear tx hb45 hs45 dd LT RT LN
          obtain ⟨tx, hb45, hs45⟩ := hcut
          generalize wc = V2 at *
          go_upto_region 33 with fail
          obtain ⟨aa, ka, ea, ra⟩ := (XW.out _ hb45).rq
          have dd := ((BW.out _ hb45).cell 17).trans ea
          have LT : Hid (Q.length = c.nq) := X.lq
          have RT : Hid (Row V2 aa Q) := ra
          have LN : Hid ((hdL c x ++ T ++ P).length + Q.length ≤ 140737488355328) := by
            have h := HC.out
            have h2 := LH.out
            unfold Hid
            try simp only [List.length_append]
            omega
          clear ea ra
          go_cut [7] (fun v wx => Tx wx g v (hdL c x ++ T ++ P ++ Q) ∧ Below g W11 wx ∧ g ≤ wx.heap.size)
          case first =>
            go_wp2_with (at_builtin; refine wpList_appR rfl _ _ rfl tx hb45 hs45 rfl rfl LT.out RT.out LN.out ?_; intro v' W6 t6 hb6 hs6)
            go_meet
            exact ⟨t6, hb6, hs6⟩
          case rest =>
          clear tx hb45 hs45 dd LT RT LN
          obtain ⟨tx, hb45, hs45⟩ := hcut
          generalize wc = V3 at *
          go_upto_region 34 with fail
          obtain ⟨aa, ka, ea, ra⟩ := (XW.out _ hb45).rr
          have dd := ((BW.out _ hb45).cell 18).trans ea
          have LT : Hid (R.length = c.nr) := X.lr
          have RT : Hid (Row V3 aa R) := ra
          have LN : Hid ((hdL c x ++ T ++ P ++ Q).length + R.length ≤ 140737488355328) := by
            have h := HC.out
            have h2 := LH.out
            unfold Hid
            try simp only [List.length_append]
            omega
          clear ea ra
          go_cut [7] (fun v wx => Tx wx g v (hdL c x ++ T ++ P ++ Q ++ R) ∧ Below g W11 wx ∧ g ≤ wx.heap.size)
          case first =>
            go_wp2_with (at_builtin; refine wpList_appR rfl _ _ rfl tx hb45 hs45 rfl rfl LT.out RT.out LN.out ?_; intro v' W6 t6 hb6 hs6)
            go_meet
            exact ⟨t6, hb6, hs6⟩
          case rest =>
          clear tx hb45 hs45 dd LT RT LN
          obtain ⟨tx, hb45, hs45⟩ := hcut
          generalize wc = V4 at *
          go_wp2
          go_ret3
          exact PrOk.good H0.out tx (FW.out _ hb45)
        · have d0 := (K7.b.cell 0).trans (show _ = some (.int .i64 2) by rw [C.h0, Y.cf, f2]; rfl)
          go_upto_region 30 with fail
          have MC : Hid (Calls _ _ _ _ _) := modern_any cs c x C Y f2 g y4 y5 v4 W7 K7.o
          go_wp2_with (refine wpList_load_mid rfl 24 _ rfl w.heap.size 0 rfl cs.toList _ K7.b.range Tryd.underlying24 rfl (by rw [Array.length_toList, HS.out]; exact Tryd.infoCart) ?_; rw [Array.toArray_toList])
          refine MC.out.mono ?_
          rintro e W8 ⟨vv, rfl, hbm, om⟩
          have K8 := K7.next hbm om
          clear MC d0
          go_upto_region 31 with fail
          clear hbm om K7
          have KH : Rd w cs g (hdL c x) W8 := by
            have e : hdL c x = [78, 69, 83, 26, loB c.np 16384, loB c.nq 8192, v4, x.m / 16 % 16 * 16 + 8 + x.k, x.s * 16 + x.m / 256, hiB c.np 16384 + hiB c.nq 8192 * 16, x.a1 + x.a2 * 16, x.a3 + x.a4 * 16, x.t, x.kd, x.mi, x.d] := by unfold hdL; rw [H6.out, if_neg (by omega), if_neg (by omega)]; rfl
            rw [e]
            exact K8
          clear K8
          have tx := own_tx (hdL_len c x) (by decide) KH.o
          have hb45 := Below.refl g W8
          have hs45 := Nat.le_of_lt KH.o.lt
          have FW : Hid (∀ W : World, Below g W8 W → Below w.heap.size w W) := fun W h => KH.bl.trans (h.mono (Nat.le_of_lt KH.hg))
          have XW : Hid (∀ W : World, Below g W8 W → Cl W cs c T P Q R) := fun W h => X.below (FW.out W h)
          have BW : Hid (∀ W : World, Below g W8 W → Blk W w.heap.size cs 24) := fun W h => KH.b.below KH.hg h
          have LH : Hid ((hdL c x).length = 16) := hdL_len c x
          have HC : Hid (16 + T.length + P.length + Q.length + R.length ≤ 2097152) := by
            have h := Y.len
            unfold Chk.imageLen at h
            rw [← X.lt, ← X.lp, ← X.lq, ← X.lr] at h
            exact h
          clear KH
          skip
          obtain ⟨aa, ka, ea, ra⟩ := (XW.out _ hb45).rt
          have dd := ((BW.out _ hb45).cell 15).trans ea
          have LT : Hid (T.length = c.nt) := X.lt
          have RT : Hid (Row W8 aa T) := ra
          have LN : Hid ((hdL c x).length + T.length ≤ 140737488355328) := by
            have h := HC.out
            have h2 := LH.out
            unfold Hid
            try simp only [List.length_append]
            omega
          clear ea ra
          go_cut [7] (fun v wx => Tx wx g v (hdL c x ++ T) ∧ Below g W8 wx ∧ g ≤ wx.heap.size)
          case first =>
            go_wp2_with (at_builtin; refine wpList_appR rfl _ _ rfl tx hb45 hs45 rfl rfl LT.out RT.out LN.out ?_; intro v' W6 t6 hb6 hs6)
            go_meet
            exact ⟨t6, hb6, hs6⟩
          case rest =>
          clear tx hb45 hs45 dd LT RT LN
          obtain ⟨tx, hb45, hs45⟩ := hcut
          generalize wc = V1 at *
          go_upto_region 32 with fail
          obtain ⟨aa, ka, ea, ra⟩ := (XW.out _ hb45).rp
          have dd := ((BW.out _ hb45).cell 16).trans ea
          have LT : Hid (P.length = c.np) := X.lp
          have RT : Hid (Row V1 aa P) := ra
          have LN : Hid ((hdL c x ++ T).length + P.length ≤ 140737488355328) := by
            have h := HC.out
            have h2 := LH.out
            unfold Hid
            try simp only [List.length_append]
            omega
          clear ea ra
          go_cut [7] (fun v wx => Tx wx g v (hdL c x ++ T ++ P) ∧ Below g W8 wx ∧ g ≤ wx.heap.size)
          case first =>
            go_wp2_with (at_builtin; refine wpList_appR rfl _ _ rfl tx hb45 hs45 rfl rfl LT.out RT.out LN.out ?_; intro v' W6 t6 hb6 hs6)
            go_meet
            exact ⟨t6, hb6, hs6⟩
          case rest =>
          clear tx hb45 hs45 dd LT RT LN
          obtain ⟨tx, hb45, hs45⟩ := hcut
          generalize wc = V2 at *
          go_upto_region 33 with fail
          obtain ⟨aa, ka, ea, ra⟩ := (XW.out _ hb45).rq
          have dd := ((BW.out _ hb45).cell 17).trans ea
          have LT : Hid (Q.length = c.nq) := X.lq
          have RT : Hid (Row V2 aa Q) := ra
          have LN : Hid ((hdL c x ++ T ++ P).length + Q.length ≤ 140737488355328) := by
            have h := HC.out
            have h2 := LH.out
            unfold Hid
            try simp only [List.length_append]
            omega
          clear ea ra
          go_cut [7] (fun v wx => Tx wx g v (hdL c x ++ T ++ P ++ Q) ∧ Below g W8 wx ∧ g ≤ wx.heap.size)
          case first =>
            go_wp2_with (at_builtin; refine wpList_appR rfl _ _ rfl tx hb45 hs45 rfl rfl LT.out RT.out LN.out ?_; intro v' W6 t6 hb6 hs6)
            go_meet
            exact ⟨t6, hb6, hs6⟩
          case rest =>
          clear tx hb45 hs45 dd LT RT LN
          obtain ⟨tx, hb45, hs45⟩ := hcut
          generalize wc = V3 at *
          go_upto_region 34 with fail
          obtain ⟨aa, ka, ea, ra⟩ := (XW.out _ hb45).rr
          have dd := ((BW.out _ hb45).cell 18).trans ea
          have LT : Hid (R.length = c.nr) := X.lr
          have RT : Hid (Row V3 aa R) := ra
          have LN : Hid ((hdL c x ++ T ++ P ++ Q).length + R.length ≤ 140737488355328) := by
            have h := HC.out
            have h2 := LH.out
            unfold Hid
            try simp only [List.length_append]
            omega
          clear ea ra
          go_cut [7] (fun v wx => Tx wx g v (hdL c x ++ T ++ P ++ Q ++ R) ∧ Below g W8 wx ∧ g ≤ wx.heap.size)
          case first =>
            go_wp2_with (at_builtin; refine wpList_appR rfl _ _ rfl tx hb45 hs45 rfl rfl LT.out RT.out LN.out ?_; intro v' W6 t6 hb6 hs6)
            go_meet
            exact ⟨t6, hb6, hs6⟩
          case rest =>
          clear tx hb45 hs45 dd LT RT LN
          obtain ⟨tx, hb45, hs45⟩ := hcut
          generalize wc = V4 at *
          go_wp2
          go_ret3
          exact PrOk.good H0.out tx (FW.out _ hb45)
  · have u : (ckE c != 0) = true := by simp [h0]
    have H0 : Hid (ckE c ≠ 0) := h0
    clear h0 hx
    go_wp2
    go_ret3
    exact PrOk.bad H0.out hbw1
end Go.Proofs.YtmjolcdocoiaeaaDoor
