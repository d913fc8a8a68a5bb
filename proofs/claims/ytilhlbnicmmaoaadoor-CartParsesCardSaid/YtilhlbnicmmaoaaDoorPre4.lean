/-
  What the document reads of a header; conditions: its bytes lie in the slice.
-/
import Derived.Test.YtilhlbnicmmaoaaDoorPre3
set_option linter.unusedSimpArgs false
set_option linter.unusedVariables false
namespace Go.Proofs.YtilhlbnicmmaoaaDoor
open Go.RowKit
theorem hN_eq {a1 a2 a3 a4 a5 a6 a7 a8 a9 a10 a11 a12 a13 a14 a15 a16 b1 b2 b3 b4 b5 b6 b7 b8 b9 b10 b11 b12 b13 b14 b15 b16 : Int} {x y z : Bool} (h1 : a1 = b1) (h2 : a2 = b2) (h3 : a3 = b3) (h4 : a4 = b4) (h5 : a5 = b5) (h6 : a6 = b6) (h7 : a7 = b7) (h8 : a8 = b8) (h9 : a9 = b9) (h10 : a10 = b10) (h11 : a11 = b11) (h12 : a12 = b12) (h13 : a13 = b13) (h14 : a14 = b14) (h15 : a15 = b15) (h16 : a16 = b16) :
    hN a1 a2 a3 x y z a4 a5 a6 a7 a8 a9 a10 a11 a12 a13 a14 a15 a16 = hN b1 b2 b3 x y z b4 b5 b6 b7 b8 b9 b10 b11 b12 b13 b14 b15 b16 := by subst h1 h2 h3 h4 h5 h6 h7 h8 h9 h10 h11 h12 h13 h14 h15 h16; rfl
/-- The sizes as the document tells them: -1 for one above the bound. -/
def rpg (h : Hq) : Int := if h.f = 2 then rsV h.b4 (h.b9 % 16) 16384 1048576 else ((h.b4 * 16384 : Nat) : Int)
def rch (h : Hq) : Int := if h.f = 2 then rsV h.b5 (h.b9 / 16) 8192 524288 else ((h.b5 * 8192 : Nat) : Int)
/-- The header's cells. -/
def hC (c : CF) (vt fo ba : Bool) (tr pg ch bd : Int) : Array Value := hN c.fmt c.map c.sub vt fo ba c.con c.kind c.tim c.dev c.misc c.pr c.pn c.cr c.cn tr pg ch bd
theorem chr_old (h : Hq) (hf : ¬ h.f = 2) : h.chr = h.b5 * 8192 := by
  unfold Hq.chr Hq.sz
  rw [if_neg hf, if_neg (by decide), Nat.zero_mul, Nat.zero_add]
theorem prg_old (h : Hq) (hf : ¬ h.f = 2) : h.prg = h.b4 * 16384 := by
  unfold Hq.prg Hq.sz
  rw [if_neg hf, if_neg (by decide), Nat.zero_mul, Nat.zero_add]
theorem old_eq (h : Hq) (hf : ¬ h.f = 2) : hN ((h.f : Nat) : Int) ((if h.f = 1 then h.b6 / 16 + h.b7 / 16 * 16 else h.b6 / 16 : Nat) : Int) 0 false false false ((if h.f = 0 then 0 else h.b7 % 4 : Nat) : Int) 0 ((if h.f = 1 then h.b9 % 2 else 0 : Nat) : Int) 0 0
      ((if h.bat then 0 else h.wu * 8192 : Nat) : Int) ((if h.bat then h.wu * 8192 else 0 : Nat) : Int) (if h.b5 = 0 then 8192 else 0) 0 0 ((h.b4 * 16384 : Nat) : Int) ((h.b5 * 8192 : Nat) : Int) ((h.bad : Nat) : Int)
      = hC (h.cf h.cr 0 0 0 0) false false false 0 (rpg h) (rch h) (h.bad : Nat) := by
  have e1 : rpg h = ((h.b4 * 16384 : Nat) : Int) := if_neg hf
  have e2 : rch h = ((h.b5 * 8192 : Nat) : Int) := if_neg hf
  have e3 : h.cr = if h.b5 = 0 then 8192 else 0 := by
    unfold Hq.cr
    rw [if_neg hf, chr_old h hf]
    by_cases h5 : h.b5 = 0
    · rw [if_pos h5, if_pos (by omega)]
    · rw [if_neg h5, if_neg (by omega)]
  rw [e1, e2]
  unfold hC Hq.cf
  refine hN_eq rfl ?_ ?_ rfl ?_ ?_ ?_ ?_ ?_ ?_ e3.symm ?_ rfl rfl rfl rfl
  · show _ = ((if h.f = 2 then h.b6 / 16 + h.b7 / 16 * 16 + h.b8 % 16 * 256 else if h.f = 1 then h.b6 / 16 + h.b7 / 16 * 16 else h.b6 / 16 : Nat) : Int); rw [if_neg hf]
  · show _ = ((if h.f = 2 then h.b8 / 16 else 0 : Nat) : Int); rw [if_neg hf]; rfl
  · show _ = ((if h.f = 2 then h.b13 else 0 : Nat) : Int); rw [if_neg hf]; rfl
  · show _ = ((if h.f = 2 then h.b12 % 4 else if h.f = 1 then h.b9 % 2 else 0 : Nat) : Int); rw [if_neg hf]
  · show _ = ((if h.f = 2 then h.b15 % 64 else 0 : Nat) : Int); rw [if_neg hf]; rfl
  · show _ = ((if h.f = 2 then h.b14 % 4 else 0 : Nat) : Int); rw [if_neg hf]; rfl
  · show _ = ((if h.f = 2 then rz (h.b10 % 16) else if h.bat then 0 else h.wu * 8192 : Nat) : Int); rw [if_neg hf]
  · show _ = ((if h.f = 2 then rz (h.b10 / 16) else if h.bat then h.wu * 8192 else 0 : Nat) : Int); rw [if_neg hf]
  · show _ = ((if h.f = 2 then rz (h.b11 / 16) else 0 : Nat) : Int); rw [if_neg hf]; rfl
theorem modern_eq (h : Hq) (hf : h.f = 2) : hN 2 ((h.b6 / 16 + h.b7 / 16 * 16 + h.b8 % 16 * 256 : Nat) : Int) ((h.b8 / 16 : Nat) : Int) false false false ((h.b7 % 4 : Nat) : Int) ((h.b13 : Nat) : Int) ((h.b12 % 4 : Nat) : Int) ((h.b15 % 64 : Nat) : Int) ((h.b14 % 4 : Nat) : Int)
      ((rz (h.b10 % 16) : Nat) : Int) ((rz (h.b10 / 16) : Nat) : Int) ((rz (h.b11 % 16) : Nat) : Int) ((rz (h.b11 / 16) : Nat) : Int) 0 (rsV h.b4 (h.b9 % 16) 16384 1048576) (rsV h.b5 (h.b9 / 16) 8192 524288) ((h.bad : Nat) : Int)
      = hC (h.cf h.cr 0 0 0 0) false false false 0 (rpg h) (rch h) (h.bad : Nat) := by
  have e1 : rpg h = rsV h.b4 (h.b9 % 16) 16384 1048576 := if_pos hf
  have e2 : rch h = rsV h.b5 (h.b9 / 16) 8192 524288 := if_pos hf
  have e3 : h.cr = ((rz (h.b11 % 16) : Nat) : Int) := if_pos hf
  rw [e1, e2]
  unfold hC Hq.cf
  refine hN_eq ?_ ?_ ?_ ?_ ?_ ?_ ?_ ?_ ?_ ?_ e3.symm ?_ rfl rfl rfl rfl
  · show _ = ((h.f : Nat) : Int); rw [hf]; rfl
  · show _ = ((if h.f = 2 then h.b6 / 16 + h.b7 / 16 * 16 + h.b8 % 16 * 256 else if h.f = 1 then h.b6 / 16 + h.b7 / 16 * 16 else h.b6 / 16 : Nat) : Int); rw [if_pos hf]
  · show _ = ((if h.f = 2 then h.b8 / 16 else 0 : Nat) : Int); rw [if_pos hf]
  · show _ = ((if h.f = 0 then 0 else h.b7 % 4 : Nat) : Int); rw [if_neg (by omega)]
  · show _ = ((if h.f = 2 then h.b13 else 0 : Nat) : Int); rw [if_pos hf]
  · show _ = ((if h.f = 2 then h.b12 % 4 else if h.f = 1 then h.b9 % 2 else 0 : Nat) : Int); rw [if_pos hf]
  · show _ = ((if h.f = 2 then h.b15 % 64 else 0 : Nat) : Int); rw [if_pos hf]
  · show _ = ((if h.f = 2 then h.b14 % 4 else 0 : Nat) : Int); rw [if_pos hf]
  · show _ = ((if h.f = 2 then rz (h.b10 % 16) else if h.bat then 0 else h.wu * 8192 : Nat) : Int); rw [if_pos hf]
  · show _ = ((if h.f = 2 then rz (h.b10 / 16) else if h.bat then h.wu * 8192 else 0 : Nat) : Int); rw [if_pos hf]
  · show _ = ((if h.f = 2 then rz (h.b11 / 16) else 0 : Nat) : Int); rw [if_pos hf]
theorem Hh.all {w W : World} {b off : Nat} {h : Hq} {a a' : Array Value} (K : Hh w b off h a W) (hs : a'.size = a.size) : Hh w b off h a' (W.setCells (w.heap.size + 1) 0 a'.toList) :=
  have hb : Below (w.heap.size + 1) W (W.setCells (w.heap.size + 1) 0 a'.toList) := setCells_below (Nat.le_refl _) _ _ _ _ (Below.refl _ _)
  ⟨K.c.setAll hs, K.r.otherCells (by omega) _ _, K.hl, fun j hj => (hb.cell (p := ⟨b, off + j, none⟩) (by have := K.hl; show b < w.heap.size + 1; omega)).trans (K.ha j hj), setCells_below (by omega) _ _ _ _ K.hb⟩
set_option maxRecDepth 20000 in
set_option maxHeartbeats 4000000 in
theorem rheader_g (h : Hq) (B : h.Ok) (b off n k : Nat) (hn : 16 ≤ n) (w : World) (HA : HdAt w b off h) :
    Calls Tryd.prog 28 #[.slice (some ⟨b, off, none⟩) n k] w fun e w' => e = .returned (.agg (hC (h.cf h.cr 0 0 0 0) (h.cf h.cr 0 0 0 0).vert (h.cf h.cr 0 0 0 0).four (h.cf h.cr 0 0 0 0).bat (h.tr : Nat) (rpg h) (rch h) (h.bad : Nat))) ∧ Below w.heap.size w w' := by
  have FC : Hid (∀ W : World, HdAt W b off h → Calls _ _ _ _ _) := fun W H => rformat_g h B b off n k hn W H
  obtain ⟨ff, hff⟩ : ∃ ff, h.f = ff := ⟨_, rfl⟩
  have hf3 : ff = 0 ∨ ff = 1 ∨ ff = 2 := by rw [← hff]; exact h.f_lt
  have OC : Hid (¬ ff = 2 → ∀ W : World, HdAt W b off h → Calls Tryd.prog 49 #[.slice (some ⟨b, off, none⟩) n k, .int .i64 (ff : Nat)] W fun e w' => e = .returned (.agg (hC (h.cf h.cr 0 0 0 0) false false false 0 (rpg h) (rch h) (h.bad : Nat))) ∧ Below W.heap.size W w') := fun hx W H => by
    have := rold_g h B ff hff (by omega) b off n k hn W H
    rw [← old_eq h (by omega)]
    rw [← hff] at this ⊢
    exact this
  have NC : Hid (ff = 2 → ∀ W : World, HdAt W b off h → Calls Tryd.prog 48 #[.slice (some ⟨b, off, none⟩) n k] W fun e w' => e = .returned (.agg (hC (h.cf h.cr 0 0 0 0) false false false 0 (rpg h) (rch h) (h.bad : Nat))) ∧ Below W.heap.size W w') := fun hx W H => by
    have := rmodern_g h B (by omega) b off n k hn W H
    rw [modern_eq h (by omega)] at this
    exact this
  rw [hff] at FC
  have bt := by_bit h.b6 B.k6
  obtain ⟨y6, hy6⟩ : ∃ y, h.b6 = y := ⟨_, rfl⟩
  have HY6 : Hid (h.b6 = y6) := hy6
  have l6 : y6 < 256 := by rw [← hy6]; exact B.k6
  clear hy6
  have i6 : (6 : Int) < (n : Int) := by omega
  have j6 : 6 < n := by omega
  rw [HY6.out] at bt
  have v1 := bool_bit y6 (bits BinOp.and IntKind.u8 (y6 : Int) 1) 1 (by decide) (by rw [Nat.mul_one]; exact bt.1)
  have v2 := bool_bit (y6 / 2) (bits BinOp.and IntKind.u8 (y6 : Int) 2) 2 (by decide) bt.2.1
  have v4 := bool_bit (y6 / 4) (bits BinOp.and IntKind.u8 (y6 : Int) 4) 4 (by decide) bt.2.2.1
  have v8 := bool_bit (y6 / 8) (bits BinOp.and IntKind.u8 (y6 : Int) 8) 8 (by decide) bt.2.2.2
  obtain ⟨c, hc⟩ : ∃ c, h.cf h.cr 0 0 0 0 = c := ⟨_, rfl⟩
  obtain ⟨vt, hvt⟩ : ∃ vt, c.vert = vt := ⟨_, rfl⟩
  obtain ⟨fo, hfo⟩ : ∃ vt, c.four = vt := ⟨_, rfl⟩
  obtain ⟨ba, hba⟩ : ∃ vt, c.bat = vt := ⟨_, rfl⟩
  have w1 : decide (y6 % 2 = 1) = vt := by rw [← hvt, ← hc, ← HY6.out]; rfl
  have w2 : decide (y6 / 2 % 2 = 1) = ba := by rw [← hba, ← hc, ← HY6.out]; rfl
  have w8 : decide (y6 / 8 % 2 = 1) = fo := by rw [← hfo, ← hc, ← HY6.out]; rfl
  rw [w1] at v1
  rw [w2] at v2
  rw [w8] at v8
  obtain ⟨tb, htb⟩ : ∃ tb, decide (y6 / 4 % 2 = 1) = tb := ⟨_, rfl⟩
  rw [htb] at v4
  obtain ⟨tr, htr⟩ : ∃ tr, h.tr = tr := ⟨_, rfl⟩
  have HTR : Hid (tr = if tb then 512 else 0) := by
    unfold Hid
    rw [← htr]; unfold Hq.tr; rw [HY6.out]
    by_cases hh : y6 / 4 % 2 = 1
    · rw [if_pos hh, ← htb, if_pos (by simpa using hh)]
    · rw [if_neg hh, ← htb, if_neg (by simpa using hh)]
  rw [hc, hvt, hfo, hba, htr]
  rw [hc] at OC NC
  clear hff bt hc hvt hfo hba w1 w2 w8 htb htr B
  generalize rpg h = pg at *
  generalize rch h = ch at *
  generalize h.bad = bd at *
  obtain ⟨RV, hRV⟩ : ∃ RV, RV = hC c vt fo ba (tr : Nat) pg ch (bd : Nat) := ⟨_, rfl⟩
  have HRV : Hid (RV = _) := hRV
  rw [← hRV]
  clear hRV
  obtain ⟨A0, hA0⟩ : ∃ A0, A0 = hC c false false false 0 pg ch (bd : Nat) := ⟨_, rfl⟩
  have HA0 : Hid (A0 = _) := hA0
  rw [← hA0] at OC NC
  have HS0 : Hid (A0.size = 23 ∧ A0.all (·.oneCell') = true) := by rw [hA0]; exact hN_ok _ _ _ _ _ _ _ _ _ _ _ _ _ _ _ _ _ _ _
  clear hA0
  obtain ⟨bf, hbf⟩ : ∃ bf, ((ff : Int) == 2) = bf := ⟨_, rfl⟩
  have HBF : Hid (((ff : Int) == 2) = bf) := hbf
  clear hf3
  go_enter Tryd.func28, Tryd.ntmps28
  go_upto_region 1 with fail
  have HA1 := HA.below ((Below.refl w.heap.size w).alloc (Nat.le_refl _) (.cells Z23 60))
  have FC1 : Hid (Calls _ _ _ _ _) := FC.out _ HA1
  clear FC HA1
  go_wp2_with fail
  refine FC1.out.mono ?_
  rintro e we ⟨rfl, hwe⟩
  rw [hwe]
  clear hwe we FC1
  go_upto_region 3 with fail
  have K0 := Hh.new HA
  generalize (w.alloc (.cells Z23 60)).alloc (.cells Z23 60) = W0 at *
  clear HA
  go_upto_if 8 with fail
  clear hbf
  go_cut [] (fun wx => Hh w b off h A0 wx)
  case first =>
    cases bf
    · have e : ¬ ff = 2 := by have := HBF.out; rw [beq_eq_false_iff_ne] at this; omega
      have OC1 : Hid (Calls _ _ _ _ _) := OC.out e W0 K0.ha
      clear OC NC e
      go_wp2_with fail
      refine OC1.out.mono ?_
      rintro e W1 ⟨rfl, hb1⟩
      have K1 := K0.on hb1
      clear OC1 hb1 K0
      go_wp2_with (refine wpList_store_mid rfl 60 _ _ rfl (w.heap.size + 1) 0 A0 rfl rfl (by exact K1.c.there _ HS0.out.1.symm) (by rw [HS0.out.1]; exact infoHed) HS0.out.2 ?_)
      go_meet
      exact K1.all (by rw [HS0.out.1]; rfl)
    · have e : ff = 2 := by have := HBF.out; rw [beq_iff_eq] at this; omega
      have OC1 : Hid (Calls _ _ _ _ _) := NC.out e W0 K0.ha
      clear OC NC e
      go_wp2_with fail
      refine OC1.out.mono ?_
      rintro e W1 ⟨rfl, hb1⟩
      have K1 := K0.on hb1
      clear OC1 hb1 K0
      go_wp2_with (refine wpList_store_mid rfl 60 _ _ rfl (w.heap.size + 1) 0 A0 rfl rfl (by exact K1.c.there _ HS0.out.1.symm) (by rw [HS0.out.1]; exact infoHed) HS0.out.2 ?_)
      go_meet
      exact K1.all (by rw [HS0.out.1]; rfl)
  case rest =>
  clear K0 OC NC
  have K1 : Hid (Hh w b off h (hC c false false false 0 pg ch (bd : Nat)) wc) := by unfold Hid; rw [← HA0.out]; exact hcut
  clear hcut HA0 HS0
  generalize wc = W1 at *
  have K1 := K1.out
  unfold hC at K1
  have c6 := K1.at 6 y6 (by decide) HY6.out
  have dh := (K1.c.cell 3).trans (show _ = some (.bool false) from rfl)
  have fh := K1.c.free 3
  go_upto_region 7 with fail
  have K2 : Hh w b off h (hN c.fmt c.map c.sub vt false false c.con c.kind c.tim c.dev c.misc c.pr c.pn c.cr c.cn 0 pg ch ((bd : Nat))) (W1.setCell ⟨w.heap.size + 1, 3, none⟩ (.bool vt)) := K1.put 3 (.bool vt) rfl
  clear K1 dh fh c6
  generalize W1.setCell ⟨w.heap.size + 1, 3, none⟩ (.bool vt) = W2 at *
  have c6 := K2.at 6 y6 (by decide) HY6.out
  have dh := (K2.c.cell 5).trans (show _ = some (.bool false) from rfl)
  have fh := K2.c.free 5
  go_upto_region 8 with fail
  have K3 : Hh w b off h (hN c.fmt c.map c.sub vt false ba c.con c.kind c.tim c.dev c.misc c.pr c.pn c.cr c.cn 0 pg ch ((bd : Nat))) (W2.setCell ⟨w.heap.size + 1, 5, none⟩ (.bool ba)) := K2.put 5 (.bool ba) rfl
  clear K2 dh fh c6
  generalize W2.setCell ⟨w.heap.size + 1, 5, none⟩ (.bool ba) = W3 at *
  have c6 := K3.at 6 y6 (by decide) HY6.out
  have dh := (K3.c.cell 4).trans (show _ = some (.bool false) from rfl)
  have fh := K3.c.free 4
  go_upto_region 9 with fail
  have K4 : Hh w b off h (hN c.fmt c.map c.sub vt fo ba c.con c.kind c.tim c.dev c.misc c.pr c.pn c.cr c.cn 0 pg ch ((bd : Nat))) (W3.setCell ⟨w.heap.size + 1, 4, none⟩ (.bool fo)) := K3.put 4 (.bool fo) rfl
  clear K3 dh fh c6
  generalize W3.setCell ⟨w.heap.size + 1, 4, none⟩ (.bool fo) = W4 at *
  have c6 := K4.at 6 y6 (by decide) HY6.out
  go_upto_if 39 with fail
  clear c6
  go_cut [] (fun wx => Hh w b off h (hN c.fmt c.map c.sub vt fo ba c.con c.kind c.tim c.dev c.misc c.pr c.pn c.cr c.cn ((tr : Nat)) pg ch ((bd : Nat))) wx)
  case first =>
    cases tb
    · have HE : Hid (tr = 0) := HTR.out
      go_wp2
      go_meet
      exact K4.cong (by rw [HE.out]; rfl)
    · have HE : Hid (tr = 512) := HTR.out
      have dh := (K4.c.cell 19).trans (show _ = some (.int .i64 0) from rfl)
      have fh := K4.c.free 19
      go_wp2
      go_meet
      exact (K4.put 19 (.int .i64 512) rfl).cong (by rw [HE.out]; rfl)
  case rest =>
  clear K4
  have K9 : Hid _ := hcut
  clear hcut
  generalize wc = W9 at *
  have K9 := K9.out
  have HC : Hid (((hN c.fmt c.map c.sub vt fo ba c.con c.kind c.tim c.dev c.misc c.pr c.pn c.cr c.cn ((tr : Nat)) pg ch ((bd : Nat))) : Array Value).size = 23 ∧ ((hN c.fmt c.map c.sub vt fo ba c.con c.kind c.tim c.dev c.misc c.pr c.pn c.cr c.cn ((tr : Nat)) pg ch ((bd : Nat))) : Array Value).all (·.oneCell') = true) := hN_ok c.fmt c.map c.sub vt fo ba c.con c.kind c.tim c.dev c.misc c.pr c.pn c.cr c.cn ((tr : Nat)) pg ch ((bd : Nat))
  have bg := K9.c
  have br := K9.r
  have hb2 := K9.hb
  obtain ⟨CC, hCC⟩ : ∃ CC, CC = (hN c.fmt c.map c.sub vt fo ba c.con c.kind c.tim c.dev c.misc c.pr c.pn c.cr c.cn ((tr : Nat)) pg ch ((bd : Nat))) := ⟨_, rfl⟩
  rw [← hCC] at HC bg
  have HCC : Hid (CC = _) := hCC
  clear hCC K9
  go_wp2_with (first
    | refine wpList_load_mid rfl 60 _ rfl (w.heap.size + 1) 0 rfl CC.toList _ bg.range Tryd.underlying60 rfl (by rw [Array.length_toList, HC.out.1]; exact infoHed) ?_
    | refine wpList_store_mid rfl 60 _ _ rfl w.heap.size 0 CC rfl rfl (by exact br.there _ HC.out.1.symm) (by rw [HC.out.1]; exact infoHed) HC.out.2 ?_)
  refine ret_agg1 (m := w.heap.size) (L := CC) Tryd.results28 (by rfl) (br.setAll (L := CC) (by rw [HC.out.1]; rfl)) Tryd.underlying60 rfl (by rw [HC.out.1]; exact infoHed) ?_
  exact ⟨by rw [HRV.out, HCC.out]; rfl, setCells_below (by omega) _ _ _ _ hb2⟩
end Go.Proofs.YtilhlbnicmmaoaaDoor
