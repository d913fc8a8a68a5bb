/-
  What the document reads of an elder header; conditions: its bytes lie in the slice.
-/
import Derived.Test.YtilhlbnicmmaoaaDoorPre1
import Derived.Test.YtilhlbnicmmaoaaDoorPag3b
set_option linter.unusedSimpArgs false
set_option linter.unusedVariables false
namespace Go.Proofs.YtilhlbnicmmaoaaDoor
open Go.RowKit
/-- A header told by the document: its cells. -/
def hN (fm mp sb : Int) (vt fo ba : Bool) (cn kd tm dv ms pr pn cr nn tr pg ch bd : Int) : Array Value := #[.int .i64 fm, .int .i64 mp, .int .i64 sb, .bool vt, .bool fo, .bool ba, .int .i64 cn, .int .i64 kd, .int .i64 tm, .int .i64 dv, .int .i64 ms, .int .i64 pr, .int .i64 pn, .int .i64 cr, .int .i64 nn, .slice none 0 0, .slice none 0 0, .slice none 0 0, .slice none 0 0, .int .i64 tr, .int .i64 pg, .int .i64 ch, .int .i64 bd]
abbrev Z23 : Array Value := #[.int .i64 0, .int .i64 0, .int .i64 0, .bool false, .bool false, .bool false, .int .i64 0, .int .i64 0, .int .i64 0, .int .i64 0, .int .i64 0, .int .i64 0, .int .i64 0, .int .i64 0, .int .i64 0, .slice none 0 0, .slice none 0 0, .slice none 0 0, .slice none 0 0, .int .i64 0, .int .i64 0, .int .i64 0, .int .i64 0]
/-- The document's header in the making, beside the cell of the result. -/
structure Hh (w : World) (b off : Nat) (h : Hq) (a : Array Value) (W : World) : Prop where
  c : Blk W (w.heap.size + 1) a 60
  r : Blk W w.heap.size Z23 60
  hl : b < w.heap.size
  ha : HdAt W b off h
  hb : Below w.heap.size w W
theorem Hh.put {w W : World} {b off : Nat} {h : Hq} {a a' : Array Value} (K : Hh w b off h a W) (i : Nat) (v : Value) (e : a.setIfInBounds i v = a') : Hh w b off h a' (W.setCell ⟨w.heap.size + 1, i, none⟩ v) :=
  have hb := K.hb.setCell (p := ⟨w.heap.size + 1, i, none⟩) (by show w.heap.size ≤ w.heap.size + 1; omega) v
  ⟨e ▸ K.c.set i v, K.r.other (by omega) i v, K.hl, fun j hj => (Below.cell (B := w.heap.size + 1) (p := ⟨b, off + j, none⟩) ((Below.refl _ _).setCell (p := ⟨w.heap.size + 1, i, none⟩) (Nat.le_refl _) v) (by have := K.hl; show b < w.heap.size + 1; omega)).trans (K.ha j hj), hb⟩
theorem Hh.on {w W W' : World} {b off : Nat} {h : Hq} {a : Array Value} (K : Hh w b off h a W) (hb : Below W.heap.size W W') : Hh w b off h a W' :=
  ⟨K.c.below K.c.lt hb, K.r.below K.r.lt hb, K.hl, K.ha.below hb, K.hb.trans (hb.mono K.hb.size)⟩
theorem Hh.off {w W : World} {b off m : Nat} {h : Hq} {a : Array Value} (K : Hh w b off h a W) (hm : w.heap.size + 1 < m) (i : Nat) (v : Value) : Hh w b off h a (W.setCell ⟨m, i, none⟩ v) :=
  have hb := K.hb.setCell (p := ⟨m, i, none⟩) (by show w.heap.size ≤ m; omega) v
  ⟨K.c.other (by omega) i v, K.r.other (by omega) i v, K.hl, fun j hj => (Below.cell (B := m) (p := ⟨b, off + j, none⟩) ((Below.refl _ _).setCell (p := ⟨m, i, none⟩) (Nat.le_refl _) v) (by have := K.hl; show b < m; omega)).trans (K.ha j hj), hb⟩
theorem hN_ok (fm mp sb : Int) (vt fo ba : Bool) (cn kd tm dv ms pr pn cr nn tr pg ch bd : Int) : (hN fm mp sb vt fo ba cn kd tm dv ms pr pn cr nn tr pg ch bd).size = 23 ∧ (hN fm mp sb vt fo ba cn kd tm dv ms pr pn cr nn tr pg ch bd).all (·.oneCell') = true := ⟨rfl, by simp [hN, Value.oneCell']⟩
theorem Hh.drew {w W : World} {b off : Nat} {h : Hq} {a : Array Value} (K : Hh w b off h a W) : Hh w b off h a W.drew := K.on (Below.refl _ _).drew
theorem Hh.at {w W : World} {b off : Nat} {h : Hq} {a : Array Value} (K : Hh w b off h a W) (i v : Nat) (hi : i < 16) (hv : h.l.getD i 0 = v) : W.cell? ⟨b, off + i, none⟩ = some (.int .u8 (v : Nat)) := hv ▸ K.ha i hi
theorem Hh.cong {w W : World} {b off : Nat} {h : Hq} {a a' : Array Value} (K : Hh w b off h a W) (e : a = a') : Hh w b off h a' W := e ▸ K
theorem Hh.new {w : World} {b off : Nat} {h : Hq} (HA : HdAt w b off h) : Hh w b off h Z23 ((w.alloc (.cells Z23 60)).alloc (.cells Z23 60)) :=
  have hb : Below w.heap.size w ((w.alloc (.cells Z23 60)).alloc (.cells Z23 60)) := ((Below.refl _ _).alloc (Nat.le_refl _) _).alloc (by simp) _
  ⟨by have := Blk.new (w.alloc (.cells Z23 60)) Z23 60; rwa [World.size_alloc] at this, (Blk.new w Z23 _).old _, cell_lt (p := ⟨b, off + 0, none⟩) (HA 0 (by decide)), HA.below hb, hb⟩
theorem infoHed : (Tryd.prog.info? 60).map (·.size) = some 23 := by kernel_rfl
theorem infoA16 : (Tryd.prog.info? 32).map (·.size) = some 16 := by kernel_rfl
abbrev OLDM : List Nat := [0, 0, 0, 0, 0, 0, 0, 0, 0, 254, 255, 255, 0, 0, 0, 0]
theorem bad_one (h : Hq) (B : h.Ok) (hf : h.f = 1) : (h.b7 % 4 = 3 → h.bad = 7) ∧ (¬ h.b7 % 4 = 3 → h.bad = fbM h.l OLDM 16 0) := by
  have e : h.rs = [0, 0, 0, 0, 0, 0, 0, if h.b7 % 4 = 3 then 3 else 0, 0, 254, 255, 255, 0, 0, 0, 0] := if_pos hf
  have e2 : h.bad = fbM h.l h.rs 16 0 := fb_fbM h 16 0
  refine ⟨fun h3 => ?_, fun h3 => ?_⟩
  · rw [e2, e, if_pos h3]
    rw [fbM_at h.l _ (8 + 1) 7 rfl (fun j hj => by
      rcases (show j = 0 ∨ j = 1 ∨ j = 2 ∨ j = 3 ∨ j = 4 ∨ j = 5 ∨ j = 6 by omega) with rfl | rfl | rfl | rfl | rfl | rfl | rfl
      · exact and_z h.b0 B.k0
      · exact and_z h.b1 B.k1
      · exact and_z h.b2 B.k2
      · exact and_z h.b3 B.k3
      · exact and_z h.b4 B.k4
      · exact and_z h.b5 B.k5
      · exact and_z h.b6 B.k6)]
    show (if bits BinOp.and IntKind.u8 ((h.b7 : Nat) : Int) 3 = 0 then _ else 7) = 7
    rw [(by_and h.b7 B.k7).2.1, h3]
    rfl
  · rw [e2, e, if_neg h3]
theorem bad_none (h : Hq) (B : h.Ok) (hf : h.f = 0) : h.bad = 0 := by
  have e : h.rs = [0, 0, 0, 0, 0, 0, 0, 0, 0, 0, 0, 0, 0, 0, 0, 0] := by unfold Hq.rs; rw [if_neg (by omega), if_neg (by omega)]
  have e2 : h.bad = fbM h.l h.rs 16 0 := fb_fbM h 16 0
  rw [e2, e]
  refine (fbM_at h.l _ 0 16 rfl fun j hj => ?_).trans rfl
  rcases (show j = 0 ∨ j = 1 ∨ j = 2 ∨ j = 3 ∨ j = 4 ∨ j = 5 ∨ j = 6 ∨ j = 7 ∨ j = 8 ∨ j = 9 ∨ j = 10 ∨ j = 11 ∨ j = 12 ∨ j = 13 ∨ j = 14 ∨ j = 15 by omega) with rfl | rfl | rfl | rfl | rfl | rfl | rfl | rfl | rfl | rfl | rfl | rfl | rfl | rfl | rfl | rfl
  · exact and_z h.b0 B.k0
  · exact and_z h.b1 B.k1
  · exact and_z h.b2 B.k2
  · exact and_z h.b3 B.k3
  · exact and_z h.b4 B.k4
  · exact and_z h.b5 B.k5
  · exact and_z h.b6 B.k6
  · exact and_z h.b7 B.k7
  · exact and_z h.b8 B.k8
  · exact and_z h.b9 B.k9
  · exact and_z h.b10 B.k10
  · exact and_z h.b11 B.k11
  · exact and_z h.b12 B.k12
  · exact and_z h.b13 B.k13
  · exact and_z h.b14 B.k14
  · exact and_z h.b15 B.k15
set_option maxRecDepth 20000 in
set_option maxHeartbeats 4000000 in
theorem rold_g (h : Hq) (B : h.Ok) (ff : Nat) (hff : h.f = ff) (hf2 : ff = 0 ∨ ff = 1) (b off n k : Nat) (hn : 16 ≤ n) (w : World) (HA : HdAt w b off h) :
    Calls Tryd.prog 49 #[.slice (some ⟨b, off, none⟩) n k, .int .i64 (ff : Nat)] w fun e w' => e = .returned (.agg (hN (ff : Nat) ((if ff = 1 then h.b6 / 16 + h.b7 / 16 * 16 else h.b6 / 16 : Nat) : Int) 0 false false false ((if ff = 0 then 0 else h.b7 % 4 : Nat) : Int) 0 ((if ff = 1 then h.b9 % 2 else 0 : Nat) : Int) 0 0
      ((if h.bat then 0 else h.wu * 8192 : Nat) : Int) ((if h.bat then h.wu * 8192 else 0 : Nat) : Int) (if h.b5 = 0 then 8192 else 0) 0 0 ((h.b4 * 16384 : Nat) : Int) ((h.b5 * 8192 : Nat) : Int) ((h.bad : Nat) : Int))) ∧ Below w.heap.size w w' := by
  obtain ⟨y4, hy4⟩ : ∃ y, h.b4 = y := ⟨_, rfl⟩
  have HY4 : Hid (h.b4 = y4) := hy4
  have l4 : y4 < 256 := by rw [← hy4]; exact B.k4
  clear hy4
  obtain ⟨y5, hy5⟩ : ∃ y, h.b5 = y := ⟨_, rfl⟩
  have HY5 : Hid (h.b5 = y5) := hy5
  have l5 : y5 < 256 := by rw [← hy5]; exact B.k5
  clear hy5
  obtain ⟨y6, hy6⟩ : ∃ y, h.b6 = y := ⟨_, rfl⟩
  have HY6 : Hid (h.b6 = y6) := hy6
  have l6 : y6 < 256 := by rw [← hy6]; exact B.k6
  clear hy6
  obtain ⟨y7, hy7⟩ : ∃ y, h.b7 = y := ⟨_, rfl⟩
  have HY7 : Hid (h.b7 = y7) := hy7
  have l7 : y7 < 256 := by rw [← hy7]; exact B.k7
  clear hy7
  obtain ⟨y8, hy8⟩ : ∃ y, h.b8 = y := ⟨_, rfl⟩
  have HY8 : Hid (h.b8 = y8) := hy8
  have l8 : y8 < 256 := by rw [← hy8]; exact B.k8
  clear hy8
  obtain ⟨y9, hy9⟩ : ∃ y, h.b9 = y := ⟨_, rfl⟩
  have HY9 : Hid (h.b9 = y9) := hy9
  have l9 : y9 < 256 := by rw [← hy9]; exact B.k9
  clear hy9
  have i4 : (4 : Int) < (n : Int) := by omega
  have j4 : 4 < n := by omega
  have i5 : (5 : Int) < (n : Int) := by omega
  have j5 : 5 < n := by omega
  have i6 : (6 : Int) < (n : Int) := by omega
  have j6 : 6 < n := by omega
  have i7 : (7 : Int) < (n : Int) := by omega
  have j7 : 7 < n := by omega
  have i8 : (8 : Int) < (n : Int) := by omega
  have j8 : 8 < n := by omega
  have i9 : (9 : Int) < (n : Int) := by omega
  have j9 : 9 < n := by omega
  obtain ⟨mp, hmp⟩ : ∃ mp : Nat, (if ff = 1 then h.b6 / 16 + h.b7 / 16 * 16 else h.b6 / 16) = mp := ⟨_, rfl⟩
  obtain ⟨co, hco⟩ : ∃ co : Nat, (if ff = 0 then 0 else h.b7 % 4) = co := ⟨_, rfl⟩
  obtain ⟨tm, htm⟩ : ∃ tm : Nat, (if ff = 1 then h.b9 % 2 else 0) = tm := ⟨_, rfl⟩
  obtain ⟨wk, hwk⟩ : ∃ wk : Nat, h.wu * 8192 = wk := ⟨_, rfl⟩
  obtain ⟨bd, hbd⟩ : ∃ bd : Nat, h.bad = bd := ⟨_, rfl⟩
  obtain ⟨ba, hba⟩ : ∃ ba : Bool, h.bat = ba := ⟨_, rfl⟩
  obtain ⟨fv, hfv⟩ : ∃ fv : Nat, fbM h.l OLDM 16 0 = fv := ⟨_, rfl⟩
  have H1 : Hid (ff = 1 → ((y6 / 16 + y7 / 16 * 16 = mp ∧ y7 % 4 = co) ∧ (y9 % 2 = tm ∧ max y8 1 * 8192 = wk)) ∧ ((y7 % 4 = 3 → bd = 7) ∧ (¬ y7 % 4 = 3 → bd = fv))) := fun e => by
    subst e
    have e7 : h.wu = max h.b8 1 := if_pos hff
    have e8 := bad_one h B hff
    rw [HY6.out, HY7.out] at hmp
    rw [HY7.out] at hco e8
    rw [HY9.out] at htm
    rw [HY8.out] at e7
    rw [hbd, hfv] at e8
    exact ⟨⟨⟨hmp, hco⟩, htm, by rw [← hwk, e7]⟩, e8⟩
  have H0 : Hid (ff = 0 → ((y6 / 16 = mp ∧ 0 = co) ∧ (0 = tm ∧ 8192 = wk)) ∧ bd = 0) := fun e => by
    subst e
    have e7 : h.wu = 1 := if_neg (by omega)
    have e8 := bad_none h B hff
    rw [HY6.out] at hmp
    exact ⟨⟨⟨hmp, hco⟩, htm, by rw [← hwk, e7]⟩, by rw [← hbd, e8]⟩
  have v2 := bool_bit (y6 / 2) (bits BinOp.and IntKind.u8 (y6 : Int) 2) 2 (by decide) (by_bit y6 l6).2.1
  have e2 : decide (y6 / 2 % 2 = 1) = ba := by rw [← hba, ← HY6.out]; rfl
  rw [e2] at v2
  rw [hmp, hco, htm, hwk, hbd, hba, HY4.out, HY5.out]
  have HFF : Hid (h.f = ff) := hff
  clear hmp hco htm hwk hbd hba hff e2
  have HB : Hid h.Ok := B
  have MC : Hid (∀ (ms : Array Value) (W : World), ms = (vals OLDM).toArray → HdAt W b off h → Calls Tryd.prog 66 #[.agg ms, .slice (some ⟨b, off, none⟩) n k] W fun e w' => e = .returned (.int .i64 (fv : Nat)) ∧ Below W.heap.size W w') := fun ms W e H => by have := rmarks_g h OLDM rfl ms e b off n k hn W H; rwa [hfv] at this
  have m6 : (y6 : Int) / 16 = ((y6 / 16 : Nat) : Int) := by omega
  have hm6 : y6 / 16 < 16 := by omega
  obtain ⟨s6, hs6⟩ : ∃ s6 : Nat, y6 / 16 = s6 := ⟨_, rfl⟩
  have HS6 : Hid (y6 / 16 = s6) := hs6
  rw [hs6] at m6 hm6
  clear hs6 B
  obtain ⟨p4, hp4⟩ : ∃ p4 : Nat, y4 * 16384 = p4 := ⟨_, rfl⟩
  have g4 : (y4 : Int) * 16384 = (p4 : Int) := by omega
  have lp4 : p4 ≤ 255 * 16384 := by omega
  obtain ⟨p5, hp5⟩ : ∃ p5 : Nat, y5 * 8192 = p5 := ⟨_, rfl⟩
  have g5 : (y5 : Int) * 8192 = (p5 : Int) := by omega
  have lp5 : p5 ≤ 255 * 8192 := by omega
  have HP5 : Hid (y5 * 8192 = p5) := hp5
  rw [hp4, hp5]
  clear hp4 hp5
  obtain ⟨bf, hbf⟩ : ∃ bf, ((ff : Int) == 1) = bf := ⟨_, rfl⟩
  have HBF : Hid (((ff : Int) == 1) = bf) := hbf
  obtain ⟨RV, hRV⟩ : ∃ RV, RV = hN (ff : Nat) (mp : Nat) 0 false false false (co : Nat) 0 (tm : Nat) 0 0 ((if ba then 0 else wk : Nat) : Int) ((if ba then wk else 0 : Nat) : Int) (if y5 = 0 then 8192 else 0) 0 0 (p4 : Nat) (p5 : Nat) (bd : Nat) := ⟨_, rfl⟩
  have HRV : Hid (RV = _) := hRV
  rw [← hRV]
  clear hRV
  go_enter Tryd.func49, Tryd.ntmps49
  go_upto_region 2 with fail
  have K0 := Hh.new HA
  generalize (w.alloc (.cells Z23 60)).alloc (.cells Z23 60) = W0 at *
  have K0 : Hh w b off h (hN 0 0 0 false false false 0 0 0 0 0 0 0 0 0 0 0 0 0) W0 := K0
  clear HA
  have dh := (K0.c.cell 0).trans (show _ = some (.int .i64 (0 : Int)) from rfl)
  have fh := K0.c.free 0
  go_upto_region 3 with fail
  have K1 : Hh w b off h (hN ((ff : Nat)) 0 0 false false false 0 0 0 0 0 0 0 0 0 0 0 0 0) (W0.setCell ⟨w.heap.size + 1, 0, none⟩ (.int .i64 ((ff : Nat) : Int))) := K0.put 0 (.int .i64 ((ff : Nat) : Int)) rfl
  clear K0 dh fh
  generalize W0.setCell ⟨w.heap.size + 1, 0, none⟩ (.int .i64 ((ff : Nat) : Int)) = W1 at *
  have c6 := K1.at 6 y6 (by decide) HY6.out
  have dh := (K1.c.cell 1).trans (show _ = some (.int .i64 (0 : Int)) from rfl)
  have fh := K1.c.free 1
  go_upto_region 4 with fail
  have K2 : Hh w b off h (hN ((ff : Nat)) ((s6 : Nat)) 0 false false false 0 0 0 0 0 0 0 0 0 0 0 0 0) (W1.setCell ⟨w.heap.size + 1, 1, none⟩ (.int .i64 ((s6 : Nat) : Int))) := K1.put 1 (.int .i64 ((s6 : Nat) : Int)) rfl
  clear K1 dh fh c6
  generalize W1.setCell ⟨w.heap.size + 1, 1, none⟩ (.int .i64 ((s6 : Nat) : Int)) = W2 at *
  have c4 := K2.at 4 y4 (by decide) HY4.out
  have dh := (K2.c.cell 20).trans (show _ = some (.int .i64 (0 : Int)) from rfl)
  have fh := K2.c.free 20
  go_upto_region 5 with fail
  have K3 : Hh w b off h (hN ((ff : Nat)) ((s6 : Nat)) 0 false false false 0 0 0 0 0 0 0 0 0 0 ((p4 : Nat)) 0 0) (W2.setCell ⟨w.heap.size + 1, 20, none⟩ (.int .i64 ((p4 : Nat) : Int))) := K2.put 20 (.int .i64 ((p4 : Nat) : Int)) rfl
  clear K2 dh fh c4
  generalize W2.setCell ⟨w.heap.size + 1, 20, none⟩ (.int .i64 ((p4 : Nat) : Int)) = W3 at *
  have c5 := K3.at 5 y5 (by decide) HY5.out
  have dh := (K3.c.cell 21).trans (show _ = some (.int .i64 (0 : Int)) from rfl)
  have fh := K3.c.free 21
  go_upto_region 6 with fail
  have K4 : Hh w b off h (hN ((ff : Nat)) ((s6 : Nat)) 0 false false false 0 0 0 0 0 0 0 0 0 0 ((p4 : Nat)) ((p5 : Nat)) 0) (W3.setCell ⟨w.heap.size + 1, 21, none⟩ (.int .i64 ((p5 : Nat) : Int))) := K3.put 21 (.int .i64 ((p5 : Nat) : Int)) rfl
  clear K3 dh fh c5
  generalize W3.setCell ⟨w.heap.size + 1, 21, none⟩ (.int .i64 ((p5 : Nat) : Int)) = W4 at *
  go_upto_if 31 with fail
  clear hbf
  go_cut [6] (fun z wx => z = .int .i64 (wk : Nat) ∧ Hh w b off h (hN (ff : Nat) (mp : Nat) 0 false false false (co : Nat) 0 (tm : Nat) 0 0 0 0 0 0 0 (p4 : Nat) (p5 : Nat) (bd : Nat)) wx)
  case first =>
    cases bf
    · have e : ff = 0 := by have := HBF.out; rw [beq_eq_false_iff_ne] at this; omega
      obtain ⟨⟨⟨e1, e2⟩, e3, e4⟩, e5⟩ := H0.out e
      have HE : Hid ((s6 = mp ∧ 0 = co) ∧ (0 = tm ∧ 0 = bd)) := ⟨⟨HS6.out.symm.trans e1, e2⟩, e3, e5.symm⟩
      have HW : Hid (8192 = wk) := e4
      clear e1 e2 e3 e4 e5 e
      go_wp2
      go_meet
      exact ⟨by rw [← HW.out]; rfl, K4.cong (by rw [← HE.out.1.1, ← HE.out.1.2, ← HE.out.2.1, ← HE.out.2.2]; rfl)⟩
    · have e : ff = 1 := by have := HBF.out; rw [beq_iff_eq] at this; omega
      have H1 : Hid _ := H1.out e
      clear e
      obtain ⟨W7, hW7⟩ : ∃ W7 : World, W4 = W7 := ⟨_, rfl⟩
      clear hW7
      go_upto_region 9 with fail
      have bm : Blk (W4.alloc (.cells Z16 32)) W4.heap.size Z16 32 := Blk.new W4 Z16 _
      have K9 := K4.on ((Below.refl W4.heap.size W4).alloc (Nat.le_refl _) (.cells Z16 32))
      have hg : w.heap.size + 1 < W4.heap.size := K4.c.lt
      generalize W4.heap.size = g at *
      generalize W4.alloc (.cells Z16 32) = W9 at *
      clear K4
      have fm9 := bm.free 9
      have fm10 := bm.free 10
      have fm11 := bm.free 11
      have cm9 := (bm.cell 9).trans (show _ = some (.int .u8 0) from rfl)
      have cm10 := (bm.cell 10).trans (show _ = some (.int .u8 0) from rfl)
      have cm11 := (bm.cell 11).trans (show _ = some (.int .u8 0) from rfl)
      go_upto_region 10 with fail
      have bm2 : Blk (((W9.setCell ⟨g, 9, none⟩ (.int .u8 254)).setCell ⟨g, 10, none⟩ (.int .u8 255)).setCell ⟨g, 11, none⟩ (.int .u8 255)) g (vals OLDM).toArray 32 := ((bm.set 9 _).set 10 _).set 11 _
      have K10 := ((K9.off hg 9 (.int .u8 254)).off hg 10 (.int .u8 255)).off hg 11 (.int .u8 255)
      generalize ((W9.setCell ⟨g, 9, none⟩ (.int .u8 254)).setCell ⟨g, 10, none⟩ (.int .u8 255)).setCell ⟨g, 11, none⟩ (.int .u8 255) = W10 at *
      clear bm K9 fm9 fm10 fm11 cm9 cm10 cm11
      have MC1 : Hid (Calls _ _ _ _ _) := MC.out (vals OLDM).toArray W10 rfl K10.ha
      clear MC
      go_wp2_with (refine wpList_load_mid rfl 32 _ rfl g 0 rfl (vals OLDM).toArray.toList _ bm2.range Tryd.underlying32 rfl (by exact infoA16) ?_; rw [Array.toArray_toList])
      refine MC1.out.mono ?_
      rintro e W11 ⟨rfl, hb1⟩
      have K11 := K10.on hb1
      clear MC1 K10 bm2 hb1
      have dh := (K11.c.cell 22).trans (show _ = some (.int .i64 (0 : Int)) from rfl)
      have fh := K11.c.free 22
      go_upto_region 11 with fail
      have K12 : Hh w b off h (hN ((ff : Nat)) ((s6 : Nat)) 0 false false false 0 0 0 0 0 0 0 0 0 0 ((p4 : Nat)) ((p5 : Nat)) ((fv : Nat))) (W11.setCell ⟨w.heap.size + 1, 22, none⟩ (.int .i64 ((fv : Nat) : Int))) := K11.put 22 (.int .i64 ((fv : Nat) : Int)) rfl
      clear K11 dh fh
      generalize W11.setCell ⟨w.heap.size + 1, 22, none⟩ (.int .i64 ((fv : Nat) : Int)) = W12 at *
      have a3 := (by_and y7 l7).2.1
      obtain ⟨⟨⟨h1a, h1b⟩, h1c, h1d⟩, h1e, h1f⟩ := H1.out
      rw [h1b] at a3 h1e h1f
      have lco : co < 4 := by omega
      have HX : Hid (((y6 / 16 + y7 / 16 * 16 = mp ∧ y9 % 2 = tm) ∧ max y8 1 * 8192 = wk) ∧ ((co = 3 → bd = 7) ∧ (¬ co = 3 → bd = fv))) := ⟨⟨⟨h1a, h1c⟩, h1d⟩, h1e, h1f⟩
      clear H1 h1a h1b h1c h1d h1e h1f
      obtain ⟨b3, hb3⟩ : ∃ b3, ((co : Int) == 3) = b3 := ⟨_, rfl⟩
      have HB3 : Hid (((co : Int) == 3) = b3) := hb3
      have c7 := K12.at 7 y7 (by decide) HY7.out
      go_upto_if 43 with fail
      clear hb3 c7
      go_cut [] (fun wx => Hh w b off h (hN ((ff : Nat)) ((s6 : Nat)) 0 false false false 0 0 0 0 0 0 0 0 0 0 ((p4 : Nat)) ((p5 : Nat)) ((bd : Nat))) wx)
      case first =>
        cases b3
        · have e : bd = fv := HX.out.2.2 (by have := HB3.out; rw [beq_eq_false_iff_ne] at this; omega)
          have HE : Hid (bd = fv) := e
          clear e
          go_wp2
          go_meet
          exact K12.cong (by rw [HE.out])
        · have e : bd = 7 := HX.out.2.1 (by have := HB3.out; rw [beq_iff_eq] at this; omega)
          have HE : Hid (bd = 7) := e
          clear e
          have dh := (K12.c.cell 22).trans (show _ = some (.int .i64 ((fv : Nat) : Int)) from rfl)
          have fh := K12.c.free 22
          go_wp2
          go_meet
          exact (K12.put 22 (.int .i64 7) rfl).cong (by rw [HE.out]; rfl)
      case rest =>
      clear K12
      have K13 : Hid _ := hcut
      clear hcut
      generalize wc = W13 at *
      have K13 := K13.out
      go_upto_region 13 with fail
      have a240 := (by_and y7 l7).2.2.1
      obtain ⟨z7, hz7⟩ : ∃ z, y7 / 16 * 16 = z := ⟨_, rfl⟩
      rw [hz7] at a240
      have lz : z7 < 256 := by omega
      have gs : s6 + z7 = mp := by have := HX.out.1.1.1; have := HS6.out; omega
      have u1 : IntKind.i64.wrap ((z7 : Nat) : Int) = ((z7 : Nat) : Int) := by rw [IntKind.wrap_i64]; omega
      have u2 : IntKind.i64.wrap (((s6 : Nat) : Int) + ((z7 : Nat) : Int)) = ((mp : Nat) : Int) := by rw [IntKind.wrap_i64]; omega
      have lmp : mp < 4096 := by omega
      clear hz7 gs
      have c7 := K13.at 7 y7 (by decide) HY7.out
      have dh := (K13.c.cell 1).trans (show _ = some (.int .i64 ((s6 : Nat) : Int)) from rfl)
      have fh := K13.c.free 1
      refine wp_region_still_tail 11 (by kernel_rfl) (by kernel_rfl) ?_
      simp only [List.take_succ_cons, List.take_zero, List.drop_succ_cons, List.drop_zero]
      repeat still_step
      refine wpStill_nil ?_
      change wpList _ _ _ _ _ W13.drew
      have K14 := K13.drew
      clear K13 dh fh c7 a240 lz u1 u2
      generalize W13.drew = W14 at *
      have dh := (K14.c.cell 1).trans (show _ = some (.int .i64 ((s6 : Nat) : Int)) from rfl)
      have fh := K14.c.free 1
      go_upto_region 14 with fail
      have K15 : Hh w b off h (hN ((ff : Nat)) ((mp : Nat)) 0 false false false 0 0 0 0 0 0 0 0 0 0 ((p4 : Nat)) ((p5 : Nat)) ((bd : Nat))) (W14.setCell ⟨w.heap.size + 1, 1, none⟩ (.int .i64 ((mp : Nat) : Int))) := K14.put 1 (.int .i64 ((mp : Nat) : Int)) rfl
      clear K14 dh fh
      generalize W14.setCell ⟨w.heap.size + 1, 1, none⟩ (.int .i64 ((mp : Nat) : Int)) = W15 at *
      have c7 := K15.at 7 y7 (by decide) HY7.out
      have dh := (K15.c.cell 6).trans (show _ = some (.int .i64 (0 : Int)) from rfl)
      have fh := K15.c.free 6
      go_upto_region 15 with fail
      have K16 : Hh w b off h (hN ((ff : Nat)) ((mp : Nat)) 0 false false false ((co : Nat)) 0 0 0 0 0 0 0 0 0 ((p4 : Nat)) ((p5 : Nat)) ((bd : Nat))) (W15.setCell ⟨w.heap.size + 1, 6, none⟩ (.int .i64 ((co : Nat) : Int))) := K15.put 6 (.int .i64 ((co : Nat) : Int)) rfl
      clear K15 dh fh c7
      generalize W15.setCell ⟨w.heap.size + 1, 6, none⟩ (.int .i64 ((co : Nat) : Int)) = W16 at *
      have a1 := (by_bit y9 l9).1
      rw [HX.out.1.1.2] at a1
      have ltm : tm < 2 := by have := HX.out.1.1.2; omega
      have c9 := K16.at 9 y9 (by decide) HY9.out
      have dh := (K16.c.cell 8).trans (show _ = some (.int .i64 (0 : Int)) from rfl)
      have fh := K16.c.free 8
      go_upto_region 16 with fail
      have K17 : Hh w b off h (hN ((ff : Nat)) ((mp : Nat)) 0 false false false ((co : Nat)) 0 ((tm : Nat)) 0 0 0 0 0 0 0 ((p4 : Nat)) ((p5 : Nat)) ((bd : Nat))) (W16.setCell ⟨w.heap.size + 1, 8, none⟩ (.int .i64 ((tm : Nat) : Int))) := K16.put 8 (.int .i64 ((tm : Nat) : Int)) rfl
      clear K16 dh fh c9
      generalize W16.setCell ⟨w.heap.size + 1, 8, none⟩ (.int .i64 ((tm : Nat) : Int)) = W17 at *
      have c8 := K17.at 8 y8 (by decide) HY8.out
      by_cases z8 : y8 = 0
      · have HW : Hid (8192 = wk) := by have := HX.out.1.2; unfold Hid; omega
        have e : ¬ (0 : Int) < (y8 : Int) := by omega
        clear z8
        go_wp2
        go_meet
        exact ⟨by rw [← HW.out]; rfl, K17⟩
      · have ew : (y8 : Int) * 8192 = (wk : Int) := by have := HX.out.1.2; omega
        have lw : wk ≤ 255 * 8192 := by omega
        have e : (0 : Int) < (y8 : Int) := by omega
        clear z8
        go_wp2
        go_meet
        exact ⟨by go_num, K17⟩
  case rest =>
  clear K4 H1 H0 MC
  obtain ⟨rfl, hcut⟩ := hcut
  have K20 : Hid _ := hcut
  clear hcut
  generalize wc = W20 at *
  have K20 := K20.out
  have c6 := K20.at 6 y6 (by decide) HY6.out
  go_upto_if 83 with fail
  clear c6
  go_cut [] (fun wx => Hh w b off h (hN ((ff : Nat)) ((mp : Nat)) 0 false false false ((co : Nat)) 0 ((tm : Nat)) 0 0 (((if ba then 0 else wk : Nat) : Int)) (((if ba then wk else 0 : Nat) : Int)) 0 0 0 ((p4 : Nat)) ((p5 : Nat)) ((bd : Nat))) wx)
  case first =>
    cases ba
    · have dh := (K20.c.cell 11).trans (show _ = some (.int .i64 0) from rfl)
      have fh := K20.c.free 11
      go_wp2
      go_meet
      exact (K20.put 11 (.int .i64 (wk : Nat)) rfl).cong (by rfl)
    · have dh := (K20.c.cell 12).trans (show _ = some (.int .i64 0) from rfl)
      have fh := K20.c.free 12
      go_wp2
      go_meet
      exact (K20.put 12 (.int .i64 (wk : Nat)) rfl).cong (by rfl)
  case rest =>
  clear K20
  have K21 : Hid _ := hcut
  clear hcut
  generalize wc = W21 at *
  have K21 := K21.out
  obtain ⟨bc, hbc⟩ : ∃ bc, ((p5 : Int) == 0) = bc := ⟨_, rfl⟩
  have HBC : Hid (((p5 : Int) == 0) = bc) := hbc
  have d21 := (K21.c.cell 21).trans (show _ = some (.int .i64 ((p5 : Nat) : Int)) from rfl)
  go_upto_if 92 with fail
  clear hbc d21
  obtain ⟨cr, hcr⟩ : ∃ cr : Int, (if y5 = 0 then 8192 else 0) = cr := ⟨_, rfl⟩
  have HCR : Hid ((if y5 = 0 then 8192 else 0) = cr) := hcr
  clear hcr
  go_cut [] (fun wx => Hh w b off h (hN ((ff : Nat)) ((mp : Nat)) 0 false false false ((co : Nat)) 0 ((tm : Nat)) 0 0 (((if ba then 0 else wk : Nat) : Int)) (((if ba then wk else 0 : Nat) : Int)) cr 0 0 ((p4 : Nat)) ((p5 : Nat)) ((bd : Nat))) wx)
  case first =>
    cases bc
    · have e : ¬ y5 = 0 := by have := HBC.out; rw [beq_eq_false_iff_ne] at this; have := HP5.out; omega
      have HE : Hid (0 = cr) := by have := HCR.out; rwa [if_neg e] at this
      clear e
      go_wp2
      go_meet
      exact K21.cong (by rw [← HE.out])
    · have e : y5 = 0 := by have := HBC.out; rw [beq_iff_eq] at this; have := HP5.out; omega
      have HE : Hid (8192 = cr) := by have := HCR.out; rwa [if_pos e] at this
      clear e
      have dh := (K21.c.cell 13).trans (show _ = some (.int .i64 0) from rfl)
      have fh := K21.c.free 13
      go_wp2
      go_meet
      exact (K21.put 13 (.int .i64 8192) rfl).cong (by rw [← HE.out]; rfl)
  case rest =>
  clear K21
  have K22 : Hid _ := hcut
  clear hcut
  generalize wc = W22 at *
  have K22 := K22.out
  have HCR2 : Hid (cr = if y5 = 0 then 8192 else 0) := HCR.out.symm
  have HC : Hid (((hN ((ff : Nat)) ((mp : Nat)) 0 false false false ((co : Nat)) 0 ((tm : Nat)) 0 0 (((if ba then 0 else wk : Nat) : Int)) (((if ba then wk else 0 : Nat) : Int)) cr 0 0 ((p4 : Nat)) ((p5 : Nat)) ((bd : Nat))) : Array Value).size = 23 ∧ ((hN ((ff : Nat)) ((mp : Nat)) 0 false false false ((co : Nat)) 0 ((tm : Nat)) 0 0 (((if ba then 0 else wk : Nat) : Int)) (((if ba then wk else 0 : Nat) : Int)) cr 0 0 ((p4 : Nat)) ((p5 : Nat)) ((bd : Nat))) : Array Value).all (·.oneCell') = true) := hN_ok ((ff : Nat)) ((mp : Nat)) 0 false false false ((co : Nat)) 0 ((tm : Nat)) 0 0 (((if ba then 0 else wk : Nat) : Int)) (((if ba then wk else 0 : Nat) : Int)) cr 0 0 ((p4 : Nat)) ((p5 : Nat)) ((bd : Nat))
  have bg := K22.c
  have br := K22.r
  have hb2 := K22.hb
  obtain ⟨CC, hCC⟩ : ∃ CC, CC = (hN ((ff : Nat)) ((mp : Nat)) 0 false false false ((co : Nat)) 0 ((tm : Nat)) 0 0 (((if ba then 0 else wk : Nat) : Int)) (((if ba then wk else 0 : Nat) : Int)) cr 0 0 ((p4 : Nat)) ((p5 : Nat)) ((bd : Nat))) := ⟨_, rfl⟩
  rw [← hCC] at HC bg
  have HCC : Hid (CC = _) := hCC
  clear hCC K22
  go_wp2_with (first
    | refine wpList_load_mid rfl 60 _ rfl (w.heap.size + 1) 0 rfl CC.toList _ bg.range Tryd.underlying60 rfl (by rw [Array.length_toList, HC.out.1]; exact infoHed) ?_
    | refine wpList_store_mid rfl 60 _ _ rfl w.heap.size 0 CC rfl rfl (by exact br.there _ HC.out.1.symm) (by rw [HC.out.1]; exact infoHed) HC.out.2 ?_)
  refine ret_agg1 (m := w.heap.size) (L := CC) Tryd.results49 (by rfl) (br.setAll (L := CC) (by rw [HC.out.1]; rfl)) Tryd.underlying60 rfl (by rw [HC.out.1]; exact infoHed) ?_
  exact ⟨by rw [HRV.out, HCC.out, HCR2.out], setCells_below (by omega) _ _ _ _ hb2⟩
end Go.Proofs.YtilhlbnicmmaoaaDoor
