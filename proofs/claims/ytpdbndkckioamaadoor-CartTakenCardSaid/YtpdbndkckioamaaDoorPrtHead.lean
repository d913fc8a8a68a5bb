/-
  What headOf answers: the sixteen bytes; conditions: the cartridge may be printed, the table of the library lies in its variable.
-/
import Derived.Test.YtpdbndkckioamaaDoorPrtLeaf
import Derived.StillTailTactics
namespace Go.Proofs.YtpdbndkckioamaaDoor
open Go.RowKit
abbrev Z16 : Array Value := #[.int .u8 0, .int .u8 0, .int .u8 0, .int .u8 0, .int .u8 0, .int .u8 0, .int .u8 0, .int .u8 0, .int .u8 0, .int .u8 0, .int .u8 0, .int .u8 0, .int .u8 0, .int .u8 0, .int .u8 0, .int .u8 0]
theorem infoHdr : (Tryd.prog.info? 67).map (·.size) = some 16 := by kernel_rfl
theorem vals_set (l : List Nat) (i v : Nat) : (vals l).toArray.setIfInBounds i (.int .u8 (v : Nat)) = (vals (l.set i v)).toArray := by
  simp [vals, List.map_set]
theorem Blk.cong {W : World} {m : Nat} {a a' : Array Value} {t : TypeId} (h : Blk W m a t) (e : a = a') : Blk W m a' t := e ▸ h
/-- The argument's block, the result's, and that of the header in the making. -/
structure Hd (w : World) (cs : Array Value) (l : List Nat) (W : World) : Prop where
  b : Blk W w.heap.size cs 25
  z : Blk W (w.heap.size + 1) Z16 67
  h : Blk W (w.heap.size + 1 + 1) (vals l).toArray 67
  bl : Below w.heap.size w W
theorem Hd.below {w W W' : World} {cs : Array Value} {l : List Nat} (K : Hd w cs l W) (hb : Below W.heap.size W W') : Hd w cs l W' := ⟨K.b.below K.b.lt hb, K.z.below K.z.lt hb, K.h.below K.h.lt hb, K.bl.trans (hb.mono K.bl.size)⟩
theorem Hd.drew {w W : World} {cs : Array Value} {l : List Nat} (K : Hd w cs l W) : Hd w cs l W.drew := ⟨K.b.drew, K.z.drew, K.h.drew, K.bl.drew⟩
theorem Hd.put {w W : World} {cs : Array Value} {l : List Nat} (K : Hd w cs l W) (i v : Nat) {l' : List Nat} (e : l.set i v = l') : Hd w cs l' (W.setCell ⟨w.heap.size + 1 + 1, i, none⟩ (.int .u8 (v : Nat))) :=
  ⟨K.b.other (by omega) i _, K.z.other (by omega) i _, (K.h.set i (.int .u8 (v : Nat))).cong (by rw [vals_set, e]), K.bl.setCell (p := ⟨w.heap.size + 1 + 1, i, none⟩) (by show w.heap.size ≤ w.heap.size + 1 + 1; omega) _⟩
theorem bit_0 (b : Bool) (w : World) : Calls Tryd.prog 53 #[.bool b, .int .i64 0] w fun e w' => e = .returned (.int .u8 (bv b 0 : Nat)) ∧ w' = w := bit_any b 0 (by decide) w
theorem bit_1 (b : Bool) (w : World) : Calls Tryd.prog 53 #[.bool b, .int .i64 1] w fun e w' => e = .returned (.int .u8 (bv b 1 : Nat)) ∧ w' = w := bit_any b 1 (by decide) w
theorem bit_2 (b : Bool) (w : World) : Calls Tryd.prog 53 #[.bool b, .int .i64 2] w fun e w' => e = .returned (.int .u8 (bv b 2 : Nat)) ∧ w' = w := bit_any b 2 (by decide) w
theorem bit_3 (b : Bool) (w : World) : Calls Tryd.prog 53 #[.bool b, .int .i64 3] w fun e w' => e = .returned (.int .u8 (bv b 3 : Nat)) ∧ w' = w := bit_any b 3 (by decide) w
theorem w8_of {n v : Int} (h : n % 256 = v) : IntKind.u8.wrap n = v := by rw [IntKind.wrap_u8]; exact h
theorem Tz.drew {w : World} (T : Tz w) : Tz w.drew := T
theorem sz8 : ∀ w : World, (Go.sizeOf 5).run Tryd.prog w = .ok 1 w := by
  intro w
  obtain ⟨i0, hi, _, hz, _⟩ := info_parts Tryd.infoU8
  simp [Go.sizeOf, typeInfo, hi, hz]
set_option maxRecDepth 100000 in
set_option maxHeartbeats 3200000 in
theorem head_any (cs : Array Value) (c : CF) (x : HN) (C : IsC cs c) (X : Hb c x) (w : World) (T : Tz w) :
    Calls Tryd.prog 35 #[.agg cs] w fun e w' => e = .returned (.agg (vals (hdL c x)).toArray) ∧ Below w.heap.size w w' := by
  have hsz := C.size
  have TT : Hid (Tz w) := T
  go_enter Tryd.func35, Tryd.ntmps35
  go_upto_region 2 with fail
  have K0 : Hd w cs (List.replicate 16 0) (((w.alloc (.cells cs 25)).alloc (.cells Z16 67)).alloc (.cells Z16 67)) :=
    ⟨((Blk.new w cs _).old _).old _, by have := (Blk.new (w.alloc (.cells cs 25)) Z16 67).old (.cells Z16 67); rwa [World.size_alloc] at this, by have := Blk.new ((w.alloc (.cells cs 25)).alloc (.cells Z16 67)) Z16 67; rw [World.size_alloc, World.size_alloc] at this; exact this, (((Below.refl _ _).alloc (Nat.le_refl _) _).alloc (by simp) _).alloc (by simp; omega) _⟩
  generalize ((w.alloc (.cells cs 25)).alloc (.cells Z16 67)).alloc (.cells Z16 67) = W0 at *
  clear hsz T
  have HC : Hid (∀ j, j < 4 → (W0.cell? ⟨w.heap.size + 1 + 1, 0 + j, none⟩).isSome = true) := by
    intro j hj
    rw [Nat.zero_add, K0.h.cell j]
    rcases (show j = 0 ∨ j = 1 ∨ j = 2 ∨ j = 3 by omega) with rfl | rfl | rfl | rfl <;> rfl
  have HF : Hid (∀ j, j < 4 → W0.frozen? ⟨w.heap.size + 1 + 1, 0 + j, none⟩ = false) := by
    intro j _
    rw [Nat.zero_add]
    exact K0.h.free j
  go_upto_region 3 with (refine wpList_copyS rfl _ _ 22 9 rfl 5 (by kernel_rfl) sz8 (w.heap.size + 1 + 1) 0 16 16 rfl ⟨#[78, 69, 83, 26]⟩ rfl (by decide) HC.out HF.out ?_)
  have K1 : Hd w cs [78, 69, 83, 26, 0, 0, 0, 0, 0, 0, 0, 0, 0, 0, 0, 0] (W0.setCells (w.heap.size + 1 + 1) 0 (List.map (fun x : UInt8 => Value.int IntKind.u8 ((x.toNat : Nat) : Int)) [78, 69, 83, 26])) :=
    (((K0.put 0 78 rfl).put 1 69 rfl).put 2 83 rfl).put 3 26 rfl
  simp only [Act.put]
  generalize W0.setCells (w.heap.size + 1 + 1) 0 (List.map (fun x : UInt8 => Value.int IntKind.u8 ((x.toNat : Nat) : Int)) [78, 69, 83, 26]) = W1 at *
  clear K0 HC HF
  obtain ⟨a16, k16, e16⟩ := C.h16
  obtain ⟨a17, k17, e17⟩ := C.h17
  obtain ⟨a15, k15, e15⟩ := C.h15
  have HM : Hid (c.nt ≤ 140737488351232) := C.mt
  have HP : Hid (loB c.np 16384 < 256 ∧ hiB c.np 16384 < 16 ∧ loB c.nq 8192 < 256 ∧ hiB c.nq 8192 < 16) := by
    have h1 := X.np
    have h2 := X.nq
    refine ⟨lo_lt (fun h e => h (by rw [e])) X.np (by omega) (X.npu.imp id fun h => h.2), ?_, lo_lt (fun h e => h (by rw [e])) (by omega) (by omega) (X.nqu.imp id fun h => h.2), ?_⟩
    all_goals
      unfold hiB
      split <;> decide
  have R1 : Hid (∀ W : World, Tz W → Calls _ _ _ _ _) := fun W T => romBits_any c.np 16384 (.inl rfl) X.np (by have := X.np; omega) (X.npu.imp id fun h => h.2) W T
  have R2 : Hid (∀ W : World, Tz W → Calls _ _ _ _ _) := fun W T => romBits_any c.nq 8192 (.inr rfl) (by have := X.nq; omega) (by have := X.nq; omega) (X.nqu.imp id fun h => h.2) W T
  have HL : Hid (hdL c x = _) := rfl
  unfold hdL at HL
  have HL' : Hid (hdL c x = [78, 69, 83, 26, loB c.np 16384, loB c.nq 8192, h6 c x] ++ (if x.f = 0 then [4, 0, 0, 0, 0, 0, 0, 0, 0] else if x.f = 1 then [x.m / 16 * 16 + x.k, if x.u = 1 then 0 else x.u, x.t, 0, 0, 0, 0, 0, 0]
   else [x.m / 16 % 16 * 16 + 8 + x.k, x.s * 16 + x.m / 256, hiB c.np 16384 + hiB c.nq 8192 * 16, x.a1 + x.a2 * 16, x.a3 + x.a4 * 16, x.t, x.kd, x.mi, x.d])) := rfl
  clear HL
  generalize loB c.np 16384 = p4 at *
  generalize hiB c.np 16384 = p9 at *
  generalize loB c.nq 8192 = q5 at *
  generalize hiB c.nq 8192 = q9 at *
  have d := (K1.b.cell 16).trans e16
  go_wp2_with fail
  refine (R1.out W1 (TT.out.below K1.bl)).mono ?_
  rintro e W1 ⟨rfl, rfl⟩
  go_upto_region 4 with fail
  clear d
  have d := (K1.b.cell 17).trans e17
  go_wp2_with fail
  refine (R2.out W1 (TT.out.below K1.bl)).mono ?_
  rintro e W1 ⟨rfl, rfl⟩
  go_upto_region 5 with fail
  clear d R1 R2
  have dh := (K1.h.cell 4).trans (show _ = some (.int .u8 0) from rfl)
  have fh := K1.h.free 4
  go_upto_region 6 with fail
  have K2 := K1.put 4 p4 (l' := [78, 69, 83, 26, p4, 0, 0, 0, 0, 0, 0, 0, 0, 0, 0, 0]) rfl
  clear K1 dh fh
  generalize W1.setCell ⟨w.heap.size + 1 + 1, 4, none⟩ (.int .u8 (p4 : Nat)) = W2 at *
  have dh := (K2.h.cell 5).trans (show _ = some (.int .u8 0) from rfl)
  have fh := K2.h.free 5
  go_upto_region 7 with fail
  have K3 := K2.put 5 q5 (l' := [78, 69, 83, 26, p4, q5, 0, 0, 0, 0, 0, 0, 0, 0, 0, 0]) rfl
  clear K2 dh fh
  generalize W2.setCell ⟨w.heap.size + 1 + 1, 5, none⟩ (.int .u8 (q5 : Nat)) = W3 at *
  have Hm := X.m
  have HBV := bv_lt c.vert c.bat (decide (0 < c.nt)) c.four
  have d1 := (K3.b.cell 1).trans (show _ = some (.int .i64 ((x.m : Nat) : Int)) by rw [C.h1, X.cm])
  have d3 := (K3.b.cell 3).trans C.h3
  have d4 := (K3.b.cell 4).trans C.h4
  have d5 := (K3.b.cell 5).trans C.h5
  have d15 := (K3.b.cell 15).trans e15
  have B0 : Hid (∀ W : World, _) := fun W => bit_0 c.vert W
  have B1 : Hid (∀ W : World, _) := fun W => bit_1 c.bat W
  have B2 : Hid (∀ W : World, _) := fun W => bit_2 (decide (0 < c.nt)) W
  have B3 : Hid (∀ W : World, _) := fun W => bit_3 c.four W
  have E1 := or_1 c.vert c.bat
  have E2 := or_2 c.vert c.bat (decide (0 < c.nt))
  have E3 := or_3 c.vert c.bat (decide (0 < c.nt)) c.four
  have E4 := or_b (x.m % 16) _ (Nat.mod_lt _ (by decide)) HBV
  have A15 := and15 x.m Hm
  have H6 : Hid (h6 c x = bv c.vert 0 + bv c.bat 1 + bv (decide (0 < c.nt)) 2 + bv c.four 3 + x.m % 16 * 16) := by
    unfold Hid h6 bv
    have : (if decide (0 < c.nt) = true then 2 ^ 2 else 0) = if 0 < c.nt then 4 else 0 := by by_cases hh : 0 < c.nt <;> simp [hh]
    rw [this]
    cases c.vert <;> cases c.bat <;> cases c.four <;> simp <;> omega
  have G : decide ((0 : Int) < ((c.nt : Nat) : Int)) = decide (0 < c.nt) := by by_cases hh : 0 < c.nt <;> simp [hh]
  have S1 : ((x.m % 16 : Nat) : Int) % 256 = ((x.m % 16 : Nat) : Int) := by omega
  have S2 : ((x.m % 16 : Nat) : Int) * 16 % 256 = ((x.m % 16 * 16 : Nat) : Int) := by omega
  generalize bv c.vert 0 + bv c.bat 1 + bv (decide (0 < c.nt)) 2 + bv c.four 3 + x.m % 16 * 16 = v6 at *
  generalize bv c.vert 0 + bv c.bat 1 + bv (decide (0 < c.nt)) 2 + bv c.four 3 = o3 at *
  generalize bv c.vert 0 + bv c.bat 1 + bv (decide (0 < c.nt)) 2 = o2 at *
  generalize bv c.vert 0 + bv c.bat 1 = o1 at *
  generalize bv c.vert 0 = x0 at *
  generalize bv c.bat 1 = x1 at *
  generalize bv (decide (0 < c.nt)) 2 = x2 at *
  generalize bv c.four 3 = x3 at *
  generalize x.m % 16 * 16 = y16 at *
  generalize x.m % 16 = y at *
  clear HBV
  have U1 := w8_of S1
  have U2 := w8_of S2
  have dh := (K3.h.cell 6).trans (show _ = some (.int .u8 0) from rfl)
  have fh := K3.h.free 6
  refine wp_region_still_tail 24 (by kernel_rfl) (by kernel_rfl) ?_
  simp only [List.take_succ_cons, List.take_zero, List.drop_succ_cons, List.drop_zero]
  repeat still_step
  still_call (B0.out _)
  repeat still_step
  still_call (B1.out _)
  repeat still_step
  still_call (B2.out _)
  repeat still_step
  still_call (B3.out _)
  repeat still_step
  refine wpStill_nil ?_
  change wpList _ _ _ _ _ W3.drew
  have K4 := K3.drew
  clear K3 dh fh d1 d3 d4 d5 d15 B0 B1 B2 B3 E1 E2 E3 E4 U1 U2 A15 S1 S2 G
  generalize W3.drew = W4 at *
  have dh := (K4.h.cell 6).trans (show _ = some (.int .u8 0) from rfl)
  have fh := K4.h.free 6
  go_upto_region 8 with fail
  have K5 := K4.put 6 v6 (l' := [78, 69, 83, 26, p4, q5, v6, 0, 0, 0, 0, 0, 0, 0, 0, 0]) rfl
  clear K4 dh fh
  generalize W4.setCell ⟨w.heap.size + 1 + 1, 6, none⟩ (.int .u8 ((v6 : Nat) : Int)) = W5 at *
  have d1 := (K5.b.cell 1).trans (show _ = some (.int .i64 ((x.m : Nat) : Int)) by rw [C.h1, X.cm])
  have d6 := (K5.b.cell 6).trans (show _ = some (.int .i64 ((x.k : Nat) : Int)) by rw [C.h6, X.ck])
  have Hk := X.k
  have A240 := and240 x.m Hm
  have O7 := or_a (x.m / 16 % 16) x.k (Nat.mod_lt _ (by decide)) (by omega)
  have O8 := or_8 (x.m / 16 % 16) x.k (Nat.mod_lt _ (by decide)) Hk
  have S1 : ((x.m / 16 % 16 * 16 : Nat) : Int) % 256 = ((x.m / 16 % 16 * 16 : Nat) : Int) := by omega
  have S2 : ((x.k : Nat) : Int) % 256 = ((x.k : Nat) : Int) := by omega
  have H7 : Hid (x.k + x.m / 16 % 16 * 16 = x.k + x.m / 16 % 16 * 16) := rfl
  have H8 : Hid (x.m / 16 % 16 * 16 + 8 + x.k = x.m / 16 % 16 * 16 + 8 + x.k) := rfl
  generalize hv8 : x.m / 16 % 16 * 16 + 8 + x.k = v8 at *
  generalize hv7 : x.k + x.m / 16 % 16 * 16 = v7 at *
  have V7 : Hid (x.k + x.m / 16 % 16 * 16 = v7 ∧ x.m / 16 % 16 * 16 + 8 + x.k = v8) := ⟨hv7, hv8⟩
  clear hv7 hv8 H7 H8
  generalize x.m / 16 % 16 * 16 = z16 at A240 O7 S1
  have O7b : bits BinOp.or IntKind.u8 ((z16 : Int) % 256) ((x.k : Int) % 256) = (v7 : Int) := by rw [S1, S2]; exact O7
  have dh := (K5.h.cell 7).trans (show _ = some (.int .u8 ((0 : Nat) : Int)) from rfl)
  have fh := K5.h.free 7
  go_upto_region 9 with fail
  have K6 := K5.put 7 v7 (l' := [78, 69, 83, 26, p4, q5, v6, v7, 0, 0, 0, 0, 0, 0, 0, 0]) rfl
  clear K5 dh fh
  generalize W5.setCell ⟨w.heap.size + 1 + 1, 7, none⟩ (.int .u8 ((v7 : Nat) : Int)) = W6 at *
  clear A240 O7 O7b S1 S2 d1 d6
  have hf := X.f
  rcases (show x.f = 0 ∨ x.f = 1 ∨ x.f = 2 by omega) with f0 | f1 | f2
  · have d0 := (K6.b.cell 0).trans (show _ = some (.int .i64 0) by rw [C.h0, X.cf, f0]; rfl)
    have dh := (K6.h.cell 7).trans (show _ = some (.int .u8 ((v7 : Nat) : Int)) from rfl)
    have fh := K6.h.free 7
    go_upto_region 27 with fail
    have K7 := K6.put 7 4 (l' := [78, 69, 83, 26, p4, q5, v6, 4, 0, 0, 0, 0, 0, 0, 0, 0]) rfl
    clear K6 dh fh
    generalize W6.setCell ⟨w.heap.size + 1 + 1, 7, none⟩ (.int .u8 4) = W7 at *
    have HE : Hid (hdL c x = [78, 69, 83, 26, p4, q5, v6, 4, 0, 0, 0, 0, 0, 0, 0, 0]) := by unfold Hid; rw [HL'.out, H6.out, if_pos f0]; rfl
    have HS : Hid ((vals [78, 69, 83, 26, p4, q5, v6, 4, 0, 0, 0, 0, 0, 0, 0, 0]).toArray.size = 16 ∧ (vals [78, 69, 83, 26, p4, q5, v6, 4, 0, 0, 0, 0, 0, 0, 0, 0]).toArray.all (·.oneCell') = true) := ⟨rfl, by simp [vals, Value.oneCell']⟩
    have HEL : Hid ((vals (hdL c x)).toArray = (vals [78, 69, 83, 26, p4, q5, v6, 4, 0, 0, 0, 0, 0, 0, 0, 0]).toArray) := by unfold Hid; rw [HE.out]
    have bh : Blk W7 (w.heap.size + 1 + 1) (vals [78, 69, 83, 26, p4, q5, v6, 4, 0, 0, 0, 0, 0, 0, 0, 0]).toArray 67 := K7.h
    generalize (vals [78, 69, 83, 26, p4, q5, v6, 4, 0, 0, 0, 0, 0, 0, 0, 0]).toArray = L at *
    go_wp2_with (first
      | refine wpList_load_mid rfl 67 _ rfl (w.heap.size + 1 + 1) 0 rfl L.toList _ bh.range Tryd.underlying67 rfl (by rw [Array.length_toList, HS.out.1]; exact infoHdr) ?_
      | refine wpList_store_mid rfl 67 _ _ rfl (w.heap.size + 1) 0 L rfl rfl (by exact K7.z.there _ HS.out.1.symm) (by rw [HS.out.1]; exact infoHdr) HS.out.2 ?_)
    refine ret_agg1 (m := w.heap.size + 1) (L := L) Tryd.results35 (by rfl) (K7.z.setAll (L := L) (by rw [HS.out.1]; rfl)) Tryd.underlying67 rfl (by rw [HS.out.1]; exact infoHdr) ?_
    exact ⟨by rw [HEL.out], setCells_below (by omega) _ _ _ _ K7.bl⟩
  · have d0 := (K6.b.cell 0).trans (show _ = some (.int .i64 1) by rw [C.h0, X.cf, f1]; rfl)
    have d11 := (K6.b.cell 11).trans C.h11
    have d12 := (K6.b.cell 12).trans C.h12
    obtain ⟨hsum, hu1, hu2⟩ := X.w f1
    have hm1 := X.m1 f1
    have d8 := (K6.b.cell 8).trans (show _ = some (.int .i64 ((x.t : Nat) : Int)) by rw [C.h8, X.ct])
    have Ht := X.t
    have S1 : ((x.t : Nat) : Int) % 256 = ((x.t : Nat) : Int) := by omega
    by_cases hu : x.u = 1
    · have hs : c.pr + c.pn = 8192 := by rw [hsum, hu]; rfl
      clear hsum
      have dh := (K6.h.cell 9).trans (show _ = some (.int .u8 ((0 : Nat) : Int)) from rfl)
      have fh := K6.h.free 9
      go_upto_region 27 with fail
      try simp only [S1]
      have K7 := K6.put 9 x.t (l' := [78, 69, 83, 26, p4, q5, v6, v7, 0, x.t, 0, 0, 0, 0, 0, 0]) rfl
      clear K6 dh fh
      generalize W6.setCell ⟨w.heap.size + 1 + 1, 9, none⟩ (.int .u8 ((x.t : Nat) : Int)) = W7 at *
      have HE : Hid (hdL c x = [78, 69, 83, 26, p4, q5, v6, v7, 0, x.t, 0, 0, 0, 0, 0, 0]) := by unfold Hid; rw [HL'.out, H6.out, if_neg (by omega), if_pos f1, if_pos hu, ← V7.out.1, show x.m / 16 % 16 * 16 = x.m / 16 * 16 by omega, Nat.add_comm]; rfl
      have HS : Hid ((vals [78, 69, 83, 26, p4, q5, v6, v7, 0, x.t, 0, 0, 0, 0, 0, 0]).toArray.size = 16 ∧ (vals [78, 69, 83, 26, p4, q5, v6, v7, 0, x.t, 0, 0, 0, 0, 0, 0]).toArray.all (·.oneCell') = true) := ⟨rfl, by simp [vals, Value.oneCell']⟩
      have HEL : Hid ((vals (hdL c x)).toArray = (vals [78, 69, 83, 26, p4, q5, v6, v7, 0, x.t, 0, 0, 0, 0, 0, 0]).toArray) := by unfold Hid; rw [HE.out]
      have bh : Blk W7 (w.heap.size + 1 + 1) (vals [78, 69, 83, 26, p4, q5, v6, v7, 0, x.t, 0, 0, 0, 0, 0, 0]).toArray 67 := K7.h
      generalize (vals [78, 69, 83, 26, p4, q5, v6, v7, 0, x.t, 0, 0, 0, 0, 0, 0]).toArray = L at *
      go_wp2_with (first
        | refine wpList_load_mid rfl 67 _ rfl (w.heap.size + 1 + 1) 0 rfl L.toList _ bh.range Tryd.underlying67 rfl (by rw [Array.length_toList, HS.out.1]; exact infoHdr) ?_
        | refine wpList_store_mid rfl 67 _ _ rfl (w.heap.size + 1) 0 L rfl rfl (by exact K7.z.there _ HS.out.1.symm) (by rw [HS.out.1]; exact infoHdr) HS.out.2 ?_)
      refine ret_agg1 (m := w.heap.size + 1) (L := L) Tryd.results35 (by rfl) (K7.z.setAll (L := L) (by rw [HS.out.1]; rfl)) Tryd.underlying67 rfl (by rw [HS.out.1]; exact infoHdr) ?_
      exact ⟨by rw [HEL.out], setCells_below (by omega) _ _ _ _ K7.bl⟩
    · have hs : c.pr + c.pn = ((8192 * x.u : Nat) : Int) := by rw [hsum]; simp
      have g1 : (8192 : Int) < ((8192 * x.u : Nat) : Int) := by omega
      have g2 : ((8192 * x.u : Nat) : Int).tdiv 8192 = ((x.u : Nat) : Int) := by rw [Int.tdiv_eq_ediv_of_nonneg (by omega)]; omega
      have g3 : ((8192 * x.u : Nat) : Int) / 8192 = ((x.u : Nat) : Int) := by omega
      have g4 : ((x.u : Nat) : Int) % 256 = ((x.u : Nat) : Int) := by omega
      have g5 : ((8192 * x.u : Nat) : Int) ≤ 2097152 := by omega
      clear hsum
      generalize 8192 * x.u = wk at *
      have dh := (K6.h.cell 8).trans (show _ = some (.int .u8 ((0 : Nat) : Int)) from rfl)
      have fh := K6.h.free 8
      go_upto_region 16 with fail
      try simp only [g2, g3, g4]
      have K7 := K6.put 8 x.u (l' := [78, 69, 83, 26, p4, q5, v6, v7, x.u, 0, 0, 0, 0, 0, 0, 0]) rfl
      clear K6 dh fh
      generalize W6.setCell ⟨w.heap.size + 1 + 1, 8, none⟩ (.int .u8 ((x.u : Nat) : Int)) = W7 at *
      have d8 := (K7.b.cell 8).trans (show _ = some (.int .i64 ((x.t : Nat) : Int)) by rw [C.h8, X.ct])
      have d0 := (K7.b.cell 0).trans (show _ = some (.int .i64 1) by rw [C.h0, X.cf, f1]; rfl)
      have dh := (K7.h.cell 9).trans (show _ = some (.int .u8 ((0 : Nat) : Int)) from rfl)
      have fh := K7.h.free 9
      go_upto_region 27 with fail
      try simp only [S1]
      have K8 := K7.put 9 x.t (l' := [78, 69, 83, 26, p4, q5, v6, v7, x.u, x.t, 0, 0, 0, 0, 0, 0]) rfl
      clear K7 dh fh
      generalize W7.setCell ⟨w.heap.size + 1 + 1, 9, none⟩ (.int .u8 ((x.t : Nat) : Int)) = W8 at *
      have HE : Hid (hdL c x = [78, 69, 83, 26, p4, q5, v6, v7, x.u, x.t, 0, 0, 0, 0, 0, 0]) := by unfold Hid; rw [HL'.out, H6.out, if_neg (by omega), if_pos f1, if_neg hu, ← V7.out.1, show x.m / 16 % 16 * 16 = x.m / 16 * 16 by omega, Nat.add_comm]; rfl
      have HS : Hid ((vals [78, 69, 83, 26, p4, q5, v6, v7, x.u, x.t, 0, 0, 0, 0, 0, 0]).toArray.size = 16 ∧ (vals [78, 69, 83, 26, p4, q5, v6, v7, x.u, x.t, 0, 0, 0, 0, 0, 0]).toArray.all (·.oneCell') = true) := ⟨rfl, by simp [vals, Value.oneCell']⟩
      have HEL : Hid ((vals (hdL c x)).toArray = (vals [78, 69, 83, 26, p4, q5, v6, v7, x.u, x.t, 0, 0, 0, 0, 0, 0]).toArray) := by unfold Hid; rw [HE.out]
      have bh : Blk W8 (w.heap.size + 1 + 1) (vals [78, 69, 83, 26, p4, q5, v6, v7, x.u, x.t, 0, 0, 0, 0, 0, 0]).toArray 67 := K8.h
      generalize (vals [78, 69, 83, 26, p4, q5, v6, v7, x.u, x.t, 0, 0, 0, 0, 0, 0]).toArray = L at *
      go_wp2_with (first
        | refine wpList_load_mid rfl 67 _ rfl (w.heap.size + 1 + 1) 0 rfl L.toList _ bh.range Tryd.underlying67 rfl (by rw [Array.length_toList, HS.out.1]; exact infoHdr) ?_
        | refine wpList_store_mid rfl 67 _ _ rfl (w.heap.size + 1) 0 L rfl rfl (by exact K8.z.there _ HS.out.1.symm) (by rw [HS.out.1]; exact infoHdr) HS.out.2 ?_)
      refine ret_agg1 (m := w.heap.size + 1) (L := L) Tryd.results35 (by rfl) (K8.z.setAll (L := L) (by rw [HS.out.1]; rfl)) Tryd.underlying67 rfl (by rw [HS.out.1]; exact infoHdr) ?_
      exact ⟨by rw [HEL.out], setCells_below (by omega) _ _ _ _ K8.bl⟩
  · have d0 := (K6.b.cell 0).trans (show _ = some (.int .i64 2) by rw [C.h0, X.cf, f2]; rfl)
    have dh := (K6.h.cell 7).trans (show _ = some (.int .u8 ((v7 : Nat) : Int)) from rfl)
    have fh := K6.h.free 7
    go_upto_region 19 with fail
    have K7 := K6.put 7 v8 (l' := [78, 69, 83, 26, p4, q5, v6, v8, 0, 0, 0, 0, 0, 0, 0, 0]) rfl
    clear K6 dh fh
    generalize W6.setCell ⟨w.heap.size + 1 + 1, 7, none⟩ (.int .u8 ((v8 : Nat) : Int)) = W7 at *
    have d1 := (K7.b.cell 1).trans (show _ = some (.int .i64 ((x.m : Nat) : Int)) by rw [C.h1, X.cm])
    have d2 := (K7.b.cell 2).trans (show _ = some (.int .i64 ((x.s : Nat) : Int)) by rw [C.h2, X.cs])
    have Hs := X.s
    have g1 : ((x.m : Nat) : Int) / 256 = ((x.m / 256 : Nat) : Int) := by omega
    have g2 : ((x.m / 256 : Nat) : Int) % 256 = ((x.m / 256 : Nat) : Int) := by omega
    have g3 : ((x.s : Nat) : Int) % 256 = ((x.s : Nat) : Int) := by omega
    have g4 : ((x.s : Nat) : Int) * 16 % 256 = ((x.s * 16 : Nat) : Int) := by omega
    have g5 := or_b x.s (x.m / 256) Hs (by omega)
    have HV : Hid (x.m / 256 + x.s * 16 = x.s * 16 + x.m / 256) := Nat.add_comm _ _
    generalize hv : x.m / 256 + x.s * 16 = w8 at *
    have HV8 : Hid (w8 = x.s * 16 + x.m / 256) := HV
    clear HV hv
    have g8 : bits BinOp.or IntKind.u8 ((x.m / 256 : Nat) : Int) ((x.s : Int) * 16) = (w8 : Int) := by rw [show (x.s : Int) * 16 = ((x.s * 16 : Nat) : Int) by simp]; exact g5
    generalize x.s * 16 = s16 at g4 g5
    generalize x.m / 256 = mh at g1 g2 g5 g8
    have g6 : bits BinOp.or IntKind.u8 ((x.m : Int) / 256 % 256) ((x.s : Int) % 256 * 16 % 256) = (w8 : Int) := by rw [g1, g2, g3, g4]; exact g5
    have g7 : bits BinOp.or IntKind.u8 ((mh : Int) % 256) ((x.s : Int) % 256 * 16 % 256) = (w8 : Int) := by rw [g2, g3, g4]; exact g5
    have dh := (K7.h.cell 8).trans (show _ = some (.int .u8 ((0 : Nat) : Int)) from rfl)
    have fh := K7.h.free 8
    go_upto_region 20 with fail
    try simp only [g1, g2, g3, g4, g5]
    have K8 := K7.put 8 w8 (l' := [78, 69, 83, 26, p4, q5, v6, v8, w8, 0, 0, 0, 0, 0, 0, 0]) rfl
    clear K7 dh fh
    generalize W7.setCell ⟨w.heap.size + 1 + 1, 8, none⟩ (.int .u8 ((w8 : Nat) : Int)) = W8 at *
    clear g1 g2 g3 g4 g5 g6 g7 g8 d1 d2
    obtain ⟨-, hp9, -, hq9⟩ := HP.out
    have g4 : ((q9 : Nat) : Int) * 16 % 256 = ((q9 * 16 : Nat) : Int) := by omega
    have g5 := or_b q9 p9 hq9 hp9
    generalize hv : p9 + q9 * 16 = w9 at *
    have HV9 : Hid (p9 + q9 * 16 = w9) := hv
    clear hv
    have g8 : bits BinOp.or IntKind.u8 (p9 : Int) ((q9 : Int) * 16) = (w9 : Int) := by rw [show (q9 : Int) * 16 = ((q9 * 16 : Nat) : Int) by simp]; exact g5
    generalize q9 * 16 = q16 at g4 g5
    have g6 : bits BinOp.or IntKind.u8 (p9 : Int) ((q9 : Int) * 16 % 256) = (w9 : Int) := by rw [g4]; exact g5
    have dh := (K8.h.cell 9).trans (show _ = some (.int .u8 ((0 : Nat) : Int)) from rfl)
    have fh := K8.h.free 9
    go_upto_region 21 with fail
    try simp only [g4, g5]
    have K9 := K8.put 9 w9 (l' := [78, 69, 83, 26, p4, q5, v6, v8, w8, w9, 0, 0, 0, 0, 0, 0]) rfl
    clear K8 dh fh
    generalize W8.setCell ⟨w.heap.size + 1 + 1, 9, none⟩ (.int .u8 ((w9 : Nat) : Int)) = W9 at *
    clear g4 g5 g6 g8 hp9 hq9
    obtain ⟨⟨r1, z1⟩, ⟨r2, z2⟩, ⟨r3, z3⟩, ⟨r4, z4⟩⟩ := X.r f2
    have da := (K9.b.cell 11).trans (show _ = some (.int .i64 ((rz x.a1 : Nat) : Int)) by rw [C.h11, r1])
    have db := (K9.b.cell 12).trans (show _ = some (.int .i64 ((rz x.a2 : Nat) : Int)) by rw [C.h12, r2])
    have Ca : Hid (Calls _ _ _ _ _) := ramBits_any x.a1 z1 W9.drew (TT.out.below K9.bl).drew
    have Cb : Hid (Calls _ _ _ _ _) := ramBits_any x.a2 z2 W9.drew (TT.out.below K9.bl).drew
    have g4 : ((x.a2 : Nat) : Int) * 16 % 256 = ((x.a2 * 16 : Nat) : Int) := by omega
    have g5 := or_b x.a2 x.a1 (by omega) (by omega)
    generalize hv : x.a1 + x.a2 * 16 = w10 at *
    have Hw10 : Hid (x.a1 + x.a2 * 16 = w10) := hv
    clear hv
    generalize x.a2 * 16 = a16' at g4 g5
    have g6 := w8_of g4
    have dh := (K9.h.cell 10).trans (show _ = some (.int .u8 ((0 : Nat) : Int)) from rfl)
    have fh := K9.h.free 10
    generalize rz x.a1 = na at *
    generalize rz x.a2 = nb at *
    refine wp_region_still_tail 9 (by kernel_rfl) (by kernel_rfl) ?_
    simp only [List.take_succ_cons, List.take_zero, List.drop_succ_cons, List.drop_zero]
    repeat still_step
    still_call Ca.out
    repeat still_step
    still_call Cb.out
    repeat still_step
    refine wpStill_nil ?_
    change wpList _ _ _ _ _ W9.drew
    have K10 := K9.drew
    clear K9 dh fh da db Ca Cb g4 g5 g6
    generalize W9.drew = W10 at *
    have dh := (K10.h.cell 10).trans (show _ = some (.int .u8 ((0 : Nat) : Int)) from rfl)
    have fh := K10.h.free 10
    go_upto_region 22 with fail
    have K11 := K10.put 10 w10 (l' := [78, 69, 83, 26, p4, q5, v6, v8, w8, w9, w10, 0, 0, 0, 0, 0]) rfl
    clear K10 dh fh
    generalize W10.setCell ⟨w.heap.size + 1 + 1, 10, none⟩ (.int .u8 ((w10 : Nat) : Int)) = W11 at *
    have da := (K11.b.cell 13).trans (show _ = some (.int .i64 ((rz x.a3 : Nat) : Int)) by rw [C.h13, r3])
    have db := (K11.b.cell 14).trans (show _ = some (.int .i64 ((rz x.a4 : Nat) : Int)) by rw [C.h14, r4])
    have Ca : Hid (Calls _ _ _ _ _) := ramBits_any x.a3 z3 W11.drew (TT.out.below K11.bl).drew
    have Cb : Hid (Calls _ _ _ _ _) := ramBits_any x.a4 z4 W11.drew (TT.out.below K11.bl).drew
    have g4 : ((x.a4 : Nat) : Int) * 16 % 256 = ((x.a4 * 16 : Nat) : Int) := by omega
    have g5 := or_b x.a4 x.a3 (by omega) (by omega)
    generalize hv : x.a3 + x.a4 * 16 = w11 at *
    have Hw11 : Hid (x.a3 + x.a4 * 16 = w11) := hv
    clear hv
    generalize x.a4 * 16 = a16' at g4 g5
    have g6 := w8_of g4
    have dh := (K11.h.cell 11).trans (show _ = some (.int .u8 ((0 : Nat) : Int)) from rfl)
    have fh := K11.h.free 11
    generalize rz x.a3 = na at *
    generalize rz x.a4 = nb at *
    refine wp_region_still_tail 9 (by kernel_rfl) (by kernel_rfl) ?_
    simp only [List.take_succ_cons, List.take_zero, List.drop_succ_cons, List.drop_zero]
    repeat still_step
    still_call Ca.out
    repeat still_step
    still_call Cb.out
    repeat still_step
    refine wpStill_nil ?_
    change wpList _ _ _ _ _ W11.drew
    have K12 := K11.drew
    clear K11 dh fh da db Ca Cb g4 g5 g6
    generalize W11.drew = W12 at *
    have dh := (K12.h.cell 11).trans (show _ = some (.int .u8 ((0 : Nat) : Int)) from rfl)
    have fh := K12.h.free 11
    go_upto_region 23 with fail
    have K13 := K12.put 11 w11 (l' := [78, 69, 83, 26, p4, q5, v6, v8, w8, w9, w10, w11, 0, 0, 0, 0]) rfl
    clear K12 dh fh
    generalize W12.setCell ⟨w.heap.size + 1 + 1, 11, none⟩ (.int .u8 ((w11 : Nat) : Int)) = W13 at *
    have dd := (K13.b.cell 8).trans (show _ = some (.int .i64 ((x.t : Nat) : Int)) by rw [C.h8, X.ct])
    have hb := X.t
    have g1 : ((x.t : Nat) : Int) % 256 = ((x.t : Nat) : Int) := by omega
    have dh := (K13.h.cell 12).trans (show _ = some (.int .u8 ((0 : Nat) : Int)) from rfl)
    have fh := K13.h.free 12
    go_upto_region 24 with fail
    try simp only [g1]
    have K14 := K13.put 12 x.t (l' := [78, 69, 83, 26, p4, q5, v6, v8, w8, w9, w10, w11, x.t, 0, 0, 0]) rfl
    clear K13 dh fh
    generalize W13.setCell ⟨w.heap.size + 1 + 1, 12, none⟩ (.int .u8 ((x.t : Nat) : Int)) = W14 at *
    clear dd hb g1
    have dd := (K14.b.cell 7).trans (show _ = some (.int .i64 ((x.kd : Nat) : Int)) by rw [C.h7, X.ckd])
    have hb := X.kd
    have g1 : ((x.kd : Nat) : Int) % 256 = ((x.kd : Nat) : Int) := by omega
    have dh := (K14.h.cell 13).trans (show _ = some (.int .u8 ((0 : Nat) : Int)) from rfl)
    have fh := K14.h.free 13
    go_upto_region 25 with fail
    try simp only [g1]
    have K15 := K14.put 13 x.kd (l' := [78, 69, 83, 26, p4, q5, v6, v8, w8, w9, w10, w11, x.t, x.kd, 0, 0]) rfl
    clear K14 dh fh
    generalize W14.setCell ⟨w.heap.size + 1 + 1, 13, none⟩ (.int .u8 ((x.kd : Nat) : Int)) = W15 at *
    clear dd hb g1
    have dd := (K15.b.cell 10).trans (show _ = some (.int .i64 ((x.mi : Nat) : Int)) by rw [C.h10, X.cmi])
    have hb := X.mi
    have g1 : ((x.mi : Nat) : Int) % 256 = ((x.mi : Nat) : Int) := by omega
    have dh := (K15.h.cell 14).trans (show _ = some (.int .u8 ((0 : Nat) : Int)) from rfl)
    have fh := K15.h.free 14
    go_upto_region 26 with fail
    try simp only [g1]
    have K16 := K15.put 14 x.mi (l' := [78, 69, 83, 26, p4, q5, v6, v8, w8, w9, w10, w11, x.t, x.kd, x.mi, 0]) rfl
    clear K15 dh fh
    generalize W15.setCell ⟨w.heap.size + 1 + 1, 14, none⟩ (.int .u8 ((x.mi : Nat) : Int)) = W16 at *
    clear dd hb g1
    have dd := (K16.b.cell 9).trans (show _ = some (.int .i64 ((x.d : Nat) : Int)) by rw [C.h9, X.cd])
    have hb := X.d
    have g1 : ((x.d : Nat) : Int) % 256 = ((x.d : Nat) : Int) := by omega
    have dh := (K16.h.cell 15).trans (show _ = some (.int .u8 ((0 : Nat) : Int)) from rfl)
    have fh := K16.h.free 15
    go_upto_region 27 with fail
    try simp only [g1]
    have K17 := K16.put 15 x.d (l' := [78, 69, 83, 26, p4, q5, v6, v8, w8, w9, w10, w11, x.t, x.kd, x.mi, x.d]) rfl
    clear K16 dh fh
    generalize W16.setCell ⟨w.heap.size + 1 + 1, 15, none⟩ (.int .u8 ((x.d : Nat) : Int)) = W17 at *
    clear dd hb g1
    have HE : Hid (hdL c x = [78, 69, 83, 26, p4, q5, v6, v8, w8, w9, w10, w11, x.t, x.kd, x.mi, x.d]) := by unfold Hid; rw [HL'.out, H6.out, if_neg (by omega), if_neg (by omega), ← V7.out.2, HV8.out, ← HV9.out, ← Hw10.out, ← Hw11.out]; rfl
    have HS : Hid ((vals [78, 69, 83, 26, p4, q5, v6, v8, w8, w9, w10, w11, x.t, x.kd, x.mi, x.d]).toArray.size = 16 ∧ (vals [78, 69, 83, 26, p4, q5, v6, v8, w8, w9, w10, w11, x.t, x.kd, x.mi, x.d]).toArray.all (·.oneCell') = true) := ⟨rfl, by simp [vals, Value.oneCell']⟩
    have HEL : Hid ((vals (hdL c x)).toArray = (vals [78, 69, 83, 26, p4, q5, v6, v8, w8, w9, w10, w11, x.t, x.kd, x.mi, x.d]).toArray) := by unfold Hid; rw [HE.out]
    have bh : Blk W17 (w.heap.size + 1 + 1) (vals [78, 69, 83, 26, p4, q5, v6, v8, w8, w9, w10, w11, x.t, x.kd, x.mi, x.d]).toArray 67 := K17.h
    generalize (vals [78, 69, 83, 26, p4, q5, v6, v8, w8, w9, w10, w11, x.t, x.kd, x.mi, x.d]).toArray = L at *
    go_wp2_with (first
      | refine wpList_load_mid rfl 67 _ rfl (w.heap.size + 1 + 1) 0 rfl L.toList _ bh.range Tryd.underlying67 rfl (by rw [Array.length_toList, HS.out.1]; exact infoHdr) ?_
      | refine wpList_store_mid rfl 67 _ _ rfl (w.heap.size + 1) 0 L rfl rfl (by exact K17.z.there _ HS.out.1.symm) (by rw [HS.out.1]; exact infoHdr) HS.out.2 ?_)
    refine ret_agg1 (m := w.heap.size + 1) (L := L) Tryd.results35 (by rfl) (K17.z.setAll (L := L) (by rw [HS.out.1]; rfl)) Tryd.underlying67 rfl (by rw [HS.out.1]; exact infoHdr) ?_
    exact ⟨by rw [HEL.out], setCells_below (by omega) _ _ _ _ K17.bl⟩
end Go.Proofs.YtpdbndkckioamaaDoor
