/-
  The law VramPeeks, for every video memory, board, list, address and number.
-/
import Derived.Test.YtecaipakaaongaaXVT
set_option linter.unusedSimpArgs false
set_option linter.unusedVariables false
namespace Go.Proofs.Ytecaipakaaongaa
open Go.RowKit Classical
set_option maxRecDepth 100000 in
set_option maxHeartbeats 4000000 in
theorem peeks_law (cs : Array Value) (f : Nat → Nat) (F : Fok f) (V : Vid cs f) (b : Bd) (B : b.Wf) (l : List Nat) (n cap : Nat) (hn : l.length = n) (hlen : n ≤ 140737488351232) (hlk : ∀ k, k < n → l.getD k 0 < 256) (ad : Option Addr) (a : Nat) (ha : a < 65536) (z : Int) (w : World) (hr : RowV w ad n cap l) :
    Calls Try.prog 6 #[.agg cs, .agg b.cells, .slice ad n cap, .int .u16 (a : Nat), .int .i64 z] w fun e w' => e = .returned (.bool true) ∧ Below w.heap.size w w' := by
  have hl : ∀ u ∈ l, u < 256 := fun u hu => by
    obtain ⟨k, hk, rfl⟩ := List.mem_iff_getElem.1 hu
    have h := hlk k (by omega)
    rwa [List.getD_eq_getElem?_getD, List.getElem?_eq_getElem hk] at h
  clear hlk
  have HN : Hid (l.length = n) := hn
  have HR : Hid (RowV w ad n cap l) := hr
  have PA := fun (W : World) (h : Hid (RowV W ad n cap l)) => padded_any l n cap HN.out hlen ad W h.out
  obtain ⟨zb, hzb⟩ : ∃ zb : Nat, zb = (z % 256).toNat := ⟨_, rfl⟩
  have EZ : Hid (IntKind.u8.wrap z = (zb : Int)) := by
    unfold Hid
    rw [show ∀ n : Int, IntKind.u8.wrap n = n % 256 from fun n => by simp [IntKind.wrap, IntKind.bits, IntKind.signed]]; omega
  have zb8 : zb < 256 := by omega
  obtain ⟨a1, ha1⟩ : ∃ a1 : Nat, a1 = (a + 1) % 65536 := ⟨_, rfl⟩
  have EA : Hid (IntKind.u16.wrap ((a : Int) + 1) = (a1 : Int)) := by
    unfold Hid
    rw [show ∀ n : Int, IntKind.u16.wrap n = n % 65536 from fun n => by simp [IntKind.wrap, IntKind.bits, IntKind.signed]]; omega
  have a1b : a1 < 65536 := by omega
  have CPO := fun (v : World) => (Poke_any cs f F V b B a zb ha zb8 v).mono (R' := fun e w' => ∃ y, e = .returned y ∧ (∃ cs', y = .agg cs' ∧ Vid cs' (pokV f b a zb)) ∧ Below v.heap.size v w') fun e w' ⟨cs', h1, h2, h3⟩ => ⟨.agg cs', h1, ⟨cs', rfl, h2⟩, h3⟩
  have RPO := fun (v : World) => (rPoke_any cs f F V b B a zb ha zb8 v).mono (R' := fun e w' => ∃ y, e = .returned y ∧ (∃ cs', y = .agg cs' ∧ Vid cs' (pokV f b a zb)) ∧ Below v.heap.size v w') fun e w' ⟨cs', h1, h2, h3⟩ => ⟨.agg cs', h1, ⟨cs', rfl, h2⟩, h3⟩
  have CPK := fun (g C : Nat) (hC : n < C) (v : World) (h : Lst v g n l) => Peek_any cs f F V b B l g n C hC a ha v h
  have RPK := fun (g C : Nat) (hC : n < C) (v : World) (h : Lst v g n l) => rPeek_any cs f F V b B l g n C hC a ha v h
  have CSP := fun (g C : Nat) (hC : n < C) (v : World) (h : Lst v g n l) => Span_any cs f F V b B l g n C hC a ha z v h
  have RSP := fun (g C : Nat) (hC : n < C) (v : World) (h : Lst v g n l) => rSpan_any cs f F V b B l g n C hC a ha z v h
  have CSQ := fun (g C : Nat) (hC : n < C) (v : World) (h : Lst v g n l) => Span_any cs f F V b B l g n C hC a1 a1b z v h
  have RSQ := fun (g C : Nat) (hC : n < C) (v : World) (h : Lst v g n l) => rSpan_any cs f F V b B l g n C hC a1 a1b z v h
  have SL := spnF_len f b l a z
  have SL1 := spnF_len f b l a1 z
  have SB : ∀ k, (spnF f b l a z).getD k 0 < 256 := fun k => by
    unfold spnF
    split
    · rename_i h
      unfold spn
      by_cases hk : k < z.toNat
      · simp only [List.getD_eq_getElem?_getD, List.getElem?_map, List.getElem?_range hk, Option.map_some, Option.getD_some]
        exact atF_lt F (Bd.ok B (valF_facts h.1).2.2) hl _
      · rw [List.getD_eq_getElem?_getD, List.getElem?_eq_none (by simp; omega)]; decide
    · simp
  generalize spnF f b l a z = S0 at *
  generalize spnF f b l a1 z = S1 at *
  generalize pkF f b l a = pk at *
  generalize pokV f b a zb = fp at *
  have C := isB b B.rlen
  generalize b.cells = bc at *
  have hbs : Hid (bc.size = 31) := C.size
  have hb6 : Hid (bc[6]? = some (.bool b.chrRam)) := C.h6
  clear C
  have IB : Hid ((Try.prog.info? 37).map (·.size) = some 31) := (by kernel_rfl : (Try.prog.info? 37).map (·.size) = some 31)
  have I8 : Hid ((Try.prog.info? 28).map (·.size) = some 12585) := Try.infoVid
  have VS : Hid (cs.size = 12585) := V.1
  clear hb6 V F B hn hr hl hzb ha1
  go_enter Try.func6, Try.ntmps6
  go_upto_region 1 with fail
  have BV : Hid (Blk ((w.alloc (.cells cs 28)).alloc (.cells bc 37)) w.heap.size cs 28) := (Blk.new w cs _).old _
  have BB : Hid (Blk ((w.alloc (.cells cs 28)).alloc (.cells bc 37)) (w.heap.size + 1) bc 37) := by
    have := Blk.new (w.alloc (.cells cs 28)) bc 37
    rwa [World.size_alloc] at this
  have L0 : Hid (Below w.heap.size w ((w.alloc (.cells cs 28)).alloc (.cells bc 37))) := below_allocs _ _
  have R0 : Hid (RowV ((w.alloc (.cells cs 28)).alloc (.cells bc 37)) ad n cap l) := RowV.below HR.out L0.out
  generalize ((w.alloc (.cells cs 28)).alloc (.cells bc 37)) = W at *
  go_upto_region 2 with (go_at_call 7; refine (PA _ R0).mono ?_; rintro e w1 ⟨v1, rfl, ow1, hb1⟩; have R1 : Hid (RowV w1 ad n cap l) := RowV.below R0.out hb1)
  go_upto_region 3 with (go_at_call 7; refine (PA _ R1).mono ?_; rintro e w2 ⟨v2, rfl, ow2, hb2⟩)
  have O1 := orow_keep ow1 hb2
  obtain ⟨g1, c1, rfl⟩ := orow_some O1 (by omega)
  obtain ⟨g2, c2, rfl⟩ := orow_some ow2 (by omega)
  have hlm : (l ++ mksV).length = n + 8 := by rw [List.length_append, HN.out]; rfl
  have hgd : ∀ k, k < n → (l ++ mksV).getD k 0 = l.getD k 0 := fun k hk => by simp [List.getD_eq_getElem?_getD, List.getElem?_append_left (show k < l.length by rw [HN.out]; exact hk)]
  have T1 : Hid (Lst w2 g1 n l) := ⟨HN.out, (orow_base O1).2.1, fun k hk => by rw [orow_cell O1 k (by omega), valsV_at _ k (by rw [hlm]; omega), hgd k hk]⟩
  have T2 : Hid (Lst w2 g2 n l) := ⟨HN.out, (orow_base ow2).2.1, fun k hk => by rw [orow_cell ow2 k (by omega), valsV_at _ k (by rw [hlm]; omega), hgd k hk]⟩
  have K1 := (orow_base O1).2.2
  have K2 := (orow_base ow2).2.2
  have O1H : Hid (w2.ownsRow W.heap.size 5 1 (.slice (some ⟨g1, 0, none⟩) (n + 8) c1) (n + 8) (valsV (l ++ mksV))) := O1
  have O2H : Hid (w2.ownsRow w1.heap.size 5 1 (.slice (some ⟨g2, 0, none⟩) (n + 8) c2) (n + 8) (valsV (l ++ mksV))) := ow2
  have BV2 : Hid (Blk w2 w.heap.size cs 28) := (BV.out.below BV.out.lt hb1).below (Nat.lt_of_lt_of_le BV.out.lt hb1.size) hb2
  have BB2 : Hid (Blk w2 (w.heap.size + 1) bc 37) := (BB.out.below BB.out.lt hb1).below (Nat.lt_of_lt_of_le BB.out.lt hb1.size) hb2
  have L2 : Hid (Below w.heap.size w w2) := (L0.out.trans (hb1.mono (Nat.le_of_lt (Blk.lt BV.out)))).trans (hb2.mono (Nat.le_trans (Nat.le_of_lt (Blk.lt BV.out)) hb1.size))
  clear O1 ow1 ow2 hb1 hb2 BV BB L0 R0 R1 HR PA hgd
  have BV := BV2
  have BB := BB2
  clear BV2 BB2
  have n0 : (0 : Int) ≤ (n : Int) := by omega
  have k1 : (n : Int) ≤ (c1 : Int) := by omega
  have k2 : (n : Int) ≤ (c2 : Int) := by omega
  have k3 : ¬ c1 = 0 := by omega
  have k4 : ¬ c2 = 0 := by omega
  have k5 : n ≤ c1 := by omega
  have k6 : n ≤ c2 := by omega
  have K1b : n < c1 := by omega
  have K2b : n < c2 := by omega
  have CPk : Hid (∀ v, Below w2.heap.size w2 v → _) := fun v h => CPK g1 c1 K1b v (T1.out.below h)
  have RPk : Hid (∀ v, Below w2.heap.size w2 v → _) := fun v h => RPK g2 c2 K2b v (T2.out.below h)
  have CSp : Hid (∀ v, Below w2.heap.size w2 v → _) := fun v h => CSP g1 c1 K1b v (T1.out.below h)
  have RSp : Hid (∀ v, Below w2.heap.size w2 v → _) := fun v h => RSP g2 c2 K2b v (T2.out.below h)
  have CSq : Hid (∀ v, Below w2.heap.size w2 v → _) := fun v h => CSQ g1 c1 K1b v (T1.out.below h)
  have RSq : Hid (∀ v, Below w2.heap.size w2 v → _) := fun v h => RSQ g2 c2 K2b v (T2.out.below h)
  have CPo : Hid _ := CPO
  have RPo : Hid _ := RPO
  have AFM : Hid (∀ v, Below w2.heap.size w2 v → _) := fun v h => alike_own hlm (by omega) (orow_keep O1H.out h) (orow_keep O2H.out h)
  have BVh : Hid (∀ v, Below w2.heap.size w2 v → Blk v w.heap.size cs 28) := fun v h => BV.out.below BV.out.lt h
  have BBh : Hid (∀ v, Below w2.heap.size w2 v → Blk v (w.heap.size + 1) bc 37) := fun v h => BB.out.below BB.out.lt h
  clear K1 K2 K1b K2b CPK RPK CSP RSP CSQ RSQ CPO RPO O1H O2H T1 T2
  go_upto_region 5 with fail
  clear n0 k1 k2 k3 k4 k5 k6
  have s0 : Below w2.heap.size w2 w2.drew := (Below.refl _ _).drew
  refine wp_region_held (S := fun v => Below w2.heap.size w2 v) (by kernel_rfl) ?_
  refine takeH (i := 0) (v := .agg cs) _ rfl (by kernel_rfl) (by kernel_rfl) (by kernel_rfl) (fun _ _ _ h => h) (yieldsVd (by kernel_rfl) (.tmp 5) rfl w.heap.size (by kernel_rfl) cs (fun v hv => Blk.below BV.out (Blk.lt BV.out) hv) VS.out) s0 rfl ?_
  refine takeH (i := 1) (v := .agg bc) _ rfl (by kernel_rfl) (by kernel_rfl) (by kernel_rfl) (fun _ _ _ h => h) (yieldsBd (by kernel_rfl) (.tmp 6) rfl (w.heap.size + 1) (by kernel_rfl) bc (fun v hv => Blk.below BB.out (Blk.lt BB.out) hv) hbs.out) s0 rfl ?_
  refine takeH (i := 2) (v := .slice (some ⟨g1, 0, none⟩) n c1) _ rfl (by kernel_rfl) (by kernel_rfl) (by kernel_rfl) (fun _ _ _ h => h) (.inl ⟨by kernel_rfl, fun _ _ => by kernel_rfl⟩) s0 rfl ?_
  refine takeH (i := 3) (v := .int .u16 (a : Nat)) _ rfl (by kernel_rfl) (by kernel_rfl) (by kernel_rfl) (fun _ _ _ h => h) (.inl ⟨by kernel_rfl, fun _ _ => by kernel_rfl⟩) s0 rfl ?_
  refine takeH (i := 5) (v := .agg cs) _ rfl (by kernel_rfl) (by kernel_rfl) (by kernel_rfl) (fun _ _ _ h => h) (yieldsVd (by kernel_rfl) (.tmp 5) rfl w.heap.size (by kernel_rfl) cs (fun v hv => Blk.below BV.out (Blk.lt BV.out) hv) VS.out) s0 rfl ?_
  refine takeH (i := 6) (v := .agg bc) _ rfl (by kernel_rfl) (by kernel_rfl) (by kernel_rfl) (fun _ _ _ h => h) (yieldsBd (by kernel_rfl) (.tmp 6) rfl (w.heap.size + 1) (by kernel_rfl) bc (fun v hv => Blk.below BB.out (Blk.lt BB.out) hv) hbs.out) s0 rfl ?_
  refine takeH (i := 7) (v := .slice (some ⟨g2, 0, none⟩) n c2) _ rfl (by kernel_rfl) (by kernel_rfl) (by kernel_rfl) (fun _ _ _ h => h) (.inl ⟨by kernel_rfl, fun _ _ => by kernel_rfl⟩) s0 rfl ?_
  refine takeH (i := 8) (v := .int .u16 (a : Nat)) _ rfl (by kernel_rfl) (by kernel_rfl) (by kernel_rfl) (fun _ _ _ h => h) (.inl ⟨by kernel_rfl, fun _ _ => by kernel_rfl⟩) s0 rfl ?_
  refine callH (i := 4) (f := 15) (v := .int .u8 (pk : Nat)) _ (by kernel_rfl) rfl (by kernel_rfl) (by kernel_rfl) (CPk.out _ s0) rfl ?_
  intro Wa hb9
  have s1 : Below w2.heap.size w2 Wa := s0.trans (hb9.mono s0.size)
  refine ⟨s1, ?_⟩
  clear hb9 s0
  refine callH (i := 9) (f := 16) (v := .int .u8 (pk : Nat)) _ (by kernel_rfl) rfl (by kernel_rfl) (by kernel_rfl) (RPk.out _ s1) rfl ?_
  intro Wb hb9
  have s2 : Below w2.heap.size w2 Wb := s1.trans (hb9.mono s1.size)
  refine ⟨s2, ?_⟩
  clear hb9 s1
  refine takeH (i := 10) (v := .bool false) _ rfl (by kernel_rfl) (by kernel_rfl) (by kernel_rfl) (fun _ _ _ h => h) (.inl ⟨by kernel_rfl, fun v _ => exec_neqS (k := .u8) (a := (pk : Int)) rfl (by kernel_rfl) (by kernel_rfl) Try.underlying5⟩) s2 rfl ?_
  refine takeH (i := 11) (v := .bool false) _ rfl (by kernel_rfl) (by kernel_rfl) (by kernel_rfl) (fun _ _ _ h => h) (.inl ⟨by kernel_rfl, fun _ _ => by kernel_rfl⟩) s2 rfl ?_
  refine takeH (i := 12) (v := .agg cs) _ rfl (by kernel_rfl) (by kernel_rfl) (by kernel_rfl) (fun _ _ _ h => h) (yieldsVd (by kernel_rfl) (.tmp 5) rfl w.heap.size (by kernel_rfl) cs (fun v hv => Blk.below BV.out (Blk.lt BV.out) hv) VS.out) s2 rfl ?_
  refine takeH (i := 13) (v := .agg bc) _ rfl (by kernel_rfl) (by kernel_rfl) (by kernel_rfl) (fun _ _ _ h => h) (yieldsBd (by kernel_rfl) (.tmp 6) rfl (w.heap.size + 1) (by kernel_rfl) bc (fun v hv => Blk.below BB.out (Blk.lt BB.out) hv) hbs.out) s2 rfl ?_
  refine takeH (i := 14) (v := .int .u16 (a : Nat)) _ rfl (by kernel_rfl) (by kernel_rfl) (by kernel_rfl) (fun _ _ _ h => h) (.inl ⟨by kernel_rfl, fun _ _ => by kernel_rfl⟩) s2 rfl ?_
  refine takeH (i := 15) (v := .int .i64 z) _ rfl (by kernel_rfl) (by kernel_rfl) (by kernel_rfl) (fun _ _ _ h => h) (.inl ⟨by kernel_rfl, fun _ _ => by kernel_rfl⟩) s2 rfl ?_
  refine takeH (i := 16) (v := .int .u8 (zb : Nat)) _ rfl (by kernel_rfl) (by kernel_rfl) (by kernel_rfl) (fun _ _ _ h => h) (.inl ⟨by kernel_rfl, fun v _ => Eq.trans (b := .ok (.value (.int .u8 (IntKind.u8.wrap z))) v) (by kernel_rfl) (by rw [EZ.out])⟩) s2 rfl ?_
  refine takeH (i := 18) (v := .agg cs) _ rfl (by kernel_rfl) (by kernel_rfl) (by kernel_rfl) (fun _ _ _ h => h) (yieldsVd (by kernel_rfl) (.tmp 5) rfl w.heap.size (by kernel_rfl) cs (fun v hv => Blk.below BV.out (Blk.lt BV.out) hv) VS.out) s2 rfl ?_
  refine takeH (i := 19) (v := .agg bc) _ rfl (by kernel_rfl) (by kernel_rfl) (by kernel_rfl) (fun _ _ _ h => h) (yieldsBd (by kernel_rfl) (.tmp 6) rfl (w.heap.size + 1) (by kernel_rfl) bc (fun v hv => Blk.below BB.out (Blk.lt BB.out) hv) hbs.out) s2 rfl ?_
  refine takeH (i := 20) (v := .int .u16 (a : Nat)) _ rfl (by kernel_rfl) (by kernel_rfl) (by kernel_rfl) (fun _ _ _ h => h) (.inl ⟨by kernel_rfl, fun _ _ => by kernel_rfl⟩) s2 rfl ?_
  refine takeH (i := 21) (v := .int .i64 z) _ rfl (by kernel_rfl) (by kernel_rfl) (by kernel_rfl) (fun _ _ _ h => h) (.inl ⟨by kernel_rfl, fun _ _ => by kernel_rfl⟩) s2 rfl ?_
  refine takeH (i := 22) (v := .int .u8 (zb : Nat)) _ rfl (by kernel_rfl) (by kernel_rfl) (by kernel_rfl) (fun _ _ _ h => h) (.inl ⟨by kernel_rfl, fun v _ => Eq.trans (b := .ok (.value (.int .u8 (IntKind.u8.wrap z))) v) (by kernel_rfl) (by rw [EZ.out])⟩) s2 rfl ?_
  refine callHE (i := 17) (f := 17) (by kernel_rfl) rfl (by kernel_rfl) (by kernel_rfl) (CPo.out _) ?_
  rintro x1 Wc ⟨⟨ca, rfl, Va⟩, hb9⟩
  have s3 : Below w2.heap.size w2 Wc := s2.trans (hb9.mono s2.size)
  refine ⟨s3, ?_⟩
  clear hb9 s2
  refine callHE (i := 23) (f := 18) (by kernel_rfl) rfl (by kernel_rfl) (by kernel_rfl) (RPo.out _) ?_
  rintro x2 Wd ⟨⟨cb, rfl, Vb⟩, hb9⟩
  have s4 : Below w2.heap.size w2 Wd := s3.trans (hb9.mono s3.size)
  refine ⟨s4, ?_⟩
  clear hb9 s3
  refine takeH (i := 24) (v := .bool false) _ rfl (by kernel_rfl) (by kernel_rfl) (by kernel_rfl) (fun _ _ _ h => h) (.inl ⟨by kernel_rfl, fun v _ => exec_neqVid rfl (by kernel_rfl) (by kernel_rfl) Va Vb⟩) s4 rfl ?_
  refine takeH (i := 25) (v := .bool false) ⟨#[.agg cs, .agg bc, .slice (some ⟨g1, 0, none⟩) n c1, .int .u16 (a : Nat), .int .i64 z, .pointer (some ⟨w.heap.size, 0, none⟩), .pointer (some ⟨w.heap.size + 1, 0, none⟩), undef, undef, undef, .bool false, .slice (some ⟨g1, 0, none⟩) (n + 8) c1, .slice (some ⟨g2, 0, none⟩) (n + 8) c2, .slice (some ⟨g2, 0, none⟩) n c2, undef, undef, undef, .slice ad n cap, .slice (some ⟨g1, 0, none⟩) (n + 8) c1, .slice ad n cap, .slice (some ⟨g2, 0, none⟩) (n + 8) c2, .slice (some ⟨g2, 0, none⟩) (n + 8) c2, .slice ad n cap, .int .i64 (n : Nat), .slice (some ⟨g2, 0, none⟩) n c2, .slice (some ⟨g1, 0, none⟩) (n + 8) c1, .slice ad n cap, .int .i64 (n : Nat), .slice (some ⟨g1, 0, none⟩) n c1, .agg cs, .agg bc, .slice (some ⟨g1, 0, none⟩) n c1, .int .u16 (a : Nat), .int .u8 (pk : Nat), .agg cs, .agg bc, .slice (some ⟨g2, 0, none⟩) n c2, .int .u16 (a : Nat), .int .u8 (pk : Nat), .bool false, .bool false, .agg cs, .agg bc, .int .u16 (a : Nat), .int .i64 z, .int .u8 (zb : Nat), .agg ca, .agg cs, .agg bc, .int .u16 (a : Nat), .int .i64 z, .int .u8 (zb : Nat), .agg cb, .bool false, .bool false, undef, undef, undef, undef, undef, undef, undef, undef, undef, undef, undef, undef, undef, undef, undef, undef, undef, undef, undef, undef, undef, undef, undef, undef, undef, undef, undef, undef, undef, undef, undef, undef, undef, undef, undef, undef, undef, undef, undef, undef, undef, undef, undef, undef, undef, undef, undef, undef, undef, undef, undef, undef, undef, undef, undef, undef, undef, undef, undef, undef, undef, undef, undef, undef, undef, undef, undef, undef, undef, undef, undef, undef, undef, undef, undef, undef, undef, undef, undef, undef, undef], []⟩ rfl (by kernel_rfl) (by kernel_rfl) (by kernel_rfl) (fun _ _ _ h => h) (.inl ⟨by kernel_rfl, fun _ _ => by kernel_rfl⟩) s4 (by kernel_rfl) ?_
  conv => arg 8; dsimp only
  refine wpAnyH_done (by kernel_rfl) ?_ _
  clear CPk RPk CPo RPo Va Vb EZ zb8
  have S4 : Hid (Below w2.heap.size w2 Wd) := s4
  have BV4 : Hid (Blk Wd w.heap.size cs 28) := BVh.out _ s4
  have BB4 : Hid (Blk Wd (w.heap.size + 1) bc 37) := BBh.out _ s4
  have CS4 := CSp.out _ s4
  clear s4
  go_upto_region 8 with (first
    | (refine wpList_load_blk rfl 28 _ rfl w.heap.size rfl cs _ BV4.out Try.underlying28 rfl (by rw [VS.out]; exact I8.out) ?_)
    | (refine wpList_load_want (by rfl) 37 _ rfl (w.heap.size + 1) 0 rfl bc.toList _ (Blk.range' BB4.out) Try.underlying37 rfl (by rw [Array.length_toList, hbs.out]; exact IB.out) ?_; rw [Array.toArray_toList])
    | (go_at_call 19; refine CS4.mono ?_; rintro e w5 ⟨x, rfl, OX, hbw⟩; have S5 : Hid (Below w2.heap.size w2 w5) := S4.out.trans (hbw.mono S4.out.size); have OX5 : Hid (w5.ownsRow w2.heap.size 5 1 x S0.length (valsV S0)) := orow_lower OX S4.out.size; clear OX hbw CS4))
  have RS5 := RSp.out _ S5.out
  have BV5 : Hid (Blk w5 w.heap.size cs 28) := BVh.out _ S5.out
  have BB5 : Hid (Blk w5 (w.heap.size + 1) bc 37) := BBh.out _ S5.out
  clear BV4 BB4 S4
  go_upto_region 10 with (first
    | (refine wpList_load_blk rfl 28 _ rfl w.heap.size rfl cs _ BV5.out Try.underlying28 rfl (by rw [VS.out]; exact I8.out) ?_)
    | (refine wpList_load_want (by rfl) 37 _ rfl (w.heap.size + 1) 0 rfl bc.toList _ (Blk.range' BB5.out) Try.underlying37 rfl (by rw [Array.length_toList, hbs.out]; exact IB.out) ?_; rw [Array.toArray_toList])
    | (go_at_call 20; refine RS5.mono ?_; rintro e w6 ⟨y, rfl, OY, hbw⟩; have S6 : Hid (Below w2.heap.size w2 w6) := S5.out.trans (hbw.mono S5.out.size); have OX6 : Hid (w6.ownsRow w2.heap.size 5 1 x S0.length (valsV S0)) := orow_keep OX5.out hbw; have AXY := alike_own rfl (Nat.le_trans SL (by decide)) OX6.out OY; clear OY hbw RS5 BV5 BB5)
    | (go_at_call 10; refine AXY.mono ?_; rintro e w7 ⟨rfl, hbw⟩; have S7 : Hid (Below w2.heap.size w2 w7) := S6.out.trans (hbw.mono S6.out.size); have OX7 : Hid (w7.ownsRow w2.heap.size 5 1 x S0.length (valsV S0)) := orow_keep OX6.out hbw; have AF := AFM.out _ S7.out; clear AXY hbw)
    | (go_at_call 10; refine AF.mono ?_; rintro e w8 ⟨rfl, hbw⟩; have S8 : Hid (Below w2.heap.size w2 w8) := S7.out.trans (hbw.mono S7.out.size); have OX8 : Hid (w8.ownsRow w2.heap.size 5 1 x S0.length (valsV S0)) := orow_keep OX7.out hbw; clear AF hbw))
  have OX9 := OX8.out
  obtain ⟨ax, cx, rfl, hax⟩ := orow_form OX9
  have HAX : Hid (0 < S0.length → ∃ g, ax = some ⟨g, 0, none⟩) := hax
  have OX9 : Hid _ := OX9
  clear OX5 OX6 OX7 OX8 hax S5 S6 S7
  generalize hm : S0.length = m at *
  have HM : Hid (S0.length = m) := hm
  clear hm
  go_upto_region 11 with fail
  go_loopw [15] (fun i wr => ∃ d : Nat, d ≤ m ∧ i = .int .i64 (d : Nat) ∧ Hid (wr.ownsRow w2.heap.size 5 1 (.slice ax m cx) m (valsV (xrL S0 d))) ∧ Hid (Below w2.heap.size w2 wr)) (fun i _ => m - (intOf i).toNat)
  case atStart => exact ⟨0, Nat.zero_le _, rfl, by rw [xrL_zero]; exact OX9.out, S8⟩
  case round =>
    obtain ⟨d, hd, rfl, OD, LL⟩ := hrel
    clear OX9 S8
    by_cases hlt : d < m
    · obtain ⟨g3, rfl⟩ := HAX.out (by omega)
      obtain ⟨u, hu⟩ : ∃ u, u = S0.getD d 0 := ⟨_, rfl⟩
      have cc : wr.cell? ⟨g3, d, none⟩ = some (.int .u8 (u : Nat)) := by
        rw [orow_cell OD.out d (by omega), xrL_at S0 d d (by rw [HM.out]; exact hlt), if_neg (Nat.lt_irrefl d), hu]
      have fr := orow_free OD.out d
      have hx := xo_is u (by rw [hu]; exact SB d)
      obtain ⟨y, hy⟩ : ∃ y, y = xo u := ⟨_, rfl⟩
      rw [← hy] at hx
      have hx1 := hx.1
      have dm : (d : Int) < (m : Int) := by omega
      have O2 : Hid ((wr.setCell ⟨g3, d, none⟩ (.int .u8 (y : Nat))).ownsRow w2.heap.size 5 1 (.slice (some ⟨g3, 0, none⟩) m cx) m (valsV (xrL S0 (d + 1)))) := by
        have h := orow_set OD.out d (by omega) (.int .u8 (y : Nat))
        rw [hy, hu, xrL_set S0 d (by rw [HM.out]; exact hlt)] at h
        rw [hy, hu]
        exact h
      have L2' : Hid (Below w2.heap.size w2 (wr.setCell ⟨g3, d, none⟩ (.int .u8 (y : Nat)))) := LL.out.setCell (p := ⟨g3, d, none⟩) (orow_base OD.out).1 _
      have KM : Hid (d < m) := hlt
      clear hu hy hx hlt OD LL HAX SB AFM CSq RSq CSp RSp
      go_upto_region 12 with fail
      clear cc fr
      generalize (wr.setCell ⟨g3, d, none⟩ (.int .u8 (y : Nat))) = w9 at *
      go_wp2
      go_roundw
      case rel => exact ⟨d + 1, KM.out, by go_num, O2, L2'⟩
      case measure => have := KM.out; simp [intOf]; omega
    · obtain rfl : d = m := by omega
      have ln : (xrL S0 d).length = d := by rw [xrL_len]; exact HM.out
      have SL9 : d ≤ 16384 := SL
      have L9 := LL
      clear LL
      go_upto_region 15 with (refine wpList_apV1 rfl _ _ rfl 90 ln OD.out L9.out L9.out.size rfl rfl (by omega) ?_; intro v3 w10 O10 L10 _)
      obtain ⟨g3, c3, rfl⟩ := orow_some O10 (by omega)
      obtain ⟨i0, hi, hz0, hz1, hz2⟩ := info_parts Try.infoU8v
      have h0 : w10.ownsRow w2.heap.size 5 1 (.slice none 0 0) 0 [] := ⟨by simp, .inl ⟨rfl, rfl⟩⟩
      have hln : (valsV (xrL S0 d ++ [90])).length = (d + 1) * 1 := by rw [valsV_len, List.length_append, ln]; simp
      have L10' : Hid (Below w2.heap.size w2 w10) := L10
      have O10' : Hid _ := O10
      go_upto_region 17 with (at_builtin; refine wpList_append_own _ rfl _ _ 29 rfl w2.heap.size 5 i0 (.int .u8 0) 1 1 Try.underlying29 hi hz0 hz1 hz2 rfl (by decide) (.slice none 0 0) 0 [] rfl h0 ⟨g3, 0, none⟩ (d + 1) c3 (valsV (xrL S0 d ++ [90])) rfl hln (fun j u hj => by
          have hjl : j < (d + 1) * 1 := by rw [← hln]; exact (List.getElem?_eq_some_iff.1 hj).1
          rw [Addr.add_mid, Nat.zero_add, orow_cell O10'.out j hjl]; exact hj) (valsV_one _) (by unfold maxLen; omega) (by omega) L10'.out.size ?_; intro v4 w11 O11 hgrow _)
      rw [Nat.zero_add, List.nil_append] at O11
      have hbk : Below w10.heap.size w10 w11 := (Below.refl _ _).grown hgrow (Nat.le_refl _) (by simp [Value.ownBlock])
      have OK10 : Hid _ := orow_keep O10'.out hbk
      have OK11 : Hid _ := O11
      have S11 : Hid (Below w2.heap.size w2 w11) := L10'.out.trans (hbk.mono L10'.out.size)
      have BV : Hid (Blk w11 w.heap.size cs 28) := BVh.out _ S11.out
      have BB : Hid (Blk w11 (w.heap.size + 1) bc 37) := BBh.out _ S11.out
      have CSq1 : Hid (∀ v, Below w11.heap.size w11 v → _) := fun v h => CSq.out v (S11.out.trans (h.mono S11.out.size))
      have RSq1 : Hid (∀ v, Below w11.heap.size w11 v → _) := fun v h => RSq.out v (S11.out.trans (h.mono S11.out.size))
      have CSp1 : Hid (∀ v, Below w11.heap.size w11 v → _) := fun v h => CSp.out v (S11.out.trans (h.mono S11.out.size))
      have RSp1 : Hid (∀ v, Below w11.heap.size w11 v → _) := fun v h => RSp.out v (S11.out.trans (h.mono S11.out.size))
      have AFM1 : Hid (∀ v, Below w11.heap.size w11 v → _) := fun v h => AFM.out v (S11.out.trans (h.mono S11.out.size))
      have LNK : Hid ((xrL S0 d ++ [90]).length = d + 1) := by unfold Hid; rw [List.length_append, ln]; rfl
      have AKL : Hid (∀ v, Below w11.heap.size w11 v → _) := fun v h => alike_own LNK.out (by omega) (orow_keep OK10.out h) (orow_keep OK11.out h)
      clear CSq RSq CSp RSp AFM BVh BBh OD L9 O10 L10 O10' L10' O11 hgrow hbk h0 hln OK10 OK11 LNK hi hz0 hz1 hz2 i0 HAX ln
      have s0 : Below w11.heap.size w11 w11.drew := (Below.refl _ _).drew
      refine wp_region_held (S := fun v => Below w11.heap.size w11 v) (by kernel_rfl) ?_
      refine takeH (i := 0) (v := .agg cs) _ rfl (by kernel_rfl) (by kernel_rfl) (by kernel_rfl) (fun _ _ _ h => h) (yieldsVd (by kernel_rfl) (.tmp 5) rfl w.heap.size (by kernel_rfl) cs (fun v hv => Blk.below BV.out (Blk.lt BV.out) hv) VS.out) s0 rfl ?_
      refine takeH (i := 1) (v := .agg bc) _ rfl (by kernel_rfl) (by kernel_rfl) (by kernel_rfl) (fun _ _ _ h => h) (yieldsBd (by kernel_rfl) (.tmp 6) rfl (w.heap.size + 1) (by kernel_rfl) bc (fun v hv => Blk.below BB.out (Blk.lt BB.out) hv) hbs.out) s0 rfl ?_
      refine takeH (i := 2) (v := .slice (some ⟨g1, 0, none⟩) n c1) _ rfl (by kernel_rfl) (by kernel_rfl) (by kernel_rfl) (fun _ _ _ h => h) (.inl ⟨by kernel_rfl, fun _ _ => by kernel_rfl⟩) s0 rfl ?_
      refine takeH (i := 3) (v := .int .u16 (a : Nat)) _ rfl (by kernel_rfl) (by kernel_rfl) (by kernel_rfl) (fun _ _ _ h => h) (.inl ⟨by kernel_rfl, fun _ _ => by kernel_rfl⟩) s0 rfl ?_
      refine takeH (i := 4) (v := .int .u16 (a1 : Nat)) _ rfl (by kernel_rfl) (by kernel_rfl) (by kernel_rfl) (fun _ _ _ h => h) (.inl ⟨by kernel_rfl, fun v _ => exec_add16 rfl (by kernel_rfl) (by kernel_rfl) EA.out⟩) s0 rfl ?_
      refine takeH (i := 5) (v := .int .i64 z) _ rfl (by kernel_rfl) (by kernel_rfl) (by kernel_rfl) (fun _ _ _ h => h) (.inl ⟨by kernel_rfl, fun _ _ => by kernel_rfl⟩) s0 rfl ?_
      refine takeH (i := 7) (v := .agg cs) _ rfl (by kernel_rfl) (by kernel_rfl) (by kernel_rfl) (fun _ _ _ h => h) (yieldsVd (by kernel_rfl) (.tmp 5) rfl w.heap.size (by kernel_rfl) cs (fun v hv => Blk.below BV.out (Blk.lt BV.out) hv) VS.out) s0 rfl ?_
      refine takeH (i := 8) (v := .agg bc) _ rfl (by kernel_rfl) (by kernel_rfl) (by kernel_rfl) (fun _ _ _ h => h) (yieldsBd (by kernel_rfl) (.tmp 6) rfl (w.heap.size + 1) (by kernel_rfl) bc (fun v hv => Blk.below BB.out (Blk.lt BB.out) hv) hbs.out) s0 rfl ?_
      refine takeH (i := 9) (v := .slice (some ⟨g2, 0, none⟩) n c2) _ rfl (by kernel_rfl) (by kernel_rfl) (by kernel_rfl) (fun _ _ _ h => h) (.inl ⟨by kernel_rfl, fun _ _ => by kernel_rfl⟩) s0 rfl ?_
      refine takeH (i := 10) (v := .int .u16 (a : Nat)) _ rfl (by kernel_rfl) (by kernel_rfl) (by kernel_rfl) (fun _ _ _ h => h) (.inl ⟨by kernel_rfl, fun _ _ => by kernel_rfl⟩) s0 rfl ?_
      refine takeH (i := 11) (v := .int .u16 (a1 : Nat)) _ rfl (by kernel_rfl) (by kernel_rfl) (by kernel_rfl) (fun _ _ _ h => h) (.inl ⟨by kernel_rfl, fun v _ => exec_add16 rfl (by kernel_rfl) (by kernel_rfl) EA.out⟩) s0 rfl ?_
      refine takeH (i := 12) (v := .int .i64 z) _ rfl (by kernel_rfl) (by kernel_rfl) (by kernel_rfl) (fun _ _ _ h => h) (.inl ⟨by kernel_rfl, fun _ _ => by kernel_rfl⟩) s0 rfl ?_
      refine callHE (i := 6) (f := 19) (by kernel_rfl) rfl (by kernel_rfl) (by kernel_rfl) (CSq1.out _ s0) ?_
      rintro x1 Wa9 ⟨ox, hb9⟩
      have s1 : Below w11.heap.size w11 Wa9 := s0.trans (hb9.mono s0.size)
      refine ⟨s1, ?_⟩
      clear hb9 s0
      refine callHE (i := 13) (f := 20) (by kernel_rfl) rfl (by kernel_rfl) (by kernel_rfl) (RSq1.out _ s1) ?_
      rintro x2 Wb9 ⟨oy, hb9⟩
      have s2 : Below w11.heap.size w11 Wb9 := s1.trans (hb9.mono s1.size)
      have ox' := orow_keep ox hb9
      clear ox
      have ox := ox'
      clear ox'
      refine ⟨s2, ?_⟩
      clear hb9 s1
      refine callH (i := 14) (f := 10) (v := .bool true) _ (by kernel_rfl) rfl (by kernel_rfl) (by kernel_rfl) (alike_own rfl (Nat.le_trans SL1 (by decide)) ox oy) rfl ?_
      intro Wc9 hb9
      have s3 : Below w11.heap.size w11 Wc9 := s2.trans (hb9.mono s2.size)
      refine ⟨s3, ?_⟩
      clear hb9 s2
      refine takeH (i := 15) (v := .bool false) _ rfl (by kernel_rfl) (by kernel_rfl) (by kernel_rfl) (fun _ _ _ h => h) (.inl ⟨by kernel_rfl, fun _ _ => by kernel_rfl⟩) s3 rfl ?_
      refine takeH (i := 16) (v := .bool false) _ rfl (by kernel_rfl) (by kernel_rfl) (by kernel_rfl) (fun _ _ _ h => h) (.inl ⟨by kernel_rfl, fun _ _ => by kernel_rfl⟩) s3 rfl ?_
      refine takeH (i := 17) (v := .agg cs) _ rfl (by kernel_rfl) (by kernel_rfl) (by kernel_rfl) (fun _ _ _ h => h) (yieldsVd (by kernel_rfl) (.tmp 5) rfl w.heap.size (by kernel_rfl) cs (fun v hv => Blk.below BV.out (Blk.lt BV.out) hv) VS.out) s3 rfl ?_
      refine takeH (i := 18) (v := .agg bc) _ rfl (by kernel_rfl) (by kernel_rfl) (by kernel_rfl) (fun _ _ _ h => h) (yieldsBd (by kernel_rfl) (.tmp 6) rfl (w.heap.size + 1) (by kernel_rfl) bc (fun v hv => Blk.below BB.out (Blk.lt BB.out) hv) hbs.out) s3 rfl ?_
      refine takeH (i := 19) (v := .slice (some ⟨g1, 0, none⟩) n c1) _ rfl (by kernel_rfl) (by kernel_rfl) (by kernel_rfl) (fun _ _ _ h => h) (.inl ⟨by kernel_rfl, fun _ _ => by kernel_rfl⟩) s3 rfl ?_
      refine takeH (i := 20) (v := .int .u16 (a : Nat)) _ rfl (by kernel_rfl) (by kernel_rfl) (by kernel_rfl) (fun _ _ _ h => h) (.inl ⟨by kernel_rfl, fun _ _ => by kernel_rfl⟩) s3 rfl ?_
      refine takeH (i := 21) (v := .int .i64 z) _ rfl (by kernel_rfl) (by kernel_rfl) (by kernel_rfl) (fun _ _ _ h => h) (.inl ⟨by kernel_rfl, fun _ _ => by kernel_rfl⟩) s3 rfl ?_
      refine takeH (i := 23) (v := .agg cs) _ rfl (by kernel_rfl) (by kernel_rfl) (by kernel_rfl) (fun _ _ _ h => h) (yieldsVd (by kernel_rfl) (.tmp 5) rfl w.heap.size (by kernel_rfl) cs (fun v hv => Blk.below BV.out (Blk.lt BV.out) hv) VS.out) s3 rfl ?_
      refine takeH (i := 24) (v := .agg bc) _ rfl (by kernel_rfl) (by kernel_rfl) (by kernel_rfl) (fun _ _ _ h => h) (yieldsBd (by kernel_rfl) (.tmp 6) rfl (w.heap.size + 1) (by kernel_rfl) bc (fun v hv => Blk.below BB.out (Blk.lt BB.out) hv) hbs.out) s3 rfl ?_
      refine takeH (i := 25) (v := .slice (some ⟨g2, 0, none⟩) n c2) _ rfl (by kernel_rfl) (by kernel_rfl) (by kernel_rfl) (fun _ _ _ h => h) (.inl ⟨by kernel_rfl, fun _ _ => by kernel_rfl⟩) s3 rfl ?_
      refine takeH (i := 26) (v := .int .u16 (a : Nat)) _ rfl (by kernel_rfl) (by kernel_rfl) (by kernel_rfl) (fun _ _ _ h => h) (.inl ⟨by kernel_rfl, fun _ _ => by kernel_rfl⟩) s3 rfl ?_
      refine takeH (i := 27) (v := .int .i64 z) _ rfl (by kernel_rfl) (by kernel_rfl) (by kernel_rfl) (fun _ _ _ h => h) (.inl ⟨by kernel_rfl, fun _ _ => by kernel_rfl⟩) s3 rfl ?_
      refine callHE (i := 22) (f := 19) (by kernel_rfl) rfl (by kernel_rfl) (by kernel_rfl) (CSp1.out _ s3) ?_
      rintro x3 Wd9 ⟨pz, hb9⟩
      have s4 : Below w11.heap.size w11 Wd9 := s3.trans (hb9.mono s3.size)
      refine ⟨s4, ?_⟩
      clear hb9 s3
      refine callHE (i := 28) (f := 20) (by kernel_rfl) rfl (by kernel_rfl) (by kernel_rfl) (RSp1.out _ s4) ?_
      rintro x4 We9 ⟨qz, hb9⟩
      have s5 : Below w11.heap.size w11 We9 := s4.trans (hb9.mono s4.size)
      have pz' := orow_keep pz hb9
      clear pz
      have pz := pz'
      clear pz'
      refine ⟨s5, ?_⟩
      clear hb9 s4
      refine callH (i := 29) (f := 10) (v := .bool true) _ (by kernel_rfl) rfl (by kernel_rfl) (by kernel_rfl) (alike_own HM.out (Nat.le_trans SL (by decide)) pz qz) rfl ?_
      intro Wf hb9
      have s6 : Below w11.heap.size w11 Wf := s5.trans (hb9.mono s5.size)
      refine ⟨s6, ?_⟩
      clear hb9 s5
      refine takeH (i := 30) (v := .bool false) _ rfl (by kernel_rfl) (by kernel_rfl) (by kernel_rfl) (fun _ _ _ h => h) (.inl ⟨by kernel_rfl, fun _ _ => by kernel_rfl⟩) s6 rfl ?_
      refine takeH (i := 31) (v := .bool false) ⟨#[.agg cs, .agg bc, .slice (some ⟨g1, 0, none⟩) n c1, .int .u16 (a : Nat), .int .i64 z, .pointer (some ⟨w.heap.size, 0, none⟩), .pointer (some ⟨w.heap.size + 1, 0, none⟩), undef, undef, undef, .bool false, .slice (some ⟨g1, 0, none⟩) (n + 8) c1, .slice (some ⟨g2, 0, none⟩) (n + 8) c2, .slice (some ⟨g2, 0, none⟩) n c2, .slice (some ⟨g3, 0, none⟩) (d + 1) c3, .int .i64 (d : Nat), v4, .slice ad n cap, .slice (some ⟨g1, 0, none⟩) (n + 8) c1, .slice ad n cap, .slice (some ⟨g2, 0, none⟩) (n + 8) c2, .slice (some ⟨g2, 0, none⟩) (n + 8) c2, .slice ad n cap, .int .i64 (n : Nat), .slice (some ⟨g2, 0, none⟩) n c2, .slice (some ⟨g1, 0, none⟩) (n + 8) c1, .slice ad n cap, .int .i64 (n : Nat), .slice (some ⟨g1, 0, none⟩) n c1, .agg cs, .agg bc, .slice (some ⟨g1, 0, none⟩) n c1, .int .u16 (a : Nat), .int .u8 (pk : Nat), .agg cs, .agg bc, .slice (some ⟨g2, 0, none⟩) n c2, .int .u16 (a : Nat), .int .u8 (pk : Nat), .bool false, .bool false, .agg cs, .agg bc, .int .u16 (a : Nat), .int .i64 z, .int .u8 (zb : Nat), .agg ca, .agg cs, .agg bc, .int .u16 (a : Nat), .int .i64 z, .int .u8 (zb : Nat), .agg cb, .bool false, .bool false, .agg cs, .agg bc, .slice (some ⟨g1, 0, none⟩) n c1, .int .u16 (a : Nat), .int .i64 z, .slice ax d cx, .slice ax d cx, .agg cs, .agg bc, .slice (some ⟨g2, 0, none⟩) n c2, .int .u16 (a : Nat), .int .i64 z, y, .bool true, .bool false, .bool false, .slice (some ⟨g1, 0, none⟩) (n + 8) c1, .slice (some ⟨g2, 0, none⟩) (n + 8) c2, .bool true, .bool false, .bool false, .int .i64 (d : Nat), .slice ax d cx, .int .i64 (d : Nat), .bool false, u80, u81, u82, u83, u84, u85, u86, u87, u88, u89, .slice ax d cx, .slice (some ⟨wr.heap.size, 0, none⟩) 1 1, .slice (some ⟨g3, 0, none⟩) (d + 1) c3, .slice none 0 0, .slice (some ⟨g3, 0, none⟩) (d + 1) c3, v4, .agg cs, .agg bc, .slice (some ⟨g1, 0, none⟩) n c1, .int .u16 (a : Nat), .int .u16 (a1 : Nat), .int .i64 z, x1, .agg cs, .agg bc, .slice (some ⟨g2, 0, none⟩) n c2, .int .u16 (a : Nat), .int .u16 (a1 : Nat), .int .i64 z, x2, .bool true, .bool false, .bool false, .agg cs, .agg bc, .slice (some ⟨g1, 0, none⟩) n c1, .int .u16 (a : Nat), .int .i64 z, x3, .agg cs, .agg bc, .slice (some ⟨g2, 0, none⟩) n c2, .int .u16 (a : Nat), .int .i64 z, x4, .bool true, .bool false, .bool false, undef, undef, undef, undef, undef, undef, undef, undef], []⟩ rfl (by kernel_rfl) (by kernel_rfl) (by kernel_rfl) (fun _ _ _ h => h) (.inl ⟨by kernel_rfl, fun _ _ => by kernel_rfl⟩) s6 (by kernel_rfl) ?_
      conv => arg 8; dsimp only
      refine wpAnyH_done (by kernel_rfl) ?_ _
      have S17 : Hid (Below w11.heap.size w11 Wf) := s6
      have AK := AKL.out _ s6
      clear s6 ox oy pz qz
      go_wp2_with (first
        | (go_at_call 10; refine AK.mono ?_; rintro e w18 ⟨rfl, hbw⟩; have S18 : Hid (Below w11.heap.size w11 w18) := S17.out.trans (hbw.mono S17.out.size); have AF := AFM1.out _ S18.out; clear AK hbw)
        | (go_at_call 10; refine AF.mono ?_; rintro e w19 ⟨rfl, hbw⟩; have S19 : Hid (Below w11.heap.size w11 w19) := S18.out.trans (hbw.mono S18.out.size); clear AF hbw))
      go_ret
      exact ⟨rfl, (L2.out.trans (S11.out.mono L2.out.size)).trans (S19.out.mono (Nat.le_trans L2.out.size S11.out.size))⟩
end Go.Proofs.Ytecaipakaaongaa
