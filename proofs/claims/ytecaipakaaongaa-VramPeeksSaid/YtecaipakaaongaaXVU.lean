/-
  The byte at an address of the video memory; a run of bytes somewhere in memory.
  The run at every address of a valid memory.
-/
import Derived.Test.YtecaipakaaongaaXvPokeA
set_option linter.unusedSimpArgs false
set_option linter.unusedVariables false
namespace Go.Proofs.Ytecaipakaaongaa
open Go.RowKit Classical
/-- The place in CHR behind an address. -/
def chrP (b : Bd) (a : Nat) : Nat := (chrB b ((a : Int) / 1024) * 1024 + (a : Int) % 1024).toNat
/-- The byte at an address below 16384. -/
def atF (f : Nat → Nat) (b : Bd) (L : List Nat) (a : Nat) : Nat :=
  if 16128 ≤ a then f (4353 + entN a) else if 8192 ≤ a then f (257 + (1024 * (pageB b (a : Int)).toNat + a % 1024)) else if b.chrRam = true then f (4385 + chrP b a) else L.getD (chrP b a) 0
/-- A slice whose elements are these bytes. -/
def Slc (w : World) (x : Value) (m : Nat) (v : Nat → Nat) : Prop :=
  ∃ ad c, x = .slice ad m c ∧ (0 < m → ∃ g o, ad = some ⟨g, o, none⟩ ∧ g < w.heap.size ∧ ∀ k, k < m → w.cell? ⟨g, o + k, none⟩ = some (.int .u8 (v k : Nat)))
theorem Slc.below {w w' : World} {x : Value} {m : Nat} {v : Nat → Nat} (h : Slc w x m v) (hb : Below w.heap.size w w') : Slc w' x m v := by
  obtain ⟨ad, c, e, h⟩ := h
  refine ⟨ad, c, e, fun hm => ?_⟩
  obtain ⟨g, o, e, hg, hc⟩ := h hm
  exact ⟨g, o, e, Nat.lt_of_lt_of_le hg hb.size, fun k hk => (hb.cell (p := ⟨g, o + k, none⟩) hg).trans (hc k hk)⟩
/-- A run of l addresses, of whose bytes m lie in memory; the others are 0. -/
def Rn (w : World) (x : Value) (m l : Nat) (v : Nat → Nat) : Prop :=
  m ≤ l ∧ 0 < l ∧ l ≤ 1024 ∧ Slc w x m v ∧ ∀ k, m ≤ k → k < l → v k = 0
/-- The CHR that is handed in: a list with room behind it. -/
def Lst (w : World) (g n : Nat) (L : List Nat) : Prop := L.length = n ∧ g < w.heap.size ∧ ∀ k, k < n → w.cell? ⟨g, k, none⟩ = some (.int .u8 (L.getD k 0 : Nat))
theorem Lst.below {w w' : World} {g n : Nat} {L : List Nat} (h : Lst w g n L) (hb : Below w.heap.size w w') : Lst w' g n L :=
  ⟨h.1, Nat.lt_of_lt_of_le h.2.1 hb.size, fun k hk => (hb.cell (p := ⟨g, k, none⟩) h.2.1).trans (h.2.2 k hk)⟩
theorem Lst.over {B : Nat} {w w' : World} {g n : Nat} {L : List Nat} (h : Lst w g n L) (hg : g < B) (hb : Below B w w') : Lst w' g n L :=
  ⟨h.1, Nat.lt_of_lt_of_le h.2.1 hb.size, fun k hk => (hb.cell (p := ⟨g, k, none⟩) hg).trans (h.2.2 k hk)⟩
theorem chrP_at {b : Bd} (o : b.Ok) {a : Nat} : chrB b ((a : Int) / 1024) * 1024 + (a : Int) % 1024 = (chrP b a : Int) := by
  have := chrB_lt o ((a : Int) / 1024)
  unfold chrP
  omega
theorem chrP_le {b : Bd} (o : b.Ok) (a : Nat) : chrP b a < 1048576 := by
  have := chrB_lt o ((a : Int) / 1024)
  unfold chrP
  omega
theorem page_same (b : Bd) (a k : Nat) (h : a % 1024 + k < 1024) : pageB b ((a + k : Nat) : Int) = pageB b (a : Int) := by
  have e : ((a + k : Nat) : Int) / 1024 = (a : Int) / 1024 := by omega
  unfold pageB
  rw [e]
theorem chrP_same {b : Bd} (o : b.Ok) (a k : Nat) (h : a % 1024 + k < 1024) : chrP b (a + k) = chrP b a + k := by
  have e : ((a + k : Nat) : Int) / 1024 = (a : Int) / 1024 := by omega
  have := chrB_lt o ((a : Int) / 1024)
  unfold chrP
  rw [e]
  omega
theorem atF_pal {f : Nat → Nat} {b : Bd} {L : List Nat} {a : Nat} (h : 16128 ≤ a) : atF f b L a = f (4353 + entN a) := if_pos h
theorem atF_nt {f : Nat → Nat} {b : Bd} {L : List Nat} {a : Nat} (h : a < 16128) (h2 : 8192 ≤ a) : atF f b L a = f (257 + (1024 * (pageB b (a : Int)).toNat + a % 1024)) := by
  unfold atF; rw [if_neg (by omega), if_pos h2]
theorem atF_chr {f : Nat → Nat} {b : Bd} {L : List Nat} {a : Nat} (h : a < 8192) (hr : b.chrRam = true) : atF f b L a = f (4385 + chrP b a) := by
  unfold atF; rw [if_neg (by omega), if_neg (by omega), if_pos hr]
theorem atF_rom {f : Nat → Nat} {b : Bd} {L : List Nat} {a : Nat} (h : a < 8192) (hr : b.chrRam = false) : atF f b L a = L.getD (chrP b a) 0 := by
  unfold atF; rw [if_neg (by omega), if_neg (by omega), if_neg (by rw [hr]; simp)]
theorem atF_lt {f : Nat → Nat} {b : Bd} {L : List Nat} (F : Fok f) (o : b.Ok) (hL : ∀ u ∈ L, u < 256) (a : Nat) : atF f b L a < 256 := by
  unfold atF
  split
  · have := entN_lt a; exact F.b _ (by omega)
  split
  · have := pageB_lt (b := b) (a : Int) (by omega); exact F.b _ (by omega)
  split
  · rename_i h
    have := chrB_ram o h ((a : Int) / 1024)
    exact F.b _ (by unfold chrP; omega)
  · by_cases h : chrP b a < L.length
    · rw [List.getD_eq_getElem?_getD, List.getElem?_eq_getElem h]; exact hL _ (List.getElem_mem h)
    · rw [List.getD_eq_getElem?_getD, List.getElem?_eq_none (by omega)]; decide
end Go.Proofs.Ytecaipakaaongaa
namespace Go.Proofs.Ytecaipakaaongaa
open Go.RowKit Classical
set_option maxRecDepth 100000 in
set_option maxHeartbeats 1000000 in
theorem cut_big (b o L C i n e : Nat) (hL : L ≤ C) (hC : i ≤ 1099511627776) (hi : i < L) (hn : 0 < n) (hn2 : n ≤ 8192) (he : e = min (i + n) L) (w : World) :
    Calls Try.prog 48 #[.slice (some ⟨b, o, none⟩) L C, .int .i64 (i : Nat), .int .i64 (n : Nat)] w fun x w' => x = .returned (.slice (some ⟨b, o + i, none⟩) (e - i) (e - i)) ∧ w' = w := by
  obtain ⟨s, hs⟩ : ∃ s, s = i + n := ⟨_, rfl⟩
  have e1 : (i : Int) + (n : Int) = (s : Int) := by omega
  have m1 : ∀ w : World, (Builtin.min_ #[3, 3] 3 #[.int .i64 (s : Nat), .int .i64 (L : Nat)]).run Try.prog w = .ok (.int .i64 (e : Nat)) w := fun w => by
    rw [vmin2i, show min (s : Int) (L : Nat) = (e : Nat) by omega]
  have m2 : ∀ w : World, (Builtin.min_ #[3, 3] 3 #[.int .i64 (i : Nat), .int .i64 (e : Nat)]).run Try.prog w = .ok (.int .i64 (i : Nat)) w := fun w => by
    rw [vmin2i, show min (i : Int) (e : Nat) = (i : Nat) by omega]
  have s1 : s < 1099511648000 := by omega
  have ie : i < e := by omega
  have ie2 : (i : Int) ≤ (e : Int) := by omega
  have eC : (e : Int) ≤ (C : Int) := by omega
  have eL : e ≤ C := by omega
  have n0 : ¬ e - i = 0 := by omega
  have n1 : ¬ e = i := by omega
  have n2 : ¬ C = i := by omega
  clear he hs hi hn hn2 hL
  go_enter Try.func48, Try.ntmps48
  go_wp2
  go_ret
  exact ⟨rfl, rfl⟩
set_option maxRecDepth 100000 in
set_option maxHeartbeats 1000000 in
theorem cut_past (b o L C i n : Nat) (hL : L ≤ C) (hC : i ≤ 1099511627776) (hi : L ≤ i) (hn : 0 < n) (hL1 : L < C) (hn2 : n ≤ 8192) (w : World) :
    Calls Try.prog 48 #[.slice (some ⟨b, o, none⟩) L C, .int .i64 (i : Nat), .int .i64 (n : Nat)] w fun x w' => x = .returned (.slice (some ⟨b, o, none⟩) 0 0) ∧ w' = w := by
  obtain ⟨s, hs⟩ : ∃ s, s = i + n := ⟨_, rfl⟩
  have e1 : (i : Int) + (n : Int) = (s : Int) := by omega
  have m1 : ∀ w : World, (Builtin.min_ #[3, 3] 3 #[.int .i64 (s : Nat), .int .i64 (L : Nat)]).run Try.prog w = .ok (.int .i64 (L : Nat)) w := fun w => by
    rw [vmin2i, show min (s : Int) (L : Nat) = (L : Nat) by omega]
  have m2 : ∀ w : World, (Builtin.min_ #[3, 3] 3 #[.int .i64 (i : Nat), .int .i64 (L : Nat)]).run Try.prog w = .ok (.int .i64 (L : Nat)) w := fun w => by
    rw [vmin2i, show min (i : Int) (L : Nat) = (L : Nat) by omega]
  have s1 : s < 1099511648000 := by omega
  have eC : (L : Int) ≤ (C : Int) := by omega
  have n2 : ¬ C = L := by omega
  clear hs hi hn hn2
  go_enter Try.func48, Try.ntmps48
  go_wp2
  go_ret
  exact ⟨rfl, rfl⟩
set_option maxRecDepth 100000 in
set_option maxHeartbeats 2000000 in
theorem runAt_in (b : Nat) (bc : Array Value) (hbs : Hid (bc.size = 31)) (hb6 : Hid (bc[6]? = some (.bool false))) (a : Nat) (ha : a < 65536) (h : a % 16384 < 8192) (k : Nat) (g n C e : Nat) (hC : n < C) (hkn : k < n) (he : e = min (k + (1024 - a % 1024)) n) (hk : k ≤ 1099511627776) (w : World)
    (CA : ∀ W, Calls Try.prog 50 #[.agg bc, .int .u16 (a % 16384 : Nat)] W fun e w' => e = .returned (.int .i64 (k : Nat)) ∧ Below W.heap.size W w') :
    Calls Try.prog 39 #[.pointer (some ⟨b, 0, none⟩), .agg bc, .slice (some ⟨g, 0, none⟩) n C, .int .u16 (a : Nat)] w fun x w' => x = .returned (.tuple #[.slice (some ⟨g, k, none⟩) (e - k) (e - k), .int .i64 (1024 - a % 1024 : Nat)]) ∧ Below w.heap.size w w' := by
  obtain ⟨r, hr⟩ : ∃ r, r = a % 16384 := ⟨_, rfl⟩
  obtain ⟨p, hp⟩ : ∃ p, p = a % 1024 := ⟨_, rfl⟩
  obtain ⟨q, hq⟩ : ∃ q, q = 1024 - p := ⟨_, rfl⟩
  have r1 : ((a : Int)).tmod 16384 = (r : Int) := by rw [Int.tmod_eq_emod_of_nonneg (by omega)]; omega
  have r2 : ((r : Int)).tmod 1024 = (p : Int) := by rw [Int.tmod_eq_emod_of_nonneg (by omega)]; omega
  have s1 : (1024 : Int) - (p : Int) = (q : Int) := by omega
  have rb : r < 65536 := by omega
  have pb : p < 65536 := by omega
  have qb : q < 65536 := by omega
  have c1 : decide ((16128 : Int) ≤ (r : Int)) = false := by rw [decide_eq_false_iff_not]; omega
  have IB : Hid ((Try.prog.info? 37).map (·.size) = some 31) := (by kernel_rfl : (Try.prog.info? 37).map (·.size) = some 31)
  have BB : Hid (Blk (w.alloc (.cells bc 37)) w.heap.size bc 37) := Blk.new w bc _
  have L0 : Hid (Below w.heap.size w (w.alloc (.cells bc 37))) := (Below.refl _ _).alloc (Nat.le_refl _) _
  have c2 : decide ((8192 : Int) ≤ (r : Int)) = false := by rw [decide_eq_false_iff_not]; omega
  rw [← hr] at CA
  rw [← hp, ← hq]
  rw [← hp, ← hq] at he
  have CU := fun W => cut_big g 0 n C k q e (by omega) hk hkn (by omega) (by omega) he W
  rw [Nat.zero_add] at CU
  clear he hkn hC
  have c6 : (w.alloc (.cells bc 37)).cell? ⟨w.heap.size, 6, none⟩ = some (.bool false) := (Blk.cell BB.out 6).trans hb6.out
  clear hr hp hq ha h
  go_enter Try.func39, Try.ntmps39
  go_upto_region 13 with fail
  generalize w.alloc (.cells bc 37) = W at *
  go_wp2_with (first
    | (refine wpList_load_want (by rfl) 37 _ rfl w.heap.size 0 rfl bc.toList _ (Blk.range' BB.out) Try.underlying37 rfl (by rw [Array.length_toList, hbs.out]; exact IB.out) ?_; rw [Array.toArray_toList])
    | (go_at_call 50; refine (CA _).mono ?_; rintro e w2 ⟨rfl, hbw⟩; have L2 : Hid (Below w.heap.size w w2) := L0.out.trans (hbw.mono (Nat.le_of_lt (Blk.lt BB.out))); clear hbw)
    | (go_at_call 48; refine (CU _).mono ?_; rintro e w3 ⟨rfl, ew⟩; rw [ew]; clear ew))
  go_ret2
  exact ⟨rfl, L2.out⟩
set_option maxRecDepth 100000 in
set_option maxHeartbeats 2000000 in
theorem runAt_out (b : Nat) (bc : Array Value) (hbs : Hid (bc.size = 31)) (hb6 : Hid (bc[6]? = some (.bool false))) (a : Nat) (ha : a < 65536) (h : a % 16384 < 8192) (k : Nat) (g n C : Nat) (hC : n < C) (hkn : n ≤ k) (hk : k ≤ 1099511627776) (w : World)
    (CA : ∀ W, Calls Try.prog 50 #[.agg bc, .int .u16 (a % 16384 : Nat)] W fun e w' => e = .returned (.int .i64 (k : Nat)) ∧ Below W.heap.size W w') :
    Calls Try.prog 39 #[.pointer (some ⟨b, 0, none⟩), .agg bc, .slice (some ⟨g, 0, none⟩) n C, .int .u16 (a : Nat)] w fun x w' => x = .returned (.tuple #[.slice (some ⟨g, 0, none⟩) 0 0, .int .i64 (1024 - a % 1024 : Nat)]) ∧ Below w.heap.size w w' := by
  obtain ⟨r, hr⟩ : ∃ r, r = a % 16384 := ⟨_, rfl⟩
  obtain ⟨p, hp⟩ : ∃ p, p = a % 1024 := ⟨_, rfl⟩
  obtain ⟨q, hq⟩ : ∃ q, q = 1024 - p := ⟨_, rfl⟩
  have r1 : ((a : Int)).tmod 16384 = (r : Int) := by rw [Int.tmod_eq_emod_of_nonneg (by omega)]; omega
  have r2 : ((r : Int)).tmod 1024 = (p : Int) := by rw [Int.tmod_eq_emod_of_nonneg (by omega)]; omega
  have s1 : (1024 : Int) - (p : Int) = (q : Int) := by omega
  have rb : r < 65536 := by omega
  have pb : p < 65536 := by omega
  have qb : q < 65536 := by omega
  have c1 : decide ((16128 : Int) ≤ (r : Int)) = false := by rw [decide_eq_false_iff_not]; omega
  have IB : Hid ((Try.prog.info? 37).map (·.size) = some 31) := (by kernel_rfl : (Try.prog.info? 37).map (·.size) = some 31)
  have BB : Hid (Blk (w.alloc (.cells bc 37)) w.heap.size bc 37) := Blk.new w bc _
  have L0 : Hid (Below w.heap.size w (w.alloc (.cells bc 37))) := (Below.refl _ _).alloc (Nat.le_refl _) _
  have c2 : decide ((8192 : Int) ≤ (r : Int)) = false := by rw [decide_eq_false_iff_not]; omega
  rw [← hr] at CA
  rw [← hp, ← hq]
  have CU := fun W => cut_past g 0 n C k q (by omega) hk hkn (by omega) hC (by omega) W
  clear hkn hC
  have c6 : (w.alloc (.cells bc 37)).cell? ⟨w.heap.size, 6, none⟩ = some (.bool false) := (Blk.cell BB.out 6).trans hb6.out
  clear hr hp hq ha h
  go_enter Try.func39, Try.ntmps39
  go_upto_region 13 with fail
  generalize w.alloc (.cells bc 37) = W at *
  go_wp2_with (first
    | (refine wpList_load_want (by rfl) 37 _ rfl w.heap.size 0 rfl bc.toList _ (Blk.range' BB.out) Try.underlying37 rfl (by rw [Array.length_toList, hbs.out]; exact IB.out) ?_; rw [Array.toArray_toList])
    | (go_at_call 50; refine (CA _).mono ?_; rintro e w2 ⟨rfl, hbw⟩; have L2 : Hid (Below w.heap.size w w2) := L0.out.trans (hbw.mono (Nat.le_of_lt (Blk.lt BB.out))); clear hbw)
    | (go_at_call 48; refine (CU _).mono ?_; rintro e w3 ⟨rfl, ew⟩; rw [ew]; clear ew))
  go_ret2
  exact ⟨rfl, L2.out⟩
set_option maxHeartbeats 1000000 in
theorem runAt_any (cs : Array Value) (f : Nat → Nat) (V : Vid cs f) (b : Bd) (B : b.Wf) (hval : validB b = true) (L : List Nat) (g n C : Nat) (hC : n < C) (a : Nat) (ha : a < 65536) (p : Nat) (w : World) (hb : Blk w p cs 28) (hl : Lst w g n L) :
    Calls Try.prog 39 #[.pointer (some ⟨p, 0, none⟩), .agg b.cells, .slice (some ⟨g, 0, none⟩) n C, .int .u16 (a : Nat)] w fun e w' => ∃ x m l, e = .returned (.tuple #[x, .int .i64 (l : Nat)]) ∧ Rn w x m l (fun k => atF f b L ((a + k) % 16384)) ∧ Below w.heap.size w w' := by
  have o : b.Ok := Bd.ok B hval
  have Cb := isB b B.rlen
  have hbs : Hid (b.cells.size = 31) := Cb.size
  have hp := Blk.lt hb
  have cellV : ∀ i, i < 12577 → w.cell? ⟨p, i, none⟩ = some (.int .u8 (f i : Nat)) := fun i hi => (hb.cell i).trans (V.byte i hi)
  by_cases h1 : 16128 ≤ a % 16384
  · have e4 : lftP (entN a) ≤ 4 ∧ 0 < lftP (entN a) := by unfold lftP; split <;> omega
    refine (runAt_pal p b.cells _ a ha h1 w).mono ?_
    rintro e w' ⟨rfl, hB⟩
    refine ⟨_, lftP (entN a), lftP (entN a), rfl, ⟨Nat.le_refl _, e4.2, by omega, ⟨_, _, rfl, fun _ => ⟨p, 4353 + entN a, rfl, hp, fun k hk => ?_⟩⟩, fun k h h2 => by omega⟩, hB⟩
    have ek : entN ((a + k) % 16384) = entN a + k ∧ 16128 ≤ (a + k) % 16384 := by
      unfold lftP at hk
      unfold entN at hk ⊢
      (repeat' split at hk) <;> (repeat' split) <;> omega
    have := entN_lt ((a + k) % 16384)
    dsimp only
    rw [atF_pal ek.2, cellV _ (by omega), ek.1, Nat.add_assoc]
  by_cases h2 : 8192 ≤ a % 16384
  · have hpg := pageB_lt (b := b) ((a % 16384 : Nat) : Int) (by omega)
    obtain ⟨q, hq⟩ : ∃ q : Nat, q = (pageB b ((a % 16384 : Nat) : Int)).toNat := ⟨_, rfl⟩
    have hqi : pageB b ((a % 16384 : Nat) : Int) = (q : Int) := by omega
    have PA : ∀ W, Calls Try.prog 49 #[.agg b.cells, .int .u16 (a % 16384 : Nat)] W fun e w' => e = .returned (.int .i64 (q : Nat)) ∧ Below W.heap.size W w' := fun W => by
      have h := page_all W b ((a % 16384 : Nat) : Int) B (by omega) (by omega)
      unfold pageA at h
      rw [if_pos hval, hqi] at h
      exact h
    have q4 : q < 4 := by omega
    refine (runAt_nt p b.cells hbs _ a ha h2 (by omega) q _ _ q4 rfl rfl w PA).mono ?_
    rintro e w' ⟨rfl, hB⟩
    refine ⟨_, _, _, rfl, ⟨Nat.le_refl _, by omega, by omega, ⟨_, _, rfl, fun _ => ⟨p, 257 + (1024 * q + a % 1024), rfl, hp, fun k hk => ?_⟩⟩, fun k h h2 => by omega⟩, hB⟩
    have ek : (a + k) % 16384 = a % 16384 + k := by omega
    dsimp only
    rw [ek, atF_nt (by omega) (by omega), page_same b _ k (by omega), ← hq, cellV _ (by omega), show 257 + (1024 * q + a % 1024) + k = 257 + (1024 * q + (a % 16384 + k) % 1024) by omega]
  · have hki := chrP_at o (a := a % 16384)
    have hkl := chrP_le o (a % 16384)
    have hks := fun k h => chrP_same o (a % 16384) k h
    have CA : ∀ W, Calls Try.prog 50 #[.agg b.cells, .int .u16 (a % 16384 : Nat)] W fun e w' => e = .returned (.int .i64 (chrP b (a % 16384) : Nat)) ∧ Below W.heap.size W w' := fun W => by
      have h := chrAt_all W b ((a % 16384 : Nat) : Int) B (by omega) (by omega)
      unfold chrAtA at h
      rw [if_pos ⟨hval, by omega⟩, hki] at h
      exact h
    cases hr : b.chrRam
    · obtain ⟨k0, hk0⟩ : ∃ k0, k0 = chrP b (a % 16384) := ⟨_, rfl⟩
      rw [← hk0] at CA hkl hks
      have val : ∀ k, k < 1024 - a % 1024 → atF f b L ((a + k) % 16384) = L.getD (k0 + k) 0 := fun k hk => by
        have ek : (a + k) % 16384 = a % 16384 + k := by omega
        rw [ek, atF_rom (by omega) hr, hks k (by omega)]
      by_cases hn : k0 < n
      · refine (runAt_in p b.cells hbs (Cb.h6.trans (by rw [hr])) a ha (by omega) k0 g n C _ hC hn rfl (by omega) w CA).mono ?_
        rintro e w' ⟨rfl, hB⟩
        refine ⟨_, _, _, rfl, ⟨by omega, by omega, by omega, ⟨_, _, rfl, fun _ => ⟨g, k0, rfl, hl.2.1, fun k hk => ?_⟩⟩, fun k h h2 => ?_⟩, hB⟩
        · dsimp only
          rw [val k (by omega)]
          exact hl.2.2 _ (by omega)
        · dsimp only
          rw [val k (by omega), List.getD_eq_getElem?_getD, List.getElem?_eq_none (by rw [hl.1]; omega)]
          rfl
      · refine (runAt_out p b.cells hbs (Cb.h6.trans (by rw [hr])) a ha (by omega) k0 g n C hC (by omega) (by omega) w CA).mono ?_
        rintro e w' ⟨rfl, hB⟩
        refine ⟨_, 0, _, rfl, ⟨by omega, by omega, by omega, ⟨_, _, rfl, fun h => by omega⟩, fun k h h2 => ?_⟩, hB⟩
        dsimp only
        rw [val k (by omega), List.getD_eq_getElem?_getD, List.getElem?_eq_none (by rw [hl.1]; omega)]
        rfl
    · have hc8 := chrB_ram o hr (((a % 16384 : Nat) : Int) / 1024)
      have k8 : chrP b (a % 16384) + (1024 - a % 1024) ≤ 8192 := by unfold chrP; omega
      refine (runAt_chr p b.cells hbs (Cb.h6.trans (by rw [hr])) _ a ha (by omega) _ (chrP b (a % 16384) + (1024 - a % 1024)) (by omega) (by omega) w CA).mono ?_
      rintro e w' ⟨rfl, hB⟩
      refine ⟨_, _, _, rfl, ⟨by omega, by omega, by omega, ⟨_, _, rfl, fun _ => ⟨p, 4385 + chrP b (a % 16384), rfl, hp, fun k hk => ?_⟩⟩, fun k h h2 => by omega⟩, hB⟩
      have ek : (a + k) % 16384 = a % 16384 + k := by omega
      dsimp only
      rw [ek, atF_chr (by omega) hr, hks k (by omega), cellV _ (by omega), Nat.add_assoc]
end Go.Proofs.Ytecaipakaaongaa
