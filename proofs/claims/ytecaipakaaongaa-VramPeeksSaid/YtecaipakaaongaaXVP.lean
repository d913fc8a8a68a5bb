/-
  What runAt answers: the run of a memory that an address begins.
  What poke makes of a memory, by what runAt answers.
-/
import Derived.Test.YtecaipakaaongaaXvCut
import Derived.Test.YtecaipakaaongaaXvLeaf
import Derived.Test.YtecaipakaaongaaXvValid
set_option linter.unusedSimpArgs false
set_option linter.unusedVariables false
namespace Go.Proofs.Ytecaipakaaongaa
open Go.RowKit Classical
/-- How long the run is that begins at an entry of the palette. -/
def lftP (e : Nat) : Nat := if e % 4 = 0 then 1 else 4 - e % 4
set_option maxRecDepth 100000 in
set_option maxHeartbeats 2000000 in
theorem runAt_pal (b : Nat) (bc : Array Value) (c : Value) (a : Nat) (ha : a < 65536) (h : 16128 ≤ a % 16384) (w : World) :
    Calls Try.prog 39 #[.pointer (some ⟨b, 0, none⟩), .agg bc, c, .int .u16 (a : Nat)] w fun x w' => x = .returned (.tuple #[.slice (some ⟨b, 4353 + entN a, none⟩) (lftP (entN a)) (lftP (entN a)), .int .i64 (lftP (entN a) : Nat)]) ∧ Below w.heap.size w w' := by
  obtain ⟨r, hr⟩ : ∃ r, r = a % 16384 := ⟨_, rfl⟩
  obtain ⟨i, hi⟩ : ∃ i, i = entN a := ⟨_, rfl⟩
  have hi2 : entN r = i := by
    have e : r % 32 = a % 32 := by omega
    rw [hi]; unfold entN; rw [e, show r % 16 = a % 16 by omega]
  have i32 : i < 32 := by rw [hi]; unfold entN; split <;> omega
  obtain ⟨l, hl⟩ : ∃ l, l = lftP i := ⟨_, rfl⟩
  obtain ⟨m, hm⟩ : ∃ m, m = i % 4 := ⟨_, rfl⟩
  obtain ⟨p, hp⟩ : ∃ p, p = r % 1024 := ⟨_, rfl⟩
  obtain ⟨q, hq⟩ : ∃ q, q = 1024 - p := ⟨_, rfl⟩
  obtain ⟨g, hg⟩ : ∃ g, g = 4 - m := ⟨_, rfl⟩
  rw [← hi, ← hl]
  have r1 : ((a : Int)).tmod 16384 = (r : Int) := by rw [Int.tmod_eq_emod_of_nonneg (by omega)]; omega
  have r2 : ((r : Int)).tmod 1024 = (p : Int) := by rw [Int.tmod_eq_emod_of_nonneg (by omega)]; omega
  have r3 : ((i : Int)).tmod 4 = (m : Int) := by rw [Int.tmod_eq_emod_of_nonneg (by omega)]; omega
  have s1 : (1024 : Int) - (p : Int) = (q : Int) := by omega
  have s2 : (4 : Int) - (m : Int) = (g : Int) := by omega
  have rb : r < 65536 := by omega
  have pb : p < 65536 := by omega
  have qb : q < 65536 := by omega
  have gb : g < 65536 := by omega
  have c1 : decide ((16128 : Int) ≤ (r : Int)) = true := by rw [decide_eq_true_eq]; omega
  have EA := fun W => entryAt_any r rb W
  rw [hi2] at EA
  have LE : Hid (l = if m = 0 then 1 else g) := by unfold Hid; rw [hl, hg, hm]; rfl
  have hm4 : m < 4 := by omega
  have CU := fun W => cut_any b 4353 32 32 i l (i + l) (by decide) (by decide) i32 (by rw [LE.out]; split <;> omega) (by rw [LE.out]; split <;> omega) (by rw [LE.out]; split <;> omega) W
  rw [show i + l - i = l by omega] at CU
  clear hr hi hi2 hl hm hp hq ha h
  by_cases h0 : m = 0
  · have g4 : ((g : Int) == 4) = true := by rw [hg, h0]; rfl
    have l1 : l = 1 := by rw [LE.out, if_pos h0]
    subst l1
    clear hg h0 LE
    go_enter Try.func39, Try.ntmps39
    go_wp2_with (first
      | (go_at_call 47; refine (EA _).mono ?_; rintro e w1 ⟨rfl, rfl⟩)
      | (go_at_call 48; refine (CU _).mono ?_; rintro e w1 ⟨rfl, rfl⟩))
    go_ret2
    exact ⟨rfl, (Below.refl _ _).alloc (Nat.le_refl _) _⟩
  · have g4 : ((g : Int) == 4) = false := by simp; omega
    have l1 : l = g := by rw [LE.out, if_neg h0]
    subst l1
    clear hg h0 LE
    go_enter Try.func39, Try.ntmps39
    go_wp2_with (first
      | (go_at_call 47; refine (EA _).mono ?_; rintro e w1 ⟨rfl, rfl⟩)
      | (go_at_call 48; refine (CU _).mono ?_; rintro e w1 ⟨rfl, rfl⟩))
    go_ret2
    exact ⟨rfl, (Below.refl _ _).alloc (Nat.le_refl _) _⟩
theorem exec_mulW {ρ : Operand → Value} {o : Oper} {x y : Operand} {z : TypeId} {m n k : Int} {w : World} (ho : o.op = .binOp .mul 3 x y z) (hx : ρ x = .int .i64 m) (hy : ρ y = .int .i64 n) (h : m * n = k) (hk : 0 ≤ k ∧ k < 9223372036854775808) : (execOp ρ o).run Try.prog w = .ok (.value (.int .i64 k)) w := by
  obtain ⟨dst, o, ty, pos, after, guard⟩ := o
  simp only at ho
  subst ho
  have h1 := hk.1
  have h2 := hk.2
  unfold execOp
  simp only [hx, hy]
  go_simp
  rw [IntKind.wrap_i64]
  omega
theorem exec_addW {ρ : Operand → Value} {o : Oper} {x y : Operand} {z : TypeId} {m n k : Int} {w : World} (ho : o.op = .binOp .add 3 x y z) (hx : ρ x = .int .i64 m) (hy : ρ y = .int .i64 n) (h : m + n = k) (hk : 0 ≤ k ∧ k < 9223372036854775808) : (execOp ρ o).run Try.prog w = .ok (.value (.int .i64 k)) w := by
  obtain ⟨dst, o, ty, pos, after, guard⟩ := o
  simp only at ho
  subst ho
  have h1 := hk.1
  have h2 := hk.2
  unfold execOp
  simp only [hx, hy]
  go_simp
  rw [IntKind.wrap_i64]
  omega
set_option maxRecDepth 100000 in
set_option maxHeartbeats 2000000 in
theorem runAt_nil (b : Nat) (bc : Array Value) (hbs : Hid (bc.size = 31)) (hb6 : Hid (bc[6]? = some (.bool false))) (a : Nat) (ha : a < 65536) (h : a % 16384 < 8192) (k : Nat) (hk : k ≤ 1099511627776) (w : World)
    (CA : ∀ W, Calls Try.prog 50 #[.agg bc, .int .u16 (a % 16384 : Nat)] W fun e w' => e = .returned (.int .i64 (k : Nat)) ∧ Below W.heap.size W w') :
    Calls Try.prog 39 #[.pointer (some ⟨b, 0, none⟩), .agg bc, .slice none 0 0, .int .u16 (a : Nat)] w fun x w' => x = .returned (.tuple #[.slice none 0 0, .int .i64 (1024 - a % 1024 : Nat)]) ∧ Below w.heap.size w w' := by
  obtain ⟨r, hr⟩ : ∃ r, r = a % 16384 := ⟨_, rfl⟩
  obtain ⟨p, hp⟩ : ∃ p, p = a % 1024 := ⟨_, rfl⟩
  obtain ⟨q, hq⟩ : ∃ q, q = 1024 - p := ⟨_, rfl⟩
  have r1 : ((a : Int)).tmod 16384 = (r : Int) := by rw [Int.tmod_eq_emod_of_nonneg (by omega)]; omega
  have r2 : ((r : Int)).tmod 1024 = (p : Int) := by rw [Int.tmod_eq_emod_of_nonneg (by omega)]; omega
  have s1 : (1024 : Int) - (p : Int) = (q : Int) := by omega
  have rb : r < 65536 := by omega
  have pb : p < 65536 := by omega
  have qb : q < 65536 := by omega
  have c1 : decide ((16128 : Int) ≤ (r : Int)) = false := by rw [decide_eq_false_iff_not]; omega
  have IB : Hid ((Try.prog.info? 37).map (·.size) = some 31) := (by kernel_rfl : (Try.prog.info? 37).map (·.size) = some 31)
  have BB : Hid (Blk (w.alloc (.cells bc 37)) w.heap.size bc 37) := Blk.new w bc _
  have L0 : Hid (Below w.heap.size w (w.alloc (.cells bc 37))) := (Below.refl _ _).alloc (Nat.le_refl _) _
  have c2 : decide ((8192 : Int) ≤ (r : Int)) = false := by rw [decide_eq_false_iff_not]; omega
  rw [← hr] at CA
  rw [← hp, ← hq]
  have CU := fun W => cut_nil k q hk (by omega) W
  have c6 : (w.alloc (.cells bc 37)).cell? ⟨w.heap.size, 6, none⟩ = some (.bool false) := (Blk.cell BB.out 6).trans hb6.out
  clear hr hp hq ha h
  go_enter Try.func39, Try.ntmps39
  go_upto_region 13 with fail
  generalize w.alloc (.cells bc 37) = W at *
  go_wp2_with (first
    | (refine wpList_load_want (by rfl) 37 _ rfl w.heap.size 0 rfl bc.toList _ (Blk.range' BB.out) Try.underlying37 rfl (by rw [Array.length_toList, hbs.out]; exact IB.out) ?_; rw [Array.toArray_toList])
    | (go_at_call 50; refine (CA _).mono ?_; rintro e w2 ⟨rfl, hbw⟩; have L2 : Hid (Below w.heap.size w w2) := L0.out.trans (hbw.mono (Nat.le_of_lt (Blk.lt BB.out))); clear hbw)
    | (go_at_call 48; refine (CU _).mono ?_; rintro e w3 ⟨rfl, ew⟩; rw [ew]; clear ew))
  go_ret2
  exact ⟨rfl, L2.out⟩
set_option maxRecDepth 100000 in
set_option maxHeartbeats 2000000 in
theorem runAt_chr (b : Nat) (bc : Array Value) (hbs : Hid (bc.size = 31)) (hb6 : Hid (bc[6]? = some (.bool true))) (c : Value) (a : Nat) (ha : a < 65536) (h : a % 16384 < 8192) (k e : Nat) (hk : k < 8192) (he : e = min (k + (1024 - a % 1024)) 8192) (w : World)
    (CA : ∀ W, Calls Try.prog 50 #[.agg bc, .int .u16 (a % 16384 : Nat)] W fun e w' => e = .returned (.int .i64 (k : Nat)) ∧ Below W.heap.size W w') :
    Calls Try.prog 39 #[.pointer (some ⟨b, 0, none⟩), .agg bc, c, .int .u16 (a : Nat)] w fun x w' => x = .returned (.tuple #[.slice (some ⟨b, 4385 + k, none⟩) (e - k) (e - k), .int .i64 (1024 - a % 1024 : Nat)]) ∧ Below w.heap.size w w' := by
  obtain ⟨r, hr⟩ : ∃ r, r = a % 16384 := ⟨_, rfl⟩
  obtain ⟨p, hp⟩ : ∃ p, p = a % 1024 := ⟨_, rfl⟩
  obtain ⟨q, hq⟩ : ∃ q, q = 1024 - p := ⟨_, rfl⟩
  have r1 : ((a : Int)).tmod 16384 = (r : Int) := by rw [Int.tmod_eq_emod_of_nonneg (by omega)]; omega
  have r2 : ((r : Int)).tmod 1024 = (p : Int) := by rw [Int.tmod_eq_emod_of_nonneg (by omega)]; omega
  have s1 : (1024 : Int) - (p : Int) = (q : Int) := by omega
  have rb : r < 65536 := by omega
  have pb : p < 65536 := by omega
  have qb : q < 65536 := by omega
  have c1 : decide ((16128 : Int) ≤ (r : Int)) = false := by rw [decide_eq_false_iff_not]; omega
  have IB : Hid ((Try.prog.info? 37).map (·.size) = some 31) := (by kernel_rfl : (Try.prog.info? 37).map (·.size) = some 31)
  have BB : Hid (Blk (w.alloc (.cells bc 37)) w.heap.size bc 37) := Blk.new w bc _
  have L0 : Hid (Below w.heap.size w (w.alloc (.cells bc 37))) := (Below.refl _ _).alloc (Nat.le_refl _) _
  have c2 : decide ((8192 : Int) ≤ (r : Int)) = false := by rw [decide_eq_false_iff_not]; omega
  rw [← hr] at CA
  rw [← hp, ← hq]
  rw [← hp, ← hq] at he
  have CU := fun W => cut_any b 4385 8192 8192 k q e (by decide) (by decide) hk (by omega) (by omega) he W
  have CU2 : ∀ W, Calls Try.prog 48 #[.slice (some ⟨b, 4385, none⟩) 8192 8192, .int .i64 (k : Nat), .int .i64 (q : Nat)] W fun x w' => x = .returned (.slice (some ⟨b, 4385 + k, none⟩) (e - k) (e - k)) ∧ Below W.heap.size W w' := fun W => (CU W).mono fun x w' h => ⟨h.1, by rw [h.2]; exact Below.refl _ _⟩
  have c6 : (w.alloc (.cells bc 37)).cell? ⟨w.heap.size, 6, none⟩ = some (.bool true) := (Blk.cell BB.out 6).trans hb6.out
  have PC := True.intro
  clear hr hp hq ha h CU he
  go_enter Try.func39, Try.ntmps39
  go_upto_region 14 with fail
  generalize w.alloc (.cells bc 37) = W at *
  have s0 : Below W.heap.size W W.drew := (Below.refl _ _).drew
  refine wp_region_held (S := fun v => Below W.heap.size W v) (by kernel_rfl) ?_
  refine takeH (i := 0) (v := .pointer (some ⟨b, 0, none⟩)) _ rfl (by kernel_rfl) (by kernel_rfl) (by kernel_rfl) (fun _ _ _ h => h) (.inl ⟨by kernel_rfl, fun _ _ => by kernel_rfl⟩) s0 rfl ?_
  refine takeH (i := 1) (v := .pointer (some ⟨b, 0, none⟩)) _ rfl (by kernel_rfl) (by kernel_rfl) (by kernel_rfl) (fun _ _ _ h => h) (.inl ⟨by kernel_rfl, fun _ _ => by kernel_rfl⟩) s0 rfl ?_
  refine takeH (i := 2) (v := .pointer (some ⟨b, 4385, none⟩)) _ rfl (by kernel_rfl) (by kernel_rfl) (by kernel_rfl) (fun _ _ _ h => h) (.inl ⟨by kernel_rfl, fun _ _ => by kernel_rfl⟩) s0 rfl ?_
  refine takeH (i := 3) (v := .slice (some ⟨b, 4385, none⟩) 8192 8192) _ rfl (by kernel_rfl) (by kernel_rfl) (by kernel_rfl) (fun _ _ _ h => h) (.inl ⟨by kernel_rfl, fun _ _ => by kernel_rfl⟩) s0 rfl ?_
  refine takeH (i := 4) (v := .agg bc) _ rfl (by kernel_rfl) (by kernel_rfl) (by kernel_rfl) (fun _ _ _ h => h) (yieldsBd (by kernel_rfl) (.tmp 5) rfl w.heap.size (by kernel_rfl) bc (fun v hv => Blk.below BB.out (Blk.lt BB.out) hv) hbs.out) s0 rfl ?_
  refine takeH (i := 5) (v := .int .u16 (r : Nat)) _ rfl (by kernel_rfl) (by kernel_rfl) (by kernel_rfl) (fun _ _ _ h => h) (.inl ⟨by kernel_rfl, fun _ _ => by kernel_rfl⟩) s0 rfl ?_
  refine takeH (i := 7) (v := .int .i64 (q : Nat)) _ rfl (by kernel_rfl) (by kernel_rfl) (by kernel_rfl) (fun _ _ _ h => h) (.inl ⟨by kernel_rfl, fun _ _ => by kernel_rfl⟩) s0 rfl ?_
  refine takeH (i := 9) (v := .int .i64 (q : Nat)) _ rfl (by kernel_rfl) (by kernel_rfl) (by kernel_rfl) (fun _ _ _ h => h) (.inl ⟨by kernel_rfl, fun _ _ => by kernel_rfl⟩) s0 rfl ?_
  refine callH (i := 6) (f := 50) (v := .int .i64 (k : Nat)) _ (by kernel_rfl) rfl (by kernel_rfl) (by kernel_rfl) (CA _) rfl ?_
  intro Wa hba
  have sa : Below W.heap.size W Wa := s0.trans (hba.mono (Nat.le_refl _))
  refine ⟨sa, ?_⟩
  refine callH (i := 8) (f := 48) (v := .slice (some ⟨b, 4385 + k, none⟩) (e - k) (e - k)) _ (by kernel_rfl) rfl (by kernel_rfl) (by kernel_rfl) (CU2 _) rfl ?_
  intro Wb hbb
  have sb : Below W.heap.size W Wb := sa.trans (hbb.mono sa.size)
  refine ⟨sb, ?_⟩
  refine takeH (i := 10) (v := .slice (some ⟨b, 4385 + k, none⟩) (e - k) (e - k)) _ rfl (by kernel_rfl) (by kernel_rfl) (by kernel_rfl) (fun _ _ _ h => h) (.inl ⟨by kernel_rfl, fun _ _ => by kernel_rfl⟩) sb rfl ?_
  refine takeH (i := 11) (v := .int .i64 (q : Nat)) _ rfl (by kernel_rfl) (by kernel_rfl) (by kernel_rfl) (fun _ _ _ h => h) (.inl ⟨by kernel_rfl, fun _ _ => by kernel_rfl⟩) sb rfl ?_
  refine wpAnyH_done (by kernel_rfl) ?_ _
  clear PC
  go_wp2
  refine bodyPost_ret (v := .tuple #[.slice (some ⟨b, 4385 + k, none⟩) (e - k) (e - k), .int .i64 (q : Nat)]) ((results_tmp2 Try.results39 _ _ _).trans (by kernel_rfl)) (by kernel_rfl) ?_
  exact ⟨rfl, L0.out.trans (sb.mono (Nat.le_of_lt (Blk.lt BB.out)))⟩

set_option maxRecDepth 100000 in
set_option maxHeartbeats 2000000 in
theorem runAt_nt (b : Nat) (bc : Array Value) (hbs : Hid (bc.size = 31)) (c : Value) (a : Nat) (ha : a < 65536) (h : 8192 ≤ a % 16384) (h2 : a % 16384 < 16128) (g l k : Nat) (hg : g < 4) (hl : l = min (1024 - a % 1024) (16128 - a % 16384)) (hk : k = 1024 * g + a % 1024) (w : World)
    (PA : ∀ W, Calls Try.prog 49 #[.agg bc, .int .u16 (a % 16384 : Nat)] W fun e w' => e = .returned (.int .i64 (g : Nat)) ∧ Below W.heap.size W w') :
    Calls Try.prog 39 #[.pointer (some ⟨b, 0, none⟩), .agg bc, c, .int .u16 (a : Nat)] w fun x w' => x = .returned (.tuple #[.slice (some ⟨b, 257 + k, none⟩) l l, .int .i64 (l : Nat)]) ∧ Below w.heap.size w w' := by
  obtain ⟨r, hr⟩ : ∃ r, r = a % 16384 := ⟨_, rfl⟩
  obtain ⟨p, hp⟩ : ∃ p, p = a % 1024 := ⟨_, rfl⟩
  obtain ⟨q, hq⟩ : ∃ q, q = 1024 - p := ⟨_, rfl⟩
  have r1 : ((a : Int)).tmod 16384 = (r : Int) := by rw [Int.tmod_eq_emod_of_nonneg (by omega)]; omega
  have r2 : ((r : Int)).tmod 1024 = (p : Int) := by rw [Int.tmod_eq_emod_of_nonneg (by omega)]; omega
  have s1 : (1024 : Int) - (p : Int) = (q : Int) := by omega
  have rb : r < 65536 := by omega
  have pb : p < 65536 := by omega
  have qb : q < 65536 := by omega
  have c1 : decide ((16128 : Int) ≤ (r : Int)) = false := by rw [decide_eq_false_iff_not]; omega
  have IB : Hid ((Try.prog.info? 37).map (·.size) = some 31) := (by kernel_rfl : (Try.prog.info? 37).map (·.size) = some 31)
  have BB : Hid (Blk (w.alloc (.cells bc 37)) w.heap.size bc 37) := Blk.new w bc _
  have L0 : Hid (Below w.heap.size w (w.alloc (.cells bc 37))) := (Below.refl _ _).alloc (Nat.le_refl _) _
  have c2 : decide ((8192 : Int) ≤ (r : Int)) = true := by rw [decide_eq_true_eq]; omega
  rw [← hr] at PA hl
  rw [← hp] at hl hk
  rw [← hq] at hl
  obtain ⟨k0, hk0⟩ : ∃ k0, k0 = 1024 * g := ⟨_, rfl⟩
  obtain ⟨t, ht⟩ : ∃ t, t = 16128 - r := ⟨_, rfl⟩
  have s3 : (16128 : Int) - (r : Int) = (t : Int) := by omega
  have tb : t < 65536 := by omega
  have s4 : (1024 : Int) * (g : Int) = (k0 : Int) := by omega
  have s5 : (k0 : Int) + (p : Int) = (k : Int) := by omega
  have m1 : ∀ w : World, (Builtin.min_ #[3, 3] 3 #[.int .i64 (q : Nat), .int .i64 (t : Nat)]).run Try.prog w = .ok (.int .i64 (l : Nat)) w := fun w => by
    rw [vmin2i, show min (q : Int) (t : Nat) = (l : Nat) by omega]
  have CU := fun W => cut_any b 257 4096 4096 k l (k + l) (by decide) (by decide) (by omega) (by omega) (by omega) (by omega) W
  rw [show k + l - k = l by omega] at CU
  have CU2 : ∀ W, Calls Try.prog 48 #[.slice (some ⟨b, 257, none⟩) 4096 4096, .int .i64 (k : Nat), .int .i64 (l : Nat)] W fun x w' => x = .returned (.slice (some ⟨b, 257 + k, none⟩) l l) ∧ Below W.heap.size W w' := fun W => (CU W).mono fun x w' h => ⟨h.1, by rw [h.2]; exact Below.refl _ _⟩
  have PC := True.intro
  have k0b : k0 < 65536 := by omega
  have kb : k < 65536 := by omega
  clear hr hp hq ha h h2 CU hl hk hk0 ht hg
  go_enter Try.func39, Try.ntmps39
  go_upto_region 12 with fail
  generalize w.alloc (.cells bc 37) = W at *
  have s0 : Below W.heap.size W W.drew := (Below.refl _ _).drew
  refine wp_region_held (S := fun v => Below W.heap.size W v) (by kernel_rfl) ?_
  refine takeH (i := 0) (v := .pointer (some ⟨b, 0, none⟩)) _ rfl (by kernel_rfl) (by kernel_rfl) (by kernel_rfl) (fun _ _ _ h => h) (.inl ⟨by kernel_rfl, fun _ _ => by kernel_rfl⟩) s0 rfl ?_
  refine takeH (i := 1) (v := .pointer (some ⟨b, 0, none⟩)) _ rfl (by kernel_rfl) (by kernel_rfl) (by kernel_rfl) (fun _ _ _ h => h) (.inl ⟨by kernel_rfl, fun _ _ => by kernel_rfl⟩) s0 rfl ?_
  refine takeH (i := 2) (v := .pointer (some ⟨b, 257, none⟩)) _ rfl (by kernel_rfl) (by kernel_rfl) (by kernel_rfl) (fun _ _ _ h => h) (.inl ⟨by kernel_rfl, fun _ _ => by kernel_rfl⟩) s0 rfl ?_
  refine takeH (i := 3) (v := .slice (some ⟨b, 257, none⟩) 4096 4096) _ rfl (by kernel_rfl) (by kernel_rfl) (by kernel_rfl) (fun _ _ _ h => h) (.inl ⟨by kernel_rfl, fun _ _ => by kernel_rfl⟩) s0 rfl ?_
  refine takeH (i := 4) (v := .agg bc) _ rfl (by kernel_rfl) (by kernel_rfl) (by kernel_rfl) (fun _ _ _ h => h) (yieldsBd (by kernel_rfl) (.tmp 5) rfl w.heap.size (by kernel_rfl) bc (fun v hv => Blk.below BB.out (Blk.lt BB.out) hv) hbs.out) s0 rfl ?_
  refine takeH (i := 5) (v := .int .u16 (r : Nat)) _ rfl (by kernel_rfl) (by kernel_rfl) (by kernel_rfl) (fun _ _ _ h => h) (.inl ⟨by kernel_rfl, fun _ _ => by kernel_rfl⟩) s0 rfl ?_
  refine takeH (i := 8) (v := .int .i64 (p : Nat)) _ rfl (by kernel_rfl) (by kernel_rfl) (by kernel_rfl) (fun _ _ _ h => h) (.inl ⟨by kernel_rfl, fun _ _ => by kernel_rfl⟩) s0 rfl ?_
  refine takeH (i := 10) (v := .int .i64 (l : Nat)) _ rfl (by kernel_rfl) (by kernel_rfl) (by kernel_rfl) (fun _ _ _ h => h) (.inl ⟨by kernel_rfl, fun _ _ => by kernel_rfl⟩) s0 rfl ?_
  refine takeH (i := 12) (v := .int .i64 (l : Nat)) _ rfl (by kernel_rfl) (by kernel_rfl) (by kernel_rfl) (fun _ _ _ h => h) (.inl ⟨by kernel_rfl, fun _ _ => by kernel_rfl⟩) s0 rfl ?_
  refine callH (i := 6) (f := 49) (v := .int .i64 (g : Nat)) _ (by kernel_rfl) rfl (by kernel_rfl) (by kernel_rfl) (PA _) rfl ?_
  intro Wa hba
  have sa : Below W.heap.size W Wa := s0.trans (hba.mono (Nat.le_refl _))
  refine ⟨sa, ?_⟩
  refine takeH (i := 7) (v := .int .i64 (k0 : Nat)) _ rfl (by kernel_rfl) (by kernel_rfl) (by kernel_rfl) (fun _ _ _ h => h) (.inl ⟨by kernel_rfl, fun v _ => exec_mulW rfl (by kernel_rfl) (by kernel_rfl) s4 (by omega)⟩) sa rfl ?_
  refine takeH (i := 9) (v := .int .i64 (k : Nat)) _ rfl (by kernel_rfl) (by kernel_rfl) (by kernel_rfl) (fun _ _ _ h => h) (.inl ⟨by kernel_rfl, fun v _ => exec_addW rfl (by kernel_rfl) (by kernel_rfl) s5 (by omega)⟩) sa rfl ?_
  refine callH (i := 11) (f := 48) (v := .slice (some ⟨b, 257 + k, none⟩) l l) _ (by kernel_rfl) rfl (by kernel_rfl) (by kernel_rfl) (CU2 _) rfl ?_
  intro Wb hbb
  have sb : Below W.heap.size W Wb := sa.trans (hbb.mono sa.size)
  refine ⟨sb, ?_⟩
  refine takeH (i := 13) (v := .slice (some ⟨b, 257 + k, none⟩) l l) _ rfl (by kernel_rfl) (by kernel_rfl) (by kernel_rfl) (fun _ _ _ h => h) (.inl ⟨by kernel_rfl, fun _ _ => by kernel_rfl⟩) sb rfl ?_
  refine takeH (i := 14) (v := .int .i64 (l : Nat)) _ rfl (by kernel_rfl) (by kernel_rfl) (by kernel_rfl) (fun _ _ _ h => h) (.inl ⟨by kernel_rfl, fun _ _ => by kernel_rfl⟩) sb rfl ?_
  refine wpAnyH_done (by kernel_rfl) ?_ _
  clear PC
  go_wp2
  refine bodyPost_ret (v := .tuple #[.slice (some ⟨b, 257 + k, none⟩) l l, .int .i64 (l : Nat)]) ((results_tmp2 Try.results39 _ _ _).trans (by kernel_rfl)) (by kernel_rfl) ?_
  exact ⟨rfl, L0.out.trans (sb.mono (Nat.le_of_lt (Blk.lt BB.out)))⟩

end Go.Proofs.Ytecaipakaaongaa
namespace Go.Proofs.Ytecaipakaaongaa
open Go.RowKit Classical
/-- The byte that is laid at an address. -/
def pkv (a v : Nat) : Nat := if 16128 ≤ a % 16384 then v % 64 else v
set_option maxRecDepth 100000 in
set_option maxHeartbeats 2000000 in
theorem poke_at (b : Nat) (cs : Array Value) (f : Nat → Nat) (V : Vid cs f) (bc : Array Value) (hbs : Hid (bc.size = 31)) (a v o l m : Nat) (ha : a < 65536) (hv : v < 256) (h0 : 0 < l) (hl : l ≤ 8192) (ho : o < 12577) (hob : cel o (f o) = .int .u8 (f o : Nat)) (w : World) (hb : Blk w b cs 28)
    (RA : ∀ W, Calls Try.prog 39 #[.pointer (some ⟨b, 0, none⟩), .agg bc, .slice none 0 0, .int .u16 (a : Nat)] W fun x w' => x = .returned (.tuple #[.slice (some ⟨b, o, none⟩) l l, .int .i64 (m : Nat)]) ∧ Below W.heap.size W w') :
    Calls Try.prog 31 #[.pointer (some ⟨b, 0, none⟩), .agg bc, .int .u16 (a : Nat), .int .u8 (v : Nat)] w fun x w' => x = .returned (.tuple #[]) ∧ ∃ w2, Below w.heap.size w w2 ∧ w' = w2.setCell ⟨b, o, none⟩ (.int .u8 (pkv a v : Nat)) := by
  obtain ⟨r, hr⟩ : ∃ r, r = a % 16384 := ⟨_, rfl⟩
  have r1 : ((a : Int)).tmod 16384 = (r : Int) := by rw [Int.tmod_eq_emod_of_nonneg (by omega)]; omega
  have rb : r < 65536 := by omega
  have IB : Hid ((Try.prog.info? 37).map (·.size) = some 31) := (by kernel_rfl : (Try.prog.info? 37).map (·.size) = some 31)
  have BB : Hid (Blk (w.alloc (.cells bc 37)) w.heap.size bc 37) := Blk.new w bc _
  have L0 : Hid (Below w.heap.size w (w.alloc (.cells bc 37))) := (Below.refl _ _).alloc (Nat.le_refl _) _
  have BV : Hid (Blk (w.alloc (.cells bc 37)) b cs 28) := hb.old _
  have hco : cs[o]? = some (.int .u8 (f o : Nat)) := by rw [V.2 o (by omega), hob]
  have lI : (0 : Int) < (l : Int) := by omega
  obtain ⟨y, hy⟩ : ∃ y, y = pkv a v := ⟨_, rfl⟩
  rw [← hy]
  generalize f o = old at hco
  clear V hob hb
  by_cases h : 16128 ≤ r
  · have c1 : decide ((16128 : Int) ≤ (r : Int)) = true := by rw [decide_eq_true_eq]; omega
    have hy2 := and63 v hv
    have hyv : y = v % 64 := by rw [hy]; unfold pkv; rw [if_pos (by omega)]
    rw [← hyv] at hy2
    clear hy hr h ha hyv
    go_enter Try.func31, Try.ntmps31
    go_upto_region 3 with fail
    generalize w.alloc (.cells bc 37) = W at *
    go_wp2_with (first
      | (refine wpList_load_want (by rfl) 37 _ rfl w.heap.size 0 rfl bc.toList _ (Blk.range' BB.out) Try.underlying37 rfl (by rw [Array.length_toList, hbs.out]; exact IB.out) ?_; rw [Array.toArray_toList])
      | (go_at_call 39; refine (RA _).mono ?_; rintro e w2 ⟨rfl, hbw⟩; have L2 : Hid (Below w.heap.size w w2) := L0.out.trans (hbw.mono (Nat.le_of_lt (Blk.lt BB.out))); have fr : w2.frozen? ⟨b, o, none⟩ = false := (BV.out.below BV.out.lt hbw).free o; have cc := (BV.out.below BV.out.lt hbw).cell o; have B2 : Hid (Blk w2 b cs 28) := BV.out.below BV.out.lt hbw; clear hbw))
    go_end0
    exact ⟨rfl, w2, L2.out, rfl⟩
  · have c1 : decide ((16128 : Int) ≤ (r : Int)) = false := by rw [decide_eq_false_iff_not]; omega
    have hyv : y = v := by rw [hy]; unfold pkv; rw [if_neg (by omega)]
    subst hyv
    clear hy hr h ha
    go_enter Try.func31, Try.ntmps31
    go_upto_region 3 with fail
    generalize w.alloc (.cells bc 37) = W at *
    go_wp2_with (first
      | (refine wpList_load_want (by rfl) 37 _ rfl w.heap.size 0 rfl bc.toList _ (Blk.range' BB.out) Try.underlying37 rfl (by rw [Array.length_toList, hbs.out]; exact IB.out) ?_; rw [Array.toArray_toList])
      | (go_at_call 39; refine (RA _).mono ?_; rintro e w2 ⟨rfl, hbw⟩; have L2 : Hid (Below w.heap.size w w2) := L0.out.trans (hbw.mono (Nat.le_of_lt (Blk.lt BB.out))); have fr : w2.frozen? ⟨b, o, none⟩ = false := (BV.out.below BV.out.lt hbw).free o; have cc := (BV.out.below BV.out.lt hbw).cell o; have B2 : Hid (Blk w2 b cs 28) := BV.out.below BV.out.lt hbw; clear hbw))
    go_end0
    exact ⟨rfl, w2, L2.out, rfl⟩
set_option maxRecDepth 100000 in
set_option maxHeartbeats 2000000 in
theorem poke_no (b : Nat) (bc : Array Value) (hbs : Hid (bc.size = 31)) (a v m : Nat) (ha : a < 65536) (hv : v < 256) (h : a % 16384 < 16128) (w : World)
    (RA : ∀ W, Calls Try.prog 39 #[.pointer (some ⟨b, 0, none⟩), .agg bc, .slice none 0 0, .int .u16 (a : Nat)] W fun x w' => x = .returned (.tuple #[.slice none 0 0, .int .i64 (m : Nat)]) ∧ Below W.heap.size W w') :
    Calls Try.prog 31 #[.pointer (some ⟨b, 0, none⟩), .agg bc, .int .u16 (a : Nat), .int .u8 (v : Nat)] w fun x w' => x = .returned (.tuple #[]) ∧ Below w.heap.size w w' := by
  obtain ⟨r, hr⟩ : ∃ r, r = a % 16384 := ⟨_, rfl⟩
  have r1 : ((a : Int)).tmod 16384 = (r : Int) := by rw [Int.tmod_eq_emod_of_nonneg (by omega)]; omega
  have rb : r < 65536 := by omega
  have c1 : decide ((16128 : Int) ≤ (r : Int)) = false := by rw [decide_eq_false_iff_not]; omega
  have IB : Hid ((Try.prog.info? 37).map (·.size) = some 31) := (by kernel_rfl : (Try.prog.info? 37).map (·.size) = some 31)
  have BB : Hid (Blk (w.alloc (.cells bc 37)) w.heap.size bc 37) := Blk.new w bc _
  have L0 : Hid (Below w.heap.size w (w.alloc (.cells bc 37))) := (Below.refl _ _).alloc (Nat.le_refl _) _
  clear hr h ha
  go_enter Try.func31, Try.ntmps31
  go_upto_region 3 with fail
  generalize w.alloc (.cells bc 37) = W at *
  go_wp2_with (first
    | (refine wpList_load_want (by rfl) 37 _ rfl w.heap.size 0 rfl bc.toList _ (Blk.range' BB.out) Try.underlying37 rfl (by rw [Array.length_toList, hbs.out]; exact IB.out) ?_; rw [Array.toArray_toList])
    | (go_at_call 39; refine (RA _).mono ?_; rintro e w2 ⟨rfl, hbw⟩; have L2 : Hid (Below w.heap.size w w2) := L0.out.trans (hbw.mono (Nat.le_of_lt (Blk.lt BB.out))); clear hbw))
  go_end0
  exact ⟨rfl, L2.out⟩
end Go.Proofs.Ytecaipakaaongaa
