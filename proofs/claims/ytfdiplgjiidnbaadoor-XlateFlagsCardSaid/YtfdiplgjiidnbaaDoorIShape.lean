/-
  What Decode of package isa answers; conditions: a byte.
-/
import Derived.Test.YtfdiplgjiidnbaaDoorIRun
import Derived.Test.YtfdiplgjiidnbaaDoorIHand
import Derived.Deep.RegionWith
import Derived.Deep.RegionHeld3
import Derived.Laws.MakeOwn
set_option linter.unusedSimpArgs false
set_option linter.unusedVariables false
namespace Go.Proofs.YtfdiplgjiidnbaaDoor
open Go.RowKit
theorem rowOf_agg' (k : Nat) (hk : k < 256) (w : World) :
    Calls Tryd.prog 27 #[.int .u8 (k : Nat)] w fun e w' => e = .returned (.agg #[.int .i64 (opN k : Nat), .int .i64 (mdN k : Nat), .int .i64 (clN k : Nat)]) ∧ Below w.heap.size w w' := rowOf_any k hk w
abbrev Zi6 : Array Value := #[.int .i64 0, .int .i64 0, .int .i64 0, .int .i64 0, .int .i64 0, .int .i64 0]
theorem lenOf_b (k : Nat) (hk : k < 256) (w : World) :
    Calls Tryd.prog 30 #[.int .i64 (mdN k : Nat)] w fun e w' => e = .returned (.int .i64 (lnN k : Nat)) ∧ Below w.heap.size w w' :=
  (lenOf_any k hk w).mono fun _ _ ⟨h1, h2⟩ => ⟨h1, h2 ▸ Below.refl _ _⟩
theorem cell_ltx {w : World} {p : Addr} {v : Value} (h : w.cell? p = some v) : p.block < w.heap.size := by
  refine Nat.lt_of_not_le fun hle => ?_
  have : w.heap[p.block]? = none := by simp [hle]
  simp [World.cell?, this] at h
theorem cell_setCells {b s : Nat} (hn : s ≠ b) : ∀ (vs : List Value) (o : Nat) (w : World) (x : Value), w.cell? ⟨s, 8, none⟩ = some x → (w.setCells b o vs).cell? ⟨s, 8, none⟩ = some x
  | [], _, _, _, h => h
  | v :: vs, o, w, x, h => cell_setCells hn vs (o + 1) _ x ((World.cell?_of_block (w := w) (a := ⟨s, 8, none⟩) (Below.heap_setCell w ⟨b, o, none⟩ v s hn)).trans h)
abbrev DQ (k r s n : Nat) (w v : World) : Prop := Blk v r #[.int .i64 (opN k : Nat), .int .i64 (mdN k : Nat), .int .i64 (clN k : Nat)] 63 ∧ v.cell? ⟨s, 8, none⟩ = some (.int .i64 (n : Nat)) ∧ (∃ cs, Blk v w.heap.size cs 42 ∧ cs.size = 6) ∧ Below w.heap.size w v
theorem DQ.on {k r s n : Nat} {w v v' : World} (h : DQ k r s n w v) (hb : Below v.heap.size v v') : DQ k r s n w v' :=
  ⟨h.1.below h.1.lt hb, (hb.cell (p := ⟨s, 8, none⟩) (cell_ltx h.2.1)).trans h.2.1, h.2.2.1.elim fun cs hc => ⟨cs, hc.1.below hc.1.lt hb, hc.2⟩, h.2.2.2.trans (hb.mono h.2.2.2.size)⟩
set_option maxRecDepth 100000 in
set_option maxHeartbeats 2000000 in
theorem decode_any (k : Nat) (hk : k < 256) (w : World) :
    Calls Tryd.prog 12 #[.int .u8 (k : Nat)] w fun e w' => e = .returned (.agg #[.int .i64 (opN k : Nat), .int .i64 (mdN k : Nat), .int .i64 (kdN k : Nat), .int .i64 (lnN k : Nat), .int .i64 ((shQ k false false).length : Nat), .int .i64 (clN k : Nat)]) ∧ Below w.heap.size w w' := by
  have hlen := (shp_length k hk false false).1
  have hsz : (runC (shQ k false false)).toArray.size = 9 := by simpa using runC_length hlen
  have h1 : (runC (shQ k false false)).toArray.all (·.oneCell') = true := all_oneCell_toArray runC_one
  have h8 := runC_n hlen
  have RC := Hid.mk1' (fun W => runOf_any k hk false false W)
  have KC := fun W => kindOf_any k hk W
  unfold rowV at KC
  have HK : Hid _ := KC
  clear KC
  generalize (runC (shQ k false false)).toArray = L at *
  generalize ((shQ k false false).length : Nat) = n at *
  have HS := Hid.mk1' hsz
  have H1 := Hid.mk1' h1
  have H8 := Hid.mk1' h8
  clear hsz h1 h8
  go_enter Tryd.func12, Tryd.ntmps12
  go_upto_region 2 with (go_at_call 27; go_must (refine (rowOf_agg' k hk _).mono ?_; rintro e w1 ⟨rfl, hb1⟩))
  have hs1 := hb1.size
  simp only [World.size_alloc] at hs1
  have hb1' : Below w.heap.size w w1 := ((Below.refl _ _).alloc (Nat.le_refl _) _).trans (hb1.mono (by simp))
  have z1 : Blk w1 w.heap.size Zi6 42 := (Blk.new w Zi6 42).below (by simp) hb1
  have r2 : Blk (w1.alloc (.cells #[.int .i64 (opN k : Nat), .int .i64 (mdN k : Nat), .int .i64 (clN k : Nat)] 63)) w1.heap.size #[.int .i64 (opN k : Nat), .int .i64 (mdN k : Nat), .int .i64 (clN k : Nat)] 63 := Blk.new w1 _ _
  have z2 : Blk (w1.alloc (.cells #[.int .i64 (opN k : Nat), .int .i64 (mdN k : Nat), .int .i64 (clN k : Nat)] 63)) w.heap.size Zi6 42 := z1.old _
  have hb2 : Below w.heap.size w (w1.alloc (.cells #[.int .i64 (opN k : Nat), .int .i64 (mdN k : Nat), .int .i64 (clN k : Nat)] 63)) := hb1'.alloc (by omega) _
  change Code.wp _ _ _ _ (w1.alloc (.cells #[.int .i64 (opN k : Nat), .int .i64 (mdN k : Nat), .int .i64 (clN k : Nat)] 63))
  obtain ⟨r, hr⟩ : ∃ r, r = w1.heap.size := ⟨_, rfl⟩
  rw [← hr] at r2 ⊢
  generalize (w1.alloc (.cells #[.int .i64 (opN k : Nat), .int .i64 (mdN k : Nat), .int .i64 (clN k : Nat)] 63)) = W2 at *
  have hrn : w.heap.size < r := by omega
  clear hb1 hb1' z1 hs1 hr
  have rc := r2.cell
  go_upto_region 3 with (first
    | (go_at_call 28; go_must (refine (RC.out _).mono ?_; rintro e w3 ⟨rfl, hb3⟩))
    | (refine wpList_store_blk rfl 68 _ _ rfl w3.heap.size Z9 L 68 rfl rfl (Blk.new w3 Z9 68) HS.out (by rw [HS.out]; exact Tryd.infoRun) H1.out W2.heap.size W2 hb3.size (hb3.alloc hb3.size _) ?_; intro w4 hB4 hb4 _; have c8 := (hB4.cell 8).trans H8.out))
  have r4 := r2.below r2.lt hb4
  have z4 := z2.below z2.lt hb4
  have hb5 := hb2.trans (hb4.mono hb2.size)
  have hsl := hB4.lt
  have hs3 : r < w3.heap.size := Nat.lt_of_lt_of_le r2.lt hb3.size
  generalize w3.heap.size = s at *
  clear rc r2 z2 hb4 hb3 hB4
  simp only [Act.put]
  go_simp
  have hsn : s ≠ w.heap.size := by omega
  have s0 : DQ k r s n w w4.drew := ⟨r4.drew, c8, ⟨Zi6, z4.drew, rfl⟩, hb5.drew⟩
  clear c8 r4 z4 hb5
  refine wp_region_held (S := fun v => Blk v r #[.int .i64 (opN k : Nat), .int .i64 (mdN k : Nat), .int .i64 (clN k : Nat)] 63 ∧ v.cell? ⟨s, 8, none⟩ = some (.int .i64 (n : Nat)) ∧ (∃ cs, Blk v w.heap.size cs 42 ∧ cs.size = 6) ∧ Below w.heap.size w v) (by kernel_rfl) ?_
  refine takeH (i := 0) (v := .pointer (some ⟨r, 0, none⟩)) ⟨#[.int .u8 (k : Nat), undef, .pointer (some ⟨w.heap.size, 0, none⟩), .pointer (some ⟨r, 0, none⟩), .pointer (some ⟨s, 0, none⟩), .int .u8 (k : Nat), .agg #[.int .i64 (opN k : Nat), .int .i64 (mdN k : Nat), .int .i64 (clN k : Nat)], .agg #[.int .i64 (opN k : Nat), .int .i64 (mdN k : Nat), .int .i64 (clN k : Nat)], .agg L, .pointer (some ⟨r, 0, none⟩), undef, undef, undef, undef, undef, undef, undef, undef, undef, undef, undef, undef, undef], []⟩ rfl (by kernel_rfl) (by kernel_rfl) (by kernel_rfl) (fun _ _ _ h => h) (.inl ⟨by kernel_rfl, fun _ _ => by kernel_rfl⟩) s0 (by kernel_rfl) ?_
  refine takeH (i := 1) (v := .int .i64 (opN k : Nat)) ⟨#[.int .u8 (k : Nat), undef, .pointer (some ⟨w.heap.size, 0, none⟩), .pointer (some ⟨r, 0, none⟩), .pointer (some ⟨s, 0, none⟩), .int .u8 (k : Nat), .agg #[.int .i64 (opN k : Nat), .int .i64 (mdN k : Nat), .int .i64 (clN k : Nat)], .agg #[.int .i64 (opN k : Nat), .int .i64 (mdN k : Nat), .int .i64 (clN k : Nat)], .agg L, .pointer (some ⟨r, 0, none⟩), .int .i64 (opN k : Nat), undef, undef, undef, undef, undef, undef, undef, undef, undef, undef, undef, undef], []⟩ rfl (by kernel_rfl) (by kernel_rfl) (by kernel_rfl) (fun _ _ _ h => h) (.inl ⟨by kernel_rfl, fun v hv => by have c : v.cell? ⟨r, 0, none⟩ = some (.int .i64 (opN k : Nat)) := hv.1.cell 0; go_simp⟩) s0 (by kernel_rfl) ?_
  refine takeH (i := 2) (v := .pointer (some ⟨r, 1, none⟩)) ⟨#[.int .u8 (k : Nat), undef, .pointer (some ⟨w.heap.size, 0, none⟩), .pointer (some ⟨r, 0, none⟩), .pointer (some ⟨s, 0, none⟩), .int .u8 (k : Nat), .agg #[.int .i64 (opN k : Nat), .int .i64 (mdN k : Nat), .int .i64 (clN k : Nat)], .agg #[.int .i64 (opN k : Nat), .int .i64 (mdN k : Nat), .int .i64 (clN k : Nat)], .agg L, .pointer (some ⟨r, 0, none⟩), .int .i64 (opN k : Nat), .pointer (some ⟨r, 1, none⟩), undef, undef, undef, undef, undef, undef, undef, undef, undef, undef, undef], []⟩ rfl (by kernel_rfl) (by kernel_rfl) (by kernel_rfl) (fun _ _ _ h => h) (.inl ⟨by kernel_rfl, fun _ _ => by kernel_rfl⟩) s0 (by kernel_rfl) ?_
  refine takeH (i := 3) (v := .int .i64 (mdN k : Nat)) ⟨#[.int .u8 (k : Nat), undef, .pointer (some ⟨w.heap.size, 0, none⟩), .pointer (some ⟨r, 0, none⟩), .pointer (some ⟨s, 0, none⟩), .int .u8 (k : Nat), .agg #[.int .i64 (opN k : Nat), .int .i64 (mdN k : Nat), .int .i64 (clN k : Nat)], .agg #[.int .i64 (opN k : Nat), .int .i64 (mdN k : Nat), .int .i64 (clN k : Nat)], .agg L, .pointer (some ⟨r, 0, none⟩), .int .i64 (opN k : Nat), .pointer (some ⟨r, 1, none⟩), .int .i64 (mdN k : Nat), undef, undef, undef, undef, undef, undef, undef, undef, undef, undef], []⟩ rfl (by kernel_rfl) (by kernel_rfl) (by kernel_rfl) (fun _ _ _ h => h) (.inl ⟨by kernel_rfl, fun v hv => by have c : v.cell? ⟨r, 1, none⟩ = some (.int .i64 (mdN k : Nat)) := hv.1.cell 1; go_simp⟩) s0 (by kernel_rfl) ?_
  refine takeH (i := 4) (v := .agg (#[.int .i64 (opN k : Nat), .int .i64 (mdN k : Nat), .int .i64 (clN k : Nat)] : Array Value).toList.toArray) ⟨#[.int .u8 (k : Nat), undef, .pointer (some ⟨w.heap.size, 0, none⟩), .pointer (some ⟨r, 0, none⟩), .pointer (some ⟨s, 0, none⟩), .int .u8 (k : Nat), .agg #[.int .i64 (opN k : Nat), .int .i64 (mdN k : Nat), .int .i64 (clN k : Nat)], .agg #[.int .i64 (opN k : Nat), .int .i64 (mdN k : Nat), .int .i64 (clN k : Nat)], .agg L, .pointer (some ⟨r, 0, none⟩), .int .i64 (opN k : Nat), .pointer (some ⟨r, 1, none⟩), .int .i64 (mdN k : Nat), .agg (#[.int .i64 (opN k : Nat), .int .i64 (mdN k : Nat), .int .i64 (clN k : Nat)] : Array Value), undef, undef, undef, undef, undef, undef, undef, undef, undef], []⟩ rfl (by kernel_rfl) (by kernel_rfl) (by kernel_rfl) (fun _ _ _ h => h) (yieldsIf_load_mid (by kernel_rfl) 63 (.tmp 3) rfl r 0 (by kernel_rfl) (#[.int .i64 (opN k : Nat), .int .i64 (mdN k : Nat), .int .i64 (clN k : Nat)] : Array Value).toList _ (fun v hv => Blk.range' (hv.1)) Tryd.underlying63 rfl (by rw [Array.length_toList]; kernel_rfl)) s0 (by kernel_rfl) ?_
  refine takeH (i := 6) (v := .pointer (some ⟨r, 1, none⟩)) ⟨#[.int .u8 (k : Nat), undef, .pointer (some ⟨w.heap.size, 0, none⟩), .pointer (some ⟨r, 0, none⟩), .pointer (some ⟨s, 0, none⟩), .int .u8 (k : Nat), .agg #[.int .i64 (opN k : Nat), .int .i64 (mdN k : Nat), .int .i64 (clN k : Nat)], .agg #[.int .i64 (opN k : Nat), .int .i64 (mdN k : Nat), .int .i64 (clN k : Nat)], .agg L, .pointer (some ⟨r, 0, none⟩), .int .i64 (opN k : Nat), .pointer (some ⟨r, 1, none⟩), .int .i64 (mdN k : Nat), .agg (#[.int .i64 (opN k : Nat), .int .i64 (mdN k : Nat), .int .i64 (clN k : Nat)] : Array Value), undef, .pointer (some ⟨r, 1, none⟩), undef, undef, undef, undef, undef, undef, undef], []⟩ rfl (by kernel_rfl) (by kernel_rfl) (by kernel_rfl) (fun _ _ _ h => h) (.inl ⟨by kernel_rfl, fun _ _ => by kernel_rfl⟩) s0 (by kernel_rfl) ?_
  refine takeH (i := 7) (v := .int .i64 (mdN k : Nat)) ⟨#[.int .u8 (k : Nat), undef, .pointer (some ⟨w.heap.size, 0, none⟩), .pointer (some ⟨r, 0, none⟩), .pointer (some ⟨s, 0, none⟩), .int .u8 (k : Nat), .agg #[.int .i64 (opN k : Nat), .int .i64 (mdN k : Nat), .int .i64 (clN k : Nat)], .agg #[.int .i64 (opN k : Nat), .int .i64 (mdN k : Nat), .int .i64 (clN k : Nat)], .agg L, .pointer (some ⟨r, 0, none⟩), .int .i64 (opN k : Nat), .pointer (some ⟨r, 1, none⟩), .int .i64 (mdN k : Nat), .agg (#[.int .i64 (opN k : Nat), .int .i64 (mdN k : Nat), .int .i64 (clN k : Nat)] : Array Value), undef, .pointer (some ⟨r, 1, none⟩), .int .i64 (mdN k : Nat), undef, undef, undef, undef, undef, undef], []⟩ rfl (by kernel_rfl) (by kernel_rfl) (by kernel_rfl) (fun _ _ _ h => h) (.inl ⟨by kernel_rfl, fun v hv => by have c : v.cell? ⟨r, 1, none⟩ = some (.int .i64 (mdN k : Nat)) := hv.1.cell 1; go_simp⟩) s0 (by kernel_rfl) ?_
  refine takeH (i := 9) (v := .pointer (some ⟨s, 8, none⟩)) ⟨#[.int .u8 (k : Nat), undef, .pointer (some ⟨w.heap.size, 0, none⟩), .pointer (some ⟨r, 0, none⟩), .pointer (some ⟨s, 0, none⟩), .int .u8 (k : Nat), .agg #[.int .i64 (opN k : Nat), .int .i64 (mdN k : Nat), .int .i64 (clN k : Nat)], .agg #[.int .i64 (opN k : Nat), .int .i64 (mdN k : Nat), .int .i64 (clN k : Nat)], .agg L, .pointer (some ⟨r, 0, none⟩), .int .i64 (opN k : Nat), .pointer (some ⟨r, 1, none⟩), .int .i64 (mdN k : Nat), .agg (#[.int .i64 (opN k : Nat), .int .i64 (mdN k : Nat), .int .i64 (clN k : Nat)] : Array Value), undef, .pointer (some ⟨r, 1, none⟩), .int .i64 (mdN k : Nat), undef, .pointer (some ⟨s, 8, none⟩), undef, undef, undef, undef], []⟩ rfl (by kernel_rfl) (by kernel_rfl) (by kernel_rfl) (fun _ _ _ h => h) (.inl ⟨by kernel_rfl, fun _ _ => by kernel_rfl⟩) s0 (by kernel_rfl) ?_
  refine takeH (i := 10) (v := .int .i64 (n : Nat)) ⟨#[.int .u8 (k : Nat), undef, .pointer (some ⟨w.heap.size, 0, none⟩), .pointer (some ⟨r, 0, none⟩), .pointer (some ⟨s, 0, none⟩), .int .u8 (k : Nat), .agg #[.int .i64 (opN k : Nat), .int .i64 (mdN k : Nat), .int .i64 (clN k : Nat)], .agg #[.int .i64 (opN k : Nat), .int .i64 (mdN k : Nat), .int .i64 (clN k : Nat)], .agg L, .pointer (some ⟨r, 0, none⟩), .int .i64 (opN k : Nat), .pointer (some ⟨r, 1, none⟩), .int .i64 (mdN k : Nat), .agg (#[.int .i64 (opN k : Nat), .int .i64 (mdN k : Nat), .int .i64 (clN k : Nat)] : Array Value), undef, .pointer (some ⟨r, 1, none⟩), .int .i64 (mdN k : Nat), undef, .pointer (some ⟨s, 8, none⟩), .int .i64 (n : Nat), undef, undef, undef], []⟩ rfl (by kernel_rfl) (by kernel_rfl) (by kernel_rfl) (fun _ _ _ h => h) (.inl ⟨by kernel_rfl, fun v hv => by have c : v.cell? ⟨s, 8, none⟩ = some (.int .i64 (n : Nat)) := hv.2.1; go_simp⟩) s0 (by kernel_rfl) ?_
  refine takeH (i := 11) (v := .pointer (some ⟨r, 2, none⟩)) ⟨#[.int .u8 (k : Nat), undef, .pointer (some ⟨w.heap.size, 0, none⟩), .pointer (some ⟨r, 0, none⟩), .pointer (some ⟨s, 0, none⟩), .int .u8 (k : Nat), .agg #[.int .i64 (opN k : Nat), .int .i64 (mdN k : Nat), .int .i64 (clN k : Nat)], .agg #[.int .i64 (opN k : Nat), .int .i64 (mdN k : Nat), .int .i64 (clN k : Nat)], .agg L, .pointer (some ⟨r, 0, none⟩), .int .i64 (opN k : Nat), .pointer (some ⟨r, 1, none⟩), .int .i64 (mdN k : Nat), .agg (#[.int .i64 (opN k : Nat), .int .i64 (mdN k : Nat), .int .i64 (clN k : Nat)] : Array Value), undef, .pointer (some ⟨r, 1, none⟩), .int .i64 (mdN k : Nat), undef, .pointer (some ⟨s, 8, none⟩), .int .i64 (n : Nat), .pointer (some ⟨r, 2, none⟩), undef, undef], []⟩ rfl (by kernel_rfl) (by kernel_rfl) (by kernel_rfl) (fun _ _ _ h => h) (.inl ⟨by kernel_rfl, fun _ _ => by kernel_rfl⟩) s0 (by kernel_rfl) ?_
  refine takeH (i := 12) (v := .int .i64 (clN k : Nat)) ⟨#[.int .u8 (k : Nat), undef, .pointer (some ⟨w.heap.size, 0, none⟩), .pointer (some ⟨r, 0, none⟩), .pointer (some ⟨s, 0, none⟩), .int .u8 (k : Nat), .agg #[.int .i64 (opN k : Nat), .int .i64 (mdN k : Nat), .int .i64 (clN k : Nat)], .agg #[.int .i64 (opN k : Nat), .int .i64 (mdN k : Nat), .int .i64 (clN k : Nat)], .agg L, .pointer (some ⟨r, 0, none⟩), .int .i64 (opN k : Nat), .pointer (some ⟨r, 1, none⟩), .int .i64 (mdN k : Nat), .agg (#[.int .i64 (opN k : Nat), .int .i64 (mdN k : Nat), .int .i64 (clN k : Nat)] : Array Value), undef, .pointer (some ⟨r, 1, none⟩), .int .i64 (mdN k : Nat), undef, .pointer (some ⟨s, 8, none⟩), .int .i64 (n : Nat), .pointer (some ⟨r, 2, none⟩), .int .i64 (clN k : Nat), undef], []⟩ rfl (by kernel_rfl) (by kernel_rfl) (by kernel_rfl) (fun _ _ _ h => h) (.inl ⟨by kernel_rfl, fun v hv => by have c : v.cell? ⟨r, 2, none⟩ = some (.int .i64 (clN k : Nat)) := hv.1.cell 2; go_simp⟩) s0 (by kernel_rfl) ?_
  refine wpAnyH_all (rs := [5]) (by kernel_rfl) (by simp) ?_
  intro i hi
  obtain rfl : i = 5 := by simpa using hi
  refine wpOp_contract (f := 29) rfl (by kernel_rfl) (by kernel_rfl) (HK.out w4.drew) ⟨#[.int .u8 (k : Nat), undef, .pointer (some ⟨w.heap.size, 0, none⟩), .pointer (some ⟨r, 0, none⟩), .pointer (some ⟨s, 0, none⟩), .int .u8 (k : Nat), .agg #[.int .i64 (opN k : Nat), .int .i64 (mdN k : Nat), .int .i64 (clN k : Nat)], .agg #[.int .i64 (opN k : Nat), .int .i64 (mdN k : Nat), .int .i64 (clN k : Nat)], .agg L, .pointer (some ⟨r, 0, none⟩), .int .i64 (opN k : Nat), .pointer (some ⟨r, 1, none⟩), .int .i64 (mdN k : Nat), .agg (#[.int .i64 (opN k : Nat), .int .i64 (mdN k : Nat), .int .i64 (clN k : Nat)] : Array Value), .int .i64 (kdN k : Nat), .pointer (some ⟨r, 1, none⟩), .int .i64 (mdN k : Nat), undef, .pointer (some ⟨s, 8, none⟩), .int .i64 (n : Nat), .pointer (some ⟨r, 2, none⟩), .int .i64 (clN k : Nat), undef], []⟩ (by kernel_rfl) ?_
  intro w5 hbw
  have s1 := DQ.on s0 hbw
  clear hi
  refine ⟨s1, ?_⟩
  refine wpAnyH_all (rs := [8]) (by kernel_rfl) (by simp) ?_
  intro i hi
  obtain rfl : i = 8 := by simpa using hi
  refine wpOp_contract (f := 30) rfl (by kernel_rfl) (by kernel_rfl) (lenOf_b k hk w5) ⟨#[.int .u8 (k : Nat), undef, .pointer (some ⟨w.heap.size, 0, none⟩), .pointer (some ⟨r, 0, none⟩), .pointer (some ⟨s, 0, none⟩), .int .u8 (k : Nat), .agg #[.int .i64 (opN k : Nat), .int .i64 (mdN k : Nat), .int .i64 (clN k : Nat)], .agg #[.int .i64 (opN k : Nat), .int .i64 (mdN k : Nat), .int .i64 (clN k : Nat)], .agg L, .pointer (some ⟨r, 0, none⟩), .int .i64 (opN k : Nat), .pointer (some ⟨r, 1, none⟩), .int .i64 (mdN k : Nat), .agg (#[.int .i64 (opN k : Nat), .int .i64 (mdN k : Nat), .int .i64 (clN k : Nat)] : Array Value), .int .i64 (kdN k : Nat), .pointer (some ⟨r, 1, none⟩), .int .i64 (mdN k : Nat), .int .i64 (lnN k : Nat), .pointer (some ⟨s, 8, none⟩), .int .i64 (n : Nat), .pointer (some ⟨r, 2, none⟩), .int .i64 (clN k : Nat), undef], []⟩ (by kernel_rfl) ?_
  intro w6 hbx
  have s2 := DQ.on s1 hbx
  clear hi
  refine ⟨s2, ?_⟩
  refine takeH (i := 13) (v := .agg #[.int .i64 (opN k : Nat), .int .i64 (mdN k : Nat), .int .i64 (kdN k : Nat), .int .i64 (lnN k : Nat), .int .i64 (n : Nat), .int .i64 (clN k : Nat)]) ⟨#[.int .u8 (k : Nat), undef, .pointer (some ⟨w.heap.size, 0, none⟩), .pointer (some ⟨r, 0, none⟩), .pointer (some ⟨s, 0, none⟩), .int .u8 (k : Nat), .agg #[.int .i64 (opN k : Nat), .int .i64 (mdN k : Nat), .int .i64 (clN k : Nat)], .agg #[.int .i64 (opN k : Nat), .int .i64 (mdN k : Nat), .int .i64 (clN k : Nat)], .agg L, .pointer (some ⟨r, 0, none⟩), .int .i64 (opN k : Nat), .pointer (some ⟨r, 1, none⟩), .int .i64 (mdN k : Nat), .agg (#[.int .i64 (opN k : Nat), .int .i64 (mdN k : Nat), .int .i64 (clN k : Nat)] : Array Value), .int .i64 (kdN k : Nat), .pointer (some ⟨r, 1, none⟩), .int .i64 (mdN k : Nat), .int .i64 (lnN k : Nat), .pointer (some ⟨s, 8, none⟩), .int .i64 (n : Nat), .pointer (some ⟨r, 2, none⟩), .int .i64 (clN k : Nat), .agg #[.int .i64 (opN k : Nat), .int .i64 (mdN k : Nat), .int .i64 (kdN k : Nat), .int .i64 (lnN k : Nat), .int .i64 (n : Nat), .int .i64 (clN k : Nat)]], []⟩ rfl (by kernel_rfl) (by kernel_rfl) (by kernel_rfl) (fun _ _ _ h => h) (.inl ⟨by kernel_rfl, fun _ _ => by kernel_rfl⟩) s2 (by kernel_rfl) ?_
  obtain ⟨cz, zz, hz6⟩ := s2.2.2.1
  refine wpAnyH_all (rs := [14]) (by kernel_rfl) (by simp) ?_
  intro i hi
  obtain rfl : i = 14 := by simpa using hi
  refine wpOp_store rfl (by kernel_rfl) 42 (.tmp 2) (.tmp 22) rfl w.heap.size 0 (.agg #[.int .i64 (opN k : Nat), .int .i64 (mdN k : Nat), .int .i64 (kdN k : Nat), .int .i64 (lnN k : Nat), .int .i64 (n : Nat), .int .i64 (clN k : Nat)]) #[.int .i64 (opN k : Nat), .int .i64 (mdN k : Nat), .int .i64 (kdN k : Nat), .int .i64 (lnN k : Nat), .int .i64 (n : Nat), .int .i64 (clN k : Nat)] (by kernel_rfl) (by kernel_rfl) rfl (zz.thereAt 0 6 (by omega)) (by kernel_rfl) (by kernel_rfl) ⟨#[.int .u8 (k : Nat), undef, .pointer (some ⟨w.heap.size, 0, none⟩), .pointer (some ⟨r, 0, none⟩), .pointer (some ⟨s, 0, none⟩), .int .u8 (k : Nat), .agg #[.int .i64 (opN k : Nat), .int .i64 (mdN k : Nat), .int .i64 (clN k : Nat)], .agg #[.int .i64 (opN k : Nat), .int .i64 (mdN k : Nat), .int .i64 (clN k : Nat)], .agg L, .pointer (some ⟨r, 0, none⟩), .int .i64 (opN k : Nat), .pointer (some ⟨r, 1, none⟩), .int .i64 (mdN k : Nat), .agg (#[.int .i64 (opN k : Nat), .int .i64 (mdN k : Nat), .int .i64 (clN k : Nat)] : Array Value), .int .i64 (kdN k : Nat), .pointer (some ⟨r, 1, none⟩), .int .i64 (mdN k : Nat), .int .i64 (lnN k : Nat), .pointer (some ⟨s, 8, none⟩), .int .i64 (n : Nat), .pointer (some ⟨r, 2, none⟩), .int .i64 (clN k : Nat), .agg #[.int .i64 (opN k : Nat), .int .i64 (mdN k : Nat), .int .i64 (kdN k : Nat), .int .i64 (lnN k : Nat), .int .i64 (n : Nat), .int .i64 (clN k : Nat)]], []⟩ (by kernel_rfl) ?_
  intro w7 e7
  have z7 : Blk w7 w.heap.size #[.int .i64 (opN k : Nat), .int .i64 (mdN k : Nat), .int .i64 (kdN k : Nat), .int .i64 (lnN k : Nat), .int .i64 (n : Nat), .int .i64 (clN k : Nat)] 42 := by rw [e7]; exact zz.setAll (by rw [hz6]; rfl)
  have h7 : Below w.heap.size w w7 := by rw [e7]; exact setCells_below' (Nat.le_refl _) _ _ _ _ s2.2.2.2
  have r7 : Blk w7 r #[.int .i64 (opN k : Nat), .int .i64 (mdN k : Nat), .int .i64 (clN k : Nat)] 63 := by rw [e7]; exact s2.1.otherCells (m := w.heap.size) (by omega) _ _
  have hcs : w7.cell? ⟨s, 8, none⟩ = some (.int .i64 (n : Nat)) := by rw [e7]; exact cell_setCells hsn _ _ _ _ s2.2.1
  have s7 : DQ k r s n w w7 := ⟨r7, hcs, ⟨_, z7, rfl⟩, h7⟩
  have z7c := z7.cell
  clear e7 hi
  refine ⟨s7, ?_⟩
  refine wpAnyH_done (by kernel_rfl) ?_ _
  go_wp2
  exact bodyPost_ret (v := .agg #[.int .i64 (opN k : Nat), .int .i64 (mdN k : Nat), .int .i64 (kdN k : Nat), .int .i64 (lnN k : Nat), .int .i64 (n : Nat), .int .i64 (clN k : Nat)]) (by simp [results, Tryd.results12, go_sem, z7c]) rfl ⟨rfl, h7⟩
end Go.Proofs.YtfdiplgjiidnbaaDoor
