/-
  What the header's fields answers of every header; conditions: the bytes are bytes.
-/
import Derived.Test.YtilhlbnicmmaoaaDoorPag3
import Derived.Deep.RegionHeld3
set_option linter.unusedSimpArgs false
set_option linter.unusedVariables false
namespace Go.Proofs.YtilhlbnicmmaoaaDoor
open Go.RowKit
theorem bool_bit (n : Nat) (z : Int) (k : Nat) (hk : 0 < k) (h : z = ((n % 2 * k : Nat) : Int)) : (z != 0) = decide (n % 2 = 1) := by
  rw [h]
  rcases (show n % 2 = 0 ∨ n % 2 = 1 by omega) with e | e <;> rw [e]
  · simp
  · rw [Nat.one_mul, show decide (1 = 1) = true from rfl, bne_iff_ne]
    exact fun e => absurd e (by omega)
theorem or_map (a b : Nat) (h1 : a < 16) (h2 : b < 256) : bits BinOp.or IntKind.i64 ((a : Nat) : Int) ((b / 16 * 16 : Nat) : Int) = ((a + b / 16 * 16 : Nat) : Int) := by
  have e : b / 16 * 16 ||| a = b / 16 * 16 + a := nat_join 4 (b / 16 * 16) a (by omega) h1
  rw [i64_or_nat a (b / 16 * 16) (by omega) (by omega), Nat.or_comm, e, Nat.add_comm]
set_option maxRecDepth 100000 in
set_option maxHeartbeats 6400000 in
theorem fields_g (h : Hq) (B : h.Ok) (hs : Array Value) (HH0 : hs = hv h) (w : World) :
    Calls Tryd.prog 42 #[.agg hs] w fun e w' => e = .returned (.agg (cN (h.cf h.cr0 0 0 0 0))) ∧ Below w.heap.size w w' := by
  have HH : Hid (hs = _) := HH0
  have hsz : hs.size = 16 := by rw [HH0]; rfl
  have HSZ : Hid (hs.size = 16) := hsz
  have FC0 : Hid (∀ W : World, Calls _ _ _ _ _) := fun W => format_g h B hs HH0 W
  have HB : Hid h.Ok := B
  clear HH0
  obtain ⟨ff, hff⟩ : ∃ ff, h.f = ff := ⟨_, rfl⟩
  have HF : Hid (h.f = ff) := hff
  rw [hff] at FC0
  have FC : Hid (∀ W : World, Calls Tryd.prog 59 #[.agg hs.toList.toArray] W fun e w' => e = .returned (.int .i64 (ff : Nat)) ∧ Below W.heap.size W w') := fun W => by rw [Array.toArray_toList]; exact FC0.out W
  have hf3 : ff = 0 ∨ ff = 1 ∨ ff = 2 := by rw [← hff]; exact h.f_lt
  clear FC0 hff
  have b6 := by_bit h.b6 B.k6
  have v1 := bool_bit h.b6 (bits BinOp.and IntKind.u8 (h.b6 : Int) 1) 1 (by decide) (by rw [Nat.mul_one]; exact b6.1)
  have v2 := bool_bit (h.b6 / 2) (bits BinOp.and IntKind.u8 (h.b6 : Int) 2) 2 (by decide) b6.2.1
  have v8 := bool_bit (h.b6 / 8) (bits BinOp.and IntKind.u8 (h.b6 : Int) 8) 8 (by decide) b6.2.2.2
  obtain ⟨vt, hvt⟩ : ∃ vt, decide (h.b6 % 2 = 1) = vt := ⟨_, rfl⟩
  obtain ⟨ba, hba⟩ : ∃ ba, decide (h.b6 / 2 % 2 = 1) = ba := ⟨_, rfl⟩
  obtain ⟨fo, hfo⟩ : ∃ fo, decide (h.b6 / 8 % 2 = 1) = fo := ⟨_, rfl⟩
  have HVB : Hid ((decide (h.b6 % 2 = 1) = vt ∧ decide (h.b6 / 2 % 2 = 1) = ba) ∧ decide (h.b6 / 8 % 2 = 1) = fo) := ⟨⟨hvt, hba⟩, hfo⟩
  rw [hvt] at v1
  rw [hba] at v2
  rw [hfo] at v8
  clear hvt hba hfo b6
  have l6 : h.b6 < 256 := B.k6
  have m6 : (h.b6 : Int) / 16 = ((h.b6 / 16 : Nat) : Int) := by omega
  have hm16 : h.b6 / 16 < 16 := by omega
  obtain ⟨y, hy⟩ : ∃ y, h.b6 / 16 = y := ⟨_, rfl⟩
  have HY : Hid (h.b6 / 16 = y) := hy
  rw [hy] at m6 hm16
  obtain ⟨y6, hy6⟩ : ∃ y6, h.b6 = y6 := ⟨_, rfl⟩
  rw [hy6] at m6 v1 v2 v8 l6
  have H6 : Hid (hs[6]? = some (.int .u8 (y6 : Nat))) := by unfold Hid; rw [HH.out, ← hy6]; rfl
  clear hy hy6 B
  obtain ⟨CF0, hCF⟩ : ∃ x, x = cN (h.cf h.cr0 0 0 0 0) := ⟨_, rfl⟩
  have HCF : Hid (CF0 = cN (h.cf h.cr0 0 0 0 0)) := hCF
  rw [← hCF]
  clear hCF
  go_enter Tryd.func42, Tryd.ntmps42
  go_upto_region 1 with fail
  have K0 : Blk ((w.alloc (.cells hs 67)).alloc (.cells Z19 25)) w.heap.size hs 67 ∧ Blk ((w.alloc (.cells hs 67)).alloc (.cells Z19 25)) (w.heap.size + 1) Z19 25 ∧ Below w.heap.size w ((w.alloc (.cells hs 67)).alloc (.cells Z19 25)) :=
    ⟨(Blk.new w hs _).old _, by have := Blk.new (w.alloc (.cells hs 67)) Z19 25; rwa [World.size_alloc] at this, ((Below.refl _ _).alloc (Nat.le_refl _) _).alloc (by simp) _⟩
  generalize (w.alloc (.cells hs 67)).alloc (.cells Z19 25) = W0 at *
  obtain ⟨b0, z0, hb0⟩ := K0
  clear hsz
  go_cut [3] (fun p wx => ∃ g, p = .pointer (some ⟨g, 0, none⟩) ∧ Blk wx g #[.int .i64 (ff : Nat), .int .i64 (y : Nat), .int .i64 0, .bool vt, .bool fo, .bool ba, .int .i64 0, .int .i64 0, .int .i64 0, .int .i64 0, .int .i64 0, .int .i64 0, .int .i64 0, .int .i64 0, .int .i64 0, .slice none 0 0, .slice none 0 0, .slice none 0 0, .slice none 0 0] 25 ∧ Blk wx w.heap.size hs 67 ∧ Blk wx (w.heap.size + 1) Z19 25 ∧ w.heap.size + 1 < g ∧ Below w.heap.size w wx)
  case first =>
    have s0 : SF w hs W0 W0.drew := ⟨b0.drew, z0.drew, (Below.refl _ _).drew⟩
    refine wp_region_held (S := SF w hs W0) (by kernel_rfl) ?_
    refine takeH (i := 2) (v := .pointer (some ⟨w.heap.size, 6, none⟩)) ⟨#[.agg hs, .pointer (some ⟨w.heap.size, 0, none⟩), .pointer (some ⟨w.heap.size + 1, 0, none⟩), undef, undef, undef, .pointer (some ⟨w.heap.size, 6, none⟩), undef, undef, undef, undef, undef, undef, undef, undef, undef, undef, undef, undef, undef, undef, undef, undef, undef, undef, undef, undef, undef, undef, undef, undef, undef, undef, undef, undef, undef, undef, undef, undef, undef, undef, undef, undef, undef, undef, undef, undef, undef, undef, undef, undef, undef, undef, undef, undef, undef, undef, undef], []⟩ rfl (by kernel_rfl) (by kernel_rfl) (by kernel_rfl) (fun _ _ _ h => h) (.inl ⟨by kernel_rfl, fun _ _ => by kernel_rfl⟩) s0 (by kernel_rfl) ?_
    refine takeH (i := 3) (v := .int .u8 (y6 : Nat)) ⟨#[.agg hs, .pointer (some ⟨w.heap.size, 0, none⟩), .pointer (some ⟨w.heap.size + 1, 0, none⟩), undef, undef, undef, .pointer (some ⟨w.heap.size, 6, none⟩), .int .u8 (y6 : Nat), undef, undef, undef, undef, undef, undef, undef, undef, undef, undef, undef, undef, undef, undef, undef, undef, undef, undef, undef, undef, undef, undef, undef, undef, undef, undef, undef, undef, undef, undef, undef, undef, undef, undef, undef, undef, undef, undef, undef, undef, undef, undef, undef, undef, undef, undef, undef, undef, undef, undef], []⟩ rfl (by kernel_rfl) (by kernel_rfl) (by kernel_rfl) (fun _ _ _ h => h) (.inl ⟨by kernel_rfl, fun v hv => by have c : v.cell? ⟨w.heap.size, 6, none⟩ = some (.int .u8 (y6 : Nat)) := (hv.bb.cell 6).trans H6.out; go_simp⟩) s0 (by kernel_rfl) ?_
    refine takeH (i := 4) (v := .int .u8 (y : Nat)) ⟨#[.agg hs, .pointer (some ⟨w.heap.size, 0, none⟩), .pointer (some ⟨w.heap.size + 1, 0, none⟩), undef, undef, undef, .pointer (some ⟨w.heap.size, 6, none⟩), .int .u8 (y6 : Nat), .int .u8 (y : Nat), undef, undef, undef, undef, undef, undef, undef, undef, undef, undef, undef, undef, undef, undef, undef, undef, undef, undef, undef, undef, undef, undef, undef, undef, undef, undef, undef, undef, undef, undef, undef, undef, undef, undef, undef, undef, undef, undef, undef, undef, undef, undef, undef, undef, undef, undef, undef, undef, undef], []⟩ rfl (by kernel_rfl) (by kernel_rfl) (by kernel_rfl) (fun _ _ _ h => h) (.inl ⟨by kernel_rfl, fun v _ => by have h := m6; go_simp⟩) s0 (by kernel_rfl) ?_
    refine takeH (i := 5) (v := .int .i64 (y : Nat)) ⟨#[.agg hs, .pointer (some ⟨w.heap.size, 0, none⟩), .pointer (some ⟨w.heap.size + 1, 0, none⟩), undef, undef, undef, .pointer (some ⟨w.heap.size, 6, none⟩), .int .u8 (y6 : Nat), .int .u8 (y : Nat), .int .i64 (y : Nat), undef, undef, undef, undef, undef, undef, undef, undef, undef, undef, undef, undef, undef, undef, undef, undef, undef, undef, undef, undef, undef, undef, undef, undef, undef, undef, undef, undef, undef, undef, undef, undef, undef, undef, undef, undef, undef, undef, undef, undef, undef, undef, undef, undef, undef, undef, undef, undef], []⟩ rfl (by kernel_rfl) (by kernel_rfl) (by kernel_rfl) (fun _ _ _ h => h) (.inl ⟨by kernel_rfl, fun v _ => by go_simp; rw [IntKind.wrap_i64]; omega⟩) s0 (by kernel_rfl) ?_
    refine takeH (i := 6) (v := .pointer (some ⟨w.heap.size, 6, none⟩)) ⟨#[.agg hs, .pointer (some ⟨w.heap.size, 0, none⟩), .pointer (some ⟨w.heap.size + 1, 0, none⟩), undef, undef, undef, .pointer (some ⟨w.heap.size, 6, none⟩), .int .u8 (y6 : Nat), .int .u8 (y : Nat), .int .i64 (y : Nat), .pointer (some ⟨w.heap.size, 6, none⟩), undef, undef, undef, undef, undef, undef, undef, undef, undef, undef, undef, undef, undef, undef, undef, undef, undef, undef, undef, undef, undef, undef, undef, undef, undef, undef, undef, undef, undef, undef, undef, undef, undef, undef, undef, undef, undef, undef, undef, undef, undef, undef, undef, undef, undef, undef, undef], []⟩ rfl (by kernel_rfl) (by kernel_rfl) (by kernel_rfl) (fun _ _ _ h => h) (.inl ⟨by kernel_rfl, fun _ _ => by kernel_rfl⟩) s0 (by kernel_rfl) ?_
    refine takeH (i := 7) (v := .int .u8 (y6 : Nat)) ⟨#[.agg hs, .pointer (some ⟨w.heap.size, 0, none⟩), .pointer (some ⟨w.heap.size + 1, 0, none⟩), undef, undef, undef, .pointer (some ⟨w.heap.size, 6, none⟩), .int .u8 (y6 : Nat), .int .u8 (y : Nat), .int .i64 (y : Nat), .pointer (some ⟨w.heap.size, 6, none⟩), .int .u8 (y6 : Nat), undef, undef, undef, undef, undef, undef, undef, undef, undef, undef, undef, undef, undef, undef, undef, undef, undef, undef, undef, undef, undef, undef, undef, undef, undef, undef, undef, undef, undef, undef, undef, undef, undef, undef, undef, undef, undef, undef, undef, undef, undef, undef, undef, undef, undef, undef], []⟩ rfl (by kernel_rfl) (by kernel_rfl) (by kernel_rfl) (fun _ _ _ h => h) (.inl ⟨by kernel_rfl, fun v hv => by have c : v.cell? ⟨w.heap.size, 6, none⟩ = some (.int .u8 (y6 : Nat)) := (hv.bb.cell 6).trans H6.out; go_simp⟩) s0 (by kernel_rfl) ?_
    refine takeH (i := 8) (v := .int .u8 (bits BinOp.and IntKind.u8 (y6 : Int) 1)) ⟨#[.agg hs, .pointer (some ⟨w.heap.size, 0, none⟩), .pointer (some ⟨w.heap.size + 1, 0, none⟩), undef, undef, undef, .pointer (some ⟨w.heap.size, 6, none⟩), .int .u8 (y6 : Nat), .int .u8 (y : Nat), .int .i64 (y : Nat), .pointer (some ⟨w.heap.size, 6, none⟩), .int .u8 (y6 : Nat), .int .u8 (bits BinOp.and IntKind.u8 (y6 : Int) 1), undef, undef, undef, undef, undef, undef, undef, undef, undef, undef, undef, undef, undef, undef, undef, undef, undef, undef, undef, undef, undef, undef, undef, undef, undef, undef, undef, undef, undef, undef, undef, undef, undef, undef, undef, undef, undef, undef, undef, undef, undef, undef, undef, undef, undef], []⟩ rfl (by kernel_rfl) (by kernel_rfl) (by kernel_rfl) (fun _ _ _ h => h) (.inl ⟨by kernel_rfl, fun _ _ => by kernel_rfl⟩) s0 (by kernel_rfl) ?_
    refine takeH (i := 9) (v := .bool (bits BinOp.and IntKind.u8 (y6 : Int) 1 != 0)) ⟨#[.agg hs, .pointer (some ⟨w.heap.size, 0, none⟩), .pointer (some ⟨w.heap.size + 1, 0, none⟩), undef, undef, undef, .pointer (some ⟨w.heap.size, 6, none⟩), .int .u8 (y6 : Nat), .int .u8 (y : Nat), .int .i64 (y : Nat), .pointer (some ⟨w.heap.size, 6, none⟩), .int .u8 (y6 : Nat), .int .u8 (bits BinOp.and IntKind.u8 (y6 : Int) 1), .bool (bits BinOp.and IntKind.u8 (y6 : Int) 1 != 0), undef, undef, undef, undef, undef, undef, undef, undef, undef, undef, undef, undef, undef, undef, undef, undef, undef, undef, undef, undef, undef, undef, undef, undef, undef, undef, undef, undef, undef, undef, undef, undef, undef, undef, undef, undef, undef, undef, undef, undef, undef, undef, undef, undef], []⟩ rfl (by kernel_rfl) (by kernel_rfl) (by kernel_rfl) (fun _ _ _ h => h) (.inl ⟨by kernel_rfl, fun v _ => by go_simp⟩) s0 (by kernel_rfl) ?_
    refine takeH (i := 10) (v := .pointer (some ⟨w.heap.size, 6, none⟩)) ⟨#[.agg hs, .pointer (some ⟨w.heap.size, 0, none⟩), .pointer (some ⟨w.heap.size + 1, 0, none⟩), undef, undef, undef, .pointer (some ⟨w.heap.size, 6, none⟩), .int .u8 (y6 : Nat), .int .u8 (y : Nat), .int .i64 (y : Nat), .pointer (some ⟨w.heap.size, 6, none⟩), .int .u8 (y6 : Nat), .int .u8 (bits BinOp.and IntKind.u8 (y6 : Int) 1), .bool (bits BinOp.and IntKind.u8 (y6 : Int) 1 != 0), .pointer (some ⟨w.heap.size, 6, none⟩), undef, undef, undef, undef, undef, undef, undef, undef, undef, undef, undef, undef, undef, undef, undef, undef, undef, undef, undef, undef, undef, undef, undef, undef, undef, undef, undef, undef, undef, undef, undef, undef, undef, undef, undef, undef, undef, undef, undef, undef, undef, undef, undef], []⟩ rfl (by kernel_rfl) (by kernel_rfl) (by kernel_rfl) (fun _ _ _ h => h) (.inl ⟨by kernel_rfl, fun _ _ => by kernel_rfl⟩) s0 (by kernel_rfl) ?_
    refine takeH (i := 11) (v := .int .u8 (y6 : Nat)) ⟨#[.agg hs, .pointer (some ⟨w.heap.size, 0, none⟩), .pointer (some ⟨w.heap.size + 1, 0, none⟩), undef, undef, undef, .pointer (some ⟨w.heap.size, 6, none⟩), .int .u8 (y6 : Nat), .int .u8 (y : Nat), .int .i64 (y : Nat), .pointer (some ⟨w.heap.size, 6, none⟩), .int .u8 (y6 : Nat), .int .u8 (bits BinOp.and IntKind.u8 (y6 : Int) 1), .bool (bits BinOp.and IntKind.u8 (y6 : Int) 1 != 0), .pointer (some ⟨w.heap.size, 6, none⟩), .int .u8 (y6 : Nat), undef, undef, undef, undef, undef, undef, undef, undef, undef, undef, undef, undef, undef, undef, undef, undef, undef, undef, undef, undef, undef, undef, undef, undef, undef, undef, undef, undef, undef, undef, undef, undef, undef, undef, undef, undef, undef, undef, undef, undef, undef, undef], []⟩ rfl (by kernel_rfl) (by kernel_rfl) (by kernel_rfl) (fun _ _ _ h => h) (.inl ⟨by kernel_rfl, fun v hv => by have c : v.cell? ⟨w.heap.size, 6, none⟩ = some (.int .u8 (y6 : Nat)) := (hv.bb.cell 6).trans H6.out; go_simp⟩) s0 (by kernel_rfl) ?_
    refine takeH (i := 12) (v := .int .u8 (bits BinOp.and IntKind.u8 (y6 : Int) 2)) ⟨#[.agg hs, .pointer (some ⟨w.heap.size, 0, none⟩), .pointer (some ⟨w.heap.size + 1, 0, none⟩), undef, undef, undef, .pointer (some ⟨w.heap.size, 6, none⟩), .int .u8 (y6 : Nat), .int .u8 (y : Nat), .int .i64 (y : Nat), .pointer (some ⟨w.heap.size, 6, none⟩), .int .u8 (y6 : Nat), .int .u8 (bits BinOp.and IntKind.u8 (y6 : Int) 1), .bool (bits BinOp.and IntKind.u8 (y6 : Int) 1 != 0), .pointer (some ⟨w.heap.size, 6, none⟩), .int .u8 (y6 : Nat), .int .u8 (bits BinOp.and IntKind.u8 (y6 : Int) 2), undef, undef, undef, undef, undef, undef, undef, undef, undef, undef, undef, undef, undef, undef, undef, undef, undef, undef, undef, undef, undef, undef, undef, undef, undef, undef, undef, undef, undef, undef, undef, undef, undef, undef, undef, undef, undef, undef, undef, undef, undef], []⟩ rfl (by kernel_rfl) (by kernel_rfl) (by kernel_rfl) (fun _ _ _ h => h) (.inl ⟨by kernel_rfl, fun _ _ => by kernel_rfl⟩) s0 (by kernel_rfl) ?_
    refine takeH (i := 13) (v := .bool (bits BinOp.and IntKind.u8 (y6 : Int) 2 != 0)) ⟨#[.agg hs, .pointer (some ⟨w.heap.size, 0, none⟩), .pointer (some ⟨w.heap.size + 1, 0, none⟩), undef, undef, undef, .pointer (some ⟨w.heap.size, 6, none⟩), .int .u8 (y6 : Nat), .int .u8 (y : Nat), .int .i64 (y : Nat), .pointer (some ⟨w.heap.size, 6, none⟩), .int .u8 (y6 : Nat), .int .u8 (bits BinOp.and IntKind.u8 (y6 : Int) 1), .bool (bits BinOp.and IntKind.u8 (y6 : Int) 1 != 0), .pointer (some ⟨w.heap.size, 6, none⟩), .int .u8 (y6 : Nat), .int .u8 (bits BinOp.and IntKind.u8 (y6 : Int) 2), .bool (bits BinOp.and IntKind.u8 (y6 : Int) 2 != 0), undef, undef, undef, undef, undef, undef, undef, undef, undef, undef, undef, undef, undef, undef, undef, undef, undef, undef, undef, undef, undef, undef, undef, undef, undef, undef, undef, undef, undef, undef, undef, undef, undef, undef, undef, undef, undef, undef, undef, undef], []⟩ rfl (by kernel_rfl) (by kernel_rfl) (by kernel_rfl) (fun _ _ _ h => h) (.inl ⟨by kernel_rfl, fun v _ => by go_simp⟩) s0 (by kernel_rfl) ?_
    refine takeH (i := 14) (v := .pointer (some ⟨w.heap.size, 6, none⟩)) ⟨#[.agg hs, .pointer (some ⟨w.heap.size, 0, none⟩), .pointer (some ⟨w.heap.size + 1, 0, none⟩), undef, undef, undef, .pointer (some ⟨w.heap.size, 6, none⟩), .int .u8 (y6 : Nat), .int .u8 (y : Nat), .int .i64 (y : Nat), .pointer (some ⟨w.heap.size, 6, none⟩), .int .u8 (y6 : Nat), .int .u8 (bits BinOp.and IntKind.u8 (y6 : Int) 1), .bool (bits BinOp.and IntKind.u8 (y6 : Int) 1 != 0), .pointer (some ⟨w.heap.size, 6, none⟩), .int .u8 (y6 : Nat), .int .u8 (bits BinOp.and IntKind.u8 (y6 : Int) 2), .bool (bits BinOp.and IntKind.u8 (y6 : Int) 2 != 0), .pointer (some ⟨w.heap.size, 6, none⟩), undef, undef, undef, undef, undef, undef, undef, undef, undef, undef, undef, undef, undef, undef, undef, undef, undef, undef, undef, undef, undef, undef, undef, undef, undef, undef, undef, undef, undef, undef, undef, undef, undef, undef, undef, undef, undef, undef, undef], []⟩ rfl (by kernel_rfl) (by kernel_rfl) (by kernel_rfl) (fun _ _ _ h => h) (.inl ⟨by kernel_rfl, fun _ _ => by kernel_rfl⟩) s0 (by kernel_rfl) ?_
    refine takeH (i := 15) (v := .int .u8 (y6 : Nat)) ⟨#[.agg hs, .pointer (some ⟨w.heap.size, 0, none⟩), .pointer (some ⟨w.heap.size + 1, 0, none⟩), undef, undef, undef, .pointer (some ⟨w.heap.size, 6, none⟩), .int .u8 (y6 : Nat), .int .u8 (y : Nat), .int .i64 (y : Nat), .pointer (some ⟨w.heap.size, 6, none⟩), .int .u8 (y6 : Nat), .int .u8 (bits BinOp.and IntKind.u8 (y6 : Int) 1), .bool (bits BinOp.and IntKind.u8 (y6 : Int) 1 != 0), .pointer (some ⟨w.heap.size, 6, none⟩), .int .u8 (y6 : Nat), .int .u8 (bits BinOp.and IntKind.u8 (y6 : Int) 2), .bool (bits BinOp.and IntKind.u8 (y6 : Int) 2 != 0), .pointer (some ⟨w.heap.size, 6, none⟩), .int .u8 (y6 : Nat), undef, undef, undef, undef, undef, undef, undef, undef, undef, undef, undef, undef, undef, undef, undef, undef, undef, undef, undef, undef, undef, undef, undef, undef, undef, undef, undef, undef, undef, undef, undef, undef, undef, undef, undef, undef, undef, undef], []⟩ rfl (by kernel_rfl) (by kernel_rfl) (by kernel_rfl) (fun _ _ _ h => h) (.inl ⟨by kernel_rfl, fun v hv => by have c : v.cell? ⟨w.heap.size, 6, none⟩ = some (.int .u8 (y6 : Nat)) := (hv.bb.cell 6).trans H6.out; go_simp⟩) s0 (by kernel_rfl) ?_
    refine takeH (i := 16) (v := .int .u8 (bits BinOp.and IntKind.u8 (y6 : Int) 8)) ⟨#[.agg hs, .pointer (some ⟨w.heap.size, 0, none⟩), .pointer (some ⟨w.heap.size + 1, 0, none⟩), undef, undef, undef, .pointer (some ⟨w.heap.size, 6, none⟩), .int .u8 (y6 : Nat), .int .u8 (y : Nat), .int .i64 (y : Nat), .pointer (some ⟨w.heap.size, 6, none⟩), .int .u8 (y6 : Nat), .int .u8 (bits BinOp.and IntKind.u8 (y6 : Int) 1), .bool (bits BinOp.and IntKind.u8 (y6 : Int) 1 != 0), .pointer (some ⟨w.heap.size, 6, none⟩), .int .u8 (y6 : Nat), .int .u8 (bits BinOp.and IntKind.u8 (y6 : Int) 2), .bool (bits BinOp.and IntKind.u8 (y6 : Int) 2 != 0), .pointer (some ⟨w.heap.size, 6, none⟩), .int .u8 (y6 : Nat), .int .u8 (bits BinOp.and IntKind.u8 (y6 : Int) 8), undef, undef, undef, undef, undef, undef, undef, undef, undef, undef, undef, undef, undef, undef, undef, undef, undef, undef, undef, undef, undef, undef, undef, undef, undef, undef, undef, undef, undef, undef, undef, undef, undef, undef, undef, undef, undef], []⟩ rfl (by kernel_rfl) (by kernel_rfl) (by kernel_rfl) (fun _ _ _ h => h) (.inl ⟨by kernel_rfl, fun _ _ => by kernel_rfl⟩) s0 (by kernel_rfl) ?_
    refine takeH (i := 17) (v := .bool (bits BinOp.and IntKind.u8 (y6 : Int) 8 != 0)) ⟨#[.agg hs, .pointer (some ⟨w.heap.size, 0, none⟩), .pointer (some ⟨w.heap.size + 1, 0, none⟩), undef, undef, undef, .pointer (some ⟨w.heap.size, 6, none⟩), .int .u8 (y6 : Nat), .int .u8 (y : Nat), .int .i64 (y : Nat), .pointer (some ⟨w.heap.size, 6, none⟩), .int .u8 (y6 : Nat), .int .u8 (bits BinOp.and IntKind.u8 (y6 : Int) 1), .bool (bits BinOp.and IntKind.u8 (y6 : Int) 1 != 0), .pointer (some ⟨w.heap.size, 6, none⟩), .int .u8 (y6 : Nat), .int .u8 (bits BinOp.and IntKind.u8 (y6 : Int) 2), .bool (bits BinOp.and IntKind.u8 (y6 : Int) 2 != 0), .pointer (some ⟨w.heap.size, 6, none⟩), .int .u8 (y6 : Nat), .int .u8 (bits BinOp.and IntKind.u8 (y6 : Int) 8), .bool (bits BinOp.and IntKind.u8 (y6 : Int) 8 != 0), undef, undef, undef, undef, undef, undef, undef, undef, undef, undef, undef, undef, undef, undef, undef, undef, undef, undef, undef, undef, undef, undef, undef, undef, undef, undef, undef, undef, undef, undef, undef, undef, undef, undef, undef, undef], []⟩ rfl (by kernel_rfl) (by kernel_rfl) (by kernel_rfl) (fun _ _ _ h => h) (.inl ⟨by kernel_rfl, fun v _ => by go_simp⟩) s0 (by kernel_rfl) ?_
    refine takeH (i := 0) (v := .agg hs.toList.toArray) ⟨#[.agg hs, .pointer (some ⟨w.heap.size, 0, none⟩), .pointer (some ⟨w.heap.size + 1, 0, none⟩), undef, .agg hs.toList.toArray, undef, .pointer (some ⟨w.heap.size, 6, none⟩), .int .u8 (y6 : Nat), .int .u8 (y : Nat), .int .i64 (y : Nat), .pointer (some ⟨w.heap.size, 6, none⟩), .int .u8 (y6 : Nat), .int .u8 (bits BinOp.and IntKind.u8 (y6 : Int) 1), .bool (bits BinOp.and IntKind.u8 (y6 : Int) 1 != 0), .pointer (some ⟨w.heap.size, 6, none⟩), .int .u8 (y6 : Nat), .int .u8 (bits BinOp.and IntKind.u8 (y6 : Int) 2), .bool (bits BinOp.and IntKind.u8 (y6 : Int) 2 != 0), .pointer (some ⟨w.heap.size, 6, none⟩), .int .u8 (y6 : Nat), .int .u8 (bits BinOp.and IntKind.u8 (y6 : Int) 8), .bool (bits BinOp.and IntKind.u8 (y6 : Int) 8 != 0), undef, undef, undef, undef, undef, undef, undef, undef, undef, undef, undef, undef, undef, undef, undef, undef, undef, undef, undef, undef, undef, undef, undef, undef, undef, undef, undef, undef, undef, undef, undef, undef, undef, undef, undef, undef], []⟩ rfl (by kernel_rfl) (by kernel_rfl) (by kernel_rfl) (fun _ _ _ h => h) (yieldsIf_load_mid (by kernel_rfl) 67 (.tmp 1) rfl w.heap.size 0 (by kernel_rfl) hs.toList _ (fun v hv => Blk.range hv.bb) Tryd.underlying67 rfl (by rw [Array.length_toList, HSZ.out]; exact infoHdr)) s0 (by kernel_rfl) ?_
    refine wpAnyH_all (rs := [1, 19]) (by kernel_rfl) (by simp) ?_
    intro i hi
    rcases (show i = 1 ∨ i = 19 by simpa using hi) with rfl | rfl
    · refine wpOp_contract (f := 59) rfl (by kernel_rfl) (by kernel_rfl) (FC.out _) ⟨#[.agg hs, .pointer (some ⟨w.heap.size, 0, none⟩), .pointer (some ⟨w.heap.size + 1, 0, none⟩), undef, .agg hs.toList.toArray, .int .i64 (ff : Nat), .pointer (some ⟨w.heap.size, 6, none⟩), .int .u8 (y6 : Nat), .int .u8 (y : Nat), .int .i64 (y : Nat), .pointer (some ⟨w.heap.size, 6, none⟩), .int .u8 (y6 : Nat), .int .u8 (bits BinOp.and IntKind.u8 (y6 : Int) 1), .bool (bits BinOp.and IntKind.u8 (y6 : Int) 1 != 0), .pointer (some ⟨w.heap.size, 6, none⟩), .int .u8 (y6 : Nat), .int .u8 (bits BinOp.and IntKind.u8 (y6 : Int) 2), .bool (bits BinOp.and IntKind.u8 (y6 : Int) 2 != 0), .pointer (some ⟨w.heap.size, 6, none⟩), .int .u8 (y6 : Nat), .int .u8 (bits BinOp.and IntKind.u8 (y6 : Int) 8), .bool (bits BinOp.and IntKind.u8 (y6 : Int) 8 != 0), undef, undef, undef, undef, undef, undef, undef, undef, undef, undef, undef, undef, undef, undef, undef, undef, undef, undef, undef, undef, undef, undef, undef, undef, undef, undef, undef, undef, undef, undef, undef, undef, undef, undef, undef, undef], []⟩ (by kernel_rfl) ?_
      intro Wq hbq
      have s1 := s0.on hbq
      clear hi
      have hq2 : W0.heap.size ≤ Wq.heap.size := s1.bl.size
      refine ⟨s1, ?_⟩
      refine takeH (i := 18) (v := .agg #[.int .i64 (ff : Nat), .int .i64 (y : Nat), .int .i64 0, .bool (bits BinOp.and IntKind.u8 (y6 : Int) 1 != 0), .bool (bits BinOp.and IntKind.u8 (y6 : Int) 8 != 0), .bool (bits BinOp.and IntKind.u8 (y6 : Int) 2 != 0), .int .i64 0, .int .i64 0, .int .i64 0, .int .i64 0, .int .i64 0, .int .i64 0, .int .i64 0, .int .i64 0, .int .i64 0, .slice none 0 0, .slice none 0 0, .slice none 0 0, .slice none 0 0]) ⟨#[.agg hs, .pointer (some ⟨w.heap.size, 0, none⟩), .pointer (some ⟨w.heap.size + 1, 0, none⟩), undef, .agg hs.toList.toArray, .int .i64 (ff : Nat), .pointer (some ⟨w.heap.size, 6, none⟩), .int .u8 (y6 : Nat), .int .u8 (y : Nat), .int .i64 (y : Nat), .pointer (some ⟨w.heap.size, 6, none⟩), .int .u8 (y6 : Nat), .int .u8 (bits BinOp.and IntKind.u8 (y6 : Int) 1), .bool (bits BinOp.and IntKind.u8 (y6 : Int) 1 != 0), .pointer (some ⟨w.heap.size, 6, none⟩), .int .u8 (y6 : Nat), .int .u8 (bits BinOp.and IntKind.u8 (y6 : Int) 2), .bool (bits BinOp.and IntKind.u8 (y6 : Int) 2 != 0), .pointer (some ⟨w.heap.size, 6, none⟩), .int .u8 (y6 : Nat), .int .u8 (bits BinOp.and IntKind.u8 (y6 : Int) 8), .bool (bits BinOp.and IntKind.u8 (y6 : Int) 8 != 0), .agg #[.int .i64 (ff : Nat), .int .i64 (y : Nat), .int .i64 0, .bool (bits BinOp.and IntKind.u8 (y6 : Int) 1 != 0), .bool (bits BinOp.and IntKind.u8 (y6 : Int) 8 != 0), .bool (bits BinOp.and IntKind.u8 (y6 : Int) 2 != 0), .int .i64 0, .int .i64 0, .int .i64 0, .int .i64 0, .int .i64 0, .int .i64 0, .int .i64 0, .int .i64 0, .int .i64 0, .slice none 0 0, .slice none 0 0, .slice none 0 0, .slice none 0 0], undef, undef, undef, undef, undef, undef, undef, undef, undef, undef, undef, undef, undef, undef, undef, undef, undef, undef, undef, undef, undef, undef, undef, undef, undef, undef, undef, undef, undef, undef, undef, undef, undef, undef, undef], []⟩ rfl (by kernel_rfl) (by kernel_rfl) (by kernel_rfl) (fun _ _ _ h => h) (.inl ⟨by kernel_rfl, fun _ _ => by kernel_rfl⟩) s1 (by kernel_rfl) ?_
      refine wpAnyH_all (rs := [19]) (by kernel_rfl) (by simp) ?_
      intro i hi
      obtain rfl : i = 19 := by simpa using hi
      refine wpOp_world rfl (by kernel_rfl) (exec_allocC rfl) ⟨#[.agg hs, .pointer (some ⟨w.heap.size, 0, none⟩), .pointer (some ⟨w.heap.size + 1, 0, none⟩), .pointer (some ⟨Wq.heap.size, 0, none⟩), .agg hs.toList.toArray, .int .i64 (ff : Nat), .pointer (some ⟨w.heap.size, 6, none⟩), .int .u8 (y6 : Nat), .int .u8 (y : Nat), .int .i64 (y : Nat), .pointer (some ⟨w.heap.size, 6, none⟩), .int .u8 (y6 : Nat), .int .u8 (bits BinOp.and IntKind.u8 (y6 : Int) 1), .bool (bits BinOp.and IntKind.u8 (y6 : Int) 1 != 0), .pointer (some ⟨w.heap.size, 6, none⟩), .int .u8 (y6 : Nat), .int .u8 (bits BinOp.and IntKind.u8 (y6 : Int) 2), .bool (bits BinOp.and IntKind.u8 (y6 : Int) 2 != 0), .pointer (some ⟨w.heap.size, 6, none⟩), .int .u8 (y6 : Nat), .int .u8 (bits BinOp.and IntKind.u8 (y6 : Int) 8), .bool (bits BinOp.and IntKind.u8 (y6 : Int) 8 != 0), .agg #[.int .i64 (ff : Nat), .int .i64 (y : Nat), .int .i64 0, .bool (bits BinOp.and IntKind.u8 (y6 : Int) 1 != 0), .bool (bits BinOp.and IntKind.u8 (y6 : Int) 8 != 0), .bool (bits BinOp.and IntKind.u8 (y6 : Int) 2 != 0), .int .i64 0, .int .i64 0, .int .i64 0, .int .i64 0, .int .i64 0, .int .i64 0, .int .i64 0, .int .i64 0, .int .i64 0, .slice none 0 0, .slice none 0 0, .slice none 0 0, .slice none 0 0], undef, undef, undef, undef, undef, undef, undef, undef, undef, undef, undef, undef, undef, undef, undef, undef, undef, undef, undef, undef, undef, undef, undef, undef, undef, undef, undef, undef, undef, undef, undef, undef, undef, undef, undef], []⟩ (by kernel_rfl) ?_
      clear hi
      have bn : Blk (Wq.alloc (.cells Z19 25)) Wq.heap.size Z19 25 := Blk.new Wq Z19 _
      have s2 := s1.on ((Below.refl _ _).alloc (Nat.le_refl _) (.cells Z19 25))
      refine ⟨s2, ?_⟩
      refine wpAnyH_all (rs := [20]) (by kernel_rfl) (by simp) ?_
      intro i hi
      obtain rfl : i = 20 := by simpa using hi
      refine wpOp_store rfl (by kernel_rfl) 25 (.tmp 3) (.tmp 22) rfl Wq.heap.size 0 (.agg #[.int .i64 (ff : Nat), .int .i64 (y : Nat), .int .i64 0, .bool (bits BinOp.and IntKind.u8 (y6 : Int) 1 != 0), .bool (bits BinOp.and IntKind.u8 (y6 : Int) 8 != 0), .bool (bits BinOp.and IntKind.u8 (y6 : Int) 2 != 0), .int .i64 0, .int .i64 0, .int .i64 0, .int .i64 0, .int .i64 0, .int .i64 0, .int .i64 0, .int .i64 0, .int .i64 0, .slice none 0 0, .slice none 0 0, .slice none 0 0, .slice none 0 0]) (#[.int .i64 (ff : Nat), .int .i64 (y : Nat), .int .i64 0, .bool (bits BinOp.and IntKind.u8 (y6 : Int) 1 != 0), .bool (bits BinOp.and IntKind.u8 (y6 : Int) 8 != 0), .bool (bits BinOp.and IntKind.u8 (y6 : Int) 2 != 0), .int .i64 0, .int .i64 0, .int .i64 0, .int .i64 0, .int .i64 0, .int .i64 0, .int .i64 0, .int .i64 0, .int .i64 0, .slice none 0 0, .slice none 0 0, .slice none 0 0, .slice none 0 0]) (by kernel_rfl) (by kernel_rfl) rfl (bn.there 19 rfl) (by exact Tryd.infoCart) (by simp [Value.oneCell']) ⟨#[.agg hs, .pointer (some ⟨w.heap.size, 0, none⟩), .pointer (some ⟨w.heap.size + 1, 0, none⟩), .pointer (some ⟨Wq.heap.size, 0, none⟩), .agg hs.toList.toArray, .int .i64 (ff : Nat), .pointer (some ⟨w.heap.size, 6, none⟩), .int .u8 (y6 : Nat), .int .u8 (y : Nat), .int .i64 (y : Nat), .pointer (some ⟨w.heap.size, 6, none⟩), .int .u8 (y6 : Nat), .int .u8 (bits BinOp.and IntKind.u8 (y6 : Int) 1), .bool (bits BinOp.and IntKind.u8 (y6 : Int) 1 != 0), .pointer (some ⟨w.heap.size, 6, none⟩), .int .u8 (y6 : Nat), .int .u8 (bits BinOp.and IntKind.u8 (y6 : Int) 2), .bool (bits BinOp.and IntKind.u8 (y6 : Int) 2 != 0), .pointer (some ⟨w.heap.size, 6, none⟩), .int .u8 (y6 : Nat), .int .u8 (bits BinOp.and IntKind.u8 (y6 : Int) 8), .bool (bits BinOp.and IntKind.u8 (y6 : Int) 8 != 0), .agg #[.int .i64 (ff : Nat), .int .i64 (y : Nat), .int .i64 0, .bool (bits BinOp.and IntKind.u8 (y6 : Int) 1 != 0), .bool (bits BinOp.and IntKind.u8 (y6 : Int) 8 != 0), .bool (bits BinOp.and IntKind.u8 (y6 : Int) 2 != 0), .int .i64 0, .int .i64 0, .int .i64 0, .int .i64 0, .int .i64 0, .int .i64 0, .int .i64 0, .int .i64 0, .int .i64 0, .slice none 0 0, .slice none 0 0, .slice none 0 0, .slice none 0 0], undef, undef, undef, undef, undef, undef, undef, undef, undef, undef, undef, undef, undef, undef, undef, undef, undef, undef, undef, undef, undef, undef, undef, undef, undef, undef, undef, undef, undef, undef, undef, undef, undef, undef, undef], []⟩ (by kernel_rfl) ?_
      intro Wz eqW
      clear hi
      have hq1 := z0.lt
      have s9 : SF w hs W0 Wz := by
        rw [eqW]
        exact ⟨s2.bb.otherCells (by omega) _ _, s2.zz.otherCells (by omega) _ _, setCells_below (by omega) _ _ _ _ s2.bl⟩
      have bz : Blk Wz Wq.heap.size #[.int .i64 (ff : Nat), .int .i64 (y : Nat), .int .i64 0, .bool vt, .bool fo, .bool ba, .int .i64 0, .int .i64 0, .int .i64 0, .int .i64 0, .int .i64 0, .int .i64 0, .int .i64 0, .int .i64 0, .int .i64 0, .slice none 0 0, .slice none 0 0, .slice none 0 0, .slice none 0 0] 25 := by
        rw [eqW]
        refine Blk.cong (bn.setAll (L := #[.int .i64 (ff : Nat), .int .i64 (y : Nat), .int .i64 0, .bool (bits BinOp.and IntKind.u8 (y6 : Int) 1 != 0), .bool (bits BinOp.and IntKind.u8 (y6 : Int) 8 != 0), .bool (bits BinOp.and IntKind.u8 (y6 : Int) 2 != 0), .int .i64 0, .int .i64 0, .int .i64 0, .int .i64 0, .int .i64 0, .int .i64 0, .int .i64 0, .int .i64 0, .int .i64 0, .slice none 0 0, .slice none 0 0, .slice none 0 0, .slice none 0 0]) rfl) ?_
        rw [v1, v2, v8]
      have hgt : w.heap.size + 1 < Wq.heap.size := by omega
      have hbF := hb0.trans (s9.bl.mono hb0.size)
      have s9b := s9.bb
      have s9z := s9.zz
      refine ⟨s9, ?_⟩
      clear eqW bn s9
      refine wpAnyH_done (by kernel_rfl) ?_ _
      go_wp2
      go_meet
      refine ⟨Wq.heap.size, ?_, bz, s9b, s9z, hgt, hbF⟩
      rfl
    · refine wpOp_world rfl (by kernel_rfl) (exec_allocC rfl) ⟨#[.agg hs, .pointer (some ⟨w.heap.size, 0, none⟩), .pointer (some ⟨w.heap.size + 1, 0, none⟩), .pointer (some ⟨W0.heap.size, 0, none⟩), .agg hs.toList.toArray, undef, .pointer (some ⟨w.heap.size, 6, none⟩), .int .u8 (y6 : Nat), .int .u8 (y : Nat), .int .i64 (y : Nat), .pointer (some ⟨w.heap.size, 6, none⟩), .int .u8 (y6 : Nat), .int .u8 (bits BinOp.and IntKind.u8 (y6 : Int) 1), .bool (bits BinOp.and IntKind.u8 (y6 : Int) 1 != 0), .pointer (some ⟨w.heap.size, 6, none⟩), .int .u8 (y6 : Nat), .int .u8 (bits BinOp.and IntKind.u8 (y6 : Int) 2), .bool (bits BinOp.and IntKind.u8 (y6 : Int) 2 != 0), .pointer (some ⟨w.heap.size, 6, none⟩), .int .u8 (y6 : Nat), .int .u8 (bits BinOp.and IntKind.u8 (y6 : Int) 8), .bool (bits BinOp.and IntKind.u8 (y6 : Int) 8 != 0), undef, undef, undef, undef, undef, undef, undef, undef, undef, undef, undef, undef, undef, undef, undef, undef, undef, undef, undef, undef, undef, undef, undef, undef, undef, undef, undef, undef, undef, undef, undef, undef, undef, undef, undef, undef], []⟩ (by kernel_rfl) ?_
      clear hi
      have bn0 : Blk (W0.drew.alloc (.cells Z19 25)) W0.heap.size Z19 25 := Blk.new W0.drew Z19 _
      have s1 := s0.on ((Below.refl _ _).alloc (Nat.le_refl _) (.cells Z19 25))
      refine ⟨s1, ?_⟩
      refine wpAnyH_all (rs := [1]) (by kernel_rfl) (by simp) ?_
      intro i hi
      obtain rfl : i = 1 := by simpa using hi
      refine wpOp_contract (f := 59) rfl (by kernel_rfl) (by kernel_rfl) (FC.out _) ⟨#[.agg hs, .pointer (some ⟨w.heap.size, 0, none⟩), .pointer (some ⟨w.heap.size + 1, 0, none⟩), .pointer (some ⟨W0.heap.size, 0, none⟩), .agg hs.toList.toArray, .int .i64 (ff : Nat), .pointer (some ⟨w.heap.size, 6, none⟩), .int .u8 (y6 : Nat), .int .u8 (y : Nat), .int .i64 (y : Nat), .pointer (some ⟨w.heap.size, 6, none⟩), .int .u8 (y6 : Nat), .int .u8 (bits BinOp.and IntKind.u8 (y6 : Int) 1), .bool (bits BinOp.and IntKind.u8 (y6 : Int) 1 != 0), .pointer (some ⟨w.heap.size, 6, none⟩), .int .u8 (y6 : Nat), .int .u8 (bits BinOp.and IntKind.u8 (y6 : Int) 2), .bool (bits BinOp.and IntKind.u8 (y6 : Int) 2 != 0), .pointer (some ⟨w.heap.size, 6, none⟩), .int .u8 (y6 : Nat), .int .u8 (bits BinOp.and IntKind.u8 (y6 : Int) 8), .bool (bits BinOp.and IntKind.u8 (y6 : Int) 8 != 0), undef, undef, undef, undef, undef, undef, undef, undef, undef, undef, undef, undef, undef, undef, undef, undef, undef, undef, undef, undef, undef, undef, undef, undef, undef, undef, undef, undef, undef, undef, undef, undef, undef, undef, undef, undef], []⟩ (by kernel_rfl) ?_
      intro Wq hbq
      have s2 := s1.on hbq
      have bn := bn0.below bn0.lt hbq
      clear hi
      refine ⟨s2, ?_⟩
      refine takeH (i := 18) (v := .agg #[.int .i64 (ff : Nat), .int .i64 (y : Nat), .int .i64 0, .bool (bits BinOp.and IntKind.u8 (y6 : Int) 1 != 0), .bool (bits BinOp.and IntKind.u8 (y6 : Int) 8 != 0), .bool (bits BinOp.and IntKind.u8 (y6 : Int) 2 != 0), .int .i64 0, .int .i64 0, .int .i64 0, .int .i64 0, .int .i64 0, .int .i64 0, .int .i64 0, .int .i64 0, .int .i64 0, .slice none 0 0, .slice none 0 0, .slice none 0 0, .slice none 0 0]) ⟨#[.agg hs, .pointer (some ⟨w.heap.size, 0, none⟩), .pointer (some ⟨w.heap.size + 1, 0, none⟩), .pointer (some ⟨W0.heap.size, 0, none⟩), .agg hs.toList.toArray, .int .i64 (ff : Nat), .pointer (some ⟨w.heap.size, 6, none⟩), .int .u8 (y6 : Nat), .int .u8 (y : Nat), .int .i64 (y : Nat), .pointer (some ⟨w.heap.size, 6, none⟩), .int .u8 (y6 : Nat), .int .u8 (bits BinOp.and IntKind.u8 (y6 : Int) 1), .bool (bits BinOp.and IntKind.u8 (y6 : Int) 1 != 0), .pointer (some ⟨w.heap.size, 6, none⟩), .int .u8 (y6 : Nat), .int .u8 (bits BinOp.and IntKind.u8 (y6 : Int) 2), .bool (bits BinOp.and IntKind.u8 (y6 : Int) 2 != 0), .pointer (some ⟨w.heap.size, 6, none⟩), .int .u8 (y6 : Nat), .int .u8 (bits BinOp.and IntKind.u8 (y6 : Int) 8), .bool (bits BinOp.and IntKind.u8 (y6 : Int) 8 != 0), .agg #[.int .i64 (ff : Nat), .int .i64 (y : Nat), .int .i64 0, .bool (bits BinOp.and IntKind.u8 (y6 : Int) 1 != 0), .bool (bits BinOp.and IntKind.u8 (y6 : Int) 8 != 0), .bool (bits BinOp.and IntKind.u8 (y6 : Int) 2 != 0), .int .i64 0, .int .i64 0, .int .i64 0, .int .i64 0, .int .i64 0, .int .i64 0, .int .i64 0, .int .i64 0, .int .i64 0, .slice none 0 0, .slice none 0 0, .slice none 0 0, .slice none 0 0], undef, undef, undef, undef, undef, undef, undef, undef, undef, undef, undef, undef, undef, undef, undef, undef, undef, undef, undef, undef, undef, undef, undef, undef, undef, undef, undef, undef, undef, undef, undef, undef, undef, undef, undef], []⟩ rfl (by kernel_rfl) (by kernel_rfl) (by kernel_rfl) (fun _ _ _ h => h) (.inl ⟨by kernel_rfl, fun _ _ => by kernel_rfl⟩) s2 (by kernel_rfl) ?_
      refine wpAnyH_all (rs := [20]) (by kernel_rfl) (by simp) ?_
      intro i hi
      obtain rfl : i = 20 := by simpa using hi
      refine wpOp_store rfl (by kernel_rfl) 25 (.tmp 3) (.tmp 22) rfl W0.heap.size 0 (.agg #[.int .i64 (ff : Nat), .int .i64 (y : Nat), .int .i64 0, .bool (bits BinOp.and IntKind.u8 (y6 : Int) 1 != 0), .bool (bits BinOp.and IntKind.u8 (y6 : Int) 8 != 0), .bool (bits BinOp.and IntKind.u8 (y6 : Int) 2 != 0), .int .i64 0, .int .i64 0, .int .i64 0, .int .i64 0, .int .i64 0, .int .i64 0, .int .i64 0, .int .i64 0, .int .i64 0, .slice none 0 0, .slice none 0 0, .slice none 0 0, .slice none 0 0]) (#[.int .i64 (ff : Nat), .int .i64 (y : Nat), .int .i64 0, .bool (bits BinOp.and IntKind.u8 (y6 : Int) 1 != 0), .bool (bits BinOp.and IntKind.u8 (y6 : Int) 8 != 0), .bool (bits BinOp.and IntKind.u8 (y6 : Int) 2 != 0), .int .i64 0, .int .i64 0, .int .i64 0, .int .i64 0, .int .i64 0, .int .i64 0, .int .i64 0, .int .i64 0, .int .i64 0, .slice none 0 0, .slice none 0 0, .slice none 0 0, .slice none 0 0]) (by kernel_rfl) (by kernel_rfl) rfl (bn.there 19 rfl) (by exact Tryd.infoCart) (by simp [Value.oneCell']) ⟨#[.agg hs, .pointer (some ⟨w.heap.size, 0, none⟩), .pointer (some ⟨w.heap.size + 1, 0, none⟩), .pointer (some ⟨W0.heap.size, 0, none⟩), .agg hs.toList.toArray, .int .i64 (ff : Nat), .pointer (some ⟨w.heap.size, 6, none⟩), .int .u8 (y6 : Nat), .int .u8 (y : Nat), .int .i64 (y : Nat), .pointer (some ⟨w.heap.size, 6, none⟩), .int .u8 (y6 : Nat), .int .u8 (bits BinOp.and IntKind.u8 (y6 : Int) 1), .bool (bits BinOp.and IntKind.u8 (y6 : Int) 1 != 0), .pointer (some ⟨w.heap.size, 6, none⟩), .int .u8 (y6 : Nat), .int .u8 (bits BinOp.and IntKind.u8 (y6 : Int) 2), .bool (bits BinOp.and IntKind.u8 (y6 : Int) 2 != 0), .pointer (some ⟨w.heap.size, 6, none⟩), .int .u8 (y6 : Nat), .int .u8 (bits BinOp.and IntKind.u8 (y6 : Int) 8), .bool (bits BinOp.and IntKind.u8 (y6 : Int) 8 != 0), .agg #[.int .i64 (ff : Nat), .int .i64 (y : Nat), .int .i64 0, .bool (bits BinOp.and IntKind.u8 (y6 : Int) 1 != 0), .bool (bits BinOp.and IntKind.u8 (y6 : Int) 8 != 0), .bool (bits BinOp.and IntKind.u8 (y6 : Int) 2 != 0), .int .i64 0, .int .i64 0, .int .i64 0, .int .i64 0, .int .i64 0, .int .i64 0, .int .i64 0, .int .i64 0, .int .i64 0, .slice none 0 0, .slice none 0 0, .slice none 0 0, .slice none 0 0], undef, undef, undef, undef, undef, undef, undef, undef, undef, undef, undef, undef, undef, undef, undef, undef, undef, undef, undef, undef, undef, undef, undef, undef, undef, undef, undef, undef, undef, undef, undef, undef, undef, undef, undef], []⟩ (by kernel_rfl) ?_
      intro Wz eqW
      clear hi
      have hq1 := z0.lt
      have s9 : SF w hs W0 Wz := by
        rw [eqW]
        exact ⟨s2.bb.otherCells (by omega) _ _, s2.zz.otherCells (by omega) _ _, setCells_below (by omega) _ _ _ _ s2.bl⟩
      have bz : Blk Wz W0.heap.size #[.int .i64 (ff : Nat), .int .i64 (y : Nat), .int .i64 0, .bool vt, .bool fo, .bool ba, .int .i64 0, .int .i64 0, .int .i64 0, .int .i64 0, .int .i64 0, .int .i64 0, .int .i64 0, .int .i64 0, .int .i64 0, .slice none 0 0, .slice none 0 0, .slice none 0 0, .slice none 0 0] 25 := by
        rw [eqW]
        refine Blk.cong (bn.setAll (L := #[.int .i64 (ff : Nat), .int .i64 (y : Nat), .int .i64 0, .bool (bits BinOp.and IntKind.u8 (y6 : Int) 1 != 0), .bool (bits BinOp.and IntKind.u8 (y6 : Int) 8 != 0), .bool (bits BinOp.and IntKind.u8 (y6 : Int) 2 != 0), .int .i64 0, .int .i64 0, .int .i64 0, .int .i64 0, .int .i64 0, .int .i64 0, .int .i64 0, .int .i64 0, .int .i64 0, .slice none 0 0, .slice none 0 0, .slice none 0 0, .slice none 0 0]) rfl) ?_
        rw [v1, v2, v8]
      have hgt : w.heap.size + 1 < W0.heap.size := by omega
      have hbF := hb0.trans (s9.bl.mono hb0.size)
      have s9b := s9.bb
      have s9z := s9.zz
      refine ⟨s9, ?_⟩
      clear eqW bn s9
      refine wpAnyH_done (by kernel_rfl) ?_ _
      go_wp2
      go_meet
      refine ⟨W0.heap.size, ?_, bz, s9b, s9z, hgt, hbF⟩
      rfl
  case rest =>
  obtain ⟨g, rfl, bg, bH, bZ, hlt, hbw⟩ := hcut
  generalize wc = W1 at *
  clear b0 z0 hb0 FC v1 v2 v8 m6 l6
  rcases hf3 with rfl | rfl | rfl
  · have HE : Hid ((#[.int .i64 0, .int .i64 (y : Nat), .int .i64 0, .bool vt, .bool fo, .bool ba, .int .i64 0, .int .i64 0, .int .i64 0, .int .i64 0, .int .i64 0, .int .i64 ((if ba then 0 else 1 * 8192 : Nat) : Int), .int .i64 ((if ba then 1 * 8192 else 0 : Nat) : Int), .int .i64 0, .int .i64 0, .slice none 0 0, .slice none 0 0, .slice none 0 0, .slice none 0 0] : Array Value) = cN (h.cf h.cr0 0 0 0 0)) := by
      unfold Hid cN Hq.cf Hq.cr0 Hq.wu Hq.bat
      rw [HF.out, HVB.out.1.1, HVB.out.1.2, HVB.out.2, HY.out]
      rfl
    have NC : Hid (Calls _ _ _ _ _) := setWork_g g 1 0 (y : Nat) 0 0 vt fo ba (by decide) W1 bg
    have d0 := (bg.cell 0).trans (show _ = some (.int .i64 0) from rfl)
    go_upto_region 4 with fail
    go_wp2_with fail
    refine NC.out.mono ?_
    rintro e W2 ⟨vv, rfl, bg2, tk2⟩
    have bZ2 := tk2.blk bZ (by omega)
    have hb2 : Below w.heap.size w W2 := hbw.trans (tk2.bl.mono (by omega))
    clear NC d0 bg bH bZ hbw
    go_upto_region 12 with fail
    have HC : Hid ((#[.int .i64 0, .int .i64 (y : Nat), .int .i64 0, .bool vt, .bool fo, .bool ba, .int .i64 0, .int .i64 0, .int .i64 0, .int .i64 0, .int .i64 0, .int .i64 ((if ba then 0 else 1 * 8192 : Nat) : Int), .int .i64 ((if ba then 1 * 8192 else 0 : Nat) : Int), .int .i64 0, .int .i64 0, .slice none 0 0, .slice none 0 0, .slice none 0 0, .slice none 0 0] : Array Value).size = 19 ∧ (#[.int .i64 0, .int .i64 (y : Nat), .int .i64 0, .bool vt, .bool fo, .bool ba, .int .i64 0, .int .i64 0, .int .i64 0, .int .i64 0, .int .i64 0, .int .i64 ((if ba then 0 else 1 * 8192 : Nat) : Int), .int .i64 ((if ba then 1 * 8192 else 0 : Nat) : Int), .int .i64 0, .int .i64 0, .slice none 0 0, .slice none 0 0, .slice none 0 0, .slice none 0 0] : Array Value).all (·.oneCell') = true) := ⟨rfl, by simp [nA, Value.oneCell']⟩
    generalize hCC : (#[.int .i64 0, .int .i64 (y : Nat), .int .i64 0, .bool vt, .bool fo, .bool ba, .int .i64 0, .int .i64 0, .int .i64 0, .int .i64 0, .int .i64 0, .int .i64 ((if ba then 0 else 1 * 8192 : Nat) : Int), .int .i64 ((if ba then 1 * 8192 else 0 : Nat) : Int), .int .i64 0, .int .i64 0, .slice none 0 0, .slice none 0 0, .slice none 0 0, .slice none 0 0] : Array Value) = CC at *
    have HCC : Hid (CC = cN (h.cf h.cr0 0 0 0 0)) := by first | exact HE | (unfold Hid; rw [← hCC]; exact HE.out)
    clear hCC HE
    go_wp2_with (first
      | refine wpList_load_mid rfl 25 _ rfl g 0 rfl CC.toList _ bg2.range Tryd.underlying25 rfl (by rw [Array.length_toList, HC.out.1]; exact Tryd.infoCart) ?_
      | refine wpList_store_mid rfl 25 _ _ rfl (w.heap.size + 1) 0 CC rfl rfl (by exact bZ2.there _ HC.out.1.symm) (by rw [HC.out.1]; exact Tryd.infoCart) HC.out.2 ?_)
    refine ret_agg1 (m := w.heap.size + 1) (L := CC) Tryd.results42 (by rfl) (bZ2.setAll (L := CC) (by rw [HC.out.1]; rfl)) Tryd.underlying25 rfl (by rw [HC.out.1]; exact Tryd.infoCart) ?_
    exact ⟨by rw [HCF.out, HCC.out], setCells_below (by omega) _ _ _ _ hb2⟩
  · have k7 := HB.out.k7
    have k8 := HB.out.k8
    have k9 := HB.out.k9
    obtain ⟨uu, huu⟩ : ∃ uu, max h.b8 1 = uu := ⟨_, rfl⟩
    obtain ⟨mm, hmm⟩ : ∃ mm, y + h.b7 / 16 * 16 = mm := ⟨_, rfl⟩
    obtain ⟨kk, hkk⟩ : ∃ kk, h.b7 % 4 = kk := ⟨_, rfl⟩
    obtain ⟨tt, htt⟩ : ∃ tt, h.b9 % 2 = tt := ⟨_, rfl⟩
    have HE : Hid ((#[.int .i64 1, .int .i64 (mm : Nat), .int .i64 0, .bool vt, .bool fo, .bool ba, .int .i64 (kk : Nat), .int .i64 0, .int .i64 (tt : Nat), .int .i64 0, .int .i64 0, .int .i64 ((if ba then 0 else uu * 8192 : Nat) : Int), .int .i64 ((if ba then uu * 8192 else 0 : Nat) : Int), .int .i64 0, .int .i64 0, .slice none 0 0, .slice none 0 0, .slice none 0 0, .slice none 0 0] : Array Value) = cN (h.cf h.cr0 0 0 0 0)) := by
      unfold Hid cN Hq.cf Hq.cr0 Hq.wu Hq.bat
      rw [HF.out, HVB.out.1.1, HVB.out.1.2, HVB.out.2, HY.out]
      rw [← huu, ← hmm, ← hkk, ← htt]
      rfl
    have o7 := or_map y h.b7 hm16 k7
    rw [hmm] at o7
    have a7 := by_and h.b7 k7
    have a240 := a7.2.2.1
    have a3 := a7.2.1
    rw [hkk] at a3
    have a1 := (by_bit h.b9 k9).1
    rw [htt] at a1
    have lm : mm < 256 := by omega
    have lk : kk < 4 := by omega
    have lt' : tt < 2 := by omega
    have hmax : max (h.b8 : Int) 1 = (uu : Int) := by omega
    have lu : uu ≤ 255 := by omega
    have H789 : Hid ((hs[7]? = some (.int .u8 ((h.b7 : Nat) : Int)) ∧ hs[8]? = some (.int .u8 ((h.b8 : Nat) : Int))) ∧ hs[9]? = some (.int .u8 ((h.b9 : Nat) : Int))) := by rw [HH.out]; exact ⟨⟨rfl, rfl⟩, rfl⟩
    have lz : h.b7 / 16 * 16 < 256 := by omega
    clear huu hmm hkk htt a7 hm16
    generalize h.b7 / 16 * 16 = z16 at *
    generalize h.b7 = y7 at *
    generalize h.b8 = y8 at *
    generalize h.b9 = y9 at *
    have d0 := (bg.cell 0).trans (show _ = some (.int .i64 1) from rfl)
    have d1 := (bg.cell 1).trans (show _ = some (.int .i64 (y : Nat)) from rfl)
    have f1 := bg.free 1
    have c7 := (bH.cell 7).trans H789.out.1.1
    go_upto_region 7 with fail
    have K1 : Blk (W1.setCell ⟨g, 1, none⟩ (.int .i64 (mm : Nat))) g #[.int .i64 1, .int .i64 (mm : Nat), .int .i64 0, .bool vt, .bool fo, .bool ba, .int .i64 0, .int .i64 0, .int .i64 0, .int .i64 0, .int .i64 0, .int .i64 0, .int .i64 0, .int .i64 0, .int .i64 0, .slice none 0 0, .slice none 0 0, .slice none 0 0, .slice none 0 0] 25 := bg.set 1 (.int .i64 (mm : Nat))
    have t1 := Tk.set (m := g) W1 1 (.int .i64 (mm : Nat))
    have bH1 := t1.blk bH (by omega)
    clear bg d0 d1 f1 c7 bH
    generalize W1.setCell ⟨g, 1, none⟩ (.int .i64 (mm : Nat)) = W2 at *
    have c7 := (bH1.cell 7).trans H789.out.1.1
    have d6 := (K1.cell 6).trans (show _ = some (.int .i64 0) from rfl)
    have f6 := K1.free 6
    go_upto_region 8 with fail
    have K2 : Blk (W2.setCell ⟨g, 6, none⟩ (.int .i64 (kk : Nat))) g #[.int .i64 1, .int .i64 (mm : Nat), .int .i64 0, .bool vt, .bool fo, .bool ba, .int .i64 (kk : Nat), .int .i64 0, .int .i64 0, .int .i64 0, .int .i64 0, .int .i64 0, .int .i64 0, .int .i64 0, .int .i64 0, .slice none 0 0, .slice none 0 0, .slice none 0 0, .slice none 0 0] 25 := K1.set 6 (.int .i64 (kk : Nat))
    have t2 := t1.trans (Tk.set (m := g) W2 6 (.int .i64 (kk : Nat)))
    have bH2 := (Tk.set (m := g) W2 6 (.int .i64 (kk : Nat))).blk bH1 (by omega)
    clear K1 d6 f6 c7 bH1 t1
    generalize W2.setCell ⟨g, 6, none⟩ (.int .i64 (kk : Nat)) = W3 at *
    have c9 := (bH2.cell 9).trans H789.out.2
    have d8 := (K2.cell 8).trans (show _ = some (.int .i64 0) from rfl)
    have f8 := K2.free 8
    go_upto_region 9 with fail
    have K3 : Blk (W3.setCell ⟨g, 8, none⟩ (.int .i64 (tt : Nat))) g #[.int .i64 1, .int .i64 (mm : Nat), .int .i64 0, .bool vt, .bool fo, .bool ba, .int .i64 (kk : Nat), .int .i64 0, .int .i64 (tt : Nat), .int .i64 0, .int .i64 0, .int .i64 0, .int .i64 0, .int .i64 0, .int .i64 0, .slice none 0 0, .slice none 0 0, .slice none 0 0, .slice none 0 0] 25 := K2.set 8 (.int .i64 (tt : Nat))
    have t3 := t2.trans (Tk.set (m := g) W3 8 (.int .i64 (tt : Nat)))
    have bH3 := (Tk.set (m := g) W3 8 (.int .i64 (tt : Nat))).blk bH2 (by omega)
    clear K2 d8 f8 c9 bH2 t2
    generalize W3.setCell ⟨g, 8, none⟩ (.int .i64 (tt : Nat)) = W4 at *
    have c8 := (bH3.cell 8).trans H789.out.1.2
    have NC : Hid (Calls _ _ _ _ _) := setWork_g g uu 1 (mm : Nat) (kk : Nat) (tt : Nat) vt fo ba lu W4 K3
    rcases (show (y8 = 0 ∧ uu = 1) ∨ (1 ≤ y8 ∧ uu = y8) by omega) with ⟨h8, hu⟩ | ⟨h8, hu⟩
    · subst hu
      subst h8
      go_wp2_with fail
      refine NC.out.mono ?_
      rintro e W5 ⟨vv, rfl, bg2, tk5⟩
      have t5 := t3.trans tk5
      have bZ2 := t5.blk bZ (by omega)
      have hb2 : Below w.heap.size w W5 := hbw.trans (t5.bl.mono (by omega))
      clear NC bH3 bZ hbw K3 t3 tk5 t5 c8
      go_upto_region 12 with fail
      have HC : Hid ((#[.int .i64 1, .int .i64 (mm : Nat), .int .i64 0, .bool vt, .bool fo, .bool ba, .int .i64 (kk : Nat), .int .i64 0, .int .i64 (tt : Nat), .int .i64 0, .int .i64 0, .int .i64 ((if ba then 0 else 1 * 8192 : Nat) : Int), .int .i64 ((if ba then 1 * 8192 else 0 : Nat) : Int), .int .i64 0, .int .i64 0, .slice none 0 0, .slice none 0 0, .slice none 0 0, .slice none 0 0] : Array Value).size = 19 ∧ (#[.int .i64 1, .int .i64 (mm : Nat), .int .i64 0, .bool vt, .bool fo, .bool ba, .int .i64 (kk : Nat), .int .i64 0, .int .i64 (tt : Nat), .int .i64 0, .int .i64 0, .int .i64 ((if ba then 0 else 1 * 8192 : Nat) : Int), .int .i64 ((if ba then 1 * 8192 else 0 : Nat) : Int), .int .i64 0, .int .i64 0, .slice none 0 0, .slice none 0 0, .slice none 0 0, .slice none 0 0] : Array Value).all (·.oneCell') = true) := ⟨rfl, by simp [nA, Value.oneCell']⟩
      generalize hCC : (#[.int .i64 1, .int .i64 (mm : Nat), .int .i64 0, .bool vt, .bool fo, .bool ba, .int .i64 (kk : Nat), .int .i64 0, .int .i64 (tt : Nat), .int .i64 0, .int .i64 0, .int .i64 ((if ba then 0 else 1 * 8192 : Nat) : Int), .int .i64 ((if ba then 1 * 8192 else 0 : Nat) : Int), .int .i64 0, .int .i64 0, .slice none 0 0, .slice none 0 0, .slice none 0 0, .slice none 0 0] : Array Value) = CC at *
      have HCC : Hid (CC = cN (h.cf h.cr0 0 0 0 0)) := by first | exact HE | (unfold Hid; rw [← hCC]; exact HE.out)
      clear hCC HE
      go_wp2_with (first
        | refine wpList_load_mid rfl 25 _ rfl g 0 rfl CC.toList _ bg2.range Tryd.underlying25 rfl (by rw [Array.length_toList, HC.out.1]; exact Tryd.infoCart) ?_
        | refine wpList_store_mid rfl 25 _ _ rfl (w.heap.size + 1) 0 CC rfl rfl (by exact bZ2.there _ HC.out.1.symm) (by rw [HC.out.1]; exact Tryd.infoCart) HC.out.2 ?_)
      refine ret_agg1 (m := w.heap.size + 1) (L := CC) Tryd.results42 (by rfl) (bZ2.setAll (L := CC) (by rw [HC.out.1]; rfl)) Tryd.underlying25 rfl (by rw [HC.out.1]; exact Tryd.infoCart) ?_
      exact ⟨by rw [HCF.out, HCC.out], setCells_below (by omega) _ _ _ _ hb2⟩
    · subst hu
      have h8' : ¬ (uu : Int) < 1 := by omega
      have h8'' : (1 : Int) ≤ (uu : Int) := by omega
      clear hmax
      go_wp2_with fail
      refine NC.out.mono ?_
      rintro e W5 ⟨vv, rfl, bg2, tk5⟩
      have t5 := t3.trans tk5
      have bZ2 := t5.blk bZ (by omega)
      have hb2 : Below w.heap.size w W5 := hbw.trans (t5.bl.mono (by omega))
      clear NC bH3 bZ hbw K3 t3 tk5 t5 c8 h8' h8''
      go_upto_region 12 with fail
      have HC : Hid ((#[.int .i64 1, .int .i64 (mm : Nat), .int .i64 0, .bool vt, .bool fo, .bool ba, .int .i64 (kk : Nat), .int .i64 0, .int .i64 (tt : Nat), .int .i64 0, .int .i64 0, .int .i64 ((if ba then 0 else uu * 8192 : Nat) : Int), .int .i64 ((if ba then uu * 8192 else 0 : Nat) : Int), .int .i64 0, .int .i64 0, .slice none 0 0, .slice none 0 0, .slice none 0 0, .slice none 0 0] : Array Value).size = 19 ∧ (#[.int .i64 1, .int .i64 (mm : Nat), .int .i64 0, .bool vt, .bool fo, .bool ba, .int .i64 (kk : Nat), .int .i64 0, .int .i64 (tt : Nat), .int .i64 0, .int .i64 0, .int .i64 ((if ba then 0 else uu * 8192 : Nat) : Int), .int .i64 ((if ba then uu * 8192 else 0 : Nat) : Int), .int .i64 0, .int .i64 0, .slice none 0 0, .slice none 0 0, .slice none 0 0, .slice none 0 0] : Array Value).all (·.oneCell') = true) := ⟨rfl, by simp [nA, Value.oneCell']⟩
      generalize hCC : (#[.int .i64 1, .int .i64 (mm : Nat), .int .i64 0, .bool vt, .bool fo, .bool ba, .int .i64 (kk : Nat), .int .i64 0, .int .i64 (tt : Nat), .int .i64 0, .int .i64 0, .int .i64 ((if ba then 0 else uu * 8192 : Nat) : Int), .int .i64 ((if ba then uu * 8192 else 0 : Nat) : Int), .int .i64 0, .int .i64 0, .slice none 0 0, .slice none 0 0, .slice none 0 0, .slice none 0 0] : Array Value) = CC at *
      have HCC : Hid (CC = cN (h.cf h.cr0 0 0 0 0)) := by first | exact HE | (unfold Hid; rw [← hCC]; exact HE.out)
      clear hCC HE
      go_wp2_with (first
        | refine wpList_load_mid rfl 25 _ rfl g 0 rfl CC.toList _ bg2.range Tryd.underlying25 rfl (by rw [Array.length_toList, HC.out.1]; exact Tryd.infoCart) ?_
        | refine wpList_store_mid rfl 25 _ _ rfl (w.heap.size + 1) 0 CC rfl rfl (by exact bZ2.there _ HC.out.1.symm) (by rw [HC.out.1]; exact Tryd.infoCart) HC.out.2 ?_)
      refine ret_agg1 (m := w.heap.size + 1) (L := CC) Tryd.results42 (by rfl) (bZ2.setAll (L := CC) (by rw [HC.out.1]; rfl)) Tryd.underlying25 rfl (by rw [HC.out.1]; exact Tryd.infoCart) ?_
      exact ⟨by rw [HCF.out, HCC.out], setCells_below (by omega) _ _ _ _ hb2⟩
  · have HE : Hid (nA (nxOf h) vt fo ba = cN (h.cf h.cr0 0 0 0 0)) := by
      unfold Hid cN nA nxOf Hq.cf Hq.cr0 Hq.wu Hq.bat
      rw [HF.out, HVB.out.1.1, HVB.out.1.2, HVB.out.2]
      rfl
    have k7 := HB.out.k7
    have k6 := HB.out.k6
    have HYY : Hid ((nxOf h).m % 16 = y) := by
      unfold Hid; rw [← HY.out]; show (h.b6 / 16 + h.b7 / 16 * 16 + h.b8 % 16 * 256) % 16 = h.b6 / 16; omega
    have NC : Hid (Calls _ _ _ _ _) := nes2_g hs h (nxOf h) (nx_of h HB.out) HH.out vt fo ba W1 g y HYY.out bg
    have d0 := (bg.cell 0).trans (show _ = some (.int .i64 2) from rfl)
    clear k7 k6
    go_upto_region 11 with fail
    go_wp2_with (refine wpList_load_mid rfl 67 _ rfl w.heap.size 0 rfl hs.toList _ bH.range Tryd.underlying67 rfl (by rw [Array.length_toList, HSZ.out]; exact infoHdr) ?_; rw [Array.toArray_toList])
    refine NC.out.mono ?_
    rintro e W2 ⟨vv, rfl, bg2, tk2⟩
    have bZ2 := tk2.blk bZ (by omega)
    have hb2 : Below w.heap.size w W2 := hbw.trans (tk2.bl.mono (by omega))
    clear NC d0 bg bH bZ hbw
    go_upto_region 12 with fail
    have HC : Hid ((nA (nxOf h) vt fo ba : Array Value).size = 19 ∧ (nA (nxOf h) vt fo ba : Array Value).all (·.oneCell') = true) := ⟨rfl, by simp [nA, Value.oneCell']⟩
    generalize hCC : (nA (nxOf h) vt fo ba : Array Value) = CC at *
    have HCC : Hid (CC = cN (h.cf h.cr0 0 0 0 0)) := by first | exact HE | (unfold Hid; rw [← hCC]; exact HE.out)
    clear hCC HE
    go_wp2_with (first
      | refine wpList_load_mid rfl 25 _ rfl g 0 rfl CC.toList _ bg2.range Tryd.underlying25 rfl (by rw [Array.length_toList, HC.out.1]; exact Tryd.infoCart) ?_
      | refine wpList_store_mid rfl 25 _ _ rfl (w.heap.size + 1) 0 CC rfl rfl (by exact bZ2.there _ HC.out.1.symm) (by rw [HC.out.1]; exact Tryd.infoCart) HC.out.2 ?_)
    refine ret_agg1 (m := w.heap.size + 1) (L := CC) Tryd.results42 (by rfl) (bZ2.setAll (L := CC) (by rw [HC.out.1]; rfl)) Tryd.underlying25 rfl (by rw [HC.out.1]; exact Tryd.infoCart) ?_
    exact ⟨by rw [HCF.out, HCC.out], setCells_below (by omega) _ _ _ _ hb2⟩
end Go.Proofs.YtilhlbnicmmaoaaDoor
