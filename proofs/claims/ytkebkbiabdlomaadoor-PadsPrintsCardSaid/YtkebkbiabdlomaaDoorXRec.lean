/-
  The contract of appendRecord.
-/
import Derived.Test.YtkebkbiabdlomaaDoorXHnd
import Derived.Test.YtkebkbiabdlomaaDoorXDec
set_option linter.unusedSimpArgs false
set_option linter.unusedVariables false
namespace Go.Proofs.YtkebkbiabdlomaaDoor
open Go.RowKit Classical
theorem Fr.drew {base : Nat} {w w' : World} (h : Fr base w w') : Fr base w w'.drew := ⟨h.below.drew, h.others.drew, h.size⟩
/-- The number of a turn's flags. -/
def flg (t : TuE) : Nat := (if t.rs then 1 else 0) + (if t.fl then 2 else 0)
/-- A record's text. -/
def recT (t : TuE) (n : Nat) : List UInt8 :=
  [124] ++ Lib.decDigits (flg t) ++ [124] ++ Lib.decDigits t.bu.toNat ++ [124] ++ padT t.one.toNat 8 ++ [124] ++ padT t.two.toNat 8 ++ [124] ++ (if 2 ≤ n then [32, 120] ++ Lib.decDigits n else []) ++ [10]
set_option maxRecDepth 100000 in
set_option maxHeartbeats 4000000 in
theorem appendRecord_ff (w : World) (base n : Nat) (v1 : Value) (l : List UInt8) (bu one two : Int) (hn : n ≤ 9223372036854775807) (hl : l.length ≤ 17592186040000) (hbase : base ≤ w.heap.size) (H : Txm w base v1 l) (ok : TuE.Ok ⟨bu, one, two, false, false⟩)
    (htab : Lib.TabBelow Tryd.prog base w "internal/strconv.uint64pow10" .u64 Lib.pow10Tab) :
    Calls Tryd.prog 17 #[v1, .agg #[.int .u32 bu, .int .u8 one, .int .u8 two, .bool false, .bool false], .int .i64 (n : Int)] w fun e w' => ∃ v', (Txt w' base v' (l ++ recT ⟨bu, one, two, false, false⟩ n) ∧ Fr base w w') ∧ e = .returned v' := by
  have hbb : (0 : Int) ≤ bu ∧ bu ≤ 4294967295 := ⟨ok.bu0, ok.bu1⟩
  have ho : (0 : Int) ≤ one ∧ one ≤ 255 := ⟨ok.one0, ok.one1⟩
  have ht : (0 : Int) ≤ two ∧ two ≤ 255 := ⟨ok.two0, ok.two1⟩
  clear ok
  have d0 := dec_len 0 (by omega)
  have d1 := dec_len bu.toNat (by omega)
  have d2 := dec_len n (by omega)
  obtain ⟨b0, b1⟩ := hbb
  obtain ⟨o0, o1⟩ := ho
  obtain ⟨t0, t1⟩ := ht
  have hwr : IntKind.u64.wrap bu = bu := by rw [IntKind.wrap_u64]; omega
  have hbx : Below base w (w.alloc (.cells #[.int .u32 bu, .int .u8 one, .int .u8 two, .bool false, .bool false] 25)) := (Below.refl _ _).alloc hbase _
  have B1 : Blk (w.alloc (.cells #[.int .u32 bu, .int .u8 one, .int .u8 two, .bool false, .bool false] 25)) w.heap.size #[.int .u32 bu, .int .u8 one, .int .u8 two, .bool false, .bool false] 25 := Blk.new _ _ _
  have H1 : Txm (w.alloc (.cells #[.int .u32 bu, .int .u8 one, .int .u8 two, .bool false, .bool false] 25)) base v1 l := H.keep (Nat.le_refl _) ((Below.refl _ _).alloc (Nat.le_refl _) _)
  have F1 : Fr base (w.alloc (.cells #[.int .u32 bu, .int .u8 one, .int .u8 two, .bool false, .bool false] 25)) (w.alloc (.cells #[.int .u32 bu, .int .u8 one, .int .u8 two, .bool false, .bool false] 25)) := Fr.refl (by simp; omega)
  have F0 : Fr base w (w.alloc (.cells #[.int .u32 bu, .int .u8 one, .int .u8 two, .bool false, .bool false] 25)) := ⟨hbx, (Lib.OthersKept.refl _ _ _).alloc _, by simp; omega⟩
  have tab := htab.on hbx
  clear htab H hbx
  go_enter Tryd.func17, Tryd.ntmps17
  go_upto_region 6 with fail
  generalize w.alloc (.cells #[.int .u32 bu, .int .u8 one, .int .u8 two, .bool false, .bool false] 25) = w1 at *
  generalize w.heap.size = nb at *
  go_upto_region 7 with (first
    | (at_builtin; refine wpList_appM rfl _ _ rfl (m := [124]) H1 F1 rfl rfl (by decide) (by simp only [List.length_append, padT_len, List.length_cons, List.length_nil]; omega) ?_; intro v2 W2 H2 F2; clear H1)
    | (go_at_call 23; refine (appendUint_r (u := 0) rfl (by decide) (by simp only [List.length_append, padT_len, List.length_cons, List.length_nil]; omega) F2 H2 tab).mono ?_; rintro e W3 ⟨v3, ⟨H3, F3⟩, rfl⟩; clear H2))
  go_upto_region 7 with fail
  have sB := F3.blk B1 (by decide)
  refine wp_region_held (S := fun W => Blk W nb #[.int .u32 bu, .int .u8 one, .int .u8 two, .bool false, .bool false] 25) (by kernel_rfl) ?_
  refine takeH (i := 0) (v := v3) ⟨#[v3, .agg #[.int .u32 bu, .int .u8 one, .int .u8 two, .bool false, .bool false], .int .i64 (n : Int), undef, .pointer (some ⟨nb, 0, none⟩), undef, .slice none 0 0, .int .u64 0, .pointer (some ⟨nb, 4, none⟩), .bool false, undef, undef, .pointer (some ⟨nb, 3, none⟩), .bool false, undef, undef, v1, v2, .int .u64 0, v3, v3, undef, undef, undef, undef, undef, undef, undef, undef, undef, undef, undef, undef, undef, undef, undef, undef, undef, undef, undef, undef, undef, undef, undef, undef, undef, undef], []⟩ rfl (by kernel_rfl) (by kernel_rfl) (by kernel_rfl) (fun _ _ _ h => h) (.inl ⟨by kernel_rfl, fun _ _ => by kernel_rfl⟩) sB (by kernel_rfl) ?_
  refine takeH (i := 2) (v := .pointer (some ⟨nb, 0, none⟩)) ⟨#[v3, .agg #[.int .u32 bu, .int .u8 one, .int .u8 two, .bool false, .bool false], .int .i64 (n : Int), undef, .pointer (some ⟨nb, 0, none⟩), undef, .slice none 0 0, .int .u64 0, .pointer (some ⟨nb, 4, none⟩), .bool false, undef, undef, .pointer (some ⟨nb, 3, none⟩), .bool false, undef, undef, v1, v2, .int .u64 0, v3, v3, undef, .pointer (some ⟨nb, 0, none⟩), undef, undef, undef, undef, undef, undef, undef, undef, undef, undef, undef, undef, undef, undef, undef, undef, undef, undef, undef, undef, undef, undef, undef, undef], []⟩ rfl (by kernel_rfl) (by kernel_rfl) (by kernel_rfl) (fun _ _ _ h => h) (.inl ⟨by kernel_rfl, fun _ _ => by kernel_rfl⟩) sB (by kernel_rfl) ?_
  refine takeH (i := 3) (v := .int .u32 bu) ⟨#[v3, .agg #[.int .u32 bu, .int .u8 one, .int .u8 two, .bool false, .bool false], .int .i64 (n : Int), undef, .pointer (some ⟨nb, 0, none⟩), undef, .slice none 0 0, .int .u64 0, .pointer (some ⟨nb, 4, none⟩), .bool false, undef, undef, .pointer (some ⟨nb, 3, none⟩), .bool false, undef, undef, v1, v2, .int .u64 0, v3, v3, undef, .pointer (some ⟨nb, 0, none⟩), .int .u32 bu, undef, undef, undef, undef, undef, undef, undef, undef, undef, undef, undef, undef, undef, undef, undef, undef, undef, undef, undef, undef, undef, undef, undef], []⟩ rfl (by kernel_rfl) (by kernel_rfl) (by kernel_rfl) (fun _ _ _ h => h) (.inl ⟨by kernel_rfl, fun v hv => by have c : v.cell? ⟨nb, 0, none⟩ = some (.int .u32 bu) := Blk.cell hv 0; go_simp⟩) sB (by kernel_rfl) ?_
  refine takeH (i := 4) (v := .int .u64 bu) ⟨#[v3, .agg #[.int .u32 bu, .int .u8 one, .int .u8 two, .bool false, .bool false], .int .i64 (n : Int), undef, .pointer (some ⟨nb, 0, none⟩), undef, .slice none 0 0, .int .u64 0, .pointer (some ⟨nb, 4, none⟩), .bool false, undef, undef, .pointer (some ⟨nb, 3, none⟩), .bool false, undef, undef, v1, v2, .int .u64 0, v3, v3, undef, .pointer (some ⟨nb, 0, none⟩), .int .u32 bu, .int .u64 bu, undef, undef, undef, undef, undef, undef, undef, undef, undef, undef, undef, undef, undef, undef, undef, undef, undef, undef, undef, undef, undef, undef], []⟩ rfl (by kernel_rfl) (by kernel_rfl) (by kernel_rfl) (fun _ _ _ h => h) (.inl ⟨by kernel_rfl, fun _ _ => by go_simp⟩) sB (by kernel_rfl) ?_
  refine wpAnyH_all (rs := [1]) (by kernel_rfl) (by simp) ?_
  intro i hi
  obtain rfl : i = 1 := by simpa using hi
  clear hi
  refine wpOp_app rfl (by kernel_rfl) (.tmp 20) _ rfl (m := [124]) (.inl H3) F3.drew rfl rfl (by decide) (by simp only [List.length_append, padT_len, List.length_cons, List.length_nil]; omega) (fun x => ⟨#[v3, .agg #[.int .u32 bu, .int .u8 one, .int .u8 two, .bool false, .bool false], .int .i64 (n : Int), undef, .pointer (some ⟨nb, 0, none⟩), undef, .slice none 0 0, .int .u64 0, .pointer (some ⟨nb, 4, none⟩), .bool false, undef, undef, .pointer (some ⟨nb, 3, none⟩), .bool false, undef, undef, v1, v2, .int .u64 0, v3, v3, x, .pointer (some ⟨nb, 0, none⟩), .int .u32 bu, .int .u64 bu, undef, undef, undef, undef, undef, undef, undef, undef, undef, undef, undef, undef, undef, undef, undef, undef, undef, undef, undef, undef, undef, undef], []⟩) (fun _ => by kernel_rfl) ?_
  intro v4 W4 H4 F4
  clear H3 sB
  have sB := F4.blk B1 (by decide)
  refine ⟨sB, ?_⟩
  refine wpAnyH_all (rs := [5]) (by kernel_rfl) (by simp) ?_
  intro i hi
  obtain rfl : i = 5 := by simpa using hi
  clear hi
  refine wpOp_calls (f := 23) rfl (by kernel_rfl) (by kernel_rfl) (appendUint_r (u := bu.toNat) (i := bu) (by omega) (by omega) (by simp only [List.length_append, padT_len, List.length_cons, List.length_nil]; omega) F4 H4 tab) (fun x => ⟨#[v3, .agg #[.int .u32 bu, .int .u8 one, .int .u8 two, .bool false, .bool false], .int .i64 (n : Int), undef, .pointer (some ⟨nb, 0, none⟩), undef, .slice none 0 0, .int .u64 0, .pointer (some ⟨nb, 4, none⟩), .bool false, undef, undef, .pointer (some ⟨nb, 3, none⟩), .bool false, undef, undef, v1, v2, .int .u64 0, v3, v3, v4, .pointer (some ⟨nb, 0, none⟩), .int .u32 bu, .int .u64 bu, x, undef, undef, undef, undef, undef, undef, undef, undef, undef, undef, undef, undef, undef, undef, undef, undef, undef, undef, undef, undef, undef], []⟩) (fun _ => by kernel_rfl) ?_
  rintro v5 W5 ⟨H5, F5⟩
  clear H4 sB
  have sB := F5.blk B1 (by decide)
  refine ⟨sB, ?_⟩
  refine takeH (i := 6) (v := v5) ⟨#[v5, .agg #[.int .u32 bu, .int .u8 one, .int .u8 two, .bool false, .bool false], .int .i64 (n : Int), undef, .pointer (some ⟨nb, 0, none⟩), undef, .slice none 0 0, .int .u64 0, .pointer (some ⟨nb, 4, none⟩), .bool false, undef, undef, .pointer (some ⟨nb, 3, none⟩), .bool false, undef, undef, v1, v2, .int .u64 0, v3, v3, v4, .pointer (some ⟨nb, 0, none⟩), .int .u32 bu, .int .u64 bu, v5, undef, undef, undef, undef, undef, undef, undef, undef, undef, undef, undef, undef, undef, undef, undef, undef, undef, undef, undef, undef, undef], []⟩ rfl (by kernel_rfl) (by kernel_rfl) (by kernel_rfl) (fun _ _ _ h => h) (.inl ⟨by kernel_rfl, fun _ _ => by kernel_rfl⟩) sB (by kernel_rfl) ?_
  refine wpAnyH_done (by kernel_rfl) ?_ _
  clear sB
  go_upto_region 8 with fail
  have sB := F5.blk B1 (by decide)
  refine wp_region_held (S := fun W => Blk W nb #[.int .u32 bu, .int .u8 one, .int .u8 two, .bool false, .bool false] 25) (by kernel_rfl) ?_
  refine takeH (i := 0) (v := v5) ⟨#[v5, .agg #[.int .u32 bu, .int .u8 one, .int .u8 two, .bool false, .bool false], .int .i64 (n : Int), undef, .pointer (some ⟨nb, 0, none⟩), undef, .slice none 0 0, .int .u64 0, .pointer (some ⟨nb, 4, none⟩), .bool false, undef, undef, .pointer (some ⟨nb, 3, none⟩), .bool false, undef, undef, v1, v2, .int .u64 0, v3, v3, v4, .pointer (some ⟨nb, 0, none⟩), .int .u32 bu, .int .u64 bu, v5, v5, undef, undef, undef, undef, undef, undef, undef, undef, undef, undef, undef, undef, undef, undef, undef, undef, undef, undef, undef, undef], []⟩ rfl (by kernel_rfl) (by kernel_rfl) (by kernel_rfl) (fun _ _ _ h => h) (.inl ⟨by kernel_rfl, fun _ _ => by kernel_rfl⟩) sB (by kernel_rfl) ?_
  refine takeH (i := 2) (v := .pointer (some ⟨nb, 1, none⟩)) ⟨#[v5, .agg #[.int .u32 bu, .int .u8 one, .int .u8 two, .bool false, .bool false], .int .i64 (n : Int), undef, .pointer (some ⟨nb, 0, none⟩), undef, .slice none 0 0, .int .u64 0, .pointer (some ⟨nb, 4, none⟩), .bool false, undef, undef, .pointer (some ⟨nb, 3, none⟩), .bool false, undef, undef, v1, v2, .int .u64 0, v3, v3, v4, .pointer (some ⟨nb, 0, none⟩), .int .u32 bu, .int .u64 bu, v5, v5, undef, .pointer (some ⟨nb, 1, none⟩), undef, undef, undef, undef, undef, undef, undef, undef, undef, undef, undef, undef, undef, undef, undef, undef, undef, undef], []⟩ rfl (by kernel_rfl) (by kernel_rfl) (by kernel_rfl) (fun _ _ _ h => h) (.inl ⟨by kernel_rfl, fun _ _ => by kernel_rfl⟩) sB (by kernel_rfl) ?_
  refine takeH (i := 3) (v := .int .u8 one) ⟨#[v5, .agg #[.int .u32 bu, .int .u8 one, .int .u8 two, .bool false, .bool false], .int .i64 (n : Int), undef, .pointer (some ⟨nb, 0, none⟩), undef, .slice none 0 0, .int .u64 0, .pointer (some ⟨nb, 4, none⟩), .bool false, undef, undef, .pointer (some ⟨nb, 3, none⟩), .bool false, undef, undef, v1, v2, .int .u64 0, v3, v3, v4, .pointer (some ⟨nb, 0, none⟩), .int .u32 bu, .int .u64 bu, v5, v5, undef, .pointer (some ⟨nb, 1, none⟩), .int .u8 one, undef, undef, undef, undef, undef, undef, undef, undef, undef, undef, undef, undef, undef, undef, undef, undef, undef], []⟩ rfl (by kernel_rfl) (by kernel_rfl) (by kernel_rfl) (fun _ _ _ h => h) (.inl ⟨by kernel_rfl, fun v hv => by have c : v.cell? ⟨nb, 1, none⟩ = some (.int .u8 one) := Blk.cell hv 1; go_simp⟩) sB (by kernel_rfl) ?_
  refine wpAnyH_all (rs := [1]) (by kernel_rfl) (by simp) ?_
  intro i hi
  obtain rfl : i = 1 := by simpa using hi
  clear hi
  refine wpOp_app rfl (by kernel_rfl) (.tmp 26) _ rfl (m := [124]) (.inl H5) F5.drew rfl rfl (by decide) (by simp only [List.length_append, padT_len, List.length_cons, List.length_nil]; omega) (fun x => ⟨#[v5, .agg #[.int .u32 bu, .int .u8 one, .int .u8 two, .bool false, .bool false], .int .i64 (n : Int), undef, .pointer (some ⟨nb, 0, none⟩), undef, .slice none 0 0, .int .u64 0, .pointer (some ⟨nb, 4, none⟩), .bool false, undef, undef, .pointer (some ⟨nb, 3, none⟩), .bool false, undef, undef, v1, v2, .int .u64 0, v3, v3, v4, .pointer (some ⟨nb, 0, none⟩), .int .u32 bu, .int .u64 bu, v5, v5, x, .pointer (some ⟨nb, 1, none⟩), .int .u8 one, undef, undef, undef, undef, undef, undef, undef, undef, undef, undef, undef, undef, undef, undef, undef, undef, undef], []⟩) (fun _ => by kernel_rfl) ?_
  intro v6 W6 H6 F6
  clear H5 sB
  have sB := F6.blk B1 (by decide)
  refine ⟨sB, ?_⟩
  refine wpAnyH_all (rs := [4]) (by kernel_rfl) (by simp) ?_
  intro i hi
  obtain rfl : i = 4 := by simpa using hi
  clear hi
  refine wpOp_calls (f := 24) rfl (by kernel_rfl) (by kernel_rfl) (appendPad_r o0 o1 (by simp only [List.length_append, padT_len, List.length_cons, List.length_nil]; omega) F6 H6) (fun x => ⟨#[v5, .agg #[.int .u32 bu, .int .u8 one, .int .u8 two, .bool false, .bool false], .int .i64 (n : Int), undef, .pointer (some ⟨nb, 0, none⟩), undef, .slice none 0 0, .int .u64 0, .pointer (some ⟨nb, 4, none⟩), .bool false, undef, undef, .pointer (some ⟨nb, 3, none⟩), .bool false, undef, undef, v1, v2, .int .u64 0, v3, v3, v4, .pointer (some ⟨nb, 0, none⟩), .int .u32 bu, .int .u64 bu, v5, v5, v6, .pointer (some ⟨nb, 1, none⟩), .int .u8 one, x, undef, undef, undef, undef, undef, undef, undef, undef, undef, undef, undef, undef, undef, undef, undef, undef], []⟩) (fun _ => by kernel_rfl) ?_
  rintro v7 W7 ⟨H7, F7⟩
  clear H6 sB
  have sB := F7.blk B1 (by decide)
  refine ⟨sB, ?_⟩
  refine takeH (i := 5) (v := v7) ⟨#[v7, .agg #[.int .u32 bu, .int .u8 one, .int .u8 two, .bool false, .bool false], .int .i64 (n : Int), undef, .pointer (some ⟨nb, 0, none⟩), undef, .slice none 0 0, .int .u64 0, .pointer (some ⟨nb, 4, none⟩), .bool false, undef, undef, .pointer (some ⟨nb, 3, none⟩), .bool false, undef, undef, v1, v2, .int .u64 0, v3, v3, v4, .pointer (some ⟨nb, 0, none⟩), .int .u32 bu, .int .u64 bu, v5, v5, v6, .pointer (some ⟨nb, 1, none⟩), .int .u8 one, v7, undef, undef, undef, undef, undef, undef, undef, undef, undef, undef, undef, undef, undef, undef, undef, undef], []⟩ rfl (by kernel_rfl) (by kernel_rfl) (by kernel_rfl) (fun _ _ _ h => h) (.inl ⟨by kernel_rfl, fun _ _ => by kernel_rfl⟩) sB (by kernel_rfl) ?_
  refine wpAnyH_done (by kernel_rfl) ?_ _
  clear sB
  go_upto_region 9 with fail
  have sB := F7.blk B1 (by decide)
  refine wp_region_held (S := fun W => Blk W nb #[.int .u32 bu, .int .u8 one, .int .u8 two, .bool false, .bool false] 25) (by kernel_rfl) ?_
  refine takeH (i := 0) (v := v7) ⟨#[v7, .agg #[.int .u32 bu, .int .u8 one, .int .u8 two, .bool false, .bool false], .int .i64 (n : Int), undef, .pointer (some ⟨nb, 0, none⟩), undef, .slice none 0 0, .int .u64 0, .pointer (some ⟨nb, 4, none⟩), .bool false, undef, undef, .pointer (some ⟨nb, 3, none⟩), .bool false, undef, undef, v1, v2, .int .u64 0, v3, v3, v4, .pointer (some ⟨nb, 0, none⟩), .int .u32 bu, .int .u64 bu, v5, v5, v6, .pointer (some ⟨nb, 1, none⟩), .int .u8 one, v7, v7, undef, undef, undef, undef, undef, undef, undef, undef, undef, undef, undef, undef, undef, undef, undef], []⟩ rfl (by kernel_rfl) (by kernel_rfl) (by kernel_rfl) (fun _ _ _ h => h) (.inl ⟨by kernel_rfl, fun _ _ => by kernel_rfl⟩) sB (by kernel_rfl) ?_
  refine takeH (i := 2) (v := .pointer (some ⟨nb, 2, none⟩)) ⟨#[v7, .agg #[.int .u32 bu, .int .u8 one, .int .u8 two, .bool false, .bool false], .int .i64 (n : Int), undef, .pointer (some ⟨nb, 0, none⟩), undef, .slice none 0 0, .int .u64 0, .pointer (some ⟨nb, 4, none⟩), .bool false, undef, undef, .pointer (some ⟨nb, 3, none⟩), .bool false, undef, undef, v1, v2, .int .u64 0, v3, v3, v4, .pointer (some ⟨nb, 0, none⟩), .int .u32 bu, .int .u64 bu, v5, v5, v6, .pointer (some ⟨nb, 1, none⟩), .int .u8 one, v7, v7, undef, .pointer (some ⟨nb, 2, none⟩), undef, undef, undef, undef, undef, undef, undef, undef, undef, undef, undef, undef, undef], []⟩ rfl (by kernel_rfl) (by kernel_rfl) (by kernel_rfl) (fun _ _ _ h => h) (.inl ⟨by kernel_rfl, fun _ _ => by kernel_rfl⟩) sB (by kernel_rfl) ?_
  refine takeH (i := 3) (v := .int .u8 two) ⟨#[v7, .agg #[.int .u32 bu, .int .u8 one, .int .u8 two, .bool false, .bool false], .int .i64 (n : Int), undef, .pointer (some ⟨nb, 0, none⟩), undef, .slice none 0 0, .int .u64 0, .pointer (some ⟨nb, 4, none⟩), .bool false, undef, undef, .pointer (some ⟨nb, 3, none⟩), .bool false, undef, undef, v1, v2, .int .u64 0, v3, v3, v4, .pointer (some ⟨nb, 0, none⟩), .int .u32 bu, .int .u64 bu, v5, v5, v6, .pointer (some ⟨nb, 1, none⟩), .int .u8 one, v7, v7, undef, .pointer (some ⟨nb, 2, none⟩), .int .u8 two, undef, undef, undef, undef, undef, undef, undef, undef, undef, undef, undef, undef], []⟩ rfl (by kernel_rfl) (by kernel_rfl) (by kernel_rfl) (fun _ _ _ h => h) (.inl ⟨by kernel_rfl, fun v hv => by have c : v.cell? ⟨nb, 2, none⟩ = some (.int .u8 two) := Blk.cell hv 2; go_simp⟩) sB (by kernel_rfl) ?_
  refine wpAnyH_all (rs := [1]) (by kernel_rfl) (by simp) ?_
  intro i hi
  obtain rfl : i = 1 := by simpa using hi
  clear hi
  refine wpOp_app rfl (by kernel_rfl) (.tmp 31) _ rfl (m := [124]) (.inl H7) F7.drew rfl rfl (by decide) (by simp only [List.length_append, padT_len, List.length_cons, List.length_nil]; omega) (fun x => ⟨#[v7, .agg #[.int .u32 bu, .int .u8 one, .int .u8 two, .bool false, .bool false], .int .i64 (n : Int), undef, .pointer (some ⟨nb, 0, none⟩), undef, .slice none 0 0, .int .u64 0, .pointer (some ⟨nb, 4, none⟩), .bool false, undef, undef, .pointer (some ⟨nb, 3, none⟩), .bool false, undef, undef, v1, v2, .int .u64 0, v3, v3, v4, .pointer (some ⟨nb, 0, none⟩), .int .u32 bu, .int .u64 bu, v5, v5, v6, .pointer (some ⟨nb, 1, none⟩), .int .u8 one, v7, v7, x, .pointer (some ⟨nb, 2, none⟩), .int .u8 two, undef, undef, undef, undef, undef, undef, undef, undef, undef, undef, undef, undef], []⟩) (fun _ => by kernel_rfl) ?_
  intro v8 W8 H8 F8
  clear H7 sB
  have sB := F8.blk B1 (by decide)
  refine ⟨sB, ?_⟩
  refine wpAnyH_all (rs := [4]) (by kernel_rfl) (by simp) ?_
  intro i hi
  obtain rfl : i = 4 := by simpa using hi
  clear hi
  refine wpOp_calls (f := 24) rfl (by kernel_rfl) (by kernel_rfl) (appendPad_r t0 t1 (by simp only [List.length_append, padT_len, List.length_cons, List.length_nil]; omega) F8 H8) (fun x => ⟨#[v7, .agg #[.int .u32 bu, .int .u8 one, .int .u8 two, .bool false, .bool false], .int .i64 (n : Int), undef, .pointer (some ⟨nb, 0, none⟩), undef, .slice none 0 0, .int .u64 0, .pointer (some ⟨nb, 4, none⟩), .bool false, undef, undef, .pointer (some ⟨nb, 3, none⟩), .bool false, undef, undef, v1, v2, .int .u64 0, v3, v3, v4, .pointer (some ⟨nb, 0, none⟩), .int .u32 bu, .int .u64 bu, v5, v5, v6, .pointer (some ⟨nb, 1, none⟩), .int .u8 one, v7, v7, v8, .pointer (some ⟨nb, 2, none⟩), .int .u8 two, x, undef, undef, undef, undef, undef, undef, undef, undef, undef, undef, undef], []⟩) (fun _ => by kernel_rfl) ?_
  rintro v9 W9 ⟨H9, F9⟩
  clear H8 sB
  have sB := F9.blk B1 (by decide)
  refine ⟨sB, ?_⟩
  refine takeH (i := 5) (v := v9) ⟨#[v9, .agg #[.int .u32 bu, .int .u8 one, .int .u8 two, .bool false, .bool false], .int .i64 (n : Int), undef, .pointer (some ⟨nb, 0, none⟩), undef, .slice none 0 0, .int .u64 0, .pointer (some ⟨nb, 4, none⟩), .bool false, undef, undef, .pointer (some ⟨nb, 3, none⟩), .bool false, undef, undef, v1, v2, .int .u64 0, v3, v3, v4, .pointer (some ⟨nb, 0, none⟩), .int .u32 bu, .int .u64 bu, v5, v5, v6, .pointer (some ⟨nb, 1, none⟩), .int .u8 one, v7, v7, v8, .pointer (some ⟨nb, 2, none⟩), .int .u8 two, v9, undef, undef, undef, undef, undef, undef, undef, undef, undef, undef, undef], []⟩ rfl (by kernel_rfl) (by kernel_rfl) (by kernel_rfl) (fun _ _ _ h => h) (.inl ⟨by kernel_rfl, fun _ _ => by kernel_rfl⟩) sB (by kernel_rfl) ?_
  refine wpAnyH_done (by kernel_rfl) ?_ _
  clear sB
  go_upto_region 11 with (at_builtin; refine wpList_appS rfl _ _ rfl (m := [124]) H9 F9 rfl rfl (by simp only [List.length_append, padT_len, List.length_cons, List.length_nil]; omega) ?_; intro v10 W10 H10 F10; clear H9)
  by_cases h2 : 2 ≤ n
  · have h2' : (2 : Int) ≤ (n : Int) := by omega
    go_upto_region 13 with (first
      | (at_builtin; refine wpList_appS rfl _ _ rfl (m := [32, 120]) H10 F10 rfl rfl (by simp only [List.length_append, padT_len, List.length_cons, List.length_nil]; omega) ?_; intro v11 W11 H11 F11; clear H10)
      | (go_at_call 25; refine (appendInt_r (u := n) rfl hn (by simp only [List.length_append, padT_len, List.length_cons, List.length_nil]; omega) F11 H11 tab).mono ?_; rintro e W12 ⟨v12, ⟨H12, F12⟩, rfl⟩; clear H11))
    go_wp2_with (at_builtin; refine wpList_app1 rfl _ _ rfl (10 : UInt8) H12 F12 rfl rfl rfl (by simp only [List.length_append, padT_len, List.length_cons, List.length_nil]; omega) ?_; intro v13 W13 H13 F13; clear H12)
    go_ret
    refine ⟨v13, ⟨?_, F0.trans F13⟩, rfl⟩
    simpa only [recT, show flg ⟨bu, one, two, false, false⟩ = 0 from rfl, if_pos h2, List.append_assoc] using H13
  · have h2' : ¬ (2 : Int) ≤ (n : Int) := by omega
    go_upto_region 13 with fail
    go_wp2_with (at_builtin; refine wpList_app1 rfl _ _ rfl (10 : UInt8) H10 F10 rfl rfl rfl (by simp only [List.length_append, padT_len, List.length_cons, List.length_nil]; omega) ?_; intro v13 W13 H13 F13; clear H10)
    go_ret
    refine ⟨v13, ⟨?_, F0.trans F13⟩, rfl⟩
    simpa only [recT, show flg ⟨bu, one, two, false, false⟩ = 0 from rfl, if_neg h2, List.append_assoc, List.nil_append] using H13
set_option maxRecDepth 100000 in
set_option maxHeartbeats 4000000 in
theorem appendRecord_ft (w : World) (base n : Nat) (v1 : Value) (l : List UInt8) (bu one two : Int) (hn : n ≤ 9223372036854775807) (hl : l.length ≤ 17592186040000) (hbase : base ≤ w.heap.size) (H : Txm w base v1 l) (ok : TuE.Ok ⟨bu, one, two, true, false⟩)
    (htab : Lib.TabBelow Tryd.prog base w "internal/strconv.uint64pow10" .u64 Lib.pow10Tab) :
    Calls Tryd.prog 17 #[v1, .agg #[.int .u32 bu, .int .u8 one, .int .u8 two, .bool true, .bool false], .int .i64 (n : Int)] w fun e w' => ∃ v', (Txt w' base v' (l ++ recT ⟨bu, one, two, true, false⟩ n) ∧ Fr base w w') ∧ e = .returned v' := by
  have hbb : (0 : Int) ≤ bu ∧ bu ≤ 4294967295 := ⟨ok.bu0, ok.bu1⟩
  have ho : (0 : Int) ≤ one ∧ one ≤ 255 := ⟨ok.one0, ok.one1⟩
  have ht : (0 : Int) ≤ two ∧ two ≤ 255 := ⟨ok.two0, ok.two1⟩
  clear ok
  have d0 := dec_len 2 (by omega)
  have d1 := dec_len bu.toNat (by omega)
  have d2 := dec_len n (by omega)
  obtain ⟨b0, b1⟩ := hbb
  obtain ⟨o0, o1⟩ := ho
  obtain ⟨t0, t1⟩ := ht
  have hwr : IntKind.u64.wrap bu = bu := by rw [IntKind.wrap_u64]; omega
  have hbx : Below base w (w.alloc (.cells #[.int .u32 bu, .int .u8 one, .int .u8 two, .bool true, .bool false] 25)) := (Below.refl _ _).alloc hbase _
  have B1 : Blk (w.alloc (.cells #[.int .u32 bu, .int .u8 one, .int .u8 two, .bool true, .bool false] 25)) w.heap.size #[.int .u32 bu, .int .u8 one, .int .u8 two, .bool true, .bool false] 25 := Blk.new _ _ _
  have H1 : Txm (w.alloc (.cells #[.int .u32 bu, .int .u8 one, .int .u8 two, .bool true, .bool false] 25)) base v1 l := H.keep (Nat.le_refl _) ((Below.refl _ _).alloc (Nat.le_refl _) _)
  have F1 : Fr base (w.alloc (.cells #[.int .u32 bu, .int .u8 one, .int .u8 two, .bool true, .bool false] 25)) (w.alloc (.cells #[.int .u32 bu, .int .u8 one, .int .u8 two, .bool true, .bool false] 25)) := Fr.refl (by simp; omega)
  have F0 : Fr base w (w.alloc (.cells #[.int .u32 bu, .int .u8 one, .int .u8 two, .bool true, .bool false] 25)) := ⟨hbx, (Lib.OthersKept.refl _ _ _).alloc _, by simp; omega⟩
  have tab := htab.on hbx
  clear htab H hbx
  go_enter Tryd.func17, Tryd.ntmps17
  go_upto_region 6 with fail
  generalize w.alloc (.cells #[.int .u32 bu, .int .u8 one, .int .u8 two, .bool true, .bool false] 25) = w1 at *
  generalize w.heap.size = nb at *
  go_upto_region 7 with (first
    | (at_builtin; refine wpList_appM rfl _ _ rfl (m := [124]) H1 F1 rfl rfl (by decide) (by simp only [List.length_append, padT_len, List.length_cons, List.length_nil]; omega) ?_; intro v2 W2 H2 F2; clear H1)
    | (go_at_call 23; refine (appendUint_r (u := 2) rfl (by decide) (by simp only [List.length_append, padT_len, List.length_cons, List.length_nil]; omega) F2 H2 tab).mono ?_; rintro e W3 ⟨v3, ⟨H3, F3⟩, rfl⟩; clear H2))
  go_upto_region 7 with fail
  have sB := F3.blk B1 (by decide)
  refine wp_region_held (S := fun W => Blk W nb #[.int .u32 bu, .int .u8 one, .int .u8 two, .bool true, .bool false] 25) (by kernel_rfl) ?_
  refine takeH (i := 0) (v := v3) ⟨#[v3, .agg #[.int .u32 bu, .int .u8 one, .int .u8 two, .bool true, .bool false], .int .i64 (n : Int), undef, .pointer (some ⟨nb, 0, none⟩), undef, .slice none 0 0, .int .u64 2, .pointer (some ⟨nb, 4, none⟩), .bool false, undef, undef, .pointer (some ⟨nb, 3, none⟩), .bool true, .int .u64 0, .int .u64 2, v1, v2, .int .u64 2, v3, v3, undef, undef, undef, undef, undef, undef, undef, undef, undef, undef, undef, undef, undef, undef, undef, undef, undef, undef, undef, undef, undef, undef, undef, undef, undef, undef], []⟩ rfl (by kernel_rfl) (by kernel_rfl) (by kernel_rfl) (fun _ _ _ h => h) (.inl ⟨by kernel_rfl, fun _ _ => by kernel_rfl⟩) sB (by kernel_rfl) ?_
  refine takeH (i := 2) (v := .pointer (some ⟨nb, 0, none⟩)) ⟨#[v3, .agg #[.int .u32 bu, .int .u8 one, .int .u8 two, .bool true, .bool false], .int .i64 (n : Int), undef, .pointer (some ⟨nb, 0, none⟩), undef, .slice none 0 0, .int .u64 2, .pointer (some ⟨nb, 4, none⟩), .bool false, undef, undef, .pointer (some ⟨nb, 3, none⟩), .bool true, .int .u64 0, .int .u64 2, v1, v2, .int .u64 2, v3, v3, undef, .pointer (some ⟨nb, 0, none⟩), undef, undef, undef, undef, undef, undef, undef, undef, undef, undef, undef, undef, undef, undef, undef, undef, undef, undef, undef, undef, undef, undef, undef, undef], []⟩ rfl (by kernel_rfl) (by kernel_rfl) (by kernel_rfl) (fun _ _ _ h => h) (.inl ⟨by kernel_rfl, fun _ _ => by kernel_rfl⟩) sB (by kernel_rfl) ?_
  refine takeH (i := 3) (v := .int .u32 bu) ⟨#[v3, .agg #[.int .u32 bu, .int .u8 one, .int .u8 two, .bool true, .bool false], .int .i64 (n : Int), undef, .pointer (some ⟨nb, 0, none⟩), undef, .slice none 0 0, .int .u64 2, .pointer (some ⟨nb, 4, none⟩), .bool false, undef, undef, .pointer (some ⟨nb, 3, none⟩), .bool true, .int .u64 0, .int .u64 2, v1, v2, .int .u64 2, v3, v3, undef, .pointer (some ⟨nb, 0, none⟩), .int .u32 bu, undef, undef, undef, undef, undef, undef, undef, undef, undef, undef, undef, undef, undef, undef, undef, undef, undef, undef, undef, undef, undef, undef, undef], []⟩ rfl (by kernel_rfl) (by kernel_rfl) (by kernel_rfl) (fun _ _ _ h => h) (.inl ⟨by kernel_rfl, fun v hv => by have c : v.cell? ⟨nb, 0, none⟩ = some (.int .u32 bu) := Blk.cell hv 0; go_simp⟩) sB (by kernel_rfl) ?_
  refine takeH (i := 4) (v := .int .u64 bu) ⟨#[v3, .agg #[.int .u32 bu, .int .u8 one, .int .u8 two, .bool true, .bool false], .int .i64 (n : Int), undef, .pointer (some ⟨nb, 0, none⟩), undef, .slice none 0 0, .int .u64 2, .pointer (some ⟨nb, 4, none⟩), .bool false, undef, undef, .pointer (some ⟨nb, 3, none⟩), .bool true, .int .u64 0, .int .u64 2, v1, v2, .int .u64 2, v3, v3, undef, .pointer (some ⟨nb, 0, none⟩), .int .u32 bu, .int .u64 bu, undef, undef, undef, undef, undef, undef, undef, undef, undef, undef, undef, undef, undef, undef, undef, undef, undef, undef, undef, undef, undef, undef], []⟩ rfl (by kernel_rfl) (by kernel_rfl) (by kernel_rfl) (fun _ _ _ h => h) (.inl ⟨by kernel_rfl, fun _ _ => by go_simp⟩) sB (by kernel_rfl) ?_
  refine wpAnyH_all (rs := [1]) (by kernel_rfl) (by simp) ?_
  intro i hi
  obtain rfl : i = 1 := by simpa using hi
  clear hi
  refine wpOp_app rfl (by kernel_rfl) (.tmp 20) _ rfl (m := [124]) (.inl H3) F3.drew rfl rfl (by decide) (by simp only [List.length_append, padT_len, List.length_cons, List.length_nil]; omega) (fun x => ⟨#[v3, .agg #[.int .u32 bu, .int .u8 one, .int .u8 two, .bool true, .bool false], .int .i64 (n : Int), undef, .pointer (some ⟨nb, 0, none⟩), undef, .slice none 0 0, .int .u64 2, .pointer (some ⟨nb, 4, none⟩), .bool false, undef, undef, .pointer (some ⟨nb, 3, none⟩), .bool true, .int .u64 0, .int .u64 2, v1, v2, .int .u64 2, v3, v3, x, .pointer (some ⟨nb, 0, none⟩), .int .u32 bu, .int .u64 bu, undef, undef, undef, undef, undef, undef, undef, undef, undef, undef, undef, undef, undef, undef, undef, undef, undef, undef, undef, undef, undef, undef], []⟩) (fun _ => by kernel_rfl) ?_
  intro v4 W4 H4 F4
  clear H3 sB
  have sB := F4.blk B1 (by decide)
  refine ⟨sB, ?_⟩
  refine wpAnyH_all (rs := [5]) (by kernel_rfl) (by simp) ?_
  intro i hi
  obtain rfl : i = 5 := by simpa using hi
  clear hi
  refine wpOp_calls (f := 23) rfl (by kernel_rfl) (by kernel_rfl) (appendUint_r (u := bu.toNat) (i := bu) (by omega) (by omega) (by simp only [List.length_append, padT_len, List.length_cons, List.length_nil]; omega) F4 H4 tab) (fun x => ⟨#[v3, .agg #[.int .u32 bu, .int .u8 one, .int .u8 two, .bool true, .bool false], .int .i64 (n : Int), undef, .pointer (some ⟨nb, 0, none⟩), undef, .slice none 0 0, .int .u64 2, .pointer (some ⟨nb, 4, none⟩), .bool false, undef, undef, .pointer (some ⟨nb, 3, none⟩), .bool true, .int .u64 0, .int .u64 2, v1, v2, .int .u64 2, v3, v3, v4, .pointer (some ⟨nb, 0, none⟩), .int .u32 bu, .int .u64 bu, x, undef, undef, undef, undef, undef, undef, undef, undef, undef, undef, undef, undef, undef, undef, undef, undef, undef, undef, undef, undef, undef], []⟩) (fun _ => by kernel_rfl) ?_
  rintro v5 W5 ⟨H5, F5⟩
  clear H4 sB
  have sB := F5.blk B1 (by decide)
  refine ⟨sB, ?_⟩
  refine takeH (i := 6) (v := v5) ⟨#[v5, .agg #[.int .u32 bu, .int .u8 one, .int .u8 two, .bool true, .bool false], .int .i64 (n : Int), undef, .pointer (some ⟨nb, 0, none⟩), undef, .slice none 0 0, .int .u64 2, .pointer (some ⟨nb, 4, none⟩), .bool false, undef, undef, .pointer (some ⟨nb, 3, none⟩), .bool true, .int .u64 0, .int .u64 2, v1, v2, .int .u64 2, v3, v3, v4, .pointer (some ⟨nb, 0, none⟩), .int .u32 bu, .int .u64 bu, v5, undef, undef, undef, undef, undef, undef, undef, undef, undef, undef, undef, undef, undef, undef, undef, undef, undef, undef, undef, undef, undef], []⟩ rfl (by kernel_rfl) (by kernel_rfl) (by kernel_rfl) (fun _ _ _ h => h) (.inl ⟨by kernel_rfl, fun _ _ => by kernel_rfl⟩) sB (by kernel_rfl) ?_
  refine wpAnyH_done (by kernel_rfl) ?_ _
  clear sB
  go_upto_region 8 with fail
  have sB := F5.blk B1 (by decide)
  refine wp_region_held (S := fun W => Blk W nb #[.int .u32 bu, .int .u8 one, .int .u8 two, .bool true, .bool false] 25) (by kernel_rfl) ?_
  refine takeH (i := 0) (v := v5) ⟨#[v5, .agg #[.int .u32 bu, .int .u8 one, .int .u8 two, .bool true, .bool false], .int .i64 (n : Int), undef, .pointer (some ⟨nb, 0, none⟩), undef, .slice none 0 0, .int .u64 2, .pointer (some ⟨nb, 4, none⟩), .bool false, undef, undef, .pointer (some ⟨nb, 3, none⟩), .bool true, .int .u64 0, .int .u64 2, v1, v2, .int .u64 2, v3, v3, v4, .pointer (some ⟨nb, 0, none⟩), .int .u32 bu, .int .u64 bu, v5, v5, undef, undef, undef, undef, undef, undef, undef, undef, undef, undef, undef, undef, undef, undef, undef, undef, undef, undef, undef, undef], []⟩ rfl (by kernel_rfl) (by kernel_rfl) (by kernel_rfl) (fun _ _ _ h => h) (.inl ⟨by kernel_rfl, fun _ _ => by kernel_rfl⟩) sB (by kernel_rfl) ?_
  refine takeH (i := 2) (v := .pointer (some ⟨nb, 1, none⟩)) ⟨#[v5, .agg #[.int .u32 bu, .int .u8 one, .int .u8 two, .bool true, .bool false], .int .i64 (n : Int), undef, .pointer (some ⟨nb, 0, none⟩), undef, .slice none 0 0, .int .u64 2, .pointer (some ⟨nb, 4, none⟩), .bool false, undef, undef, .pointer (some ⟨nb, 3, none⟩), .bool true, .int .u64 0, .int .u64 2, v1, v2, .int .u64 2, v3, v3, v4, .pointer (some ⟨nb, 0, none⟩), .int .u32 bu, .int .u64 bu, v5, v5, undef, .pointer (some ⟨nb, 1, none⟩), undef, undef, undef, undef, undef, undef, undef, undef, undef, undef, undef, undef, undef, undef, undef, undef, undef, undef], []⟩ rfl (by kernel_rfl) (by kernel_rfl) (by kernel_rfl) (fun _ _ _ h => h) (.inl ⟨by kernel_rfl, fun _ _ => by kernel_rfl⟩) sB (by kernel_rfl) ?_
  refine takeH (i := 3) (v := .int .u8 one) ⟨#[v5, .agg #[.int .u32 bu, .int .u8 one, .int .u8 two, .bool true, .bool false], .int .i64 (n : Int), undef, .pointer (some ⟨nb, 0, none⟩), undef, .slice none 0 0, .int .u64 2, .pointer (some ⟨nb, 4, none⟩), .bool false, undef, undef, .pointer (some ⟨nb, 3, none⟩), .bool true, .int .u64 0, .int .u64 2, v1, v2, .int .u64 2, v3, v3, v4, .pointer (some ⟨nb, 0, none⟩), .int .u32 bu, .int .u64 bu, v5, v5, undef, .pointer (some ⟨nb, 1, none⟩), .int .u8 one, undef, undef, undef, undef, undef, undef, undef, undef, undef, undef, undef, undef, undef, undef, undef, undef, undef], []⟩ rfl (by kernel_rfl) (by kernel_rfl) (by kernel_rfl) (fun _ _ _ h => h) (.inl ⟨by kernel_rfl, fun v hv => by have c : v.cell? ⟨nb, 1, none⟩ = some (.int .u8 one) := Blk.cell hv 1; go_simp⟩) sB (by kernel_rfl) ?_
  refine wpAnyH_all (rs := [1]) (by kernel_rfl) (by simp) ?_
  intro i hi
  obtain rfl : i = 1 := by simpa using hi
  clear hi
  refine wpOp_app rfl (by kernel_rfl) (.tmp 26) _ rfl (m := [124]) (.inl H5) F5.drew rfl rfl (by decide) (by simp only [List.length_append, padT_len, List.length_cons, List.length_nil]; omega) (fun x => ⟨#[v5, .agg #[.int .u32 bu, .int .u8 one, .int .u8 two, .bool true, .bool false], .int .i64 (n : Int), undef, .pointer (some ⟨nb, 0, none⟩), undef, .slice none 0 0, .int .u64 2, .pointer (some ⟨nb, 4, none⟩), .bool false, undef, undef, .pointer (some ⟨nb, 3, none⟩), .bool true, .int .u64 0, .int .u64 2, v1, v2, .int .u64 2, v3, v3, v4, .pointer (some ⟨nb, 0, none⟩), .int .u32 bu, .int .u64 bu, v5, v5, x, .pointer (some ⟨nb, 1, none⟩), .int .u8 one, undef, undef, undef, undef, undef, undef, undef, undef, undef, undef, undef, undef, undef, undef, undef, undef, undef], []⟩) (fun _ => by kernel_rfl) ?_
  intro v6 W6 H6 F6
  clear H5 sB
  have sB := F6.blk B1 (by decide)
  refine ⟨sB, ?_⟩
  refine wpAnyH_all (rs := [4]) (by kernel_rfl) (by simp) ?_
  intro i hi
  obtain rfl : i = 4 := by simpa using hi
  clear hi
  refine wpOp_calls (f := 24) rfl (by kernel_rfl) (by kernel_rfl) (appendPad_r o0 o1 (by simp only [List.length_append, padT_len, List.length_cons, List.length_nil]; omega) F6 H6) (fun x => ⟨#[v5, .agg #[.int .u32 bu, .int .u8 one, .int .u8 two, .bool true, .bool false], .int .i64 (n : Int), undef, .pointer (some ⟨nb, 0, none⟩), undef, .slice none 0 0, .int .u64 2, .pointer (some ⟨nb, 4, none⟩), .bool false, undef, undef, .pointer (some ⟨nb, 3, none⟩), .bool true, .int .u64 0, .int .u64 2, v1, v2, .int .u64 2, v3, v3, v4, .pointer (some ⟨nb, 0, none⟩), .int .u32 bu, .int .u64 bu, v5, v5, v6, .pointer (some ⟨nb, 1, none⟩), .int .u8 one, x, undef, undef, undef, undef, undef, undef, undef, undef, undef, undef, undef, undef, undef, undef, undef, undef], []⟩) (fun _ => by kernel_rfl) ?_
  rintro v7 W7 ⟨H7, F7⟩
  clear H6 sB
  have sB := F7.blk B1 (by decide)
  refine ⟨sB, ?_⟩
  refine takeH (i := 5) (v := v7) ⟨#[v7, .agg #[.int .u32 bu, .int .u8 one, .int .u8 two, .bool true, .bool false], .int .i64 (n : Int), undef, .pointer (some ⟨nb, 0, none⟩), undef, .slice none 0 0, .int .u64 2, .pointer (some ⟨nb, 4, none⟩), .bool false, undef, undef, .pointer (some ⟨nb, 3, none⟩), .bool true, .int .u64 0, .int .u64 2, v1, v2, .int .u64 2, v3, v3, v4, .pointer (some ⟨nb, 0, none⟩), .int .u32 bu, .int .u64 bu, v5, v5, v6, .pointer (some ⟨nb, 1, none⟩), .int .u8 one, v7, undef, undef, undef, undef, undef, undef, undef, undef, undef, undef, undef, undef, undef, undef, undef, undef], []⟩ rfl (by kernel_rfl) (by kernel_rfl) (by kernel_rfl) (fun _ _ _ h => h) (.inl ⟨by kernel_rfl, fun _ _ => by kernel_rfl⟩) sB (by kernel_rfl) ?_
  refine wpAnyH_done (by kernel_rfl) ?_ _
  clear sB
  go_upto_region 9 with fail
  have sB := F7.blk B1 (by decide)
  refine wp_region_held (S := fun W => Blk W nb #[.int .u32 bu, .int .u8 one, .int .u8 two, .bool true, .bool false] 25) (by kernel_rfl) ?_
  refine takeH (i := 0) (v := v7) ⟨#[v7, .agg #[.int .u32 bu, .int .u8 one, .int .u8 two, .bool true, .bool false], .int .i64 (n : Int), undef, .pointer (some ⟨nb, 0, none⟩), undef, .slice none 0 0, .int .u64 2, .pointer (some ⟨nb, 4, none⟩), .bool false, undef, undef, .pointer (some ⟨nb, 3, none⟩), .bool true, .int .u64 0, .int .u64 2, v1, v2, .int .u64 2, v3, v3, v4, .pointer (some ⟨nb, 0, none⟩), .int .u32 bu, .int .u64 bu, v5, v5, v6, .pointer (some ⟨nb, 1, none⟩), .int .u8 one, v7, v7, undef, undef, undef, undef, undef, undef, undef, undef, undef, undef, undef, undef, undef, undef, undef], []⟩ rfl (by kernel_rfl) (by kernel_rfl) (by kernel_rfl) (fun _ _ _ h => h) (.inl ⟨by kernel_rfl, fun _ _ => by kernel_rfl⟩) sB (by kernel_rfl) ?_
  refine takeH (i := 2) (v := .pointer (some ⟨nb, 2, none⟩)) ⟨#[v7, .agg #[.int .u32 bu, .int .u8 one, .int .u8 two, .bool true, .bool false], .int .i64 (n : Int), undef, .pointer (some ⟨nb, 0, none⟩), undef, .slice none 0 0, .int .u64 2, .pointer (some ⟨nb, 4, none⟩), .bool false, undef, undef, .pointer (some ⟨nb, 3, none⟩), .bool true, .int .u64 0, .int .u64 2, v1, v2, .int .u64 2, v3, v3, v4, .pointer (some ⟨nb, 0, none⟩), .int .u32 bu, .int .u64 bu, v5, v5, v6, .pointer (some ⟨nb, 1, none⟩), .int .u8 one, v7, v7, undef, .pointer (some ⟨nb, 2, none⟩), undef, undef, undef, undef, undef, undef, undef, undef, undef, undef, undef, undef, undef], []⟩ rfl (by kernel_rfl) (by kernel_rfl) (by kernel_rfl) (fun _ _ _ h => h) (.inl ⟨by kernel_rfl, fun _ _ => by kernel_rfl⟩) sB (by kernel_rfl) ?_
  refine takeH (i := 3) (v := .int .u8 two) ⟨#[v7, .agg #[.int .u32 bu, .int .u8 one, .int .u8 two, .bool true, .bool false], .int .i64 (n : Int), undef, .pointer (some ⟨nb, 0, none⟩), undef, .slice none 0 0, .int .u64 2, .pointer (some ⟨nb, 4, none⟩), .bool false, undef, undef, .pointer (some ⟨nb, 3, none⟩), .bool true, .int .u64 0, .int .u64 2, v1, v2, .int .u64 2, v3, v3, v4, .pointer (some ⟨nb, 0, none⟩), .int .u32 bu, .int .u64 bu, v5, v5, v6, .pointer (some ⟨nb, 1, none⟩), .int .u8 one, v7, v7, undef, .pointer (some ⟨nb, 2, none⟩), .int .u8 two, undef, undef, undef, undef, undef, undef, undef, undef, undef, undef, undef, undef], []⟩ rfl (by kernel_rfl) (by kernel_rfl) (by kernel_rfl) (fun _ _ _ h => h) (.inl ⟨by kernel_rfl, fun v hv => by have c : v.cell? ⟨nb, 2, none⟩ = some (.int .u8 two) := Blk.cell hv 2; go_simp⟩) sB (by kernel_rfl) ?_
  refine wpAnyH_all (rs := [1]) (by kernel_rfl) (by simp) ?_
  intro i hi
  obtain rfl : i = 1 := by simpa using hi
  clear hi
  refine wpOp_app rfl (by kernel_rfl) (.tmp 31) _ rfl (m := [124]) (.inl H7) F7.drew rfl rfl (by decide) (by simp only [List.length_append, padT_len, List.length_cons, List.length_nil]; omega) (fun x => ⟨#[v7, .agg #[.int .u32 bu, .int .u8 one, .int .u8 two, .bool true, .bool false], .int .i64 (n : Int), undef, .pointer (some ⟨nb, 0, none⟩), undef, .slice none 0 0, .int .u64 2, .pointer (some ⟨nb, 4, none⟩), .bool false, undef, undef, .pointer (some ⟨nb, 3, none⟩), .bool true, .int .u64 0, .int .u64 2, v1, v2, .int .u64 2, v3, v3, v4, .pointer (some ⟨nb, 0, none⟩), .int .u32 bu, .int .u64 bu, v5, v5, v6, .pointer (some ⟨nb, 1, none⟩), .int .u8 one, v7, v7, x, .pointer (some ⟨nb, 2, none⟩), .int .u8 two, undef, undef, undef, undef, undef, undef, undef, undef, undef, undef, undef, undef], []⟩) (fun _ => by kernel_rfl) ?_
  intro v8 W8 H8 F8
  clear H7 sB
  have sB := F8.blk B1 (by decide)
  refine ⟨sB, ?_⟩
  refine wpAnyH_all (rs := [4]) (by kernel_rfl) (by simp) ?_
  intro i hi
  obtain rfl : i = 4 := by simpa using hi
  clear hi
  refine wpOp_calls (f := 24) rfl (by kernel_rfl) (by kernel_rfl) (appendPad_r t0 t1 (by simp only [List.length_append, padT_len, List.length_cons, List.length_nil]; omega) F8 H8) (fun x => ⟨#[v7, .agg #[.int .u32 bu, .int .u8 one, .int .u8 two, .bool true, .bool false], .int .i64 (n : Int), undef, .pointer (some ⟨nb, 0, none⟩), undef, .slice none 0 0, .int .u64 2, .pointer (some ⟨nb, 4, none⟩), .bool false, undef, undef, .pointer (some ⟨nb, 3, none⟩), .bool true, .int .u64 0, .int .u64 2, v1, v2, .int .u64 2, v3, v3, v4, .pointer (some ⟨nb, 0, none⟩), .int .u32 bu, .int .u64 bu, v5, v5, v6, .pointer (some ⟨nb, 1, none⟩), .int .u8 one, v7, v7, v8, .pointer (some ⟨nb, 2, none⟩), .int .u8 two, x, undef, undef, undef, undef, undef, undef, undef, undef, undef, undef, undef], []⟩) (fun _ => by kernel_rfl) ?_
  rintro v9 W9 ⟨H9, F9⟩
  clear H8 sB
  have sB := F9.blk B1 (by decide)
  refine ⟨sB, ?_⟩
  refine takeH (i := 5) (v := v9) ⟨#[v9, .agg #[.int .u32 bu, .int .u8 one, .int .u8 two, .bool true, .bool false], .int .i64 (n : Int), undef, .pointer (some ⟨nb, 0, none⟩), undef, .slice none 0 0, .int .u64 2, .pointer (some ⟨nb, 4, none⟩), .bool false, undef, undef, .pointer (some ⟨nb, 3, none⟩), .bool true, .int .u64 0, .int .u64 2, v1, v2, .int .u64 2, v3, v3, v4, .pointer (some ⟨nb, 0, none⟩), .int .u32 bu, .int .u64 bu, v5, v5, v6, .pointer (some ⟨nb, 1, none⟩), .int .u8 one, v7, v7, v8, .pointer (some ⟨nb, 2, none⟩), .int .u8 two, v9, undef, undef, undef, undef, undef, undef, undef, undef, undef, undef, undef], []⟩ rfl (by kernel_rfl) (by kernel_rfl) (by kernel_rfl) (fun _ _ _ h => h) (.inl ⟨by kernel_rfl, fun _ _ => by kernel_rfl⟩) sB (by kernel_rfl) ?_
  refine wpAnyH_done (by kernel_rfl) ?_ _
  clear sB
  go_upto_region 11 with (at_builtin; refine wpList_appS rfl _ _ rfl (m := [124]) H9 F9 rfl rfl (by simp only [List.length_append, padT_len, List.length_cons, List.length_nil]; omega) ?_; intro v10 W10 H10 F10; clear H9)
  by_cases h2 : 2 ≤ n
  · have h2' : (2 : Int) ≤ (n : Int) := by omega
    go_upto_region 13 with (first
      | (at_builtin; refine wpList_appS rfl _ _ rfl (m := [32, 120]) H10 F10 rfl rfl (by simp only [List.length_append, padT_len, List.length_cons, List.length_nil]; omega) ?_; intro v11 W11 H11 F11; clear H10)
      | (go_at_call 25; refine (appendInt_r (u := n) rfl hn (by simp only [List.length_append, padT_len, List.length_cons, List.length_nil]; omega) F11 H11 tab).mono ?_; rintro e W12 ⟨v12, ⟨H12, F12⟩, rfl⟩; clear H11))
    go_wp2_with (at_builtin; refine wpList_app1 rfl _ _ rfl (10 : UInt8) H12 F12 rfl rfl rfl (by simp only [List.length_append, padT_len, List.length_cons, List.length_nil]; omega) ?_; intro v13 W13 H13 F13; clear H12)
    go_ret
    refine ⟨v13, ⟨?_, F0.trans F13⟩, rfl⟩
    simpa only [recT, show flg ⟨bu, one, two, true, false⟩ = 2 from rfl, if_pos h2, List.append_assoc] using H13
  · have h2' : ¬ (2 : Int) ≤ (n : Int) := by omega
    go_upto_region 13 with fail
    go_wp2_with (at_builtin; refine wpList_app1 rfl _ _ rfl (10 : UInt8) H10 F10 rfl rfl rfl (by simp only [List.length_append, padT_len, List.length_cons, List.length_nil]; omega) ?_; intro v13 W13 H13 F13; clear H10)
    go_ret
    refine ⟨v13, ⟨?_, F0.trans F13⟩, rfl⟩
    simpa only [recT, show flg ⟨bu, one, two, true, false⟩ = 2 from rfl, if_neg h2, List.append_assoc, List.nil_append] using H13
set_option maxRecDepth 100000 in
set_option maxHeartbeats 4000000 in
theorem appendRecord_tf (w : World) (base n : Nat) (v1 : Value) (l : List UInt8) (bu one two : Int) (hn : n ≤ 9223372036854775807) (hl : l.length ≤ 17592186040000) (hbase : base ≤ w.heap.size) (H : Txm w base v1 l) (ok : TuE.Ok ⟨bu, one, two, false, true⟩)
    (htab : Lib.TabBelow Tryd.prog base w "internal/strconv.uint64pow10" .u64 Lib.pow10Tab) :
    Calls Tryd.prog 17 #[v1, .agg #[.int .u32 bu, .int .u8 one, .int .u8 two, .bool false, .bool true], .int .i64 (n : Int)] w fun e w' => ∃ v', (Txt w' base v' (l ++ recT ⟨bu, one, two, false, true⟩ n) ∧ Fr base w w') ∧ e = .returned v' := by
  have hbb : (0 : Int) ≤ bu ∧ bu ≤ 4294967295 := ⟨ok.bu0, ok.bu1⟩
  have ho : (0 : Int) ≤ one ∧ one ≤ 255 := ⟨ok.one0, ok.one1⟩
  have ht : (0 : Int) ≤ two ∧ two ≤ 255 := ⟨ok.two0, ok.two1⟩
  clear ok
  have d0 := dec_len 1 (by omega)
  have d1 := dec_len bu.toNat (by omega)
  have d2 := dec_len n (by omega)
  obtain ⟨b0, b1⟩ := hbb
  obtain ⟨o0, o1⟩ := ho
  obtain ⟨t0, t1⟩ := ht
  have hwr : IntKind.u64.wrap bu = bu := by rw [IntKind.wrap_u64]; omega
  have hbx : Below base w (w.alloc (.cells #[.int .u32 bu, .int .u8 one, .int .u8 two, .bool false, .bool true] 25)) := (Below.refl _ _).alloc hbase _
  have B1 : Blk (w.alloc (.cells #[.int .u32 bu, .int .u8 one, .int .u8 two, .bool false, .bool true] 25)) w.heap.size #[.int .u32 bu, .int .u8 one, .int .u8 two, .bool false, .bool true] 25 := Blk.new _ _ _
  have H1 : Txm (w.alloc (.cells #[.int .u32 bu, .int .u8 one, .int .u8 two, .bool false, .bool true] 25)) base v1 l := H.keep (Nat.le_refl _) ((Below.refl _ _).alloc (Nat.le_refl _) _)
  have F1 : Fr base (w.alloc (.cells #[.int .u32 bu, .int .u8 one, .int .u8 two, .bool false, .bool true] 25)) (w.alloc (.cells #[.int .u32 bu, .int .u8 one, .int .u8 two, .bool false, .bool true] 25)) := Fr.refl (by simp; omega)
  have F0 : Fr base w (w.alloc (.cells #[.int .u32 bu, .int .u8 one, .int .u8 two, .bool false, .bool true] 25)) := ⟨hbx, (Lib.OthersKept.refl _ _ _).alloc _, by simp; omega⟩
  have tab := htab.on hbx
  clear htab H hbx
  go_enter Tryd.func17, Tryd.ntmps17
  go_upto_region 6 with fail
  generalize w.alloc (.cells #[.int .u32 bu, .int .u8 one, .int .u8 two, .bool false, .bool true] 25) = w1 at *
  generalize w.heap.size = nb at *
  go_upto_region 7 with (first
    | (at_builtin; refine wpList_appM rfl _ _ rfl (m := [124]) H1 F1 rfl rfl (by decide) (by simp only [List.length_append, padT_len, List.length_cons, List.length_nil]; omega) ?_; intro v2 W2 H2 F2; clear H1)
    | (go_at_call 23; refine (appendUint_r (u := 1) rfl (by decide) (by simp only [List.length_append, padT_len, List.length_cons, List.length_nil]; omega) F2 H2 tab).mono ?_; rintro e W3 ⟨v3, ⟨H3, F3⟩, rfl⟩; clear H2))
  go_upto_region 7 with fail
  have sB := F3.blk B1 (by decide)
  refine wp_region_held (S := fun W => Blk W nb #[.int .u32 bu, .int .u8 one, .int .u8 two, .bool false, .bool true] 25) (by kernel_rfl) ?_
  refine takeH (i := 0) (v := v3) ⟨#[v3, .agg #[.int .u32 bu, .int .u8 one, .int .u8 two, .bool false, .bool true], .int .i64 (n : Int), undef, .pointer (some ⟨nb, 0, none⟩), undef, .slice none 0 0, .int .u64 1, .pointer (some ⟨nb, 4, none⟩), .bool true, .int .u64 0, .int .u64 1, .pointer (some ⟨nb, 3, none⟩), .bool false, undef, undef, v1, v2, .int .u64 1, v3, v3, undef, undef, undef, undef, undef, undef, undef, undef, undef, undef, undef, undef, undef, undef, undef, undef, undef, undef, undef, undef, undef, undef, undef, undef, undef, undef], []⟩ rfl (by kernel_rfl) (by kernel_rfl) (by kernel_rfl) (fun _ _ _ h => h) (.inl ⟨by kernel_rfl, fun _ _ => by kernel_rfl⟩) sB (by kernel_rfl) ?_
  refine takeH (i := 2) (v := .pointer (some ⟨nb, 0, none⟩)) ⟨#[v3, .agg #[.int .u32 bu, .int .u8 one, .int .u8 two, .bool false, .bool true], .int .i64 (n : Int), undef, .pointer (some ⟨nb, 0, none⟩), undef, .slice none 0 0, .int .u64 1, .pointer (some ⟨nb, 4, none⟩), .bool true, .int .u64 0, .int .u64 1, .pointer (some ⟨nb, 3, none⟩), .bool false, undef, undef, v1, v2, .int .u64 1, v3, v3, undef, .pointer (some ⟨nb, 0, none⟩), undef, undef, undef, undef, undef, undef, undef, undef, undef, undef, undef, undef, undef, undef, undef, undef, undef, undef, undef, undef, undef, undef, undef, undef], []⟩ rfl (by kernel_rfl) (by kernel_rfl) (by kernel_rfl) (fun _ _ _ h => h) (.inl ⟨by kernel_rfl, fun _ _ => by kernel_rfl⟩) sB (by kernel_rfl) ?_
  refine takeH (i := 3) (v := .int .u32 bu) ⟨#[v3, .agg #[.int .u32 bu, .int .u8 one, .int .u8 two, .bool false, .bool true], .int .i64 (n : Int), undef, .pointer (some ⟨nb, 0, none⟩), undef, .slice none 0 0, .int .u64 1, .pointer (some ⟨nb, 4, none⟩), .bool true, .int .u64 0, .int .u64 1, .pointer (some ⟨nb, 3, none⟩), .bool false, undef, undef, v1, v2, .int .u64 1, v3, v3, undef, .pointer (some ⟨nb, 0, none⟩), .int .u32 bu, undef, undef, undef, undef, undef, undef, undef, undef, undef, undef, undef, undef, undef, undef, undef, undef, undef, undef, undef, undef, undef, undef, undef], []⟩ rfl (by kernel_rfl) (by kernel_rfl) (by kernel_rfl) (fun _ _ _ h => h) (.inl ⟨by kernel_rfl, fun v hv => by have c : v.cell? ⟨nb, 0, none⟩ = some (.int .u32 bu) := Blk.cell hv 0; go_simp⟩) sB (by kernel_rfl) ?_
  refine takeH (i := 4) (v := .int .u64 bu) ⟨#[v3, .agg #[.int .u32 bu, .int .u8 one, .int .u8 two, .bool false, .bool true], .int .i64 (n : Int), undef, .pointer (some ⟨nb, 0, none⟩), undef, .slice none 0 0, .int .u64 1, .pointer (some ⟨nb, 4, none⟩), .bool true, .int .u64 0, .int .u64 1, .pointer (some ⟨nb, 3, none⟩), .bool false, undef, undef, v1, v2, .int .u64 1, v3, v3, undef, .pointer (some ⟨nb, 0, none⟩), .int .u32 bu, .int .u64 bu, undef, undef, undef, undef, undef, undef, undef, undef, undef, undef, undef, undef, undef, undef, undef, undef, undef, undef, undef, undef, undef, undef], []⟩ rfl (by kernel_rfl) (by kernel_rfl) (by kernel_rfl) (fun _ _ _ h => h) (.inl ⟨by kernel_rfl, fun _ _ => by go_simp⟩) sB (by kernel_rfl) ?_
  refine wpAnyH_all (rs := [1]) (by kernel_rfl) (by simp) ?_
  intro i hi
  obtain rfl : i = 1 := by simpa using hi
  clear hi
  refine wpOp_app rfl (by kernel_rfl) (.tmp 20) _ rfl (m := [124]) (.inl H3) F3.drew rfl rfl (by decide) (by simp only [List.length_append, padT_len, List.length_cons, List.length_nil]; omega) (fun x => ⟨#[v3, .agg #[.int .u32 bu, .int .u8 one, .int .u8 two, .bool false, .bool true], .int .i64 (n : Int), undef, .pointer (some ⟨nb, 0, none⟩), undef, .slice none 0 0, .int .u64 1, .pointer (some ⟨nb, 4, none⟩), .bool true, .int .u64 0, .int .u64 1, .pointer (some ⟨nb, 3, none⟩), .bool false, undef, undef, v1, v2, .int .u64 1, v3, v3, x, .pointer (some ⟨nb, 0, none⟩), .int .u32 bu, .int .u64 bu, undef, undef, undef, undef, undef, undef, undef, undef, undef, undef, undef, undef, undef, undef, undef, undef, undef, undef, undef, undef, undef, undef], []⟩) (fun _ => by kernel_rfl) ?_
  intro v4 W4 H4 F4
  clear H3 sB
  have sB := F4.blk B1 (by decide)
  refine ⟨sB, ?_⟩
  refine wpAnyH_all (rs := [5]) (by kernel_rfl) (by simp) ?_
  intro i hi
  obtain rfl : i = 5 := by simpa using hi
  clear hi
  refine wpOp_calls (f := 23) rfl (by kernel_rfl) (by kernel_rfl) (appendUint_r (u := bu.toNat) (i := bu) (by omega) (by omega) (by simp only [List.length_append, padT_len, List.length_cons, List.length_nil]; omega) F4 H4 tab) (fun x => ⟨#[v3, .agg #[.int .u32 bu, .int .u8 one, .int .u8 two, .bool false, .bool true], .int .i64 (n : Int), undef, .pointer (some ⟨nb, 0, none⟩), undef, .slice none 0 0, .int .u64 1, .pointer (some ⟨nb, 4, none⟩), .bool true, .int .u64 0, .int .u64 1, .pointer (some ⟨nb, 3, none⟩), .bool false, undef, undef, v1, v2, .int .u64 1, v3, v3, v4, .pointer (some ⟨nb, 0, none⟩), .int .u32 bu, .int .u64 bu, x, undef, undef, undef, undef, undef, undef, undef, undef, undef, undef, undef, undef, undef, undef, undef, undef, undef, undef, undef, undef, undef], []⟩) (fun _ => by kernel_rfl) ?_
  rintro v5 W5 ⟨H5, F5⟩
  clear H4 sB
  have sB := F5.blk B1 (by decide)
  refine ⟨sB, ?_⟩
  refine takeH (i := 6) (v := v5) ⟨#[v5, .agg #[.int .u32 bu, .int .u8 one, .int .u8 two, .bool false, .bool true], .int .i64 (n : Int), undef, .pointer (some ⟨nb, 0, none⟩), undef, .slice none 0 0, .int .u64 1, .pointer (some ⟨nb, 4, none⟩), .bool true, .int .u64 0, .int .u64 1, .pointer (some ⟨nb, 3, none⟩), .bool false, undef, undef, v1, v2, .int .u64 1, v3, v3, v4, .pointer (some ⟨nb, 0, none⟩), .int .u32 bu, .int .u64 bu, v5, undef, undef, undef, undef, undef, undef, undef, undef, undef, undef, undef, undef, undef, undef, undef, undef, undef, undef, undef, undef, undef], []⟩ rfl (by kernel_rfl) (by kernel_rfl) (by kernel_rfl) (fun _ _ _ h => h) (.inl ⟨by kernel_rfl, fun _ _ => by kernel_rfl⟩) sB (by kernel_rfl) ?_
  refine wpAnyH_done (by kernel_rfl) ?_ _
  clear sB
  go_upto_region 8 with fail
  have sB := F5.blk B1 (by decide)
  refine wp_region_held (S := fun W => Blk W nb #[.int .u32 bu, .int .u8 one, .int .u8 two, .bool false, .bool true] 25) (by kernel_rfl) ?_
  refine takeH (i := 0) (v := v5) ⟨#[v5, .agg #[.int .u32 bu, .int .u8 one, .int .u8 two, .bool false, .bool true], .int .i64 (n : Int), undef, .pointer (some ⟨nb, 0, none⟩), undef, .slice none 0 0, .int .u64 1, .pointer (some ⟨nb, 4, none⟩), .bool true, .int .u64 0, .int .u64 1, .pointer (some ⟨nb, 3, none⟩), .bool false, undef, undef, v1, v2, .int .u64 1, v3, v3, v4, .pointer (some ⟨nb, 0, none⟩), .int .u32 bu, .int .u64 bu, v5, v5, undef, undef, undef, undef, undef, undef, undef, undef, undef, undef, undef, undef, undef, undef, undef, undef, undef, undef, undef, undef], []⟩ rfl (by kernel_rfl) (by kernel_rfl) (by kernel_rfl) (fun _ _ _ h => h) (.inl ⟨by kernel_rfl, fun _ _ => by kernel_rfl⟩) sB (by kernel_rfl) ?_
  refine takeH (i := 2) (v := .pointer (some ⟨nb, 1, none⟩)) ⟨#[v5, .agg #[.int .u32 bu, .int .u8 one, .int .u8 two, .bool false, .bool true], .int .i64 (n : Int), undef, .pointer (some ⟨nb, 0, none⟩), undef, .slice none 0 0, .int .u64 1, .pointer (some ⟨nb, 4, none⟩), .bool true, .int .u64 0, .int .u64 1, .pointer (some ⟨nb, 3, none⟩), .bool false, undef, undef, v1, v2, .int .u64 1, v3, v3, v4, .pointer (some ⟨nb, 0, none⟩), .int .u32 bu, .int .u64 bu, v5, v5, undef, .pointer (some ⟨nb, 1, none⟩), undef, undef, undef, undef, undef, undef, undef, undef, undef, undef, undef, undef, undef, undef, undef, undef, undef, undef], []⟩ rfl (by kernel_rfl) (by kernel_rfl) (by kernel_rfl) (fun _ _ _ h => h) (.inl ⟨by kernel_rfl, fun _ _ => by kernel_rfl⟩) sB (by kernel_rfl) ?_
  refine takeH (i := 3) (v := .int .u8 one) ⟨#[v5, .agg #[.int .u32 bu, .int .u8 one, .int .u8 two, .bool false, .bool true], .int .i64 (n : Int), undef, .pointer (some ⟨nb, 0, none⟩), undef, .slice none 0 0, .int .u64 1, .pointer (some ⟨nb, 4, none⟩), .bool true, .int .u64 0, .int .u64 1, .pointer (some ⟨nb, 3, none⟩), .bool false, undef, undef, v1, v2, .int .u64 1, v3, v3, v4, .pointer (some ⟨nb, 0, none⟩), .int .u32 bu, .int .u64 bu, v5, v5, undef, .pointer (some ⟨nb, 1, none⟩), .int .u8 one, undef, undef, undef, undef, undef, undef, undef, undef, undef, undef, undef, undef, undef, undef, undef, undef, undef], []⟩ rfl (by kernel_rfl) (by kernel_rfl) (by kernel_rfl) (fun _ _ _ h => h) (.inl ⟨by kernel_rfl, fun v hv => by have c : v.cell? ⟨nb, 1, none⟩ = some (.int .u8 one) := Blk.cell hv 1; go_simp⟩) sB (by kernel_rfl) ?_
  refine wpAnyH_all (rs := [1]) (by kernel_rfl) (by simp) ?_
  intro i hi
  obtain rfl : i = 1 := by simpa using hi
  clear hi
  refine wpOp_app rfl (by kernel_rfl) (.tmp 26) _ rfl (m := [124]) (.inl H5) F5.drew rfl rfl (by decide) (by simp only [List.length_append, padT_len, List.length_cons, List.length_nil]; omega) (fun x => ⟨#[v5, .agg #[.int .u32 bu, .int .u8 one, .int .u8 two, .bool false, .bool true], .int .i64 (n : Int), undef, .pointer (some ⟨nb, 0, none⟩), undef, .slice none 0 0, .int .u64 1, .pointer (some ⟨nb, 4, none⟩), .bool true, .int .u64 0, .int .u64 1, .pointer (some ⟨nb, 3, none⟩), .bool false, undef, undef, v1, v2, .int .u64 1, v3, v3, v4, .pointer (some ⟨nb, 0, none⟩), .int .u32 bu, .int .u64 bu, v5, v5, x, .pointer (some ⟨nb, 1, none⟩), .int .u8 one, undef, undef, undef, undef, undef, undef, undef, undef, undef, undef, undef, undef, undef, undef, undef, undef, undef], []⟩) (fun _ => by kernel_rfl) ?_
  intro v6 W6 H6 F6
  clear H5 sB
  have sB := F6.blk B1 (by decide)
  refine ⟨sB, ?_⟩
  refine wpAnyH_all (rs := [4]) (by kernel_rfl) (by simp) ?_
  intro i hi
  obtain rfl : i = 4 := by simpa using hi
  clear hi
  refine wpOp_calls (f := 24) rfl (by kernel_rfl) (by kernel_rfl) (appendPad_r o0 o1 (by simp only [List.length_append, padT_len, List.length_cons, List.length_nil]; omega) F6 H6) (fun x => ⟨#[v5, .agg #[.int .u32 bu, .int .u8 one, .int .u8 two, .bool false, .bool true], .int .i64 (n : Int), undef, .pointer (some ⟨nb, 0, none⟩), undef, .slice none 0 0, .int .u64 1, .pointer (some ⟨nb, 4, none⟩), .bool true, .int .u64 0, .int .u64 1, .pointer (some ⟨nb, 3, none⟩), .bool false, undef, undef, v1, v2, .int .u64 1, v3, v3, v4, .pointer (some ⟨nb, 0, none⟩), .int .u32 bu, .int .u64 bu, v5, v5, v6, .pointer (some ⟨nb, 1, none⟩), .int .u8 one, x, undef, undef, undef, undef, undef, undef, undef, undef, undef, undef, undef, undef, undef, undef, undef, undef], []⟩) (fun _ => by kernel_rfl) ?_
  rintro v7 W7 ⟨H7, F7⟩
  clear H6 sB
  have sB := F7.blk B1 (by decide)
  refine ⟨sB, ?_⟩
  refine takeH (i := 5) (v := v7) ⟨#[v7, .agg #[.int .u32 bu, .int .u8 one, .int .u8 two, .bool false, .bool true], .int .i64 (n : Int), undef, .pointer (some ⟨nb, 0, none⟩), undef, .slice none 0 0, .int .u64 1, .pointer (some ⟨nb, 4, none⟩), .bool true, .int .u64 0, .int .u64 1, .pointer (some ⟨nb, 3, none⟩), .bool false, undef, undef, v1, v2, .int .u64 1, v3, v3, v4, .pointer (some ⟨nb, 0, none⟩), .int .u32 bu, .int .u64 bu, v5, v5, v6, .pointer (some ⟨nb, 1, none⟩), .int .u8 one, v7, undef, undef, undef, undef, undef, undef, undef, undef, undef, undef, undef, undef, undef, undef, undef, undef], []⟩ rfl (by kernel_rfl) (by kernel_rfl) (by kernel_rfl) (fun _ _ _ h => h) (.inl ⟨by kernel_rfl, fun _ _ => by kernel_rfl⟩) sB (by kernel_rfl) ?_
  refine wpAnyH_done (by kernel_rfl) ?_ _
  clear sB
  go_upto_region 9 with fail
  have sB := F7.blk B1 (by decide)
  refine wp_region_held (S := fun W => Blk W nb #[.int .u32 bu, .int .u8 one, .int .u8 two, .bool false, .bool true] 25) (by kernel_rfl) ?_
  refine takeH (i := 0) (v := v7) ⟨#[v7, .agg #[.int .u32 bu, .int .u8 one, .int .u8 two, .bool false, .bool true], .int .i64 (n : Int), undef, .pointer (some ⟨nb, 0, none⟩), undef, .slice none 0 0, .int .u64 1, .pointer (some ⟨nb, 4, none⟩), .bool true, .int .u64 0, .int .u64 1, .pointer (some ⟨nb, 3, none⟩), .bool false, undef, undef, v1, v2, .int .u64 1, v3, v3, v4, .pointer (some ⟨nb, 0, none⟩), .int .u32 bu, .int .u64 bu, v5, v5, v6, .pointer (some ⟨nb, 1, none⟩), .int .u8 one, v7, v7, undef, undef, undef, undef, undef, undef, undef, undef, undef, undef, undef, undef, undef, undef, undef], []⟩ rfl (by kernel_rfl) (by kernel_rfl) (by kernel_rfl) (fun _ _ _ h => h) (.inl ⟨by kernel_rfl, fun _ _ => by kernel_rfl⟩) sB (by kernel_rfl) ?_
  refine takeH (i := 2) (v := .pointer (some ⟨nb, 2, none⟩)) ⟨#[v7, .agg #[.int .u32 bu, .int .u8 one, .int .u8 two, .bool false, .bool true], .int .i64 (n : Int), undef, .pointer (some ⟨nb, 0, none⟩), undef, .slice none 0 0, .int .u64 1, .pointer (some ⟨nb, 4, none⟩), .bool true, .int .u64 0, .int .u64 1, .pointer (some ⟨nb, 3, none⟩), .bool false, undef, undef, v1, v2, .int .u64 1, v3, v3, v4, .pointer (some ⟨nb, 0, none⟩), .int .u32 bu, .int .u64 bu, v5, v5, v6, .pointer (some ⟨nb, 1, none⟩), .int .u8 one, v7, v7, undef, .pointer (some ⟨nb, 2, none⟩), undef, undef, undef, undef, undef, undef, undef, undef, undef, undef, undef, undef, undef], []⟩ rfl (by kernel_rfl) (by kernel_rfl) (by kernel_rfl) (fun _ _ _ h => h) (.inl ⟨by kernel_rfl, fun _ _ => by kernel_rfl⟩) sB (by kernel_rfl) ?_
  refine takeH (i := 3) (v := .int .u8 two) ⟨#[v7, .agg #[.int .u32 bu, .int .u8 one, .int .u8 two, .bool false, .bool true], .int .i64 (n : Int), undef, .pointer (some ⟨nb, 0, none⟩), undef, .slice none 0 0, .int .u64 1, .pointer (some ⟨nb, 4, none⟩), .bool true, .int .u64 0, .int .u64 1, .pointer (some ⟨nb, 3, none⟩), .bool false, undef, undef, v1, v2, .int .u64 1, v3, v3, v4, .pointer (some ⟨nb, 0, none⟩), .int .u32 bu, .int .u64 bu, v5, v5, v6, .pointer (some ⟨nb, 1, none⟩), .int .u8 one, v7, v7, undef, .pointer (some ⟨nb, 2, none⟩), .int .u8 two, undef, undef, undef, undef, undef, undef, undef, undef, undef, undef, undef, undef], []⟩ rfl (by kernel_rfl) (by kernel_rfl) (by kernel_rfl) (fun _ _ _ h => h) (.inl ⟨by kernel_rfl, fun v hv => by have c : v.cell? ⟨nb, 2, none⟩ = some (.int .u8 two) := Blk.cell hv 2; go_simp⟩) sB (by kernel_rfl) ?_
  refine wpAnyH_all (rs := [1]) (by kernel_rfl) (by simp) ?_
  intro i hi
  obtain rfl : i = 1 := by simpa using hi
  clear hi
  refine wpOp_app rfl (by kernel_rfl) (.tmp 31) _ rfl (m := [124]) (.inl H7) F7.drew rfl rfl (by decide) (by simp only [List.length_append, padT_len, List.length_cons, List.length_nil]; omega) (fun x => ⟨#[v7, .agg #[.int .u32 bu, .int .u8 one, .int .u8 two, .bool false, .bool true], .int .i64 (n : Int), undef, .pointer (some ⟨nb, 0, none⟩), undef, .slice none 0 0, .int .u64 1, .pointer (some ⟨nb, 4, none⟩), .bool true, .int .u64 0, .int .u64 1, .pointer (some ⟨nb, 3, none⟩), .bool false, undef, undef, v1, v2, .int .u64 1, v3, v3, v4, .pointer (some ⟨nb, 0, none⟩), .int .u32 bu, .int .u64 bu, v5, v5, v6, .pointer (some ⟨nb, 1, none⟩), .int .u8 one, v7, v7, x, .pointer (some ⟨nb, 2, none⟩), .int .u8 two, undef, undef, undef, undef, undef, undef, undef, undef, undef, undef, undef, undef], []⟩) (fun _ => by kernel_rfl) ?_
  intro v8 W8 H8 F8
  clear H7 sB
  have sB := F8.blk B1 (by decide)
  refine ⟨sB, ?_⟩
  refine wpAnyH_all (rs := [4]) (by kernel_rfl) (by simp) ?_
  intro i hi
  obtain rfl : i = 4 := by simpa using hi
  clear hi
  refine wpOp_calls (f := 24) rfl (by kernel_rfl) (by kernel_rfl) (appendPad_r t0 t1 (by simp only [List.length_append, padT_len, List.length_cons, List.length_nil]; omega) F8 H8) (fun x => ⟨#[v7, .agg #[.int .u32 bu, .int .u8 one, .int .u8 two, .bool false, .bool true], .int .i64 (n : Int), undef, .pointer (some ⟨nb, 0, none⟩), undef, .slice none 0 0, .int .u64 1, .pointer (some ⟨nb, 4, none⟩), .bool true, .int .u64 0, .int .u64 1, .pointer (some ⟨nb, 3, none⟩), .bool false, undef, undef, v1, v2, .int .u64 1, v3, v3, v4, .pointer (some ⟨nb, 0, none⟩), .int .u32 bu, .int .u64 bu, v5, v5, v6, .pointer (some ⟨nb, 1, none⟩), .int .u8 one, v7, v7, v8, .pointer (some ⟨nb, 2, none⟩), .int .u8 two, x, undef, undef, undef, undef, undef, undef, undef, undef, undef, undef, undef], []⟩) (fun _ => by kernel_rfl) ?_
  rintro v9 W9 ⟨H9, F9⟩
  clear H8 sB
  have sB := F9.blk B1 (by decide)
  refine ⟨sB, ?_⟩
  refine takeH (i := 5) (v := v9) ⟨#[v9, .agg #[.int .u32 bu, .int .u8 one, .int .u8 two, .bool false, .bool true], .int .i64 (n : Int), undef, .pointer (some ⟨nb, 0, none⟩), undef, .slice none 0 0, .int .u64 1, .pointer (some ⟨nb, 4, none⟩), .bool true, .int .u64 0, .int .u64 1, .pointer (some ⟨nb, 3, none⟩), .bool false, undef, undef, v1, v2, .int .u64 1, v3, v3, v4, .pointer (some ⟨nb, 0, none⟩), .int .u32 bu, .int .u64 bu, v5, v5, v6, .pointer (some ⟨nb, 1, none⟩), .int .u8 one, v7, v7, v8, .pointer (some ⟨nb, 2, none⟩), .int .u8 two, v9, undef, undef, undef, undef, undef, undef, undef, undef, undef, undef, undef], []⟩ rfl (by kernel_rfl) (by kernel_rfl) (by kernel_rfl) (fun _ _ _ h => h) (.inl ⟨by kernel_rfl, fun _ _ => by kernel_rfl⟩) sB (by kernel_rfl) ?_
  refine wpAnyH_done (by kernel_rfl) ?_ _
  clear sB
  go_upto_region 11 with (at_builtin; refine wpList_appS rfl _ _ rfl (m := [124]) H9 F9 rfl rfl (by simp only [List.length_append, padT_len, List.length_cons, List.length_nil]; omega) ?_; intro v10 W10 H10 F10; clear H9)
  by_cases h2 : 2 ≤ n
  · have h2' : (2 : Int) ≤ (n : Int) := by omega
    go_upto_region 13 with (first
      | (at_builtin; refine wpList_appS rfl _ _ rfl (m := [32, 120]) H10 F10 rfl rfl (by simp only [List.length_append, padT_len, List.length_cons, List.length_nil]; omega) ?_; intro v11 W11 H11 F11; clear H10)
      | (go_at_call 25; refine (appendInt_r (u := n) rfl hn (by simp only [List.length_append, padT_len, List.length_cons, List.length_nil]; omega) F11 H11 tab).mono ?_; rintro e W12 ⟨v12, ⟨H12, F12⟩, rfl⟩; clear H11))
    go_wp2_with (at_builtin; refine wpList_app1 rfl _ _ rfl (10 : UInt8) H12 F12 rfl rfl rfl (by simp only [List.length_append, padT_len, List.length_cons, List.length_nil]; omega) ?_; intro v13 W13 H13 F13; clear H12)
    go_ret
    refine ⟨v13, ⟨?_, F0.trans F13⟩, rfl⟩
    simpa only [recT, show flg ⟨bu, one, two, false, true⟩ = 1 from rfl, if_pos h2, List.append_assoc] using H13
  · have h2' : ¬ (2 : Int) ≤ (n : Int) := by omega
    go_upto_region 13 with fail
    go_wp2_with (at_builtin; refine wpList_app1 rfl _ _ rfl (10 : UInt8) H10 F10 rfl rfl rfl (by simp only [List.length_append, padT_len, List.length_cons, List.length_nil]; omega) ?_; intro v13 W13 H13 F13; clear H10)
    go_ret
    refine ⟨v13, ⟨?_, F0.trans F13⟩, rfl⟩
    simpa only [recT, show flg ⟨bu, one, two, false, true⟩ = 1 from rfl, if_neg h2, List.append_assoc, List.nil_append] using H13
set_option maxRecDepth 100000 in
set_option maxHeartbeats 4000000 in
theorem appendRecord_tt (w : World) (base n : Nat) (v1 : Value) (l : List UInt8) (bu one two : Int) (hn : n ≤ 9223372036854775807) (hl : l.length ≤ 17592186040000) (hbase : base ≤ w.heap.size) (H : Txm w base v1 l) (ok : TuE.Ok ⟨bu, one, two, true, true⟩)
    (htab : Lib.TabBelow Tryd.prog base w "internal/strconv.uint64pow10" .u64 Lib.pow10Tab) :
    Calls Tryd.prog 17 #[v1, .agg #[.int .u32 bu, .int .u8 one, .int .u8 two, .bool true, .bool true], .int .i64 (n : Int)] w fun e w' => ∃ v', (Txt w' base v' (l ++ recT ⟨bu, one, two, true, true⟩ n) ∧ Fr base w w') ∧ e = .returned v' := by
  have hbb : (0 : Int) ≤ bu ∧ bu ≤ 4294967295 := ⟨ok.bu0, ok.bu1⟩
  have ho : (0 : Int) ≤ one ∧ one ≤ 255 := ⟨ok.one0, ok.one1⟩
  have ht : (0 : Int) ≤ two ∧ two ≤ 255 := ⟨ok.two0, ok.two1⟩
  clear ok
  have d0 := dec_len 3 (by omega)
  have d1 := dec_len bu.toNat (by omega)
  have d2 := dec_len n (by omega)
  obtain ⟨b0, b1⟩ := hbb
  obtain ⟨o0, o1⟩ := ho
  obtain ⟨t0, t1⟩ := ht
  have hwr : IntKind.u64.wrap bu = bu := by rw [IntKind.wrap_u64]; omega
  have hbx : Below base w (w.alloc (.cells #[.int .u32 bu, .int .u8 one, .int .u8 two, .bool true, .bool true] 25)) := (Below.refl _ _).alloc hbase _
  have B1 : Blk (w.alloc (.cells #[.int .u32 bu, .int .u8 one, .int .u8 two, .bool true, .bool true] 25)) w.heap.size #[.int .u32 bu, .int .u8 one, .int .u8 two, .bool true, .bool true] 25 := Blk.new _ _ _
  have H1 : Txm (w.alloc (.cells #[.int .u32 bu, .int .u8 one, .int .u8 two, .bool true, .bool true] 25)) base v1 l := H.keep (Nat.le_refl _) ((Below.refl _ _).alloc (Nat.le_refl _) _)
  have F1 : Fr base (w.alloc (.cells #[.int .u32 bu, .int .u8 one, .int .u8 two, .bool true, .bool true] 25)) (w.alloc (.cells #[.int .u32 bu, .int .u8 one, .int .u8 two, .bool true, .bool true] 25)) := Fr.refl (by simp; omega)
  have F0 : Fr base w (w.alloc (.cells #[.int .u32 bu, .int .u8 one, .int .u8 two, .bool true, .bool true] 25)) := ⟨hbx, (Lib.OthersKept.refl _ _ _).alloc _, by simp; omega⟩
  have tab := htab.on hbx
  clear htab H hbx
  go_enter Tryd.func17, Tryd.ntmps17
  go_upto_region 6 with fail
  generalize w.alloc (.cells #[.int .u32 bu, .int .u8 one, .int .u8 two, .bool true, .bool true] 25) = w1 at *
  generalize w.heap.size = nb at *
  go_upto_region 7 with (first
    | (at_builtin; refine wpList_appM rfl _ _ rfl (m := [124]) H1 F1 rfl rfl (by decide) (by simp only [List.length_append, padT_len, List.length_cons, List.length_nil]; omega) ?_; intro v2 W2 H2 F2; clear H1)
    | (go_at_call 23; refine (appendUint_r (u := 3) rfl (by decide) (by simp only [List.length_append, padT_len, List.length_cons, List.length_nil]; omega) F2 H2 tab).mono ?_; rintro e W3 ⟨v3, ⟨H3, F3⟩, rfl⟩; clear H2))
  go_upto_region 7 with fail
  have sB := F3.blk B1 (by decide)
  refine wp_region_held (S := fun W => Blk W nb #[.int .u32 bu, .int .u8 one, .int .u8 two, .bool true, .bool true] 25) (by kernel_rfl) ?_
  refine takeH (i := 0) (v := v3) ⟨#[v3, .agg #[.int .u32 bu, .int .u8 one, .int .u8 two, .bool true, .bool true], .int .i64 (n : Int), undef, .pointer (some ⟨nb, 0, none⟩), undef, .slice none 0 0, .int .u64 3, .pointer (some ⟨nb, 4, none⟩), .bool true, .int .u64 0, .int .u64 1, .pointer (some ⟨nb, 3, none⟩), .bool true, .int .u64 1, .int .u64 3, v1, v2, .int .u64 3, v3, v3, undef, undef, undef, undef, undef, undef, undef, undef, undef, undef, undef, undef, undef, undef, undef, undef, undef, undef, undef, undef, undef, undef, undef, undef, undef, undef], []⟩ rfl (by kernel_rfl) (by kernel_rfl) (by kernel_rfl) (fun _ _ _ h => h) (.inl ⟨by kernel_rfl, fun _ _ => by kernel_rfl⟩) sB (by kernel_rfl) ?_
  refine takeH (i := 2) (v := .pointer (some ⟨nb, 0, none⟩)) ⟨#[v3, .agg #[.int .u32 bu, .int .u8 one, .int .u8 two, .bool true, .bool true], .int .i64 (n : Int), undef, .pointer (some ⟨nb, 0, none⟩), undef, .slice none 0 0, .int .u64 3, .pointer (some ⟨nb, 4, none⟩), .bool true, .int .u64 0, .int .u64 1, .pointer (some ⟨nb, 3, none⟩), .bool true, .int .u64 1, .int .u64 3, v1, v2, .int .u64 3, v3, v3, undef, .pointer (some ⟨nb, 0, none⟩), undef, undef, undef, undef, undef, undef, undef, undef, undef, undef, undef, undef, undef, undef, undef, undef, undef, undef, undef, undef, undef, undef, undef, undef], []⟩ rfl (by kernel_rfl) (by kernel_rfl) (by kernel_rfl) (fun _ _ _ h => h) (.inl ⟨by kernel_rfl, fun _ _ => by kernel_rfl⟩) sB (by kernel_rfl) ?_
  refine takeH (i := 3) (v := .int .u32 bu) ⟨#[v3, .agg #[.int .u32 bu, .int .u8 one, .int .u8 two, .bool true, .bool true], .int .i64 (n : Int), undef, .pointer (some ⟨nb, 0, none⟩), undef, .slice none 0 0, .int .u64 3, .pointer (some ⟨nb, 4, none⟩), .bool true, .int .u64 0, .int .u64 1, .pointer (some ⟨nb, 3, none⟩), .bool true, .int .u64 1, .int .u64 3, v1, v2, .int .u64 3, v3, v3, undef, .pointer (some ⟨nb, 0, none⟩), .int .u32 bu, undef, undef, undef, undef, undef, undef, undef, undef, undef, undef, undef, undef, undef, undef, undef, undef, undef, undef, undef, undef, undef, undef, undef], []⟩ rfl (by kernel_rfl) (by kernel_rfl) (by kernel_rfl) (fun _ _ _ h => h) (.inl ⟨by kernel_rfl, fun v hv => by have c : v.cell? ⟨nb, 0, none⟩ = some (.int .u32 bu) := Blk.cell hv 0; go_simp⟩) sB (by kernel_rfl) ?_
  refine takeH (i := 4) (v := .int .u64 bu) ⟨#[v3, .agg #[.int .u32 bu, .int .u8 one, .int .u8 two, .bool true, .bool true], .int .i64 (n : Int), undef, .pointer (some ⟨nb, 0, none⟩), undef, .slice none 0 0, .int .u64 3, .pointer (some ⟨nb, 4, none⟩), .bool true, .int .u64 0, .int .u64 1, .pointer (some ⟨nb, 3, none⟩), .bool true, .int .u64 1, .int .u64 3, v1, v2, .int .u64 3, v3, v3, undef, .pointer (some ⟨nb, 0, none⟩), .int .u32 bu, .int .u64 bu, undef, undef, undef, undef, undef, undef, undef, undef, undef, undef, undef, undef, undef, undef, undef, undef, undef, undef, undef, undef, undef, undef], []⟩ rfl (by kernel_rfl) (by kernel_rfl) (by kernel_rfl) (fun _ _ _ h => h) (.inl ⟨by kernel_rfl, fun _ _ => by go_simp⟩) sB (by kernel_rfl) ?_
  refine wpAnyH_all (rs := [1]) (by kernel_rfl) (by simp) ?_
  intro i hi
  obtain rfl : i = 1 := by simpa using hi
  clear hi
  refine wpOp_app rfl (by kernel_rfl) (.tmp 20) _ rfl (m := [124]) (.inl H3) F3.drew rfl rfl (by decide) (by simp only [List.length_append, padT_len, List.length_cons, List.length_nil]; omega) (fun x => ⟨#[v3, .agg #[.int .u32 bu, .int .u8 one, .int .u8 two, .bool true, .bool true], .int .i64 (n : Int), undef, .pointer (some ⟨nb, 0, none⟩), undef, .slice none 0 0, .int .u64 3, .pointer (some ⟨nb, 4, none⟩), .bool true, .int .u64 0, .int .u64 1, .pointer (some ⟨nb, 3, none⟩), .bool true, .int .u64 1, .int .u64 3, v1, v2, .int .u64 3, v3, v3, x, .pointer (some ⟨nb, 0, none⟩), .int .u32 bu, .int .u64 bu, undef, undef, undef, undef, undef, undef, undef, undef, undef, undef, undef, undef, undef, undef, undef, undef, undef, undef, undef, undef, undef, undef], []⟩) (fun _ => by kernel_rfl) ?_
  intro v4 W4 H4 F4
  clear H3 sB
  have sB := F4.blk B1 (by decide)
  refine ⟨sB, ?_⟩
  refine wpAnyH_all (rs := [5]) (by kernel_rfl) (by simp) ?_
  intro i hi
  obtain rfl : i = 5 := by simpa using hi
  clear hi
  refine wpOp_calls (f := 23) rfl (by kernel_rfl) (by kernel_rfl) (appendUint_r (u := bu.toNat) (i := bu) (by omega) (by omega) (by simp only [List.length_append, padT_len, List.length_cons, List.length_nil]; omega) F4 H4 tab) (fun x => ⟨#[v3, .agg #[.int .u32 bu, .int .u8 one, .int .u8 two, .bool true, .bool true], .int .i64 (n : Int), undef, .pointer (some ⟨nb, 0, none⟩), undef, .slice none 0 0, .int .u64 3, .pointer (some ⟨nb, 4, none⟩), .bool true, .int .u64 0, .int .u64 1, .pointer (some ⟨nb, 3, none⟩), .bool true, .int .u64 1, .int .u64 3, v1, v2, .int .u64 3, v3, v3, v4, .pointer (some ⟨nb, 0, none⟩), .int .u32 bu, .int .u64 bu, x, undef, undef, undef, undef, undef, undef, undef, undef, undef, undef, undef, undef, undef, undef, undef, undef, undef, undef, undef, undef, undef], []⟩) (fun _ => by kernel_rfl) ?_
  rintro v5 W5 ⟨H5, F5⟩
  clear H4 sB
  have sB := F5.blk B1 (by decide)
  refine ⟨sB, ?_⟩
  refine takeH (i := 6) (v := v5) ⟨#[v5, .agg #[.int .u32 bu, .int .u8 one, .int .u8 two, .bool true, .bool true], .int .i64 (n : Int), undef, .pointer (some ⟨nb, 0, none⟩), undef, .slice none 0 0, .int .u64 3, .pointer (some ⟨nb, 4, none⟩), .bool true, .int .u64 0, .int .u64 1, .pointer (some ⟨nb, 3, none⟩), .bool true, .int .u64 1, .int .u64 3, v1, v2, .int .u64 3, v3, v3, v4, .pointer (some ⟨nb, 0, none⟩), .int .u32 bu, .int .u64 bu, v5, undef, undef, undef, undef, undef, undef, undef, undef, undef, undef, undef, undef, undef, undef, undef, undef, undef, undef, undef, undef, undef], []⟩ rfl (by kernel_rfl) (by kernel_rfl) (by kernel_rfl) (fun _ _ _ h => h) (.inl ⟨by kernel_rfl, fun _ _ => by kernel_rfl⟩) sB (by kernel_rfl) ?_
  refine wpAnyH_done (by kernel_rfl) ?_ _
  clear sB
  go_upto_region 8 with fail
  have sB := F5.blk B1 (by decide)
  refine wp_region_held (S := fun W => Blk W nb #[.int .u32 bu, .int .u8 one, .int .u8 two, .bool true, .bool true] 25) (by kernel_rfl) ?_
  refine takeH (i := 0) (v := v5) ⟨#[v5, .agg #[.int .u32 bu, .int .u8 one, .int .u8 two, .bool true, .bool true], .int .i64 (n : Int), undef, .pointer (some ⟨nb, 0, none⟩), undef, .slice none 0 0, .int .u64 3, .pointer (some ⟨nb, 4, none⟩), .bool true, .int .u64 0, .int .u64 1, .pointer (some ⟨nb, 3, none⟩), .bool true, .int .u64 1, .int .u64 3, v1, v2, .int .u64 3, v3, v3, v4, .pointer (some ⟨nb, 0, none⟩), .int .u32 bu, .int .u64 bu, v5, v5, undef, undef, undef, undef, undef, undef, undef, undef, undef, undef, undef, undef, undef, undef, undef, undef, undef, undef, undef, undef], []⟩ rfl (by kernel_rfl) (by kernel_rfl) (by kernel_rfl) (fun _ _ _ h => h) (.inl ⟨by kernel_rfl, fun _ _ => by kernel_rfl⟩) sB (by kernel_rfl) ?_
  refine takeH (i := 2) (v := .pointer (some ⟨nb, 1, none⟩)) ⟨#[v5, .agg #[.int .u32 bu, .int .u8 one, .int .u8 two, .bool true, .bool true], .int .i64 (n : Int), undef, .pointer (some ⟨nb, 0, none⟩), undef, .slice none 0 0, .int .u64 3, .pointer (some ⟨nb, 4, none⟩), .bool true, .int .u64 0, .int .u64 1, .pointer (some ⟨nb, 3, none⟩), .bool true, .int .u64 1, .int .u64 3, v1, v2, .int .u64 3, v3, v3, v4, .pointer (some ⟨nb, 0, none⟩), .int .u32 bu, .int .u64 bu, v5, v5, undef, .pointer (some ⟨nb, 1, none⟩), undef, undef, undef, undef, undef, undef, undef, undef, undef, undef, undef, undef, undef, undef, undef, undef, undef, undef], []⟩ rfl (by kernel_rfl) (by kernel_rfl) (by kernel_rfl) (fun _ _ _ h => h) (.inl ⟨by kernel_rfl, fun _ _ => by kernel_rfl⟩) sB (by kernel_rfl) ?_
  refine takeH (i := 3) (v := .int .u8 one) ⟨#[v5, .agg #[.int .u32 bu, .int .u8 one, .int .u8 two, .bool true, .bool true], .int .i64 (n : Int), undef, .pointer (some ⟨nb, 0, none⟩), undef, .slice none 0 0, .int .u64 3, .pointer (some ⟨nb, 4, none⟩), .bool true, .int .u64 0, .int .u64 1, .pointer (some ⟨nb, 3, none⟩), .bool true, .int .u64 1, .int .u64 3, v1, v2, .int .u64 3, v3, v3, v4, .pointer (some ⟨nb, 0, none⟩), .int .u32 bu, .int .u64 bu, v5, v5, undef, .pointer (some ⟨nb, 1, none⟩), .int .u8 one, undef, undef, undef, undef, undef, undef, undef, undef, undef, undef, undef, undef, undef, undef, undef, undef, undef], []⟩ rfl (by kernel_rfl) (by kernel_rfl) (by kernel_rfl) (fun _ _ _ h => h) (.inl ⟨by kernel_rfl, fun v hv => by have c : v.cell? ⟨nb, 1, none⟩ = some (.int .u8 one) := Blk.cell hv 1; go_simp⟩) sB (by kernel_rfl) ?_
  refine wpAnyH_all (rs := [1]) (by kernel_rfl) (by simp) ?_
  intro i hi
  obtain rfl : i = 1 := by simpa using hi
  clear hi
  refine wpOp_app rfl (by kernel_rfl) (.tmp 26) _ rfl (m := [124]) (.inl H5) F5.drew rfl rfl (by decide) (by simp only [List.length_append, padT_len, List.length_cons, List.length_nil]; omega) (fun x => ⟨#[v5, .agg #[.int .u32 bu, .int .u8 one, .int .u8 two, .bool true, .bool true], .int .i64 (n : Int), undef, .pointer (some ⟨nb, 0, none⟩), undef, .slice none 0 0, .int .u64 3, .pointer (some ⟨nb, 4, none⟩), .bool true, .int .u64 0, .int .u64 1, .pointer (some ⟨nb, 3, none⟩), .bool true, .int .u64 1, .int .u64 3, v1, v2, .int .u64 3, v3, v3, v4, .pointer (some ⟨nb, 0, none⟩), .int .u32 bu, .int .u64 bu, v5, v5, x, .pointer (some ⟨nb, 1, none⟩), .int .u8 one, undef, undef, undef, undef, undef, undef, undef, undef, undef, undef, undef, undef, undef, undef, undef, undef, undef], []⟩) (fun _ => by kernel_rfl) ?_
  intro v6 W6 H6 F6
  clear H5 sB
  have sB := F6.blk B1 (by decide)
  refine ⟨sB, ?_⟩
  refine wpAnyH_all (rs := [4]) (by kernel_rfl) (by simp) ?_
  intro i hi
  obtain rfl : i = 4 := by simpa using hi
  clear hi
  refine wpOp_calls (f := 24) rfl (by kernel_rfl) (by kernel_rfl) (appendPad_r o0 o1 (by simp only [List.length_append, padT_len, List.length_cons, List.length_nil]; omega) F6 H6) (fun x => ⟨#[v5, .agg #[.int .u32 bu, .int .u8 one, .int .u8 two, .bool true, .bool true], .int .i64 (n : Int), undef, .pointer (some ⟨nb, 0, none⟩), undef, .slice none 0 0, .int .u64 3, .pointer (some ⟨nb, 4, none⟩), .bool true, .int .u64 0, .int .u64 1, .pointer (some ⟨nb, 3, none⟩), .bool true, .int .u64 1, .int .u64 3, v1, v2, .int .u64 3, v3, v3, v4, .pointer (some ⟨nb, 0, none⟩), .int .u32 bu, .int .u64 bu, v5, v5, v6, .pointer (some ⟨nb, 1, none⟩), .int .u8 one, x, undef, undef, undef, undef, undef, undef, undef, undef, undef, undef, undef, undef, undef, undef, undef, undef], []⟩) (fun _ => by kernel_rfl) ?_
  rintro v7 W7 ⟨H7, F7⟩
  clear H6 sB
  have sB := F7.blk B1 (by decide)
  refine ⟨sB, ?_⟩
  refine takeH (i := 5) (v := v7) ⟨#[v7, .agg #[.int .u32 bu, .int .u8 one, .int .u8 two, .bool true, .bool true], .int .i64 (n : Int), undef, .pointer (some ⟨nb, 0, none⟩), undef, .slice none 0 0, .int .u64 3, .pointer (some ⟨nb, 4, none⟩), .bool true, .int .u64 0, .int .u64 1, .pointer (some ⟨nb, 3, none⟩), .bool true, .int .u64 1, .int .u64 3, v1, v2, .int .u64 3, v3, v3, v4, .pointer (some ⟨nb, 0, none⟩), .int .u32 bu, .int .u64 bu, v5, v5, v6, .pointer (some ⟨nb, 1, none⟩), .int .u8 one, v7, undef, undef, undef, undef, undef, undef, undef, undef, undef, undef, undef, undef, undef, undef, undef, undef], []⟩ rfl (by kernel_rfl) (by kernel_rfl) (by kernel_rfl) (fun _ _ _ h => h) (.inl ⟨by kernel_rfl, fun _ _ => by kernel_rfl⟩) sB (by kernel_rfl) ?_
  refine wpAnyH_done (by kernel_rfl) ?_ _
  clear sB
  go_upto_region 9 with fail
  have sB := F7.blk B1 (by decide)
  refine wp_region_held (S := fun W => Blk W nb #[.int .u32 bu, .int .u8 one, .int .u8 two, .bool true, .bool true] 25) (by kernel_rfl) ?_
  refine takeH (i := 0) (v := v7) ⟨#[v7, .agg #[.int .u32 bu, .int .u8 one, .int .u8 two, .bool true, .bool true], .int .i64 (n : Int), undef, .pointer (some ⟨nb, 0, none⟩), undef, .slice none 0 0, .int .u64 3, .pointer (some ⟨nb, 4, none⟩), .bool true, .int .u64 0, .int .u64 1, .pointer (some ⟨nb, 3, none⟩), .bool true, .int .u64 1, .int .u64 3, v1, v2, .int .u64 3, v3, v3, v4, .pointer (some ⟨nb, 0, none⟩), .int .u32 bu, .int .u64 bu, v5, v5, v6, .pointer (some ⟨nb, 1, none⟩), .int .u8 one, v7, v7, undef, undef, undef, undef, undef, undef, undef, undef, undef, undef, undef, undef, undef, undef, undef], []⟩ rfl (by kernel_rfl) (by kernel_rfl) (by kernel_rfl) (fun _ _ _ h => h) (.inl ⟨by kernel_rfl, fun _ _ => by kernel_rfl⟩) sB (by kernel_rfl) ?_
  refine takeH (i := 2) (v := .pointer (some ⟨nb, 2, none⟩)) ⟨#[v7, .agg #[.int .u32 bu, .int .u8 one, .int .u8 two, .bool true, .bool true], .int .i64 (n : Int), undef, .pointer (some ⟨nb, 0, none⟩), undef, .slice none 0 0, .int .u64 3, .pointer (some ⟨nb, 4, none⟩), .bool true, .int .u64 0, .int .u64 1, .pointer (some ⟨nb, 3, none⟩), .bool true, .int .u64 1, .int .u64 3, v1, v2, .int .u64 3, v3, v3, v4, .pointer (some ⟨nb, 0, none⟩), .int .u32 bu, .int .u64 bu, v5, v5, v6, .pointer (some ⟨nb, 1, none⟩), .int .u8 one, v7, v7, undef, .pointer (some ⟨nb, 2, none⟩), undef, undef, undef, undef, undef, undef, undef, undef, undef, undef, undef, undef, undef], []⟩ rfl (by kernel_rfl) (by kernel_rfl) (by kernel_rfl) (fun _ _ _ h => h) (.inl ⟨by kernel_rfl, fun _ _ => by kernel_rfl⟩) sB (by kernel_rfl) ?_
  refine takeH (i := 3) (v := .int .u8 two) ⟨#[v7, .agg #[.int .u32 bu, .int .u8 one, .int .u8 two, .bool true, .bool true], .int .i64 (n : Int), undef, .pointer (some ⟨nb, 0, none⟩), undef, .slice none 0 0, .int .u64 3, .pointer (some ⟨nb, 4, none⟩), .bool true, .int .u64 0, .int .u64 1, .pointer (some ⟨nb, 3, none⟩), .bool true, .int .u64 1, .int .u64 3, v1, v2, .int .u64 3, v3, v3, v4, .pointer (some ⟨nb, 0, none⟩), .int .u32 bu, .int .u64 bu, v5, v5, v6, .pointer (some ⟨nb, 1, none⟩), .int .u8 one, v7, v7, undef, .pointer (some ⟨nb, 2, none⟩), .int .u8 two, undef, undef, undef, undef, undef, undef, undef, undef, undef, undef, undef, undef], []⟩ rfl (by kernel_rfl) (by kernel_rfl) (by kernel_rfl) (fun _ _ _ h => h) (.inl ⟨by kernel_rfl, fun v hv => by have c : v.cell? ⟨nb, 2, none⟩ = some (.int .u8 two) := Blk.cell hv 2; go_simp⟩) sB (by kernel_rfl) ?_
  refine wpAnyH_all (rs := [1]) (by kernel_rfl) (by simp) ?_
  intro i hi
  obtain rfl : i = 1 := by simpa using hi
  clear hi
  refine wpOp_app rfl (by kernel_rfl) (.tmp 31) _ rfl (m := [124]) (.inl H7) F7.drew rfl rfl (by decide) (by simp only [List.length_append, padT_len, List.length_cons, List.length_nil]; omega) (fun x => ⟨#[v7, .agg #[.int .u32 bu, .int .u8 one, .int .u8 two, .bool true, .bool true], .int .i64 (n : Int), undef, .pointer (some ⟨nb, 0, none⟩), undef, .slice none 0 0, .int .u64 3, .pointer (some ⟨nb, 4, none⟩), .bool true, .int .u64 0, .int .u64 1, .pointer (some ⟨nb, 3, none⟩), .bool true, .int .u64 1, .int .u64 3, v1, v2, .int .u64 3, v3, v3, v4, .pointer (some ⟨nb, 0, none⟩), .int .u32 bu, .int .u64 bu, v5, v5, v6, .pointer (some ⟨nb, 1, none⟩), .int .u8 one, v7, v7, x, .pointer (some ⟨nb, 2, none⟩), .int .u8 two, undef, undef, undef, undef, undef, undef, undef, undef, undef, undef, undef, undef], []⟩) (fun _ => by kernel_rfl) ?_
  intro v8 W8 H8 F8
  clear H7 sB
  have sB := F8.blk B1 (by decide)
  refine ⟨sB, ?_⟩
  refine wpAnyH_all (rs := [4]) (by kernel_rfl) (by simp) ?_
  intro i hi
  obtain rfl : i = 4 := by simpa using hi
  clear hi
  refine wpOp_calls (f := 24) rfl (by kernel_rfl) (by kernel_rfl) (appendPad_r t0 t1 (by simp only [List.length_append, padT_len, List.length_cons, List.length_nil]; omega) F8 H8) (fun x => ⟨#[v7, .agg #[.int .u32 bu, .int .u8 one, .int .u8 two, .bool true, .bool true], .int .i64 (n : Int), undef, .pointer (some ⟨nb, 0, none⟩), undef, .slice none 0 0, .int .u64 3, .pointer (some ⟨nb, 4, none⟩), .bool true, .int .u64 0, .int .u64 1, .pointer (some ⟨nb, 3, none⟩), .bool true, .int .u64 1, .int .u64 3, v1, v2, .int .u64 3, v3, v3, v4, .pointer (some ⟨nb, 0, none⟩), .int .u32 bu, .int .u64 bu, v5, v5, v6, .pointer (some ⟨nb, 1, none⟩), .int .u8 one, v7, v7, v8, .pointer (some ⟨nb, 2, none⟩), .int .u8 two, x, undef, undef, undef, undef, undef, undef, undef, undef, undef, undef, undef], []⟩) (fun _ => by kernel_rfl) ?_
  rintro v9 W9 ⟨H9, F9⟩
  clear H8 sB
  have sB := F9.blk B1 (by decide)
  refine ⟨sB, ?_⟩
  refine takeH (i := 5) (v := v9) ⟨#[v9, .agg #[.int .u32 bu, .int .u8 one, .int .u8 two, .bool true, .bool true], .int .i64 (n : Int), undef, .pointer (some ⟨nb, 0, none⟩), undef, .slice none 0 0, .int .u64 3, .pointer (some ⟨nb, 4, none⟩), .bool true, .int .u64 0, .int .u64 1, .pointer (some ⟨nb, 3, none⟩), .bool true, .int .u64 1, .int .u64 3, v1, v2, .int .u64 3, v3, v3, v4, .pointer (some ⟨nb, 0, none⟩), .int .u32 bu, .int .u64 bu, v5, v5, v6, .pointer (some ⟨nb, 1, none⟩), .int .u8 one, v7, v7, v8, .pointer (some ⟨nb, 2, none⟩), .int .u8 two, v9, undef, undef, undef, undef, undef, undef, undef, undef, undef, undef, undef], []⟩ rfl (by kernel_rfl) (by kernel_rfl) (by kernel_rfl) (fun _ _ _ h => h) (.inl ⟨by kernel_rfl, fun _ _ => by kernel_rfl⟩) sB (by kernel_rfl) ?_
  refine wpAnyH_done (by kernel_rfl) ?_ _
  clear sB
  go_upto_region 11 with (at_builtin; refine wpList_appS rfl _ _ rfl (m := [124]) H9 F9 rfl rfl (by simp only [List.length_append, padT_len, List.length_cons, List.length_nil]; omega) ?_; intro v10 W10 H10 F10; clear H9)
  by_cases h2 : 2 ≤ n
  · have h2' : (2 : Int) ≤ (n : Int) := by omega
    go_upto_region 13 with (first
      | (at_builtin; refine wpList_appS rfl _ _ rfl (m := [32, 120]) H10 F10 rfl rfl (by simp only [List.length_append, padT_len, List.length_cons, List.length_nil]; omega) ?_; intro v11 W11 H11 F11; clear H10)
      | (go_at_call 25; refine (appendInt_r (u := n) rfl hn (by simp only [List.length_append, padT_len, List.length_cons, List.length_nil]; omega) F11 H11 tab).mono ?_; rintro e W12 ⟨v12, ⟨H12, F12⟩, rfl⟩; clear H11))
    go_wp2_with (at_builtin; refine wpList_app1 rfl _ _ rfl (10 : UInt8) H12 F12 rfl rfl rfl (by simp only [List.length_append, padT_len, List.length_cons, List.length_nil]; omega) ?_; intro v13 W13 H13 F13; clear H12)
    go_ret
    refine ⟨v13, ⟨?_, F0.trans F13⟩, rfl⟩
    simpa only [recT, show flg ⟨bu, one, two, true, true⟩ = 3 from rfl, if_pos h2, List.append_assoc] using H13
  · have h2' : ¬ (2 : Int) ≤ (n : Int) := by omega
    go_upto_region 13 with fail
    go_wp2_with (at_builtin; refine wpList_app1 rfl _ _ rfl (10 : UInt8) H10 F10 rfl rfl rfl (by simp only [List.length_append, padT_len, List.length_cons, List.length_nil]; omega) ?_; intro v13 W13 H13 F13; clear H10)
    go_ret
    refine ⟨v13, ⟨?_, F0.trans F13⟩, rfl⟩
    simpa only [recT, show flg ⟨bu, one, two, true, true⟩ = 3 from rfl, if_neg h2, List.append_assoc, List.nil_append] using H13
theorem appendRecord_any (w : World) (base n : Nat) (v1 : Value) (l : List UInt8) (t : TuE) (hn : n ≤ 9223372036854775807) (hl : l.length ≤ 17592186040000) (hbase : base ≤ w.heap.size) (H : Txm w base v1 l) (ok : t.Ok)
    (htab : Lib.TabBelow Tryd.prog base w "internal/strconv.uint64pow10" .u64 Lib.pow10Tab) :
    Calls Tryd.prog 17 #[v1, .agg t.cells, .int .i64 (n : Int)] w fun e w' => ∃ v', (Txt w' base v' (l ++ recT t n) ∧ Fr base w w') ∧ e = .returned v' := by
  obtain ⟨bu, one, two, fl, rs⟩ := t
  cases rs <;> cases fl
  · exact appendRecord_ff w base n v1 l bu one two hn hl hbase H ok htab
  · exact appendRecord_ft w base n v1 l bu one two hn hl hbase H ok htab
  · exact appendRecord_tf w base n v1 l bu one two hn hl hbase H ok htab
  · exact appendRecord_tt w base n v1 l bu one two hn hl hbase H ok htab
end Go.Proofs.YtkebkbiabdlomaaDoor
