/-
  What clock of an MMC3 does; conditions: the block holds the kind's cells, the numbers fit their kinds, n is above 0.
-/
import Derived.Test.YtpdpfobhbafmcaaMClk2
import Derived.Test.YtpdpfobhbafmcaaMOpen
namespace Go.Proofs.Ytpdpfobhbafmcaa
open Go.RowKit Classical
theorem k4c_sub {w : World} {m : Nat} {b : Bd} (K : Blk w m (k4c b) 69) : w.cell? ⟨m, 0, none⟩ = some (.int .i64 b.sub) := (K.cell 0).trans rfl
set_option maxRecDepth 100000 in
theorem clock4_any (w : World) (m : Nat) (b : Bd) (n : Int) (B : b.Wf) (hn : 0 < n ∧ n ≤ 9223372036854775807) (K : Blk w m (k4c b) 69) :
    Calls Try.prog 65 #[.pointer (some ⟨m, 0, none⟩), .int .i64 n] w fun e w' => e = .returned (.tuple #[]) ∧ Below m w w' ∧ Blk w' m (k4c (clkB b n (b.sub == 4))) 69 := by
  have CC : Hid _ := cclock_any w.drew m b n (b.sub == 4) B hn K.drew
  have s0 : w.drew.cell? ⟨m, 0, none⟩ = some (.int .i64 b.sub) := k4c_sub K.drew
  clear B hn K
  go_enter Try.func65, Try.ntmps65
  go_upto_region 0 with fail
  refine wp_region_held (S := fun v => v.cell? ⟨m, 0, none⟩ = some (.int .i64 b.sub)) (by kernel_rfl) ?_
  refine takeH (i := 0) (v := .pointer (some ⟨m, 0, none⟩)) ⟨#[.pointer (some ⟨m, 0, none⟩), .int .i64 n, undef, undef, .pointer (some ⟨m, 0, none⟩), undef, undef, undef, undef, undef, undef, undef, undef, undef, undef], []⟩ rfl (by kernel_rfl) (by kernel_rfl) (by kernel_rfl) (fun _ _ _ h => h) (.inl ⟨by kernel_rfl, fun _ _ => by kernel_rfl⟩) s0 (by kernel_rfl) ?_
  refine takeH (i := 1) (v := .pointer (some ⟨m, 0, none⟩)) ⟨#[.pointer (some ⟨m, 0, none⟩), .int .i64 n, undef, undef, .pointer (some ⟨m, 0, none⟩), .pointer (some ⟨m, 0, none⟩), undef, undef, undef, undef, undef, undef, undef, undef, undef], []⟩ rfl (by kernel_rfl) (by kernel_rfl) (by kernel_rfl) (fun _ _ _ h => h) (.inl ⟨by kernel_rfl, fun _ _ => by kernel_rfl⟩) s0 (by kernel_rfl) ?_
  refine takeH (i := 2) (v := .pointer (some ⟨m, 18, none⟩)) ⟨#[.pointer (some ⟨m, 0, none⟩), .int .i64 n, undef, undef, .pointer (some ⟨m, 0, none⟩), .pointer (some ⟨m, 0, none⟩), .pointer (some ⟨m, 18, none⟩), undef, undef, undef, undef, undef, undef, undef, undef], []⟩ rfl (by kernel_rfl) (by kernel_rfl) (by kernel_rfl) (fun _ _ _ h => h) (.inl ⟨by kernel_rfl, fun _ _ => by kernel_rfl⟩) s0 (by kernel_rfl) ?_
  refine takeH (i := 3) (v := .int .i64 n) ⟨#[.pointer (some ⟨m, 0, none⟩), .int .i64 n, undef, undef, .pointer (some ⟨m, 0, none⟩), .pointer (some ⟨m, 0, none⟩), .pointer (some ⟨m, 18, none⟩), .int .i64 n, undef, undef, undef, undef, undef, undef, undef], []⟩ rfl (by kernel_rfl) (by kernel_rfl) (by kernel_rfl) (fun _ _ _ h => h) (.inl ⟨by kernel_rfl, fun _ _ => by kernel_rfl⟩) s0 (by kernel_rfl) ?_
  refine takeH (i := 4) (v := .pointer (some ⟨m, 0, none⟩)) ⟨#[.pointer (some ⟨m, 0, none⟩), .int .i64 n, undef, undef, .pointer (some ⟨m, 0, none⟩), .pointer (some ⟨m, 0, none⟩), .pointer (some ⟨m, 18, none⟩), .int .i64 n, .pointer (some ⟨m, 0, none⟩), undef, undef, undef, undef, undef, undef], []⟩ rfl (by kernel_rfl) (by kernel_rfl) (by kernel_rfl) (fun _ _ _ h => h) (.inl ⟨by kernel_rfl, fun _ _ => by kernel_rfl⟩) s0 (by kernel_rfl) ?_
  refine takeH (i := 5) (v := .pointer (some ⟨m, 0, none⟩)) ⟨#[.pointer (some ⟨m, 0, none⟩), .int .i64 n, undef, undef, .pointer (some ⟨m, 0, none⟩), .pointer (some ⟨m, 0, none⟩), .pointer (some ⟨m, 18, none⟩), .int .i64 n, .pointer (some ⟨m, 0, none⟩), .pointer (some ⟨m, 0, none⟩), undef, undef, undef, undef, undef], []⟩ rfl (by kernel_rfl) (by kernel_rfl) (by kernel_rfl) (fun _ _ _ h => h) (.inl ⟨by kernel_rfl, fun _ _ => by kernel_rfl⟩) s0 (by kernel_rfl) ?_
  refine takeH (i := 6) (v := .pointer (some ⟨m, 0, none⟩)) ⟨#[.pointer (some ⟨m, 0, none⟩), .int .i64 n, undef, undef, .pointer (some ⟨m, 0, none⟩), .pointer (some ⟨m, 0, none⟩), .pointer (some ⟨m, 18, none⟩), .int .i64 n, .pointer (some ⟨m, 0, none⟩), .pointer (some ⟨m, 0, none⟩), .pointer (some ⟨m, 0, none⟩), undef, undef, undef, undef], []⟩ rfl (by kernel_rfl) (by kernel_rfl) (by kernel_rfl) (fun _ _ _ h => h) (.inl ⟨by kernel_rfl, fun _ _ => by kernel_rfl⟩) s0 (by kernel_rfl) ?_
  refine takeH (i := 7) (v := .pointer (some ⟨m, 0, none⟩)) ⟨#[.pointer (some ⟨m, 0, none⟩), .int .i64 n, undef, undef, .pointer (some ⟨m, 0, none⟩), .pointer (some ⟨m, 0, none⟩), .pointer (some ⟨m, 18, none⟩), .int .i64 n, .pointer (some ⟨m, 0, none⟩), .pointer (some ⟨m, 0, none⟩), .pointer (some ⟨m, 0, none⟩), .pointer (some ⟨m, 0, none⟩), undef, undef, undef], []⟩ rfl (by kernel_rfl) (by kernel_rfl) (by kernel_rfl) (fun _ _ _ h => h) (.inl ⟨by kernel_rfl, fun _ _ => by kernel_rfl⟩) s0 (by kernel_rfl) ?_
  refine takeH (i := 8) (v := .int .i64 b.sub) ⟨#[.pointer (some ⟨m, 0, none⟩), .int .i64 n, undef, undef, .pointer (some ⟨m, 0, none⟩), .pointer (some ⟨m, 0, none⟩), .pointer (some ⟨m, 18, none⟩), .int .i64 n, .pointer (some ⟨m, 0, none⟩), .pointer (some ⟨m, 0, none⟩), .pointer (some ⟨m, 0, none⟩), .pointer (some ⟨m, 0, none⟩), .int .i64 b.sub, undef, undef], []⟩ rfl (by kernel_rfl) (by kernel_rfl) (by kernel_rfl) (fun _ _ _ h => h) (.inl ⟨by kernel_rfl, fun v hv => by have c : v.cell? ⟨m, 0, none⟩ = some (.int .i64 b.sub) := hv; go_simp⟩) s0 (by kernel_rfl) ?_
  refine takeH (i := 9) (v := .bool (b.sub == 4)) ⟨#[.pointer (some ⟨m, 0, none⟩), .int .i64 n, undef, undef, .pointer (some ⟨m, 0, none⟩), .pointer (some ⟨m, 0, none⟩), .pointer (some ⟨m, 18, none⟩), .int .i64 n, .pointer (some ⟨m, 0, none⟩), .pointer (some ⟨m, 0, none⟩), .pointer (some ⟨m, 0, none⟩), .pointer (some ⟨m, 0, none⟩), .int .i64 b.sub, .bool (b.sub == 4), undef], []⟩ rfl (by kernel_rfl) (by kernel_rfl) (by kernel_rfl) (fun _ _ _ h => h) (.inl ⟨by kernel_rfl, fun _ _ => by kernel_rfl⟩) s0 (by kernel_rfl) ?_
  refine wpAnyH_all (rs := [10]) (by kernel_rfl) (by simp) ?_
  intro i hi
  obtain rfl : i = 10 := by simpa using hi
  refine wpOp_contract (f := 72) rfl (by kernel_rfl) (by kernel_rfl) CC.out ⟨#[.pointer (some ⟨m, 0, none⟩), .int .i64 n, undef, undef, .pointer (some ⟨m, 0, none⟩), .pointer (some ⟨m, 0, none⟩), .pointer (some ⟨m, 18, none⟩), .int .i64 n, .pointer (some ⟨m, 0, none⟩), .pointer (some ⟨m, 0, none⟩), .pointer (some ⟨m, 0, none⟩), .pointer (some ⟨m, 0, none⟩), .int .i64 b.sub, .bool (b.sub == 4), .tuple #[]], []⟩ (by kernel_rfl) ?_
  rintro W1 ⟨hb, K1⟩
  refine ⟨(Blk.cell K1 0).trans rfl, ?_⟩
  refine wpAnyH_done (by kernel_rfl) ?_ _
  have KH : Hid (Blk W1 m (k4c (clkB b n (b.sub == 4))) 69) := K1
  clear K1 CC
  go_wp2
  go_end0
  exact ⟨rfl, ((Below.refl m w).drew).trans hb, KH.out⟩
end Go.Proofs.Ytpdpfobhbafmcaa
