/-
  What the document's same answers of two valid boards.
-/
import Derived.Test.YtggphgmpdanliaaYHand
import Derived.Test.YtggphgmpdanliaaYE
import Derived.Test.YtggphgmpdanliaaYI
set_option linter.unusedSimpArgs false
set_option linter.unusedVariables false
namespace Go.Proofs.Ytggphgmpdanliaa
open Go.RowKit Classical
theorem bankBA_in {b : Bd} (o : b.Ok) {x : Int} (h0 : 0 ≤ x) (h1 : x ≤ 3) : bankBA b x = bankB b x := by
  unfold bankBA
  exact if_pos ⟨o.val, h0, h1⟩
theorem chrBA_in {b : Bd} (o : b.Ok) {x : Int} (h0 : 0 ≤ x) (h1 : x ≤ 7) : chrBA b x = chrB b x := by
  unfold chrBA
  exact if_pos ⟨o.val, h0, h1⟩
theorem alikeB_iff (a b : Bd) : alikeB a b = true ↔ (∀ x : Int, 0 ≤ x → x ≤ 3 → bankB a x = bankB b x) ∧ ramB a = ramB b := by
  unfold alikeB
  simp only [Bool.and_eq_true, beq_iff_eq]
  constructor
  · rintro ⟨h, h0, h1, h2, h3⟩
    refine ⟨fun x l0 l1 => ?_, h⟩
    have : x = 0 ∨ x = 1 ∨ x = 2 ∨ x = 3 := by omega
    rcases this with rfl | rfl | rfl | rfl <;> assumption
  · rintro ⟨h, g⟩
    exact ⟨g, h 0 (by omega) (by omega), h 1 (by omega) (by omega), h 2 (by omega) (by omega), h 3 (by omega) (by omega)⟩
set_option maxRecDepth 100000 in
set_option maxHeartbeats 1000000 in
theorem rsame_any (w : World) (a b : Bd) (oa : a.Ok) (ob : b.Ok) :
    Calls Try.prog 45 #[.agg a.cells, .agg b.cells] w fun e w' => e = .returned (.bool (alikeB a b)) ∧ Below w.heap.size w w' := by
  have ra := oa.wf.rlen
  have rb := ob.wf.rlen
  have B1 : Hid _ := fun (W : World) (x : Int) (h0 : 0 ≤ x) (h1 : x ≤ 3) => (bankBA_in oa h0 h1) ▸ rbank_all W a x oa.wf
  have B2 : Hid _ := fun (W : World) (x : Int) (h0 : 0 ≤ x) (h1 : x ≤ 3) => (bankBA_in ob h0 h1) ▸ rbank_all W b x ob.wf
  have R1 : Hid _ := fun (W : World) => (show ramA a = ramB a from if_pos oa.val) ▸ rram_all W a oa.wf
  have R2 : Hid _ := fun (W : World) => (show ramA b = ramB b from if_pos ob.val) ▸ rram_all W b ob.wf
  have AI : Hid _ := alikeB_iff a b
  obtain ⟨al, hal⟩ : ∃ al, alikeB a b = al := ⟨_, rfl⟩
  rw [hal]
  rw [hal] at AI
  clear oa ob hal
  go_enter Try.func45, Try.ntmps45
  go_upto_region 1 with fail
  have s0 : St w [(w.heap.size, a), (w.heap.size + 1, b)] ((w.alloc (.cells a.cells 28)).alloc (.cells b.cells 28)) :=
    ⟨fun p hp => by
      simp only [List.mem_cons, List.not_mem_nil, or_false] at hp
      rcases hp with rfl | rfl
      · exact ⟨(Blk.new w _ _).old _, ra⟩
      · exact ⟨by have := Blk.new (w.alloc (.cells a.cells 28)) b.cells 28; rwa [World.size_alloc] at this, rb⟩, ((Below.refl _ _).alloc (Nat.le_refl _) _).alloc (by simp) _⟩
  change Code.wp _ _ _ _ ((w.alloc (.cells a.cells 28)).alloc (.cells b.cells 28))
  generalize ((w.alloc (.cells a.cells 28)).alloc (.cells b.cells 28)) = W0 at *
  go_wp2
  go_loopw [5] (fun i wr => ∃ k : Int, 0 ≤ k ∧ k ≤ 4 ∧ i = .int .i64 k ∧ (∀ x : Int, 0 ≤ x → x < k → bankB a x = bankB b x) ∧ St w [(w.heap.size, a), (w.heap.size + 1, b)] wr) (fun i _ => (4 - intOf i).toNat)
  case atStart => exact ⟨0, by omega, by omega, rfl, fun x h0 h1 => absurd h1 (by omega), s0⟩
  case round =>
    clear s0
    obtain ⟨k, k0, k1, rfl, hal, s0⟩ := hrel
    have HAL : Hid _ := hal
    clear hal
    by_cases hlt : k < 4
    · have hd : decide (k < 4) = true := decide_eq_true hlt
      have hk3 : k ≤ 3 := by omega
      go_upto_region 4 with fail
      replace s0 := s0.drew
      by_cases he : bankB a k = bankB b k
      · refine wp_region_held (S := St w [(w.heap.size, a), (w.heap.size + 1, b)]) (by kernel_rfl) ?_
        refine takeH (i := 0) (v := .agg (a).cells.toList.toArray) ⟨#[.agg a.cells, .agg b.cells, .pointer (some ⟨w.heap.size, 0, none⟩), .pointer (some ⟨w.heap.size + 1, 0, none⟩), u4, .int .i64 k, .int .i64 k, .bool true, u8, u9, .agg (a).cells, u11, u12, u13, u14, u15, u16, undef, undef, undef, undef, undef], []⟩ rfl (by kernel_rfl) (by kernel_rfl) (by kernel_rfl) (fun _ _ _ h => h) (yieldsIf_load_mid (by kernel_rfl) 28 (.tmp 2) rfl w.heap.size 0 (by kernel_rfl) (a).cells.toList _ (fun v hv => Blk.range (hv.blk w.heap.size a (by simp))) Try.underlying28 rfl (by rw [Array.length_toList]; exact infoB' a (s0.len w.heap.size a (by simp)))) s0 (by kernel_rfl) ?_
        refine takeH (i := 1) (v := .int .i64 k) ⟨#[.agg a.cells, .agg b.cells, .pointer (some ⟨w.heap.size, 0, none⟩), .pointer (some ⟨w.heap.size + 1, 0, none⟩), u4, .int .i64 k, .int .i64 k, .bool true, u8, u9, .agg (a).cells, .int .i64 k, u12, u13, u14, u15, u16, undef, undef, undef, undef, undef], []⟩ rfl (by kernel_rfl) (by kernel_rfl) (by kernel_rfl) (fun _ _ _ h => h) (.inl ⟨by kernel_rfl, fun _ _ => by kernel_rfl⟩) s0 (by kernel_rfl) ?_
        refine takeH (i := 3) (v := .agg (b).cells.toList.toArray) ⟨#[.agg a.cells, .agg b.cells, .pointer (some ⟨w.heap.size, 0, none⟩), .pointer (some ⟨w.heap.size + 1, 0, none⟩), u4, .int .i64 k, .int .i64 k, .bool true, u8, u9, .agg (a).cells, .int .i64 k, u12, .agg (b).cells, u14, u15, u16, undef, undef, undef, undef, undef], []⟩ rfl (by kernel_rfl) (by kernel_rfl) (by kernel_rfl) (fun _ _ _ h => h) (yieldsIf_load_mid (by kernel_rfl) 28 (.tmp 3) rfl (w.heap.size + 1) 0 (by kernel_rfl) (b).cells.toList _ (fun v hv => Blk.range (hv.blk (w.heap.size + 1) b (by simp))) Try.underlying28 rfl (by rw [Array.length_toList]; exact infoB' b (s0.len (w.heap.size + 1) b (by simp)))) s0 (by kernel_rfl) ?_
        refine takeH (i := 4) (v := .int .i64 k) ⟨#[.agg a.cells, .agg b.cells, .pointer (some ⟨w.heap.size, 0, none⟩), .pointer (some ⟨w.heap.size + 1, 0, none⟩), u4, .int .i64 k, .int .i64 k, .bool true, u8, u9, .agg (a).cells, .int .i64 k, u12, .agg (b).cells, .int .i64 k, u15, u16, undef, undef, undef, undef, undef], []⟩ rfl (by kernel_rfl) (by kernel_rfl) (by kernel_rfl) (fun _ _ _ h => h) (.inl ⟨by kernel_rfl, fun _ _ => by kernel_rfl⟩) s0 (by kernel_rfl) ?_
        refine wpAnyH_all (rs := [2]) (by kernel_rfl) (by simp) ?_
        intro i hi
        obtain rfl : i = 2 := by simpa using hi
        refine wpOp_contract (f := 29) rfl (by kernel_rfl) (by kernel_rfl) (B1.out _ k k0 hk3) ⟨#[.agg a.cells, .agg b.cells, .pointer (some ⟨w.heap.size, 0, none⟩), .pointer (some ⟨w.heap.size + 1, 0, none⟩), u4, .int .i64 k, .int .i64 k, .bool true, u8, u9, .agg (a).cells, .int .i64 k, .int .i64 (bankB a k), .agg (b).cells, .int .i64 k, u15, u16, undef, undef, undef, undef, undef], []⟩ (by kernel_rfl) ?_
        intro Wq1 hbq1
        have sq1 := s0.on hbq1
        clear hi hbq1
        refine ⟨sq1, ?_⟩
        refine wpAnyH_all (rs := [5]) (by kernel_rfl) (by simp) ?_
        intro i hi
        obtain rfl : i = 5 := by simpa using hi
        refine wpOp_contract (f := 29) rfl (by kernel_rfl) (by kernel_rfl) (B2.out _ k k0 hk3) ⟨#[.agg a.cells, .agg b.cells, .pointer (some ⟨w.heap.size, 0, none⟩), .pointer (some ⟨w.heap.size + 1, 0, none⟩), u4, .int .i64 k, .int .i64 k, .bool true, u8, u9, .agg (a).cells, .int .i64 k, .int .i64 (bankB a k), .agg (b).cells, .int .i64 k, .int .i64 (bankB b k), u16, undef, undef, undef, undef, undef], []⟩ (by kernel_rfl) ?_
        intro Wq2 hbq2
        have sq2 := sq1.on hbq2
        clear hi hbq2
        refine ⟨sq2, ?_⟩
        refine takeH (i := 6) (v := .bool false) ⟨#[.agg a.cells, .agg b.cells, .pointer (some ⟨w.heap.size, 0, none⟩), .pointer (some ⟨w.heap.size + 1, 0, none⟩), u4, .int .i64 k, .int .i64 k, .bool true, u8, u9, .agg (a).cells, .int .i64 k, .int .i64 (bankB a k), .agg (b).cells, .int .i64 k, .int .i64 (bankB b k), .bool false, undef, undef, undef, undef, undef], []⟩ rfl (by kernel_rfl) (by kernel_rfl) (by kernel_rfl) (fun _ _ _ h => h) (.inl ⟨by kernel_rfl, fun v _ => exec_neqI (a := bankB a k) (b := bankB b k) rfl (by kernel_rfl) (by kernel_rfl) Try.underlying3 (by simpa using he)⟩) sq2 (by kernel_rfl) ?_
        refine wpAnyH_done (by kernel_rfl) ?_ _
        have sH : Hid (St _ _ _) := sq2
        have HE : Hid _ := he
        clear sq2 he
        go_wp2
        go_roundw
        case rel => exact ⟨k + 1, by omega, by omega, by go_num, fun x h0 h1 => by
          by_cases hx : x = k
          · rw [hx]; exact HE.out
          · exact HAL.out x h0 (by omega), sH.out⟩
        case measure => simp [intOf]; omega
      · refine wp_region_held (S := St w [(w.heap.size, a), (w.heap.size + 1, b)]) (by kernel_rfl) ?_
        refine takeH (i := 0) (v := .agg (a).cells.toList.toArray) ⟨#[.agg a.cells, .agg b.cells, .pointer (some ⟨w.heap.size, 0, none⟩), .pointer (some ⟨w.heap.size + 1, 0, none⟩), u4, .int .i64 k, .int .i64 k, .bool true, u8, u9, .agg (a).cells, u11, u12, u13, u14, u15, u16, undef, undef, undef, undef, undef], []⟩ rfl (by kernel_rfl) (by kernel_rfl) (by kernel_rfl) (fun _ _ _ h => h) (yieldsIf_load_mid (by kernel_rfl) 28 (.tmp 2) rfl w.heap.size 0 (by kernel_rfl) (a).cells.toList _ (fun v hv => Blk.range (hv.blk w.heap.size a (by simp))) Try.underlying28 rfl (by rw [Array.length_toList]; exact infoB' a (s0.len w.heap.size a (by simp)))) s0 (by kernel_rfl) ?_
        refine takeH (i := 1) (v := .int .i64 k) ⟨#[.agg a.cells, .agg b.cells, .pointer (some ⟨w.heap.size, 0, none⟩), .pointer (some ⟨w.heap.size + 1, 0, none⟩), u4, .int .i64 k, .int .i64 k, .bool true, u8, u9, .agg (a).cells, .int .i64 k, u12, u13, u14, u15, u16, undef, undef, undef, undef, undef], []⟩ rfl (by kernel_rfl) (by kernel_rfl) (by kernel_rfl) (fun _ _ _ h => h) (.inl ⟨by kernel_rfl, fun _ _ => by kernel_rfl⟩) s0 (by kernel_rfl) ?_
        refine takeH (i := 3) (v := .agg (b).cells.toList.toArray) ⟨#[.agg a.cells, .agg b.cells, .pointer (some ⟨w.heap.size, 0, none⟩), .pointer (some ⟨w.heap.size + 1, 0, none⟩), u4, .int .i64 k, .int .i64 k, .bool true, u8, u9, .agg (a).cells, .int .i64 k, u12, .agg (b).cells, u14, u15, u16, undef, undef, undef, undef, undef], []⟩ rfl (by kernel_rfl) (by kernel_rfl) (by kernel_rfl) (fun _ _ _ h => h) (yieldsIf_load_mid (by kernel_rfl) 28 (.tmp 3) rfl (w.heap.size + 1) 0 (by kernel_rfl) (b).cells.toList _ (fun v hv => Blk.range (hv.blk (w.heap.size + 1) b (by simp))) Try.underlying28 rfl (by rw [Array.length_toList]; exact infoB' b (s0.len (w.heap.size + 1) b (by simp)))) s0 (by kernel_rfl) ?_
        refine takeH (i := 4) (v := .int .i64 k) ⟨#[.agg a.cells, .agg b.cells, .pointer (some ⟨w.heap.size, 0, none⟩), .pointer (some ⟨w.heap.size + 1, 0, none⟩), u4, .int .i64 k, .int .i64 k, .bool true, u8, u9, .agg (a).cells, .int .i64 k, u12, .agg (b).cells, .int .i64 k, u15, u16, undef, undef, undef, undef, undef], []⟩ rfl (by kernel_rfl) (by kernel_rfl) (by kernel_rfl) (fun _ _ _ h => h) (.inl ⟨by kernel_rfl, fun _ _ => by kernel_rfl⟩) s0 (by kernel_rfl) ?_
        refine wpAnyH_all (rs := [2]) (by kernel_rfl) (by simp) ?_
        intro i hi
        obtain rfl : i = 2 := by simpa using hi
        refine wpOp_contract (f := 29) rfl (by kernel_rfl) (by kernel_rfl) (B1.out _ k k0 hk3) ⟨#[.agg a.cells, .agg b.cells, .pointer (some ⟨w.heap.size, 0, none⟩), .pointer (some ⟨w.heap.size + 1, 0, none⟩), u4, .int .i64 k, .int .i64 k, .bool true, u8, u9, .agg (a).cells, .int .i64 k, .int .i64 (bankB a k), .agg (b).cells, .int .i64 k, u15, u16, undef, undef, undef, undef, undef], []⟩ (by kernel_rfl) ?_
        intro Wq1 hbq1
        have sq1 := s0.on hbq1
        clear hi hbq1
        refine ⟨sq1, ?_⟩
        refine wpAnyH_all (rs := [5]) (by kernel_rfl) (by simp) ?_
        intro i hi
        obtain rfl : i = 5 := by simpa using hi
        refine wpOp_contract (f := 29) rfl (by kernel_rfl) (by kernel_rfl) (B2.out _ k k0 hk3) ⟨#[.agg a.cells, .agg b.cells, .pointer (some ⟨w.heap.size, 0, none⟩), .pointer (some ⟨w.heap.size + 1, 0, none⟩), u4, .int .i64 k, .int .i64 k, .bool true, u8, u9, .agg (a).cells, .int .i64 k, .int .i64 (bankB a k), .agg (b).cells, .int .i64 k, .int .i64 (bankB b k), u16, undef, undef, undef, undef, undef], []⟩ (by kernel_rfl) ?_
        intro Wq2 hbq2
        have sq2 := sq1.on hbq2
        clear hi hbq2
        refine ⟨sq2, ?_⟩
        refine takeH (i := 6) (v := .bool true) ⟨#[.agg a.cells, .agg b.cells, .pointer (some ⟨w.heap.size, 0, none⟩), .pointer (some ⟨w.heap.size + 1, 0, none⟩), u4, .int .i64 k, .int .i64 k, .bool true, u8, u9, .agg (a).cells, .int .i64 k, .int .i64 (bankB a k), .agg (b).cells, .int .i64 k, .int .i64 (bankB b k), .bool true, undef, undef, undef, undef, undef], []⟩ rfl (by kernel_rfl) (by kernel_rfl) (by kernel_rfl) (fun _ _ _ h => h) (.inl ⟨by kernel_rfl, fun v _ => exec_neqI (a := bankB a k) (b := bankB b k) rfl (by kernel_rfl) (by kernel_rfl) Try.underlying3 (by simpa using he)⟩) sq2 (by kernel_rfl) ?_
        refine wpAnyH_done (by kernel_rfl) ?_ _
        have sH : Hid (St _ _ _) := sq2
        have Z : Hid (al = false) := by
          unfold Hid
          cases al
          · rfl
          · exact absurd ((AI.out.1 rfl).1 k k0 hk3) he
        clear sq2 he
        go_wp2
        go_ret
        exact ⟨by rw [Z.out]; rfl, sH.out.2⟩
    · have hk : k = 4 := by omega
      subst hk
      clear hlt k0 k1
      go_upto_region 6 with fail
      replace s0 := s0.drew
      by_cases he : ramB a = ramB b
      · refine wp_region_held (S := St w [(w.heap.size, a), (w.heap.size + 1, b)]) (by kernel_rfl) ?_
        refine takeH (i := 0) (v := .agg (a).cells.toList.toArray) ⟨#[.agg a.cells, .agg b.cells, .pointer (some ⟨w.heap.size, 0, none⟩), .pointer (some ⟨w.heap.size + 1, 0, none⟩), u4, .int .i64 4, .int .i64 4, .bool false, u8, u9, u10, u11, u12, u13, u14, u15, u16, .agg (a).cells, undef, undef, undef, undef], []⟩ rfl (by kernel_rfl) (by kernel_rfl) (by kernel_rfl) (fun _ _ _ h => h) (yieldsIf_load_mid (by kernel_rfl) 28 (.tmp 2) rfl w.heap.size 0 (by kernel_rfl) (a).cells.toList _ (fun v hv => Blk.range (hv.blk w.heap.size a (by simp))) Try.underlying28 rfl (by rw [Array.length_toList]; exact infoB' a (s0.len w.heap.size a (by simp)))) s0 (by kernel_rfl) ?_
        refine takeH (i := 2) (v := .agg (b).cells.toList.toArray) ⟨#[.agg a.cells, .agg b.cells, .pointer (some ⟨w.heap.size, 0, none⟩), .pointer (some ⟨w.heap.size + 1, 0, none⟩), u4, .int .i64 4, .int .i64 4, .bool false, u8, u9, u10, u11, u12, u13, u14, u15, u16, .agg (a).cells, undef, .agg (b).cells, undef, undef], []⟩ rfl (by kernel_rfl) (by kernel_rfl) (by kernel_rfl) (fun _ _ _ h => h) (yieldsIf_load_mid (by kernel_rfl) 28 (.tmp 3) rfl (w.heap.size + 1) 0 (by kernel_rfl) (b).cells.toList _ (fun v hv => Blk.range (hv.blk (w.heap.size + 1) b (by simp))) Try.underlying28 rfl (by rw [Array.length_toList]; exact infoB' b (s0.len (w.heap.size + 1) b (by simp)))) s0 (by kernel_rfl) ?_
        refine wpAnyH_all (rs := [1]) (by kernel_rfl) (by simp) ?_
        intro i hi
        obtain rfl : i = 1 := by simpa using hi
        refine wpOp_contract (f := 54) rfl (by kernel_rfl) (by kernel_rfl) (R1.out _) ⟨#[.agg a.cells, .agg b.cells, .pointer (some ⟨w.heap.size, 0, none⟩), .pointer (some ⟨w.heap.size + 1, 0, none⟩), u4, .int .i64 4, .int .i64 4, .bool false, u8, u9, u10, u11, u12, u13, u14, u15, u16, .agg (a).cells, .int .i64 (ramB a), .agg (b).cells, undef, undef], []⟩ (by kernel_rfl) ?_
        intro Wq1 hbq1
        have sq1 := s0.on hbq1
        clear hi hbq1
        refine ⟨sq1, ?_⟩
        refine wpAnyH_all (rs := [3]) (by kernel_rfl) (by simp) ?_
        intro i hi
        obtain rfl : i = 3 := by simpa using hi
        refine wpOp_contract (f := 54) rfl (by kernel_rfl) (by kernel_rfl) (R2.out _) ⟨#[.agg a.cells, .agg b.cells, .pointer (some ⟨w.heap.size, 0, none⟩), .pointer (some ⟨w.heap.size + 1, 0, none⟩), u4, .int .i64 4, .int .i64 4, .bool false, u8, u9, u10, u11, u12, u13, u14, u15, u16, .agg (a).cells, .int .i64 (ramB a), .agg (b).cells, .int .i64 (ramB b), undef], []⟩ (by kernel_rfl) ?_
        intro Wq2 hbq2
        have sq2 := sq1.on hbq2
        clear hi hbq2
        refine ⟨sq2, ?_⟩
        refine takeH (i := 4) (v := .bool true) ⟨#[.agg a.cells, .agg b.cells, .pointer (some ⟨w.heap.size, 0, none⟩), .pointer (some ⟨w.heap.size + 1, 0, none⟩), u4, .int .i64 4, .int .i64 4, .bool false, u8, u9, u10, u11, u12, u13, u14, u15, u16, .agg (a).cells, .int .i64 (ramB a), .agg (b).cells, .int .i64 (ramB b), .bool true], []⟩ rfl (by kernel_rfl) (by kernel_rfl) (by kernel_rfl) (fun _ _ _ h => h) (.inl ⟨by kernel_rfl, fun v _ => exec_eqlI (a := ramB a) (b := ramB b) rfl (by kernel_rfl) (by kernel_rfl) Try.underlying3 (by simpa using he)⟩) sq2 (by kernel_rfl) ?_
        refine takeH (i := 5) (v := .bool true) ⟨#[.agg a.cells, .agg b.cells, .pointer (some ⟨w.heap.size, 0, none⟩), .pointer (some ⟨w.heap.size + 1, 0, none⟩), .bool true, .int .i64 4, .int .i64 4, .bool false, u8, u9, u10, u11, u12, u13, u14, u15, u16, .agg (a).cells, .int .i64 (ramB a), .agg (b).cells, .int .i64 (ramB b), .bool true], []⟩ rfl (by kernel_rfl) (by kernel_rfl) (by kernel_rfl) (fun _ _ _ h => h) (.inl ⟨by kernel_rfl, fun _ _ => by kernel_rfl⟩) sq2 (by kernel_rfl) ?_
        refine wpAnyH_done (by kernel_rfl) ?_ _
        have sH : Hid (St _ _ _) := sq2
        have Z : Hid (al = true) := AI.out.2 ⟨fun x h0 h1 => HAL.out x h0 (by omega), he⟩
        clear sq2 he
        go_wp2
        go_ret
        exact ⟨by rw [Z.out]; rfl, sH.out.2⟩
      · refine wp_region_held (S := St w [(w.heap.size, a), (w.heap.size + 1, b)]) (by kernel_rfl) ?_
        refine takeH (i := 0) (v := .agg (a).cells.toList.toArray) ⟨#[.agg a.cells, .agg b.cells, .pointer (some ⟨w.heap.size, 0, none⟩), .pointer (some ⟨w.heap.size + 1, 0, none⟩), u4, .int .i64 4, .int .i64 4, .bool false, u8, u9, u10, u11, u12, u13, u14, u15, u16, .agg (a).cells, undef, undef, undef, undef], []⟩ rfl (by kernel_rfl) (by kernel_rfl) (by kernel_rfl) (fun _ _ _ h => h) (yieldsIf_load_mid (by kernel_rfl) 28 (.tmp 2) rfl w.heap.size 0 (by kernel_rfl) (a).cells.toList _ (fun v hv => Blk.range (hv.blk w.heap.size a (by simp))) Try.underlying28 rfl (by rw [Array.length_toList]; exact infoB' a (s0.len w.heap.size a (by simp)))) s0 (by kernel_rfl) ?_
        refine takeH (i := 2) (v := .agg (b).cells.toList.toArray) ⟨#[.agg a.cells, .agg b.cells, .pointer (some ⟨w.heap.size, 0, none⟩), .pointer (some ⟨w.heap.size + 1, 0, none⟩), u4, .int .i64 4, .int .i64 4, .bool false, u8, u9, u10, u11, u12, u13, u14, u15, u16, .agg (a).cells, undef, .agg (b).cells, undef, undef], []⟩ rfl (by kernel_rfl) (by kernel_rfl) (by kernel_rfl) (fun _ _ _ h => h) (yieldsIf_load_mid (by kernel_rfl) 28 (.tmp 3) rfl (w.heap.size + 1) 0 (by kernel_rfl) (b).cells.toList _ (fun v hv => Blk.range (hv.blk (w.heap.size + 1) b (by simp))) Try.underlying28 rfl (by rw [Array.length_toList]; exact infoB' b (s0.len (w.heap.size + 1) b (by simp)))) s0 (by kernel_rfl) ?_
        refine wpAnyH_all (rs := [1]) (by kernel_rfl) (by simp) ?_
        intro i hi
        obtain rfl : i = 1 := by simpa using hi
        refine wpOp_contract (f := 54) rfl (by kernel_rfl) (by kernel_rfl) (R1.out _) ⟨#[.agg a.cells, .agg b.cells, .pointer (some ⟨w.heap.size, 0, none⟩), .pointer (some ⟨w.heap.size + 1, 0, none⟩), u4, .int .i64 4, .int .i64 4, .bool false, u8, u9, u10, u11, u12, u13, u14, u15, u16, .agg (a).cells, .int .i64 (ramB a), .agg (b).cells, undef, undef], []⟩ (by kernel_rfl) ?_
        intro Wq1 hbq1
        have sq1 := s0.on hbq1
        clear hi hbq1
        refine ⟨sq1, ?_⟩
        refine wpAnyH_all (rs := [3]) (by kernel_rfl) (by simp) ?_
        intro i hi
        obtain rfl : i = 3 := by simpa using hi
        refine wpOp_contract (f := 54) rfl (by kernel_rfl) (by kernel_rfl) (R2.out _) ⟨#[.agg a.cells, .agg b.cells, .pointer (some ⟨w.heap.size, 0, none⟩), .pointer (some ⟨w.heap.size + 1, 0, none⟩), u4, .int .i64 4, .int .i64 4, .bool false, u8, u9, u10, u11, u12, u13, u14, u15, u16, .agg (a).cells, .int .i64 (ramB a), .agg (b).cells, .int .i64 (ramB b), undef], []⟩ (by kernel_rfl) ?_
        intro Wq2 hbq2
        have sq2 := sq1.on hbq2
        clear hi hbq2
        refine ⟨sq2, ?_⟩
        refine takeH (i := 4) (v := .bool false) ⟨#[.agg a.cells, .agg b.cells, .pointer (some ⟨w.heap.size, 0, none⟩), .pointer (some ⟨w.heap.size + 1, 0, none⟩), u4, .int .i64 4, .int .i64 4, .bool false, u8, u9, u10, u11, u12, u13, u14, u15, u16, .agg (a).cells, .int .i64 (ramB a), .agg (b).cells, .int .i64 (ramB b), .bool false], []⟩ rfl (by kernel_rfl) (by kernel_rfl) (by kernel_rfl) (fun _ _ _ h => h) (.inl ⟨by kernel_rfl, fun v _ => exec_eqlI (a := ramB a) (b := ramB b) rfl (by kernel_rfl) (by kernel_rfl) Try.underlying3 (by simpa using he)⟩) sq2 (by kernel_rfl) ?_
        refine takeH (i := 5) (v := .bool false) ⟨#[.agg a.cells, .agg b.cells, .pointer (some ⟨w.heap.size, 0, none⟩), .pointer (some ⟨w.heap.size + 1, 0, none⟩), .bool false, .int .i64 4, .int .i64 4, .bool false, u8, u9, u10, u11, u12, u13, u14, u15, u16, .agg (a).cells, .int .i64 (ramB a), .agg (b).cells, .int .i64 (ramB b), .bool false], []⟩ rfl (by kernel_rfl) (by kernel_rfl) (by kernel_rfl) (fun _ _ _ h => h) (.inl ⟨by kernel_rfl, fun _ _ => by kernel_rfl⟩) sq2 (by kernel_rfl) ?_
        refine wpAnyH_done (by kernel_rfl) ?_ _
        have sH : Hid (St _ _ _) := sq2
        have Z : Hid (al = false) := by
          unfold Hid
          cases al
          · rfl
          · exact absurd (AI.out.1 rfl).2 he
        clear sq2 he
        go_wp2
        go_ret
        exact ⟨by rw [Z.out]; rfl, sH.out.2⟩
end Go.Proofs.Ytggphgmpdanliaa
