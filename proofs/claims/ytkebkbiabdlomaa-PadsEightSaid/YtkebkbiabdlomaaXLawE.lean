/-
  The law PadsEight returns true; conditions: those of the lists.
-/
import Derived.Test.YtkebkbiabdlomaaXSt
import Derived.Test.YtkebkbiabdlomaaXArg
import Derived.Test.YtkebkbiabdlomaaXPort
import Derived.Test.YtkebkbiabdlomaaXBit
import Derived.Test.YtkebkbiabdlomaaXShf
import Derived.StillTailTactics
set_option linter.unusedSimpArgs false
set_option linter.unusedVariables false
namespace Go.Proofs.Ytkebkbiabdlomaa
open Go.RowKit Classical
set_option maxRecDepth 100000 in
set_option maxHeartbeats 4000000 in
theorem law_padsEight (one two up down : Int) (a1 : Option Addr) (len1 cap1 : Nat) (q1 : Nat → Int) (b1 o1 : Nat) (a2 : Option Addr) (len2 cap2 : Nat) (q2 : Nat → Int) (b2 o2 : Nat) (w : World)
    (w1 : 0 ≤ one ∧ one ≤ 255) (w2 : 0 ≤ two ∧ two ≤ 255) (w3 : 0 ≤ up ∧ up ≤ 255) (w4 : 0 ≤ down ∧ down ≤ 255) (hlen1 : len1 ≤ 9223372036854775807) (hS1 : U8s w a1 len1 q1 b1 o1) (hlen2 : len2 ≤ 9223372036854775807) (hS2 : U8s w a2 len2 q2 b2 o2) :
    Calls Try.prog 3 #[.int .u8 one, .int .u8 two, .int .u8 up, .int .u8 down, .slice a1 len1 cap1, .slice a2 len2 cap2] w fun e w' => e = .returned (.bool true) ∧ Below w.heap.size w w' := by
  have x3 := or1 up w3.1 w3.2
  have x4 := not1 down w4.1 w4.2
  have hs : Hid (∀ W : World, Calls Try.prog 6 #[.agg #[.bool false, .int .u8 0, .int .u8 0, .int .u8 0, .int .u8 0], .int .u8 one, .int .u8 two] W fun e w' => e = .returned (.agg (Pd.cells ⟨false, one, two, 0, 0⟩)) ∧ Below W.heap.size W w') := fun W => set_any zeroP one two W
  have hw1 : Hid (∀ W : World, Calls Try.prog 7 #[.agg (Pd.cells ⟨false, one, two, 0, 0⟩), .int .u8 (up / 2 * 2 + 1)] W fun e w' => e = .returned (.agg (Pd.cells ⟨true, one, two, one, two⟩)) ∧ Below W.heap.size W w') := fun W => by
    have h := wr_any ⟨false, one, two, 0, 0⟩ (up / 2 * 2 + 1) W (by omega) (by omega)
    have e : Pd.wr ⟨false, one, two, 0, 0⟩ (up / 2 * 2 + 1) = ⟨true, one, two, one, two⟩ := by
      have e1 : (up / 2 * 2 + 1) % 2 = 1 := by omega
      simp only [Pd.wr, e1, decide_true, Bool.or_true, if_true]
    rw [e] at h
    exact h
  have hw2 : Hid (∀ W : World, Calls Try.prog 7 #[.agg (Pd.cells ⟨true, one, two, one, two⟩), .int .u8 (down / 2 * 2)] W fun e w' => e = .returned (.agg (Pd.cells ⟨false, one, two, one, two⟩)) ∧ Below W.heap.size W w') := fun W => by
    have h := wr_any ⟨true, one, two, one, two⟩ (down / 2 * 2) W (by omega) (by omega)
    have e : Pd.wr ⟨true, one, two, one, two⟩ (down / 2 * 2) = ⟨false, one, two, one, two⟩ := by
      have e1 : ¬ (down / 2 * 2) % 2 = 1 := by omega
      simp only [Pd.wr, decide_eq_false e1, Bool.or_false, if_true]
    rw [e] at h
    exact h
  go_enter Try.func3, Try.ntmps3
  go_upto_region 1 with fail
  have s0 : St w [] w := ⟨fun p hp => absurd hp (by simp), Below.refl _ _⟩
  go_upto_region 2 with (first
    | (go_at_call 6; refine (hs.out _).mono ?_; rintro e Wx ⟨rfl, hbx⟩; replace s0 := s0.on hbx; clear hbx)
    | (refine wpList_store_blk rfl 25 _ _ rfl Wx.heap.size zeroP.cells (Pd.cells ⟨false, one, two, 0, 0⟩) 25 rfl rfl (Blk.new Wx _ _) rfl (infoP' _) (Pd.cells_one _) w.heap.size w s0.2.size (s0.2.alloc s0.2.size _) ?_; intro Wy by1 hby hoy; have hmB : w.heap.size ≤ Wx.heap.size := s0.2.size; replace s0 := St.more s0 by1 hby hoy; clear by1 hby hoy))
  generalize Wx.heap.size = m at *
  have hm : Hid (w.heap.size ≤ m) := hmB
  go_upto_region 3 with (first
    | (refine wpList_load_blk rfl 25 _ rfl (m) rfl (Pd.cells ⟨false, one, two, 0, 0⟩) _ (s0.blk (m) ⟨false, one, two, 0, 0⟩ (by simp)) Try.underlying25 rfl (infoP' _) ?_)
    | (go_at_call 7; refine (hw1.out _).mono ?_; rintro e Wx ⟨rfl, hbx⟩; replace s0 := s0.on hbx; clear hbx)
    | (refine wpList_store_blk rfl 25 _ _ rfl (m) _ (Pd.cells ⟨true, one, two, one, two⟩) 25 rfl rfl (s0.blk (m) _ (List.mem_cons_self ..)) rfl (infoP' _) (Pd.cells_one _) w.heap.size w hm.out s0.2 ?_; intro Wy by1 hby hoy; replace s0 := St.sto s0 (by simp) by1 hby hoy; clear by1 hby hoy))
  go_upto_region 4 with (first
    | (refine wpList_load_blk rfl 25 _ rfl (m) rfl (Pd.cells ⟨true, one, two, one, two⟩) _ (s0.blk (m) ⟨true, one, two, one, two⟩ (by simp)) Try.underlying25 rfl (infoP' _) ?_)
    | (go_at_call 7; refine (hw2.out _).mono ?_; rintro e Wx ⟨rfl, hbx⟩; replace s0 := s0.on hbx; clear hbx)
    | (refine wpList_store_blk rfl 25 _ _ rfl (m) _ (Pd.cells ⟨false, one, two, one, two⟩) 25 rfl rfl (s0.blk (m) _ (List.mem_cons_self ..)) rfl (infoP' _) (Pd.cells_one _) w.heap.size w hm.out s0.2 ?_; intro Wy by1 hby hoy; replace s0 := St.sto s0 (by simp) by1 hby hoy; clear by1 hby hoy))
  clear x3 x4 hs hw1 hw2
  have hm4 : m < Wy.heap.size := (s0.blk m _ (List.mem_cons_self ..)).lt
  go_upto_region 7 with fail
  replace s0 := below_two s0 (.cells #[.int .i64 0, .int .i64 0] 28) (.cells #[.int .u8 one, .int .u8 two] 23)
  have bk : Blk ((Wy.alloc (.cells #[.int .i64 0, .int .i64 0] 28)).alloc (.cells #[.int .u8 one, .int .u8 two] 23)) Wy.heap.size #[.int .i64 0, .int .i64 0] 28 := (Blk.new Wy _ _).old _
  have bh : Blk ((Wy.alloc (.cells #[.int .i64 0, .int .i64 0] 28)).alloc (.cells #[.int .u8 one, .int .u8 two] 23)) (Wy.heap.size + 1) #[.int .u8 one, .int .u8 two] 23 := by
    have := Blk.new (Wy.alloc (.cells #[.int .i64 0, .int .i64 0] 28)) #[.int .u8 one, .int .u8 two] 23
    rwa [World.size_alloc] at this
  change Code.wp _ _ _ _ ((Wy.alloc (.cells #[.int .i64 0, .int .i64 0] 28)).alloc (.cells #[.int .u8 one, .int .u8 two] 23))
  generalize (Wy.alloc (.cells #[.int .i64 0, .int .i64 0] 28)).alloc (.cells #[.int .u8 one, .int .u8 two] 23) = W0 at *
  generalize Wy.heap.size = m4 at *
  go_loopw [16] (fun i wr => ∃ (k n0 n1 : Nat) (h0 h1 : Int), k ≤ len2 ∧ i = .int .i64 k ∧ n0 + n1 = k ∧ (0 ≤ h0 ∧ h0 ≤ 255) ∧ (0 ≤ h1 ∧ h1 ≤ 255) ∧ (k = 0 → h0 = one ∧ h1 = two) ∧ St w [(m, ⟨false, h0, h1, shf one n0, shf two n1⟩)] wr ∧ Blk wr m4 #[.int .i64 (n0 : Nat), .int .i64 (n1 : Nat)] 28 ∧ Blk wr (m4 + 1) #[.int .u8 one, .int .u8 two] 23) (fun i _ => len2 - (intOf i).toNat)
  case atStart => exact ⟨0, 0, 0, one, two, by omega, rfl, rfl, w1, w2, fun _ => ⟨rfl, rfl⟩, s0, bk, bh⟩
  case round =>
    clear s0 bk bh
    obtain ⟨k, n0, n1, h0, h1, hk, rfl, hnn, v0, v1, hz, s0, bk, bh⟩ := hrel
    by_cases hlt : k < len2
    · clear hz
      obtain ⟨rfl, hb2⟩ := hS2.at_ (by omega)
      have hSH2 : Hid (U8s _ _ _ _ _ _) := hS2
      have hSH1 : Hid (U8s _ _ _ _ _ _) := hS1
      have HN : Hid (n0 + n1 = k) := hnn
      clear hS1 hS2 hnn
      go_upto_if 44 with fail
      go_cut [] (fun wx => ∃ (h0 h1 : Int), (0 ≤ h0 ∧ h0 ≤ 255) ∧ (0 ≤ h1 ∧ h1 ≤ 255) ∧ St w [(m, ⟨false, h0, h1, shf one n0, shf two n1⟩)] wx ∧ Blk wx m4 #[.int .i64 (n0 : Nat), .int .i64 (n1 : Nat)] 28 ∧ Blk wx (m4 + 1) #[.int .u8 one, .int .u8 two] 23)
      case first =>
        by_cases hl1 : k < len1
        · obtain ⟨rfl, hb1⟩ := hSH1.out.at_ (by omega)
          obtain ⟨x, ex⟩ : ∃ x, q1 k = x := ⟨_, rfl⟩
          obtain ⟨y0, y1⟩ := hSH1.out.ok k hl1
          have hx : wr.cell? ⟨b1, o1 + k, none⟩ = some (.int .u8 x) := (s0.2.cell (p := ⟨b1, o1 + k, none⟩) hb1).trans ((hSH1.out.cells k hl1).trans (by rw [ex]))
          rw [ex] at y0 y1
          clear ex
          obtain ⟨y, ey, y2, y3⟩ := xor90 x y0 y1
          have hset : Hid (∀ W : World, Calls Try.prog 6 #[.agg (Pd.cells ⟨false, h0, h1, shf one n0, shf two n1⟩), .int .u8 x, .int .u8 y] W fun e w' => e = .returned (.agg (Pd.cells ⟨false, x, y, shf one n0, shf two n1⟩)) ∧ Below W.heap.size W w') := fun W => set_any _ x y W
          generalize shf one n0 = A at *
          generalize shf two n1 = C at *
          have c0 : wr.cell? ⟨m, 0, none⟩ = some (.bool false) := (s0.blk m _ (List.mem_cons_self ..)).cell 0
          have c1 : wr.cell? ⟨m, 1, none⟩ = some (.int .u8 h0) := (s0.blk m _ (List.mem_cons_self ..)).cell 1
          have c2 : wr.cell? ⟨m, 2, none⟩ = some (.int .u8 h1) := (s0.blk m _ (List.mem_cons_self ..)).cell 2
          have c3 : wr.cell? ⟨m, 3, none⟩ = some (.int .u8 A) := (s0.blk m _ (List.mem_cons_self ..)).cell 3
          have c4 : wr.cell? ⟨m, 4, none⟩ = some (.int .u8 C) := (s0.blk m _ (List.mem_cons_self ..)).cell 4
          go_upto_region 10 with fail
          go_still_tail 10, (by kernel_rfl)
          clear c0 c1 c2 c3 c4 ey hx
          replace s0 := s0.drew
          replace bk := bk.drew
          replace bh := bh.drew
          go_wp2_with (first
            | (go_at_call 6; refine (hset.out _).mono ?_; rintro e Wx ⟨rfl, hbx⟩; replace s0 := s0.on hbx; replace bk := bk.below bk.lt hbx; replace bh := bh.below bh.lt hbx; clear hbx)
            | (refine wpList_store_blk rfl 25 _ _ rfl (m) _ (Pd.cells ⟨false, x, y, A, C⟩) 25 rfl rfl (s0.blk (m) _ (List.mem_cons_self ..)) rfl (infoP' _) (Pd.cells_one _) w.heap.size w hm.out s0.2 ?_; intro Wy by1 hby hoy; replace bk := hoy _ _ _ (by omega) bk; replace bh := hoy _ _ _ (by omega) bh; replace s0 := St.sto s0 (by simp) by1 hby hoy; clear by1 hby hoy))
          go_meet
          exact ⟨x, y, ⟨y0, y1⟩, ⟨y2, y3⟩, s0, bk, bh⟩
        · go_wp2
          go_meet
          exact ⟨h0, h1, v0, v1, s0, bk, bh⟩
      case rest =>
        clear s0 bk bh v0 v1
        obtain ⟨h0, h1, v0, v1, s0, bk, bh⟩ := hcut
        obtain ⟨x, ex⟩ : ∃ x, q2 k = x := ⟨_, rfl⟩
        obtain ⟨y0, y1⟩ := hSH2.out.ok k hlt
        have hx : _ = some (Value.int .u8 x) := (s0.2.cell (p := ⟨b2, o2 + k, none⟩) hb2).trans ((hSH2.out.cells k hlt).trans (by rw [ex]))
        rw [ex] at y0 y1
        clear ex
        have xa := and1 x y0 y1
        have hk9 : (k : Int) + 1 ≤ 9223372036854775807 := by omega
        have A9 := shf_ok one w1 n0
        have C9 := shf_ok two w2 n1
        have N0 : (n0 : Int) + 1 ≤ 9223372036854775807 := by have := HN.out; omega
        have N1 : (n1 : Int) + 1 ≤ 9223372036854775807 := by have := HN.out; omega
        have HK : Hid (k + 1 ≤ len2) := by unfold Hid; omega
        rcases (show x % 2 = 0 ∨ x % 2 = 1 by omega) with e | e
        all_goals rw [e] at xa
        all_goals clear e y0 y1
        · have hr : Hid (∀ W : World, Calls Try.prog 8 #[.agg (Pd.cells ⟨false, h0, h1, shf one n0, shf two n1⟩), .int .i64 0] W fun e w' => e = .returned (.tuple #[.int .u8 (shf one n0 % 2), .agg (Pd.cells ⟨false, h0, h1, shf one n0 / 2 + 128, shf two n1⟩)]) ∧ Below W.heap.size W w') := fun W => rd_any ⟨false, h0, h1, shf one n0, shf two n1⟩ 0 W ⟨v0.1, v0.2, v1.1, v1.2, A9.1, A9.2, C9.1, C9.2⟩
          have ZH : Hid (((n0 : Nat) < 8 → shf one n0 % 2 = one / 2 ^ n0 % 2) ∧ (8 ≤ n0 → shf one n0 % 2 = 1)) := by
            unfold Hid
            refine ⟨fun h => ?_, fun h => by rw [shf_high one w1 n0 h]; rfl⟩
            obtain ⟨a0, a1, a2, a3, a4, a5, a6, a7⟩ := shf_low one w1
            rcases (show n0 = 0 ∨ n0 = 1 ∨ n0 = 2 ∨ n0 = 3 ∨ n0 = 4 ∨ n0 = 5 ∨ n0 = 6 ∨ n0 = 7 by omega) with h | h | h | h | h | h | h | h <;> subst h
            · simpa using a0
            · simpa using a1
            · simpa using a2
            · simpa using a3
            · simpa using a4
            · simpa using a5
            · simpa using a6
            · simpa using a7
          have zb : 0 ≤ shf one n0 % 2 ∧ shf one n0 % 2 ≤ 1 := by omega
          generalize hzz : shf one n0 % 2 = z at *
          clear hzz
          go_upto_region 13 with fail
          clear hx xa
          go_upto_region 15 with (first
            | (refine wpList_load_blk rfl 25 _ rfl (m) rfl (Pd.cells ⟨false, h0, h1, shf one n0, shf two n1⟩) _ (s0.blk (m) ⟨false, h0, h1, shf one n0, shf two n1⟩ (by simp)) Try.underlying25 rfl (infoP' _) ?_)
            | (go_at_call 8; refine (hr.out _).mono ?_; rintro e Wx ⟨rfl, hbx⟩; replace s0 := s0.on hbx; replace bk := bk.below bk.lt hbx; replace bh := bh.below bh.lt hbx; clear hbx)
            | (refine wpList_store_blk rfl 25 _ _ rfl (m) _ (Pd.cells ⟨false, h0, h1, shf one n0 / 2 + 128, shf two n1⟩) 25 rfl rfl (s0.blk (m) _ (List.mem_cons_self ..)) rfl (infoP' _) (Pd.cells_one _) w.heap.size w hm.out s0.2 ?_; intro Wy by1 hby hoy; replace bk := hoy _ _ _ (by omega) bk; replace bh := hoy _ _ _ (by omega) bh; replace s0 := St.sto s0 (by simp) by1 hby hoy; clear by1 hby hoy))
          clear hr
          have g : _ = some (Value.int .i64 (n0 : Nat)) := bk.cell 0
          go_upto_if 71 with fail
          go_cut [19] (fun y wx => y = .int .u8 z ∧ St w [(m, ⟨false, h0, h1, shf one n0 / 2 + 128, shf two n1⟩)] wx ∧ Blk wx m4 #[.int .i64 (n0 : Nat), .int .i64 (n1 : Nat)] 28 ∧ Blk wx (m4 + 1) #[.int .u8 one, .int .u8 two] 23)
          case first =>
            have S9 : Hid (St _ _ _) := s0
            have K9 : Hid (Blk _ _ _ _) := bk
            have H9 : Hid (Blk _ _ _ _) := bh
            have bx : _ = some (Value.int .u8 one) := bh.cell 0
            clear s0 bk bh A9 C9 zb v0 v1 hk9 N0 N1
            by_cases h8 : n0 < 8
            · have zz : Hid (z = one / 2 ^ n0 % 2) := ZH.out.1 h8
              have X9 := w1
              clear ZH w1 w2 w3 w4
              rcases (show n0 = 0 ∨ n0 = 1 ∨ n0 = 2 ∨ n0 = 3 ∨ n0 = 4 ∨ n0 = 5 ∨ n0 = 6 ∨ n0 = 7 by omega) with h | h | h | h | h | h | h | h
              · have en : ((n0 : Nat) : Int) = 0 := by omega
                have ez : Hid (one % 2 = z) := by unfold Hid; rw [zz.out, h]; first | rfl | simp
                have xa : bits .and .u8 (one) 1 = z := (and1 _ (by omega) (by omega)).trans ez.out
                clear ez
                have HNN : Hid (n0 = 0) := h
                clear h
                clear X9 zz
                go_upto_region 16 with fail
                go_quiet (fail)
                go_wp2
                go_meet
                first | exact ⟨rfl, S9.out, K9.out, H9.out⟩ | exact ⟨rfl, S9.out.drews _, K9.out.drews _, H9.out.drews _⟩
              · have en : ((n0 : Nat) : Int) = 1 := by omega
                have ez : Hid (one / 2 % 2 = z) := by unfold Hid; rw [zz.out, h]; first | rfl | simp
                have xa : bits .and .u8 (one / 2) 1 = z := (and1 _ (by omega) (by omega)).trans ez.out
                clear ez
                have HNN : Hid (n0 = 1) := h
                clear h
                clear X9 zz
                go_upto_region 16 with fail
                go_quiet (fail)
                go_wp2
                go_meet
                first | exact ⟨rfl, S9.out, K9.out, H9.out⟩ | exact ⟨rfl, S9.out.drews _, K9.out.drews _, H9.out.drews _⟩
              · have en : ((n0 : Nat) : Int) = 2 := by omega
                have ez : Hid (one / 4 % 2 = z) := by unfold Hid; rw [zz.out, h]; first | rfl | simp
                have xa : bits .and .u8 (one / 4) 1 = z := (and1 _ (by omega) (by omega)).trans ez.out
                clear ez
                have HNN : Hid (n0 = 2) := h
                clear h
                clear X9 zz
                go_upto_region 16 with fail
                go_quiet (fail)
                go_wp2
                go_meet
                first | exact ⟨rfl, S9.out, K9.out, H9.out⟩ | exact ⟨rfl, S9.out.drews _, K9.out.drews _, H9.out.drews _⟩
              · have en : ((n0 : Nat) : Int) = 3 := by omega
                have ez : Hid (one / 8 % 2 = z) := by unfold Hid; rw [zz.out, h]; first | rfl | simp
                have xa : bits .and .u8 (one / 8) 1 = z := (and1 _ (by omega) (by omega)).trans ez.out
                clear ez
                have HNN : Hid (n0 = 3) := h
                clear h
                clear X9 zz
                go_upto_region 16 with fail
                go_quiet (fail)
                go_wp2
                go_meet
                first | exact ⟨rfl, S9.out, K9.out, H9.out⟩ | exact ⟨rfl, S9.out.drews _, K9.out.drews _, H9.out.drews _⟩
              · have en : ((n0 : Nat) : Int) = 4 := by omega
                have ez : Hid (one / 16 % 2 = z) := by unfold Hid; rw [zz.out, h]; first | rfl | simp
                have xa : bits .and .u8 (one / 16) 1 = z := (and1 _ (by omega) (by omega)).trans ez.out
                clear ez
                have HNN : Hid (n0 = 4) := h
                clear h
                clear X9 zz
                go_upto_region 16 with fail
                go_quiet (fail)
                go_wp2
                go_meet
                first | exact ⟨rfl, S9.out, K9.out, H9.out⟩ | exact ⟨rfl, S9.out.drews _, K9.out.drews _, H9.out.drews _⟩
              · have en : ((n0 : Nat) : Int) = 5 := by omega
                have ez : Hid (one / 32 % 2 = z) := by unfold Hid; rw [zz.out, h]; first | rfl | simp
                have xa : bits .and .u8 (one / 32) 1 = z := (and1 _ (by omega) (by omega)).trans ez.out
                clear ez
                have HNN : Hid (n0 = 5) := h
                clear h
                clear X9 zz
                go_upto_region 16 with fail
                go_quiet (fail)
                go_wp2
                go_meet
                first | exact ⟨rfl, S9.out, K9.out, H9.out⟩ | exact ⟨rfl, S9.out.drews _, K9.out.drews _, H9.out.drews _⟩
              · have en : ((n0 : Nat) : Int) = 6 := by omega
                have ez : Hid (one / 64 % 2 = z) := by unfold Hid; rw [zz.out, h]; first | rfl | simp
                have xa : bits .and .u8 (one / 64) 1 = z := (and1 _ (by omega) (by omega)).trans ez.out
                clear ez
                have HNN : Hid (n0 = 6) := h
                clear h
                clear X9 zz
                go_upto_region 16 with fail
                go_quiet (fail)
                go_wp2
                go_meet
                first | exact ⟨rfl, S9.out, K9.out, H9.out⟩ | exact ⟨rfl, S9.out.drews _, K9.out.drews _, H9.out.drews _⟩
              · have en : ((n0 : Nat) : Int) = 7 := by omega
                have ez : Hid (one / 128 % 2 = z) := by unfold Hid; rw [zz.out, h]; first | rfl | simp
                have xa : bits .and .u8 (one / 128) 1 = z := (and1 _ (by omega) (by omega)).trans ez.out
                clear ez
                have HNN : Hid (n0 = 7) := h
                clear h
                clear X9 zz
                go_upto_region 16 with fail
                go_quiet (fail)
                go_wp2
                go_meet
                first | exact ⟨rfl, S9.out, K9.out, H9.out⟩ | exact ⟨rfl, S9.out.drews _, K9.out.drews _, H9.out.drews _⟩
            · obtain rfl : z = 1 := ZH.out.2 (by omega)
              have e8 : decide ((((n0 : Nat) : Int)) < 8) = false := by simp; omega
              clear ZH w1 w2 w3 w4
              go_wp2
              go_meet
              exact ⟨rfl, S9.out, K9.out, H9.out⟩
          case rest =>
            clear g s0 bk bh
            obtain ⟨rfl, s0, bk, bh⟩ := hcut
            have g : _ = some (Value.int .i64 (n0 : Nat)) := bk.cell 0
            have gf := bk.free 0
            have S9 : Hid (St _ _ _) := s0
            have K9 : Hid (Blk _ _ _ _) := bk
            have H9 : Hid (Blk _ _ _ _) := bh
            clear s0 bk bh ZH
            go_wp2
            go_roundw
            case rel => exact ⟨k + 1, n0 + 1, n1, h0, h1, HK.out, by go_num, by have := HN.out; omega, v0, v1, fun h => absurd h (by omega), S9.out.aside m4 0 _ (by simp; omega) (by have := hm.out; omega), K9.out.set 0 _, H9.out.other (by omega) 0 _⟩
            case measure => simp [intOf]; omega
        · have hr : Hid (∀ W : World, Calls Try.prog 8 #[.agg (Pd.cells ⟨false, h0, h1, shf one n0, shf two n1⟩), .int .i64 1] W fun e w' => e = .returned (.tuple #[.int .u8 (shf two n1 % 2), .agg (Pd.cells ⟨false, h0, h1, shf one n0, shf two n1 / 2 + 128⟩)]) ∧ Below W.heap.size W w') := fun W => rd_any ⟨false, h0, h1, shf one n0, shf two n1⟩ 1 W ⟨v0.1, v0.2, v1.1, v1.2, A9.1, A9.2, C9.1, C9.2⟩
          have ZH : Hid (((n1 : Nat) < 8 → shf two n1 % 2 = two / 2 ^ n1 % 2) ∧ (8 ≤ n1 → shf two n1 % 2 = 1)) := by
            unfold Hid
            refine ⟨fun h => ?_, fun h => by rw [shf_high two w2 n1 h]; rfl⟩
            obtain ⟨a0, a1, a2, a3, a4, a5, a6, a7⟩ := shf_low two w2
            rcases (show n1 = 0 ∨ n1 = 1 ∨ n1 = 2 ∨ n1 = 3 ∨ n1 = 4 ∨ n1 = 5 ∨ n1 = 6 ∨ n1 = 7 by omega) with h | h | h | h | h | h | h | h <;> subst h
            · simpa using a0
            · simpa using a1
            · simpa using a2
            · simpa using a3
            · simpa using a4
            · simpa using a5
            · simpa using a6
            · simpa using a7
          have zb : 0 ≤ shf two n1 % 2 ∧ shf two n1 % 2 ≤ 1 := by omega
          generalize hzz : shf two n1 % 2 = z at *
          clear hzz
          go_upto_region 13 with fail
          clear hx xa
          go_upto_region 15 with (first
            | (refine wpList_load_blk rfl 25 _ rfl (m) rfl (Pd.cells ⟨false, h0, h1, shf one n0, shf two n1⟩) _ (s0.blk (m) ⟨false, h0, h1, shf one n0, shf two n1⟩ (by simp)) Try.underlying25 rfl (infoP' _) ?_)
            | (go_at_call 8; refine (hr.out _).mono ?_; rintro e Wx ⟨rfl, hbx⟩; replace s0 := s0.on hbx; replace bk := bk.below bk.lt hbx; replace bh := bh.below bh.lt hbx; clear hbx)
            | (refine wpList_store_blk rfl 25 _ _ rfl (m) _ (Pd.cells ⟨false, h0, h1, shf one n0, shf two n1 / 2 + 128⟩) 25 rfl rfl (s0.blk (m) _ (List.mem_cons_self ..)) rfl (infoP' _) (Pd.cells_one _) w.heap.size w hm.out s0.2 ?_; intro Wy by1 hby hoy; replace bk := hoy _ _ _ (by omega) bk; replace bh := hoy _ _ _ (by omega) bh; replace s0 := St.sto s0 (by simp) by1 hby hoy; clear by1 hby hoy))
          clear hr
          have g : _ = some (Value.int .i64 (n1 : Nat)) := bk.cell 1
          go_upto_if 71 with fail
          go_cut [19] (fun y wx => y = .int .u8 z ∧ St w [(m, ⟨false, h0, h1, shf one n0, shf two n1 / 2 + 128⟩)] wx ∧ Blk wx m4 #[.int .i64 (n0 : Nat), .int .i64 (n1 : Nat)] 28 ∧ Blk wx (m4 + 1) #[.int .u8 one, .int .u8 two] 23)
          case first =>
            have S9 : Hid (St _ _ _) := s0
            have K9 : Hid (Blk _ _ _ _) := bk
            have H9 : Hid (Blk _ _ _ _) := bh
            have bx : _ = some (Value.int .u8 two) := bh.cell 1
            clear s0 bk bh A9 C9 zb v0 v1 hk9 N0 N1
            by_cases h8 : n1 < 8
            · have zz : Hid (z = two / 2 ^ n1 % 2) := ZH.out.1 h8
              have X9 := w2
              clear ZH w1 w2 w3 w4
              rcases (show n1 = 0 ∨ n1 = 1 ∨ n1 = 2 ∨ n1 = 3 ∨ n1 = 4 ∨ n1 = 5 ∨ n1 = 6 ∨ n1 = 7 by omega) with h | h | h | h | h | h | h | h
              · have en : ((n1 : Nat) : Int) = 0 := by omega
                have ez : Hid (two % 2 = z) := by unfold Hid; rw [zz.out, h]; first | rfl | simp
                have xa : bits .and .u8 (two) 1 = z := (and1 _ (by omega) (by omega)).trans ez.out
                clear ez
                have HNN : Hid (n1 = 0) := h
                clear h
                clear X9 zz
                go_upto_region 16 with fail
                go_quiet (fail)
                go_wp2
                go_meet
                first | exact ⟨rfl, S9.out, K9.out, H9.out⟩ | exact ⟨rfl, S9.out.drews _, K9.out.drews _, H9.out.drews _⟩
              · have en : ((n1 : Nat) : Int) = 1 := by omega
                have ez : Hid (two / 2 % 2 = z) := by unfold Hid; rw [zz.out, h]; first | rfl | simp
                have xa : bits .and .u8 (two / 2) 1 = z := (and1 _ (by omega) (by omega)).trans ez.out
                clear ez
                have HNN : Hid (n1 = 1) := h
                clear h
                clear X9 zz
                go_upto_region 16 with fail
                go_quiet (fail)
                go_wp2
                go_meet
                first | exact ⟨rfl, S9.out, K9.out, H9.out⟩ | exact ⟨rfl, S9.out.drews _, K9.out.drews _, H9.out.drews _⟩
              · have en : ((n1 : Nat) : Int) = 2 := by omega
                have ez : Hid (two / 4 % 2 = z) := by unfold Hid; rw [zz.out, h]; first | rfl | simp
                have xa : bits .and .u8 (two / 4) 1 = z := (and1 _ (by omega) (by omega)).trans ez.out
                clear ez
                have HNN : Hid (n1 = 2) := h
                clear h
                clear X9 zz
                go_upto_region 16 with fail
                go_quiet (fail)
                go_wp2
                go_meet
                first | exact ⟨rfl, S9.out, K9.out, H9.out⟩ | exact ⟨rfl, S9.out.drews _, K9.out.drews _, H9.out.drews _⟩
              · have en : ((n1 : Nat) : Int) = 3 := by omega
                have ez : Hid (two / 8 % 2 = z) := by unfold Hid; rw [zz.out, h]; first | rfl | simp
                have xa : bits .and .u8 (two / 8) 1 = z := (and1 _ (by omega) (by omega)).trans ez.out
                clear ez
                have HNN : Hid (n1 = 3) := h
                clear h
                clear X9 zz
                go_upto_region 16 with fail
                go_quiet (fail)
                go_wp2
                go_meet
                first | exact ⟨rfl, S9.out, K9.out, H9.out⟩ | exact ⟨rfl, S9.out.drews _, K9.out.drews _, H9.out.drews _⟩
              · have en : ((n1 : Nat) : Int) = 4 := by omega
                have ez : Hid (two / 16 % 2 = z) := by unfold Hid; rw [zz.out, h]; first | rfl | simp
                have xa : bits .and .u8 (two / 16) 1 = z := (and1 _ (by omega) (by omega)).trans ez.out
                clear ez
                have HNN : Hid (n1 = 4) := h
                clear h
                clear X9 zz
                go_upto_region 16 with fail
                go_quiet (fail)
                go_wp2
                go_meet
                first | exact ⟨rfl, S9.out, K9.out, H9.out⟩ | exact ⟨rfl, S9.out.drews _, K9.out.drews _, H9.out.drews _⟩
              · have en : ((n1 : Nat) : Int) = 5 := by omega
                have ez : Hid (two / 32 % 2 = z) := by unfold Hid; rw [zz.out, h]; first | rfl | simp
                have xa : bits .and .u8 (two / 32) 1 = z := (and1 _ (by omega) (by omega)).trans ez.out
                clear ez
                have HNN : Hid (n1 = 5) := h
                clear h
                clear X9 zz
                go_upto_region 16 with fail
                go_quiet (fail)
                go_wp2
                go_meet
                first | exact ⟨rfl, S9.out, K9.out, H9.out⟩ | exact ⟨rfl, S9.out.drews _, K9.out.drews _, H9.out.drews _⟩
              · have en : ((n1 : Nat) : Int) = 6 := by omega
                have ez : Hid (two / 64 % 2 = z) := by unfold Hid; rw [zz.out, h]; first | rfl | simp
                have xa : bits .and .u8 (two / 64) 1 = z := (and1 _ (by omega) (by omega)).trans ez.out
                clear ez
                have HNN : Hid (n1 = 6) := h
                clear h
                clear X9 zz
                go_upto_region 16 with fail
                go_quiet (fail)
                go_wp2
                go_meet
                first | exact ⟨rfl, S9.out, K9.out, H9.out⟩ | exact ⟨rfl, S9.out.drews _, K9.out.drews _, H9.out.drews _⟩
              · have en : ((n1 : Nat) : Int) = 7 := by omega
                have ez : Hid (two / 128 % 2 = z) := by unfold Hid; rw [zz.out, h]; first | rfl | simp
                have xa : bits .and .u8 (two / 128) 1 = z := (and1 _ (by omega) (by omega)).trans ez.out
                clear ez
                have HNN : Hid (n1 = 7) := h
                clear h
                clear X9 zz
                go_upto_region 16 with fail
                go_quiet (fail)
                go_wp2
                go_meet
                first | exact ⟨rfl, S9.out, K9.out, H9.out⟩ | exact ⟨rfl, S9.out.drews _, K9.out.drews _, H9.out.drews _⟩
            · obtain rfl : z = 1 := ZH.out.2 (by omega)
              have e8 : decide ((((n1 : Nat) : Int)) < 8) = false := by simp; omega
              clear ZH w1 w2 w3 w4
              go_wp2
              go_meet
              exact ⟨rfl, S9.out, K9.out, H9.out⟩
          case rest =>
            clear g s0 bk bh
            obtain ⟨rfl, s0, bk, bh⟩ := hcut
            have g : _ = some (Value.int .i64 (n1 : Nat)) := bk.cell 1
            have gf := bk.free 1
            have S9 : Hid (St _ _ _) := s0
            have K9 : Hid (Blk _ _ _ _) := bk
            have H9 : Hid (Blk _ _ _ _) := bh
            clear s0 bk bh ZH
            go_wp2
            go_roundw
            case rel => exact ⟨k + 1, n0, n1 + 1, h0, h1, HK.out, by go_num, by have := HN.out; omega, v0, v1, fun h => absurd h (by omega), S9.out.aside m4 1 _ (by simp; omega) (by have := hm.out; omega), K9.out.set 1 _, H9.out.other (by omega) 1 _⟩
            case measure => simp [intOf]; omega
    · have hkn : k = len2 := by omega
      subst hkn
      have f0 : _ = some (Value.bool false) := (s0.blk m ⟨false, h0, h1, shf one n0, shf two n1⟩ (by simp)).cell 0
      by_cases h0k : 0 < k
      · have S9 : Hid (St _ _ _) := s0
        clear s0 bk bh hz
        have hg : (0 : Int) < k := by omega
        go_wp2
        go_ret
        exact ⟨rfl, S9.out.2⟩
      · obtain rfl : k = 0 := by omega
        obtain ⟨rfl, rfl⟩ := hz rfl
        obtain ⟨rfl, rfl⟩ : n0 = 0 ∧ n1 = 0 := by omega
        have f1 : _ = some (Value.int .u8 h0) := (s0.blk m _ (List.mem_cons_self ..)).cell 1
        have f2 : _ = some (Value.int .u8 h1) := (s0.blk m _ (List.mem_cons_self ..)).cell 2
        have f3 : _ = some (Value.int .u8 h0) := (s0.blk m _ (List.mem_cons_self ..)).cell 3
        have f4 : _ = some (Value.int .u8 h1) := (s0.blk m _ (List.mem_cons_self ..)).cell 4
        have g1 : _ = some (Value.int .u8 h0) := bh.cell 0
        have g2 : _ = some (Value.int .u8 h1) := bh.cell 1
        have qE := fun W => eq2_yes W h0 h1
        have S9 : Hid (St _ _ _) := s0
        clear s0 bk bh hz
        go_wp2
        go_ret
        exact ⟨rfl, S9.out.2⟩
end Go.Proofs.Ytkebkbiabdlomaa
