/-
  The law CacheOne.
-/
import Derived.Test.YtpnalcbpdejpjaaXcOrd
set_option linter.unusedSimpArgs false
set_option linter.unusedVariables false
namespace Go.Proofs.Ytpnalcbpdejpjaa
open Go.RowKit Classical
set_option maxRecDepth 100000 in
set_option maxHeartbeats 4000000 in
theorem one_law (n c : Nat) (ad : Option Addr) (pcs : List Int) (tag : Int) (w : World) (hl : pcs.length = n) (hr : ∀ j, 0 ≤ pcs.getD j 0 ∧ pcs.getD j 0 ≤ 65535) (hrow : n = 0 ∨ ∃ b off, ad = some ⟨b, off, none⟩ ∧ ∀ i, i < n → w.cell? ⟨b, off + i, none⟩ = some (.int .u16 (pcs.getD i 0))) :
    Calls Try.prog 4 #[.slice ad n c, .int .i64 tag] w fun e w' => e = .returned (.bool true) ∧ Below w.heap.size w w' := by
  have N1 : Hid (∀ W, Calls Try.prog 11 #[.int .i64 1] W _) := fun W => newM 1 (by omega) (by omega) tag W
  have N2 : Hid (∀ W, Calls Try.prog 11 #[.int .i64 65536] W _) := fun W => newM 65536 (by omega) (by omega) tag W
  go_enter Try.func4, Try.ntmps4
  go_upto_region 2 with (go_at_call 11; go_must (refine (N1.out _).mono ?_; rintro e W1 ⟨q1, g1, k1, m1, rfl, h1, b1⟩))
  clear N1
  go_upto_region 3 with (go_at_call 11; go_must (refine (N2.out _).mono ?_; rintro e W2 ⟨q2, g2, k2, m2, rfl, h2, b2⟩))
  clear N2
  obtain ⟨B2, hB2⟩ : ∃ B2, B2 = W1.heap.size := ⟨_, rfl⟩
  rw [← hB2] at h2
  have s0 : Oi w.heap.size q1 g1 k1 m1 B2 q2 g2 k2 m2 tag w pcs 0 0 W2 := by
    have h1' := h1.on b2
    have hb1 := b1.size
    have hb2 := b2.size
    refine ⟨⟨none, 0, 0, [], none, 0, 0, [], h1', h2, ?_, .inl ⟨rfl, rfl⟩, by simp, fun j hj => by omega⟩, b1.trans (b2.mono b1.size), Nat.le_refl _, by omega, by omega, by omega⟩
    obtain ⟨_, _, _, c1, -⟩ := h1
    obtain ⟨_, _, _, c2, -⟩ := h2
    have a1 := c1.b.lt
    have a2 := (orow_base c1.a).2.1
    have a3 := c1.mr.lt
    have a4 := c2.hq
    have a5 := (orow_base c2.a).1
    have a6 := c2.hm
    exact ⟨by omega, by omega, by omega, fun b e => absurd e (by simp)⟩
  clear h1 h2 b1 b2 hB2
  go_upto_region 6 with fail
  generalize W2 = W3 at *
  go_loopw [9] (fun i wr => ∃ p : Nat, i = .int .i64 ((p : Nat) : Int) ∧ p ≤ n ∧ p ≤ 100 ∧ Oi w.heap.size q1 g1 k1 m1 B2 q2 g2 k2 m2 tag w pcs p p wr) (fun i _ => (100 - intOf i).toNat)
  case atStart => exact ⟨0, rfl, by omega, by omega, s0⟩
  case round =>
    obtain ⟨p, rfl, hpn, hp100, si⟩ := hrel
    clear s0
    by_cases hlt : p < n ∧ p < 100
    · obtain ⟨hp1, hp2⟩ := hlt
      obtain ⟨b, off, rfl, hc⟩ : ∃ b off, ad = some ⟨b, off, none⟩ ∧ ∀ i, i < n → w.cell? ⟨b, off + i, none⟩ = some (.int .u16 (pcs.getD i 0)) := by
        rcases hrow with h | h
        · omega
        · exact h
      have hpi : ((p : Nat) : Int) < (n : Int) := by omega
      have hp2i : ((p : Nat) : Int) < 100 := by omega
      have C1 : Hid (∀ v, Oi w.heap.size q1 g1 k1 m1 B2 q2 g2 k2 m2 tag w pcs p p v → Calls _ _ _ v _) := fun v h => one_put _ q1 g1 k1 m1 B2 q2 g2 k2 m2 tag pcs w p v h hp2 hr
      have C2 : Hid (∀ v, Oi w.heap.size q1 g1 k1 m1 B2 q2 g2 k2 m2 tag w pcs (p + 1) p v → Calls _ _ _ v _) := fun v h => one_get _ q1 g1 k1 m1 B2 q2 g2 k2 m2 tag pcs w p v h
      have C3 : Hid (∀ v, Oi w.heap.size q1 g1 k1 m1 B2 q2 g2 k2 m2 tag w pcs (p + 1) p v → Calls _ _ _ v _) := fun v h => one_len _ q1 g1 k1 m1 B2 q2 g2 k2 m2 tag pcs w p v h
      have C4 : Hid (∀ v, Oi w.heap.size q1 g1 k1 m1 B2 q2 g2 k2 m2 tag w pcs (p + 1) p v → Calls _ _ _ v _) := fun v h => all_put _ q1 g1 k1 m1 B2 q2 g2 k2 m2 tag pcs w p v h hp2 hr
      have CK : Hid (∀ d v, Calls _ _ _ v _) := fun d v => key_blk d tag ⟨#[120, 121]⟩ ((p : Nat) : Int) 0 0 v
      have E0 : Hid (∀ j v, j < n → Below w.heap.size w v → v.cell? ⟨b, off + j, none⟩ = some (.int .u16 (pcs.getD j 0))) := fun j v hj h => (h.cell (p := ⟨b, off + j, none⟩) (cell_lt (hc j hj))).trans (hc j hj)
      have e1 := E0.out p _ hp1 si.b
      have hw10 : IntKind.i64.wrap (10 * ((p : Nat) : Int)) = 10 * ((p : Nat) : Int) := by rw [IntKind.wrap_i64]; omega
      obtain ⟨d, hd⟩ : ∃ d, d = pcs.getD p 0 := ⟨_, rfl⟩
      have HD : Hid (d = pcs.getD p 0) := hd
      simp only [← hd] at C1 C2 C3 C4 e1
      clear hc hrow hd hl
      go_upto_region 9 with fail
      have s1 := si.on ((Below.refl _ _).alloc (Nat.le_refl _) (.cells #[.int .u16 d, .int .i64 tag, .string ⟨#[120, 121]⟩, .int .i64 ((p : Nat) : Int), .slice none 0 0, .int .i64 0, .int .i64 0] 34))
      have z1 := Blk.new wr #[.int .u16 d, .int .i64 tag, .string ⟨#[120, 121]⟩, .int .i64 ((p : Nat) : Int), .slice none 0 0, .int .i64 0, .int .i64 0] 34
      obtain ⟨nb, hnb⟩ : ∃ nb, nb = wr.heap.size := ⟨_, rfl⟩
      simp only [← hnb] at *
      generalize wr.alloc (.cells #[.int .u16 d, .int .i64 tag, .string ⟨#[120, 121]⟩, .int .i64 ((p : Nat) : Int), .slice none 0 0, .int .i64 0, .int .i64 0] 34) = V1 at *
      clear si hnb e1
      go_upto_region 10 with (first
        | (refine wpList_load_blk rfl 34 _ rfl nb rfl #[.int .u16 d, .int .i64 tag, .string ⟨#[120, 121]⟩, .int .i64 ((p : Nat) : Int), .slice none 0 0, .int .i64 0, .int .i64 0] _ z1 Try.underlying34 rfl (by kernel_rfl) ?_)
        | (go_at_call 12; go_must (refine (C1.out _ s1).mono ?_; rintro e V2 ⟨ka, kb, rr, rfl, hR, s2, kp⟩)))
      have s3 := s2.on ((Below.refl _ _).alloc (Nat.le_refl _) (.cells #[.int .u16 ka, .int .i64 kb] 24))
      have z3 := (kp.2 nb _ z1).old (.cells #[.int .u16 ka, .int .i64 kb] 24)
      have zk := Blk.new V2 #[.int .u16 ka, .int .i64 kb] 24
      obtain ⟨nk, hnk⟩ : ∃ nk, nk = V2.heap.size := ⟨_, rfl⟩
      simp only [← hnk] at *
      generalize V2.alloc (.cells #[.int .u16 ka, .int .i64 kb] 24) = V3 at *
      clear s1 z1 s2 kp hnk C1
      obtain ⟨want, hwr, hwd⟩ : ∃ want : Bool, (rr = want ∧ (want = true → ∃ p', p = p' + 1 ∧ ka = pcs.getD p' 0 ∧ kb = tag)) ∧ ((p = 0 ∧ want = false) ∨ ∃ p', p = p' + 1 ∧ (d != pcs.getD p' 0) = want) := by
        rcases hR with ⟨h, rfl⟩ | ⟨p', rfl, ⟨h, rfl⟩ | ⟨h, rfl, h2, h3⟩⟩
        · exact ⟨false, ⟨rfl, fun h => absurd h (by decide)⟩, .inl ⟨h, rfl⟩⟩
        · exact ⟨false, ⟨rfl, fun h => absurd h (by decide)⟩, .inr ⟨p', rfl, by simp [h]⟩⟩
        · exact ⟨true, ⟨rfl, fun _ => ⟨p', rfl, h2, h3⟩⟩, .inr ⟨p', rfl, by simpa using h⟩⟩
      clear hR
      obtain ⟨rfl, hwk⟩ := hwr
      have HWK : Hid (rr = true → ∃ p', p = p' + 1 ∧ ka = pcs.getD p' 0 ∧ kb = tag) := hwk
      have HWD : Hid ((p = 0 ∧ rr = false) ∨ ∃ p', p = p' + 1 ∧ (d != pcs.getD p' 0) = rr) := hwd
      clear hwk hwd
      go_cut [13] (fun x wx => x = .bool rr ∧ Oi w.heap.size q1 g1 k1 m1 B2 q2 g2 k2 m2 tag w pcs (p + 1) p wx ∧ Blk wx nb #[.int .u16 d, .int .i64 tag, .string ⟨#[120, 121]⟩, .int .i64 ((p : Nat) : Int), .slice none 0 0, .int .i64 0, .int .i64 0] 34 ∧ Blk wx nk #[.int .u16 ka, .int .i64 kb] 24)
      case first =>
        rcases HWD.out with ⟨rfl, rfl⟩ | ⟨p', rfl, hw⟩
        · go_quiet (fail)
          go_wp2
          go_meet
          exact ⟨rfl, s3.on (below_drawsX (Below.refl _ _) nq), z3, zk⟩
        · have f1 := E0.out (p' + 1) _ hp1 s3.b
          have f2 := E0.out p' _ (by omega) s3.b
          rw [← HD.out] at f1
          generalize pcs.getD p' 0 = d' at f2 hw
          have hpj : ((p' : Nat) : Int) < (n : Int) := by omega
          have hsub : IntKind.i64.wrap (((p' + 1 : Nat) : Int) - 1) = ((p' : Nat) : Int) := by rw [IntKind.wrap_i64]; omega
          have hgt : decide ((0 : Int) < ((p' + 1 : Nat) : Int)) = true := by simp
          go_quiet (fail)
          go_wp2
          go_meet
          exact ⟨by rw [← hw], s3.on (below_drawsX (Below.refl _ _) nq), z3, zk⟩
      case rest =>
      obtain ⟨rfl, s4, z4, y4⟩ := hcut
      clear s3 z3 zk HWD
      go_upto_region 11 with fail
      go_cut [88] (fun x wx => x = .bool false ∧ Oi w.heap.size q1 g1 k1 m1 B2 q2 g2 k2 m2 tag w pcs (p + 1) p wx ∧ Blk wx nb #[.int .u16 d, .int .i64 tag, .string ⟨#[120, 121]⟩, .int .i64 ((p : Nat) : Int), .slice none 0 0, .int .i64 0, .int .i64 0] 34)
      case first =>
        cases rr with
        | false =>
          go_quiet (fail)
          go_wp2
          go_meet
          exact ⟨rfl, s4.on (below_drawsX (Below.refl _ _) nq), z4⟩
        | true =>
          obtain ⟨p', rfl, rfl, rfl⟩ := HWK.out rfl
          have f2 := E0.out p' _ (by omega) s4.b
          generalize pcs.getD p' 0 = d' at f2 y4
          have hpj : ((p' : Nat) : Int) < (n : Int) := by omega
          have hsub : IntKind.i64.wrap (((p' + 1 : Nat) : Int) - 1) = ((p' : Nat) : Int) := by rw [IntKind.wrap_i64]; omega
          have hk0 : wc.cell? ⟨nk, 0, none⟩ = some (.int .u16 d') := y4.cell 0
          have hk1 : wc.cell? ⟨nk, 1, none⟩ = some (.int .i64 kb) := y4.cell 1
          have NK := fun W => neqKey W d' kb d' kb
          simp only [beq_self_eq_true, Bool.and_self, Bool.not_true] at NK
          go_quiet (fail)
          go_wp2
          go_meet
          exact ⟨rfl, s4.on (below_drawsX (Below.refl _ _) nq), z4⟩
      case rest =>
      obtain ⟨rfl, s5, z5⟩ := hcut
      clear s4 z4 y4 HWK
      go_upto_region 13 with fail
      go_upto_region 14 with (first
        | (refine wpList_load_blk rfl 34 _ rfl nb rfl #[.int .u16 d, .int .i64 tag, .string ⟨#[120, 121]⟩, .int .i64 ((p : Nat) : Int), .slice none 0 0, .int .i64 0, .int .i64 0] _ z5 Try.underlying34 rfl (by kernel_rfl) ?_)
        | (go_at_call 14; go_must (refine (CK.out d _).mono ?_; rintro e V6 ⟨rfl, b6⟩))
        | (go_at_call 13; go_must (refine (C2.out _ (s5.on b6)).mono ?_; rintro e V7 ⟨s, lo, hi, rfl, b7⟩)))
      have s8 := ((s5.on b6).on b7).on ((Below.refl _ _).alloc (Nat.le_refl _) (.cells #[.int .u16 d, .int .i64 tag, .string s, .int .i64 ((p : Nat) : Int), .slice none 0 0, .int .i64 lo, .int .i64 hi] 34))
      have z8 := ((z5.below z5.lt b6).below (z5.below z5.lt b6).lt b7).old (.cells #[.int .u16 d, .int .i64 tag, .string s, .int .i64 ((p : Nat) : Int), .slice none 0 0, .int .i64 lo, .int .i64 hi] 34)
      have g8 := (Blk.new V7 #[.int .u16 d, .int .i64 tag, .string s, .int .i64 ((p : Nat) : Int), .slice none 0 0, .int .i64 lo, .int .i64 hi] 34).cell 3
      replace g8 : (V7.alloc (.cells #[.int .u16 d, .int .i64 tag, .string s, .int .i64 ((p : Nat) : Int), .slice none 0 0, .int .i64 lo, .int .i64 hi] 34)).cell? ⟨V7.heap.size, 3, none⟩ = some (.int .i64 ((p : Nat) : Int)) := g8
      obtain ⟨ng, hng⟩ : ∃ ng, ng = V7.heap.size := ⟨_, rfl⟩
      simp only [← hng] at *
      generalize V7.alloc (.cells #[.int .u16 d, .int .i64 tag, .string s, .int .i64 ((p : Nat) : Int), .slice none 0 0, .int .i64 lo, .int .i64 hi] 34) = V8 at *
      clear s5 z5 b6 b7 hng C2 CK
      go_upto_region 16 with (go_at_call 15; go_must (refine (C3.out _ s8).mono ?_; rintro e V9 ⟨rfl, hw⟩; obtain rfl := hw.symm))
      clear C3 g8
      go_wp2_with (first
        | (refine wpList_load_blk rfl 34 _ rfl nb rfl #[.int .u16 d, .int .i64 tag, .string ⟨#[120, 121]⟩, .int .i64 ((p : Nat) : Int), .slice none 0 0, .int .i64 0, .int .i64 0] _ z8 Try.underlying34 rfl (by kernel_rfl) ?_)
        | (go_at_call 12; go_must (refine (C4.out _ s8).mono ?_; rintro e V9 ⟨ka, kb, rfl, s9, kp⟩)))
      go_roundw
      case rel => exact ⟨p + 1, by go_num, by omega, by omega, s9⟩
      case measure => simp [intOf]; omega
    · have HE : Hid (∀ j : Nat, j < p → j < n ∧ j < 100) := fun j hj => by omega
      have hp7 : (p < n ∧ ¬ ((p : Nat) : Int) < 100) ∨ ¬ ((p : Nat) : Int) < (n : Int) := by omega
      clear hlt
      rcases hp7 with ⟨h1, hq⟩ | hq
      · have hpi : ((p : Nat) : Int) < (n : Int) := by omega
        go_upto_region 19 with fail
        go_cut [16] (fun i wx => i = .int .i64 0 ∧ wx = wr)
        case first =>
          go_wp2
          go_meet
          exact ⟨rfl, rfl⟩
        case rest =>
        obtain ⟨rfl, rfl⟩ := hcut
        rename_i K0 h0
        refine h0 _ _ ?_
        clear h0 K0
        go_cut [] (fun wx => Oi w.heap.size q1 g1 k1 m1 B2 q2 g2 k2 m2 tag w pcs p p wx)
        case first =>
          go_upto_region 20 with fail
          go_loopw [16] (fun i wx => ∃ j : Nat, i = .int .i64 ((j : Nat) : Int) ∧ j ≤ p ∧ Oi w.heap.size q1 g1 k1 m1 B2 q2 g2 k2 m2 tag w pcs p p wx) (fun i _ => ((p : Int) - intOf i).toNat)
          case atStart => exact ⟨0, rfl, by omega, si⟩
          case round =>
            obtain ⟨j, rfl, hj, sj⟩ := hrel
            clear si
            by_cases hlt : j < p
            · obtain ⟨hj1, hj2⟩ := HE.out j hlt
              obtain ⟨b, off, rfl, hc⟩ : ∃ b off, ad = some ⟨b, off, none⟩ ∧ ∀ i, i < n → w.cell? ⟨b, off + i, none⟩ = some (.int .u16 (pcs.getD i 0)) := by
                rcases hrow with h | h
                · omega
                · exact h
              have E1 : Hid (∀ v, Below w.heap.size w v → v.cell? ⟨b, off + j, none⟩ = some (.int .u16 (pcs.getD j 0))) := fun v h => (h.cell (p := ⟨b, off + j, none⟩) (cell_lt (hc j hj1))).trans (hc j hj1)
              have e1 := E1.out _ sj.b
              have hji : ((j : Nat) : Int) < (n : Int) := by omega
              have hj2i : ((j : Nat) : Int) < 100 := by omega
              have C5 : Hid (∀ v, Oi w.heap.size q1 g1 k1 m1 B2 q2 g2 k2 m2 tag w pcs p p v → Calls _ _ _ v _) := fun v h => all_get _ q1 g1 k1 m1 B2 q2 g2 k2 m2 tag pcs w p j v h hp100 hlt
              generalize pcs.getD j 0 = d at e1 C5
              clear hc hrow E1
              go_wp2_with (go_at_call 13; go_must (refine (C5.out _ sj).mono ?_; rintro e V1 ⟨s, ni, lo, hi, rfl, b1⟩))
              go_roundw
              case rel => exact ⟨j + 1, by go_num, by omega, (sj.on b1).on ((Below.refl _ _).alloc (Nat.le_refl _) _)⟩
              case measure => simp [intOf]; omega
            · have hjp : j = p := by omega
              subst hjp
              go_wp2
              go_meet
              exact sj
        case rest =>
        obtain ⟨⟨fa1, n1, fc1, es1, fa2, n2, fc2, es2, h1, h2, ap, hL, hlen, hall⟩, hb, -, -, -, -⟩ := hcut
        have hn2 := h2.length
        have K1 : Hid (∀ W, Cm B2 q2 g2 k2 m2 65536 tag (2 * p) fa2 n2 fc2 es2 W → Calls _ _ _ W _) := fun W h => keysM B2 q2 g2 k2 m2 65536 (2 * p) n2 fc2 tag fa2 es2 W h (by omega)
        have L1 : Hid (∀ W, Cm B2 q2 g2 k2 m2 65536 tag (2 * p) fa2 n2 fc2 es2 W → Calls _ _ _ W _) := fun W h => lenM B2 q2 g2 k2 m2 65536 (2 * p) n2 fc2 tag fa2 es2 W h
        simp only [← hn2] at L1
        have R1 : Hid (∀ W v B l, W.ownsRow B 24 2 v n2 (pk l) → l.Perm (es2.map pr) → Rise l → Calls _ _ _ W _) := fun W v B l h hp hr => rise_yes B n2 v l W h (by omega) (by rw [hp.length_eq, List.length_map]; exact hn2.symm) hr
        clear h1 ap hL hall si HE hrow hr hl hpn hp100 hlen hn2
        go_upto_region 25 with fail
        go_wp2_with (first
          | (go_at_call 16; go_must (refine (K1.out _ h2).mono ?_; rintro e V1 ⟨v1, l1, rfl, p1, r1, o1, b1⟩; obtain ⟨a1, c1, rfl, -⟩ := orow_form o1; replace h2 := h2.on b1; replace hb := hb.trans (b1.mono hb.size)))
          | (go_at_call 15; go_must (refine (L1.out _ h2).mono ?_; rintro e V2 ⟨rfl, hw⟩; obtain rfl := hw.symm))
          | (go_at_call 17; go_must (refine (R1.out _ _ _ _ o1 p1 r1).mono ?_; rintro e V3 ⟨rfl, b3⟩; replace hb := hb.trans (b3.mono hb.size))))
        go_ret
        exact ⟨rfl, hb⟩
      · go_upto_region 19 with fail
        go_cut [16] (fun i wx => i = .int .i64 0 ∧ wx = wr)
        case first =>
          go_wp2
          go_meet
          exact ⟨rfl, rfl⟩
        case rest =>
        obtain ⟨rfl, rfl⟩ := hcut
        rename_i K0 h0
        refine h0 _ _ ?_
        clear h0 K0
        go_cut [] (fun wx => Oi w.heap.size q1 g1 k1 m1 B2 q2 g2 k2 m2 tag w pcs p p wx)
        case first =>
          go_upto_region 20 with fail
          go_loopw [16] (fun i wx => ∃ j : Nat, i = .int .i64 ((j : Nat) : Int) ∧ j ≤ p ∧ Oi w.heap.size q1 g1 k1 m1 B2 q2 g2 k2 m2 tag w pcs p p wx) (fun i _ => ((p : Int) - intOf i).toNat)
          case atStart => exact ⟨0, rfl, by omega, si⟩
          case round =>
            obtain ⟨j, rfl, hj, sj⟩ := hrel
            clear si
            by_cases hlt : j < p
            · obtain ⟨hj1, hj2⟩ := HE.out j hlt
              obtain ⟨b, off, rfl, hc⟩ : ∃ b off, ad = some ⟨b, off, none⟩ ∧ ∀ i, i < n → w.cell? ⟨b, off + i, none⟩ = some (.int .u16 (pcs.getD i 0)) := by
                rcases hrow with h | h
                · omega
                · exact h
              have E1 : Hid (∀ v, Below w.heap.size w v → v.cell? ⟨b, off + j, none⟩ = some (.int .u16 (pcs.getD j 0))) := fun v h => (h.cell (p := ⟨b, off + j, none⟩) (cell_lt (hc j hj1))).trans (hc j hj1)
              have e1 := E1.out _ sj.b
              have hji : ((j : Nat) : Int) < (n : Int) := by omega
              have hj2i : ((j : Nat) : Int) < 100 := by omega
              have C5 : Hid (∀ v, Oi w.heap.size q1 g1 k1 m1 B2 q2 g2 k2 m2 tag w pcs p p v → Calls _ _ _ v _) := fun v h => all_get _ q1 g1 k1 m1 B2 q2 g2 k2 m2 tag pcs w p j v h hp100 hlt
              generalize pcs.getD j 0 = d at e1 C5
              clear hc hrow E1
              go_wp2_with (go_at_call 13; go_must (refine (C5.out _ sj).mono ?_; rintro e V1 ⟨s, ni, lo, hi, rfl, b1⟩))
              go_roundw
              case rel => exact ⟨j + 1, by go_num, by omega, (sj.on b1).on ((Below.refl _ _).alloc (Nat.le_refl _) _)⟩
              case measure => simp [intOf]; omega
            · have hjp : j = p := by omega
              subst hjp
              go_wp2
              go_meet
              exact sj
        case rest =>
        obtain ⟨⟨fa1, n1, fc1, es1, fa2, n2, fc2, es2, h1, h2, ap, hL, hlen, hall⟩, hb, -, -, -, -⟩ := hcut
        have hn2 := h2.length
        have K1 : Hid (∀ W, Cm B2 q2 g2 k2 m2 65536 tag (2 * p) fa2 n2 fc2 es2 W → Calls _ _ _ W _) := fun W h => keysM B2 q2 g2 k2 m2 65536 (2 * p) n2 fc2 tag fa2 es2 W h (by omega)
        have L1 : Hid (∀ W, Cm B2 q2 g2 k2 m2 65536 tag (2 * p) fa2 n2 fc2 es2 W → Calls _ _ _ W _) := fun W h => lenM B2 q2 g2 k2 m2 65536 (2 * p) n2 fc2 tag fa2 es2 W h
        simp only [← hn2] at L1
        have R1 : Hid (∀ W v B l, W.ownsRow B 24 2 v n2 (pk l) → l.Perm (es2.map pr) → Rise l → Calls _ _ _ W _) := fun W v B l h hp hr => rise_yes B n2 v l W h (by omega) (by rw [hp.length_eq, List.length_map]; exact hn2.symm) hr
        clear h1 ap hL hall si HE hrow hr hl hpn hp100 hlen hn2
        go_upto_region 25 with fail
        go_wp2_with (first
          | (go_at_call 16; go_must (refine (K1.out _ h2).mono ?_; rintro e V1 ⟨v1, l1, rfl, p1, r1, o1, b1⟩; obtain ⟨a1, c1, rfl, -⟩ := orow_form o1; replace h2 := h2.on b1; replace hb := hb.trans (b1.mono hb.size)))
          | (go_at_call 15; go_must (refine (L1.out _ h2).mono ?_; rintro e V2 ⟨rfl, hw⟩; obtain rfl := hw.symm))
          | (go_at_call 17; go_must (refine (R1.out _ _ _ _ o1 p1 r1).mono ?_; rintro e V3 ⟨rfl, b3⟩; replace hb := hb.trans (b3.mono hb.size))))
        go_ret
        exact ⟨rfl, hb⟩
end Go.Proofs.Ytpnalcbpdejpjaa
