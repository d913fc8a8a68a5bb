/-
  The law XlatePrefix from its loop on.
-/
import Derived.Test.YtfdiplgjiidnbaaDoorXlPreE
set_option linter.unusedSimpArgs false
set_option linter.unusedVariables false
namespace Go.Proofs.YtfdiplgjiidnbaaDoor
open Go.RowKit Classical
theorem decide_call (k : Nat) (hk : k < 256) (W : World) : Calls Tryd.prog 12 #[.int .u8 (k : Nat)] W fun e w' => e = .returned (.agg #[.int .i64 (opN k : Nat), .int .i64 (mdN k : Nat), .int .i64 (kdN k : Nat), .int .i64 (lnN k : Nat), .int .i64 ((shQ k false false).length : Nat), .int .i64 (clN k : Nat)]) ∧ Below W.heap.size W w' := decode_any k hk W
set_option maxRecDepth 100000 in
set_option maxHeartbeats 6400000 in
theorem pre_tail2 (P N s r c' k1 n m t q1 q2 b1 o1 : Nat) (a1 : Option Addr) (va ua : Option Addr) (vc uc : Nat) (L : List Nat) (BA BB BD : Bk) (at' le kk : Nat → Nat) (w W0 W1 W3 : World) (hN1 : 1 ≤ N ∧ N ≤ 8192) (hs1 : 1 ≤ s ∧ s ≤ 64) (hr1 : 1 ≤ r ∧ r ≤ s) (HT1 : t ≤ c') (hcN : c' ≤ N) (hck : c' ≤ k1) (hc2 : k1 ≤ 140737488351232)
    (HPR : Hid (Pre L s r BA BB n m t at' le kk)) (HROW : Hid (RowAt w a1 L ∧ L.length = c' ∧ CodeAt w a1 k1 L b1 o1)) (PD : 0 < n → BD.ni < (n : Nat)) (PD0 : 0 ≤ BD.ni)
    (TD : Hid (∀ W, Below w.heap.size w W → Calls Tryd.prog 8 #[.int .u16 (P : Nat), .int .i64 0, .slice a1 t k1, .int .i64 (s : Nat)] W fun e w' => ∃ va vc, e = .returned (.tuple #[.agg #[.int .u16 (P : Nat), .int .i64 0, .string BD.s, .int .i64 BD.ni, .slice va BD.l.length vc, .int .i64 BD.lo, .int .i64 BD.hi], .int .i64 0]) ∧ w'.ownsRow W.heap.size 35 7 (.slice va BD.l.length vc) BD.l.length (mflat BD.l) ∧ Below W.heap.size W w'))
    (TE : Hid (∀ W b v, Below w.heap.size w W → Code W b 0 (List.replicate (N + 1) 0) → b < W.heap.size + 1 → v = Value.slice (some ⟨b, 0, none⟩) (N + 1) (N + 1) → Calls Tryd.prog 8 #[.int .u16 (P : Nat), .int .i64 0, v, .int .i64 (s : Nat)] W fun e w' => (∃ x y z, e = .returned (.tuple #[.agg #[.int .u16 0, .int .i64 0, .string (strB []), .int .i64 0, .slice x y z, .int .i64 0, .int .i64 0], .int .i64 131])) ∧ Below W.heap.size W w'))
    (TF : Hid (∀ W b v, Below w.heap.size w W → Code W b 0 [169, 1, 234, 0] → b < W.heap.size + 1 → v = Value.slice (some ⟨b, 0, none⟩) 4 4 → Calls Tryd.prog 8 #[.int .u16 512, .int .i64 128, v, .int .i64 1] W fun e w' => (∃ x y z u1 u2, e = .returned (.tuple #[.agg #[.int .u16 512, .int .i64 128, .string ⟨#[169, 1]⟩, .int .i64 1, .slice x y z, .int .i64 u1, .int .i64 u2], .int .i64 0])) ∧ Below W.heap.size W w'))
    (F : Bl W0 #[.int .u16 (P : Nat), .int .i64 0, .string BA.s, .int .i64 BA.ni, .slice va BA.l.length vc, .int .i64 BA.lo, .int .i64 BA.hi] q1 W3) (G : Bl W1 #[.int .u16 (P : Nat), .int .i64 0, .string BB.s, .int .i64 BB.ni, .slice ua BB.l.length uc, .int .i64 BB.lo, .int .i64 BB.hi] q2 W3) (hb2 : Below w.heap.size w W3) (HAs : Hid (BA.s = strB (L.take t))) (HTL : Hid ((L.take t).length = t)) (HAz : Hid (BA.s.size = t)) (HB : Hid (Byts (L.take t))) (y4 y5 y6 y7 y15 y16 y17 y18 y19 y20 y21 y22 y23 y24 y25 y26 y27 y28 y29 y30 y31 y32 y33 y34 y35 y36 y37 y38 y39 y40 y41 y42 y43 y44 y45 y46 y47 y48 y49 y50 y51 y52 y53 y54 y55 y56 y57 y58 y59 y60 y61 y62 y63 y64 y65 y66 y67 y68 y69 y70 y71 y72 y73 y74 y75 y76 y77 y78 y79 y80 y81 y82 y83 y84 y85 y86 y87 y88 y89 y90 y91 y92 y93 y94 y95 y96 y97 y98 y99 y100 y101 y102 y103 y104 y105 y106 y107 y108 y109 y110 y111 y112 y113 y114 y115 y116 y117 y118 y119 y120 y121 y122 y123 y124 y125 y126 y127 y128 y129 y130 y131 y132 y133 y134 y135 y136 y137 y138 y139 y140 y141 y142 y143 y144 y145 y146 y147 y148 y149 y150 y151 y152 y153 y154 y155 y156 y157 y158 y159 y160 y161 y162 y163 y164 y165 y166 y167 y168 y169 y170 y171 y172 y173 y174 y175 y176 y177 y178 y179 y180 y181 y182 y183 y184 y185 y186 y187 y188 y189 y190 y191 y192 y193 y194 y195 y196 y197 y198 y199 y200 y201 y202 y203 y204 y205 y206 y207 y208 y209 y210 y211 y212 y213 y214 y215 y216 y217 y218 y219 y220 y221 y222 y223 y224 y225 y226 y227 y228 y229 y230 y231 y232 y233 y234 y235 y236 y237 y238 y239 y240 y241 y242 y243 y244 y245 y246 y247 y248 y249 y250 y251 y252 y253 y254 y255 y256 y257 y258 y259 y260 y261 y262 : Value) (K : Act → World → Prop) (hK : ∀ a' w', (restOf 11 (Tryd.f4.body.getD .skip)).wp Tryd.prog (bodyPost Tryd.prog Tryd.f4 fun e w' => e = .returned (.bool true) ∧ Below w.heap.size w w') a' w' → K a' w') :
    (headOf (restOf 10 (Tryd.f4.body.getD .skip))).wp Tryd.prog (Exit.then K (bodyPost Tryd.prog Tryd.f4 fun e w' => e = .returned (.bool true) ∧ Below w.heap.size w w')) ⟨#[.int .u16 ((P : Nat) : Int), .slice a1 c' k1, .int .i64 ((s : Nat) : Int), .int .i64 ((r : Nat) : Int), y4, y5, y6, y7, .bool false, .int .i64 ((N : Nat) : Int), .slice (some ⟨w.heap.size, 0, none⟩) c' c', .pointer (some ⟨q1, 0, none⟩), .int .i64 0, .pointer (some ⟨q2, 0, none⟩), .int .i64 0, y15, y16, y17, y18, y19, y20, y21, y22, y23, y24, y25, y26, y27, y28, y29, y30, y31, y32, y33, y34, y35, y36, y37, y38, y39, y40, y41, y42, y43, y44, y45, y46, y47, y48, y49, y50, y51, y52, y53, y54, y55, y56, y57, y58, y59, y60, y61, y62, y63, y64, y65, y66, y67, y68, y69, y70, y71, y72, y73, y74, y75, y76, y77, y78, y79, y80, y81, y82, y83, y84, y85, y86, y87, y88, y89, y90, y91, y92, y93, y94, y95, y96, y97, y98, y99, y100, y101, y102, y103, y104, y105, y106, y107, y108, y109, y110, y111, y112, y113, y114, y115, y116, y117, y118, y119, y120, y121, y122, y123, y124, y125, y126, y127, y128, y129, y130, y131, y132, y133, y134, y135, y136, y137, y138, y139, y140, y141, y142, y143, y144, y145, y146, y147, y148, y149, y150, y151, y152, y153, y154, y155, y156, y157, y158, y159, y160, y161, y162, y163, y164, y165, y166, y167, y168, y169, y170, y171, y172, y173, y174, y175, y176, y177, y178, y179, y180, y181, y182, y183, y184, y185, y186, y187, y188, y189, y190, y191, y192, y193, y194, y195, y196, y197, y198, y199, y200, y201, y202, y203, y204, y205, y206, y207, y208, y209, y210, y211, y212, y213, y214, y215, y216, y217, y218, y219, y220, y221, y222, y223, y224, y225, y226, y227, y228, y229, y230, y231, y232, y233, y234, y235, y236, y237, y238, y239, y240, y241, y242, y243, y244, y245, y246, y247, y248, y249, y250, y251, y252, y253, y254, y255, y256, y257, y258, y259, y260, y261, y262], []⟩ W3 := by
  dsimp only
  conv => arg 2; whnf
  conv at hK => enter [a', w', 1, 2]; whnf
  have HFG : Hid (∀ W, Below W3.heap.size W3 W → Blk W q1 #[.int .u16 (P : Nat), .int .i64 0, .string BA.s, .int .i64 BA.ni, .slice va BA.l.length vc, .int .i64 BA.lo, .int .i64 BA.hi] 27 ∧ Blk W q2 #[.int .u16 (P : Nat), .int .i64 0, .string BB.s, .int .i64 BB.ni, .slice ua BB.l.length uc, .int .i64 BB.lo, .int .i64 BB.hi] 27 ∧ Below w.heap.size w W) := fun W hb => ⟨F.b.below F.b.lt hb, G.b.below G.b.lt hb, hb2.trans (hb.mono hb2.size)⟩
  have HCL : Hid (∀ W, Below W3.heap.size W3 W → W.cell? ⟨q1, 2, none⟩ = some (.string BA.s) ∧ W.cell? ⟨q1, 3, none⟩ = some (.int .i64 ((n : Nat) : Int)) ∧ W.cell? ⟨q1, 5, none⟩ = some (.int .i64 ((le n : Nat) : Int)) ∧ W.cell? ⟨q1, 6, none⟩ = some (.int .i64 BA.hi) ∧ W.cell? ⟨q2, 2, none⟩ = some (.string BB.s) ∧ W.cell? ⟨q2, 3, none⟩ = some (.int .i64 ((m : Nat) : Int)) ∧ W.cell? ⟨q2, 5, none⟩ = some (.int .i64 ((le m : Nat) : Int))) := fun W hb => by
    obtain ⟨x1, x2, -⟩ := HFG.out W hb
    refine ⟨x1.cell 2, ?_, ?_, x1.cell 6, x2.cell 2, ?_, ?_⟩
    · rw [← HPR.out.n1]; exact x1.cell 3
    · rw [← HPR.out.al]; exact x1.cell 5
    · rw [← HPR.out.m1]; exact x2.cell 3
    · rw [← HPR.out.bl]; exact x2.cell 5
  have hAz := HAz.out
  have hn64 := HPR.out.n64
  clear F G
  go_upto_region 15 with fail
  go_loopw [15, 16, 17] (fun x y z wr => ∃ i : Nat, i ≤ n ∧ x = .int .i64 ((at' i : Nat) : Int) ∧ y = .int .i64 ((le i : Nat) : Int) ∧ z = .int .i64 ((i : Nat) : Int) ∧ Below W3.heap.size W3 wr) (fun _ _ z _ => n - (intOf z).toNat)
  case atStart => exact ⟨0, Nat.zero_le _, by rw [HPR.out.a0]; rfl, by rw [HPR.out.l0]; rfl, rfl, Below.refl _ _⟩
  case round =>
    obtain ⟨i, hi, rfl, rfl, rfl, hb4⟩ := hrel
    obtain ⟨f2, f3, f5, f6, g2, g3, g5⟩ := HCL.out wr hb4
    by_cases hlt : i < n
    · obtain ⟨e1, e2, e3, e4, e5, e6, e7⟩ := HPR.out.k i hlt
      have hl3 := ln_bd _ e3
      have hc8 := cy_bd _ e3
      have hle := HPR.out.le9 i (by omega)
      have hlti : (i : Int) < (n : Int) := by omega
      have IX : ∀ W : World, (Instr.index 9 (.string BA.s) (.int .i64 ((at' i : Nat) : Int))).run Tryd.prog W = .ok (.int .u8 ((kk i : Nat) : Int)) W := fun W => by
        have h9 := run_idxS BA.s (L.take t) (at' i) W HAs.out (by rw [HTL.out]; exact e1) HB.out
        have h8 : (L.take t).getD (at' i) 0 = kk i := by rw [e2]; simp [List.getD, List.getElem?_take, e1]
        rwa [h8] at h9
      have DC : Hid (∀ W, Calls _ _ _ W _) := fun W => decide_call (kk i) e3 W
      have PX : i + 1 = m → ∀ W : World, (Instr.slice 9 (.string BA.s) none (some (.int .i64 ((at' (i + 1) : Nat) : Int))) none).run Tryd.prog W = .ok (.string BB.s) W := fun hm W => by
        refine run_preS BA.s BB.s (L.take t) (at' (i + 1)) W HAs.out ?_ (by rw [HTL.out]; exact e6)
        rw [HPR.out.sB, ← hm, List.take_take, Nat.min_eq_left e6]
      have LX : i + 1 = m → le m = le (i + 1) := fun hm => by rw [hm]
      clear e2
      generalize kk i = k at *
      obtain ⟨x, hx⟩ : ∃ x, at' i = x := ⟨_, rfl⟩
      obtain ⟨x1, hx1⟩ : ∃ x1, at' (i + 1) = x1 := ⟨_, rfl⟩
      obtain ⟨y, hy⟩ : ∃ y, le i = y := ⟨_, rfl⟩
      obtain ⟨y1, hy1⟩ : ∃ y1, le (i + 1) = y1 := ⟨_, rfl⟩
      have HX : Hid (at' (i + 1) = x1 ∧ le (i + 1) = y1) := ⟨hx1, hy1⟩
      rw [hx] at e1 e4 IX ⊢
      rw [hy] at e5 hle ⊢
      rw [hx1] at e4 e6 PX
      rw [hy1] at e5 LX
      have HL : Hid (i + 1 < n → endsI (kdN k : Nat) = false) := e7
      clear hx hx1 hy hy1 e7
      generalize lnN k = ln at *
      have hcy : (shQ k false false).length = cyN k := rfl
      rw [hcy] at DC
      generalize cyN k = cy at *
      generalize kdN k = kd at *
      have hx4 : (x : Int) + (ln : Int) = (x1 : Int) := by omega
      have hy4 : (y : Int) + (cy : Int) = (y1 : Int) := by omega
      have hxt : ¬ (t : Int) ≤ (x : Int) := by omega
      have hx9 : (x1 : Int) ≤ 8192 := by omega
      have hy9 : (y1 : Int) ≤ 1000 := by omega
      have hx0 : x ≤ 8192 := by omega
      have hl1 : ln ≤ 3 := hl3.2
      have hc1 : cy ≤ 8 := hc8.2
      have hi9 : i ≤ 64 := by omega
      clear e4 e5 hl3 hc8
      have hb4w := (HFG.out wr hb4).2.2
      clear f5 f6 g2 g3 g5
      go_upto_region 18 with fail
      go_cut [18] (fun p wx => ∃ q, p = .pointer (some ⟨q, 0, none⟩) ∧ Blk wx q #[.int .i64 (opN k : Nat), .int .i64 (mdN k : Nat), .int .i64 ((kd : Nat) : Int), .int .i64 ((ln : Nat) : Int), .int .i64 ((cy : Nat) : Int), .int .i64 (clN k : Nat)] 42 ∧ Below W3.heap.size W3 wx)
      case first =>
        go_wp2_with (first
          | (go_at_call 12; go_must (refine (DC.out _).mono ?_; rintro e W5 ⟨rfl, hb5⟩; have hb5' := hb4.trans (hb5.mono hb4.size); clear hb5))
          | (refine wpList_store_blk rfl 42 _ _ rfl W5.heap.size Zi6 #[.int .i64 (opN k : Nat), .int .i64 (mdN k : Nat), .int .i64 ((kd : Nat) : Int), .int .i64 ((ln : Nat) : Int), .int .i64 ((cy : Nat) : Int), .int .i64 (clN k : Nat)] 42 rfl rfl (Blk.new W5 _ _) rfl (by kernel_rfl) (by kernel_rfl) W3.heap.size W3 hb5'.size (hb5'.alloc hb5'.size _) ?_; intro w6 z6 hb6 _))
        go_meet
        exact ⟨_, rfl, z6, hb6⟩
      case rest =>
      clear DC IX f2 f3 hb4 hb4w
      obtain ⟨q, rfl, zq, hb4⟩ := hcut
      generalize wc = W5 at *
      obtain ⟨f2, f3, f5, f6, g2, g3, g5⟩ := HCL.out W5 hb4
      have z2 : W5.cell? ⟨q, 2, none⟩ = some (.int .i64 ((kd : Nat) : Int)) := zq.cell 2
      have z3 : W5.cell? ⟨q, 3, none⟩ = some (.int .i64 ((ln : Nat) : Int)) := zq.cell 3
      have z4 : W5.cell? ⟨q, 4, none⟩ = some (.int .i64 ((cy : Nat) : Int)) := zq.cell 4
      clear zq f5 f6
      go_upto_region 22 with fail
      clear z3 z4
      go_cut [139] (fun v wx => v = .bool false ∧ Below W5.heap.size W5 wx)
      case first =>
        by_cases hm : i + 1 = m
        · have PX2 := PX hm
          have LX2 := LX hm
          have c1 : (((i : Int) + 1) == (m : Int)) = true := by rw [beq_iff_eq]; omega
          have c2 : (((y1 : Nat) : Int) != ((y1 : Nat) : Int)) = false := by simp
          rw [LX2] at g5
          clear PX LX LX2 hm
          go_quiet (fail)
          go_wp2
          go_meet
          exact ⟨rfl, below_drawsX (Below.refl _ _) _⟩
        · have c1 : (((i : Int) + 1) == (m : Int)) = false := by rw [beq_eq_false_iff_ne]; omega
          clear PX LX hm
          go_quiet (fail)
          go_wp2
          go_meet
          exact ⟨rfl, below_drawsX (Below.refl _ _) _⟩
      case rest =>
      obtain ⟨rfl, hb5⟩ := hcut
      generalize wc = W6 at *
      have hb6 := hb4.trans (hb5.mono hb4.size)
      replace z2 := (hb5.cell (p := ⟨q, 2, none⟩) (cell_lt z2)).trans z2
      clear f2 f3 g2 g3 g5 hb4 hb5 PX LX
      obtain ⟨-, f3, -⟩ := HCL.out W6 hb6
      by_cases hin : i + 1 < n
      · have hini : (i : Int) + 1 < (n : Int) := by omega
        have he := HL.out hin
        unfold endsI at he
        simp only [Bool.or_eq_false_iff] at he
        obtain ⟨k5, k6, k7, k8⟩ := he
        clear HL
        go_wp2
        go_roundw
        case rel => exact ⟨i + 1, by omega, by rw [HX.out.1], by rw [HX.out.2], by go_num, hb6⟩
        case measure => simp [intOf]; omega
      · have hini : ¬ (i : Int) + 1 < (n : Int) := by omega
        clear HL
        go_wp2
        go_roundw
        case rel => exact ⟨i + 1, by omega, by rw [HX.out.1], by rw [HX.out.2], by go_num, hb6⟩
        case measure => simp [intOf]; omega
    · obtain rfl : i = n := by omega
      have hAn := HPR.out.an
      have hlo := HPR.out.ah
      rw [HPR.out.al] at hlo
      have hmn := HPR.out.mn
      rw [hAn]
      obtain ⟨l9, hl9⟩ : ∃ l9, le i = l9 := ⟨_, rfl⟩
      rw [hl9] at f5 hlo ⊢
      clear hlt hi hl9 hAn g5 g2
      have q1' : (((t : Nat) : Int) != ((t : Nat) : Int)) = false := by simp
      have q2' : (((l9 : Nat) : Int) != ((l9 : Nat) : Int)) = false := by simp
      have q3' : ¬ BA.hi < ((l9 : Nat) : Int) := by omega
      have q4' : ¬ ((r : Nat) : Int) < ((m : Nat) : Int) := by omega
      have q5' : ¬ ((i : Nat) : Int) < ((m : Nat) : Int) := by omega
      go_upto_region 26 with fail
      go_cut [207] (fun v wx => v = .bool false ∧ wx = wr)
      case first =>
        by_cases hmi : m < i
        · have q6 : ((m : Nat) : Int) < ((i : Nat) : Int) := by omega
          have q7 : (((m : Nat) : Int) != ((r : Nat) : Int)) = false := by simp; omega
          clear hmn
          go_wp2
          go_meet
          exact ⟨rfl, rfl⟩
        · have q6 : ¬ ((m : Nat) : Int) < ((i : Nat) : Int) := by omega
          clear hmn
          go_wp2
          go_meet
          exact ⟨rfl, rfl⟩
      case rest =>
      obtain ⟨rfl, hwc⟩ := hcut
      rw [hwc]
      clear hwc f5 f6 g3 q1' q2' q3' q4' q5' hmn hlo
      go_upto_region 28 with fail
      exact pre_tail4 P N s r c' k1 i m t q1 q2 b1 o1 l9 a1 va ua vc uc L BA BB BD at' le kk w W3 wr hN1 hs1 hr1 HT1 hcN hck hc2 PD PD0 TD TE TF HCL HFG hAz f2 f3 hb4 _ _ _ _ _ _ _ _ _ _ _ _ _ _ _ _ _ _ _ _ _ _ _ _ _ _ _ _ _ _ _ _ _ _ _ _ _ _ _ _ _ _ _ _ _ _ _ _ _ _ _ _ _ _ _ _ _ _ _ _ _ _ _ _ _ _ _ _ _ _ _ _ _ _ _ _ _ _ _ _ _ _ _ _ _ _ _ _ _ _ _ _ _ _ _ _ _ _ _ _ _ _ _ _ _ _ _ _ _ _ _ _ _ _ _ _ _ _ _ _ _ _ _ _ _ _ _ _ _ _ _ _ _ _ _ _ _ _ _ _ _ _ _ _ _ _ _ _ _ _ _ _ _ _ _ _ _ _ _ _ _ _ _ _ _ _ _ _ _ _ _ _ _ _ _ _ _ _ _ _ _ _ _ _ _ _ _ _ _ _ _ _ _ _ _ _ _ _ _ _ _ _ _ _ _ _ _ _ _ _ _ _ _ _ _ _ _ _ _ _ _ _ _ _ _ _ _ _ _ _ _ _ _ _ _ _ _ _ _ _ _ _ _ _ _ _ _ _ _ _ _ (by assumption)
end Go.Proofs.YtfdiplgjiidnbaaDoor
