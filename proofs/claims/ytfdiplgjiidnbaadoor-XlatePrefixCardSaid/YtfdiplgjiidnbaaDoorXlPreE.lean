/-
  The law XlatePrefix: code cut short.
-/
import Derived.Test.YtfdiplgjiidnbaaDoorXlPreF
set_option linter.unusedSimpArgs false
set_option linter.unusedVariables false
namespace Go.Proofs.YtfdiplgjiidnbaaDoor
open Go.RowKit Classical
set_option maxRecDepth 100000 in
set_option maxHeartbeats 6400000 in
theorem pre_tail4 (P N s r c' k1 n m t q1 q2 b1 o1 l9 : Nat) (a1 : Option Addr) (va ua : Option Addr) (vc uc : Nat) (L : List Nat) (BA BB BD : Bk) (at' le kk : Nat → Nat) (w W3 wr : World) (hN1 : 1 ≤ N ∧ N ≤ 8192) (hs1 : 1 ≤ s ∧ s ≤ 64) (hr1 : 1 ≤ r ∧ r ≤ s) (HT1 : t ≤ c') (hcN : c' ≤ N) (hck : c' ≤ k1) (hc2 : k1 ≤ 140737488351232) (PD : 0 < n → BD.ni < (n : Nat)) (PD0 : 0 ≤ BD.ni)
    (TD : Hid (∀ W, Below w.heap.size w W → Calls Tryd.prog 8 #[.int .u16 (P : Nat), .int .i64 0, .slice a1 t k1, .int .i64 (s : Nat)] W fun e w' => ∃ va vc, e = .returned (.tuple #[.agg #[.int .u16 (P : Nat), .int .i64 0, .string BD.s, .int .i64 BD.ni, .slice va BD.l.length vc, .int .i64 BD.lo, .int .i64 BD.hi], .int .i64 0]) ∧ w'.ownsRow W.heap.size 35 7 (.slice va BD.l.length vc) BD.l.length (mflat BD.l) ∧ Below W.heap.size W w'))
    (TE : Hid (∀ W b v, Below w.heap.size w W → Code W b 0 (List.replicate (N + 1) 0) → b < W.heap.size + 1 → v = Value.slice (some ⟨b, 0, none⟩) (N + 1) (N + 1) → Calls Tryd.prog 8 #[.int .u16 (P : Nat), .int .i64 0, v, .int .i64 (s : Nat)] W fun e w' => (∃ x y z, e = .returned (.tuple #[.agg #[.int .u16 0, .int .i64 0, .string (strB []), .int .i64 0, .slice x y z, .int .i64 0, .int .i64 0], .int .i64 131])) ∧ Below W.heap.size W w'))
    (TF : Hid (∀ W b v, Below w.heap.size w W → Code W b 0 [169, 1, 234, 0] → b < W.heap.size + 1 → v = Value.slice (some ⟨b, 0, none⟩) 4 4 → Calls Tryd.prog 8 #[.int .u16 512, .int .i64 128, v, .int .i64 1] W fun e w' => (∃ x y z u1 u2, e = .returned (.tuple #[.agg #[.int .u16 512, .int .i64 128, .string ⟨#[169, 1]⟩, .int .i64 1, .slice x y z, .int .i64 u1, .int .i64 u2], .int .i64 0])) ∧ Below W.heap.size W w'))
    (HCL : Hid (∀ W, Below W3.heap.size W3 W → W.cell? ⟨q1, 2, none⟩ = some (.string BA.s) ∧ W.cell? ⟨q1, 3, none⟩ = some (.int .i64 ((n : Nat) : Int)) ∧ W.cell? ⟨q1, 5, none⟩ = some (.int .i64 ((le n : Nat) : Int)) ∧ W.cell? ⟨q1, 6, none⟩ = some (.int .i64 BA.hi) ∧ W.cell? ⟨q2, 2, none⟩ = some (.string BB.s) ∧ W.cell? ⟨q2, 3, none⟩ = some (.int .i64 ((m : Nat) : Int)) ∧ W.cell? ⟨q2, 5, none⟩ = some (.int .i64 ((le m : Nat) : Int))))
    (HFG : Hid (∀ W, Below W3.heap.size W3 W → Blk W q1 #[.int .u16 (P : Nat), .int .i64 0, .string BA.s, .int .i64 BA.ni, .slice va BA.l.length vc, .int .i64 BA.lo, .int .i64 BA.hi] 27 ∧ Blk W q2 #[.int .u16 (P : Nat), .int .i64 0, .string BB.s, .int .i64 BB.ni, .slice ua BB.l.length uc, .int .i64 BB.lo, .int .i64 BB.hi] 27 ∧ Below w.heap.size w W)) (hAz : BA.s.size = t)
    (f2 : wr.cell? ⟨q1, 2, none⟩ = some (.string BA.s)) (f3 : wr.cell? ⟨q1, 3, none⟩ = some (.int .i64 ((n : Nat) : Int))) (hb4 : Below W3.heap.size W3 wr) (y4 y5 y6 y7 y8 y18 y19 y20 y21 y22 y23 y24 y25 y26 y27 y28 y29 y30 y31 y32 y33 y34 y35 y36 y37 y38 y39 y40 y41 y42 y43 y44 y45 y46 y47 y48 y49 y50 y51 y52 y53 y54 y55 y56 y57 y58 y59 y60 y61 y62 y63 y64 y65 y66 y67 y68 y69 y70 y71 y72 y73 y74 y75 y76 y77 y78 y79 y80 y81 y82 y83 y84 y85 y86 y87 y88 y89 y90 y91 y92 y93 y94 y95 y96 y97 y98 y99 y100 y101 y102 y103 y104 y105 y106 y107 y108 y109 y110 y111 y112 y113 y114 y115 y116 y117 y118 y119 y120 y121 y122 y123 y124 y125 y126 y127 y128 y129 y130 y131 y132 y133 y134 y135 y136 y137 y138 y139 y140 y141 y142 y143 y144 y145 y146 y147 y148 y149 y150 y151 y152 y153 y154 y155 y156 y157 y158 y159 y160 y161 y162 y163 y164 y165 y166 y167 y168 y169 y170 y171 y172 y173 y174 y175 y176 y177 y178 y179 y180 y181 y182 y183 y184 y185 y186 y187 y188 y189 y190 y191 y192 y193 y194 y195 y196 y197 y198 y199 y200 y201 y202 y203 y204 y205 y206 y207 y208 y209 y210 y211 y212 y213 y214 y215 y216 y217 y218 y219 y220 y221 y222 y223 y224 y225 y226 y227 y228 y229 y230 y231 y232 y233 y234 y235 y236 y237 y238 y239 y240 y241 y242 y243 y244 y245 y246 y247 y248 y249 y250 y251 y252 y253 y254 y255 y256 y257 y258 y259 y260 y261 y262 : Value) (K : Act → World → Prop) (hK : ∀ a' w', (restOf 16 (Tryd.f4.body.getD .skip)).wp Tryd.prog (bodyPost Tryd.prog Tryd.f4 fun e w' => e = .returned (.bool true) ∧ Below w.heap.size w w') a' w' → K a' w') :
    (headOf (restOf 15 (Tryd.f4.body.getD .skip))).wp Tryd.prog (Exit.then K (bodyPost Tryd.prog Tryd.f4 fun e w' => e = .returned (.bool true) ∧ Below w.heap.size w w')) ⟨#[.int .u16 ((P : Nat) : Int), .slice a1 c' k1, .int .i64 ((s : Nat) : Int), .int .i64 ((r : Nat) : Int), y4, y5, y6, y7, y8, .int .i64 ((N : Nat) : Int), .slice (some ⟨w.heap.size, 0, none⟩) c' c', .pointer (some ⟨q1, 0, none⟩), .int .i64 0, .pointer (some ⟨q2, 0, none⟩), .int .i64 0, .int .i64 ((t : Nat) : Int), .int .i64 ((l9 : Nat) : Int), .int .i64 ((n : Nat) : Int), y18, y19, y20, y21, y22, y23, y24, y25, y26, y27, y28, y29, y30, y31, y32, y33, y34, y35, y36, y37, y38, y39, y40, y41, y42, y43, y44, y45, y46, y47, y48, y49, y50, y51, y52, y53, y54, y55, y56, y57, y58, y59, y60, y61, y62, y63, y64, y65, y66, y67, y68, y69, y70, y71, y72, y73, y74, y75, y76, y77, y78, y79, y80, y81, y82, y83, y84, y85, y86, y87, y88, y89, y90, y91, y92, y93, y94, y95, y96, y97, y98, y99, y100, y101, y102, y103, y104, y105, y106, y107, y108, y109, y110, y111, y112, y113, y114, y115, y116, y117, y118, y119, y120, y121, y122, y123, y124, y125, y126, y127, y128, y129, y130, y131, y132, y133, y134, y135, y136, y137, y138, y139, y140, y141, y142, y143, y144, y145, y146, y147, y148, y149, y150, y151, y152, y153, y154, y155, y156, y157, y158, y159, y160, y161, y162, y163, y164, y165, y166, y167, y168, y169, y170, y171, y172, y173, y174, y175, y176, y177, y178, y179, y180, y181, y182, y183, y184, y185, y186, y187, y188, y189, y190, y191, y192, y193, y194, y195, y196, y197, y198, y199, y200, y201, y202, y203, y204, y205, y206, y207, y208, y209, y210, y211, y212, y213, y214, y215, y216, y217, y218, y219, y220, y221, y222, y223, y224, y225, y226, y227, y228, y229, y230, y231, y232, y233, y234, y235, y236, y237, y238, y239, y240, y241, y242, y243, y244, y245, y246, y247, y248, y249, y250, y251, y252, y253, y254, y255, y256, y257, y258, y259, y260, y261, y262], []⟩ wr := by
  dsimp only
  conv => arg 2; whnf
  conv at hK => enter [a', w', 1, 2]; whnf
  have hbw := (HFG.out wr hb4).2.2
  have SLC : ∀ W : World, (Instr.slice 23 (.slice a1 c' k1) none (some (.int .i64 ((t : Nat) : Int))) none).run Tryd.prog W = .ok (.slice a1 t k1) W := fun W => run_slH a1 c' k1 t W (by omega)
  go_upto_region 28 with fail
  go_cut [19, 20] (fun p e wx => ∃ q, p = .pointer (some ⟨q, 0, none⟩) ∧ e = .int .i64 0 ∧ wx.cell? ⟨q, 3, none⟩ = some (.int .i64 BD.ni) ∧ Below wr.heap.size wr wx)
  case first =>
    go_wp2_with (go_at_call 8; go_must (refine (TD.out _ hbw).mono ?_; rintro e W7 ⟨xa, xc, rfl, -, hb7⟩))
    go_meet
    refine ⟨_, rfl, rfl, ?_, hb7.alloc hb7.size _⟩
    exact (Blk.new W7 #[.int .u16 (P : Nat), .int .i64 0, .string BD.s, .int .i64 BD.ni, .slice xa BD.l.length xc, .int .i64 BD.lo, .int .i64 BD.hi] 27).cell 3
  case rest =>
  clear TD SLC hbw
  obtain ⟨q, rfl, rfl, d3, hb7⟩ := hcut
  generalize wc = W7 at *
  have hb8 := hb4.trans (hb7.mono hb4.size)
  clear hb4 hb7 f2 f3
  obtain ⟨-, f3, -⟩ := HCL.out W7 hb8
  have hbw := (HFG.out W7 hb8).2.2
  go_upto_region 29 with fail
  go_cut [232] (fun v wx => v = .bool false ∧ wx = W7)
  case first =>
    by_cases h0 : 0 < n
    · have q6 : (0 : Int) < ((n : Nat) : Int) := by omega
      have q7 : ¬ ((n : Nat) : Int) ≤ BD.ni := by have := PD h0; omega
      clear PD
      go_wp2
      go_meet
      exact ⟨rfl, rfl⟩
    · have q6 : ¬ (0 : Int) < ((n : Nat) : Int) := by omega
      clear PD
      go_wp2
      go_meet
      exact ⟨rfl, rfl⟩
  case rest =>
  obtain ⟨rfl, hwc⟩ := hcut
  rw [hwc]
  clear hwc d3 f3 PD PD0
  go_upto_region 31 with fail
  exact pre_tail5 P N s r c' k1 n t q1 q2 q l9 a1 w W7 hN1 TE TF hbw _ _ _ _ _ _ _ _ _ _ _ _ _ _ _ _ _ _ _ _ _ _ _ _ _ _ _ _ _ _ _ _ _ _ _ _ _ _ _ _ _ _ _ _ _ _ _ _ _ _ _ _ _ _ _ _ _ _ _ _ _ _ _ _ _ _ _ _ _ _ _ _ _ _ _ _ _ _ _ _ _ _ _ _ _ _ _ _ _ _ _ _ _ _ _ _ _ _ _ _ _ _ _ _ _ _ _ _ _ _ _ _ _ _ _ _ _ _ _ _ _ _ _ _ _ _ _ _ _ _ _ _ _ _ _ _ _ _ _ _ _ _ _ _ _ _ _ _ _ _ _ _ _ _ _ _ _ _ _ _ _ _ _ _ _ _ _ _ _ _ _ _ _ _ _ _ _ _ _ _ _ _ _ _ _ _ _ _ _ _ _ _ _ _ _ _ _ _ _ _ _ _ _ _ _ _ _ _ _ _ _ _ _ _ _ _ _ _ _ _ _ _ _ _ _ _ _ _ _ _ _ _ _ _ _ _ _ _ _ _ _ _ _ _ _ _ _ _ _ (by assumption)
end Go.Proofs.YtfdiplgjiidnbaaDoor
