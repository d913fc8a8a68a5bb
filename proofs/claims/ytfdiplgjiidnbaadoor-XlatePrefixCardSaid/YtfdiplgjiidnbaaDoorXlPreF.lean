/-
  The law XlatePrefix: its last questions.
-/
import Derived.Test.YtfdiplgjiidnbaaDoorXlPreW
set_option linter.unusedSimpArgs false
set_option linter.unusedVariables false
namespace Go.Proofs.YtfdiplgjiidnbaaDoor
open Go.RowKit Classical
/-- A block of a law's own. -/
structure Bl (w : World) (C : Array Value) (q : Nat) (W : World) : Prop where
  b : Blk W q C 27
  hb : Below w.heap.size w W
  lt : w.heap.size ≤ q
theorem Bl.on {w W W' : World} {C : Array Value} {q : Nat} (h : Bl w C q W) (hb : Below W.heap.size W W') : Bl w C q W' := ⟨h.b.below h.b.lt hb, h.hb.trans (hb.mono h.hb.size), h.lt⟩
theorem Bl.laid {w W : World} {C : Array Value} (hb : Below w.heap.size w W) : Bl w C W.heap.size (W.alloc (.cells C 27)) := ⟨Blk.new W _ _, hb.alloc hb.size _, hb.size⟩
def restOf : Nat → Go.Code → Go.Code
  | n + 1, .seq _ b => restOf n b
  | _, c => c
def headOf : Go.Code → Go.Code
  | .seq a _ => a
  | c => c
set_option maxRecDepth 100000 in
set_option maxHeartbeats 6400000 in
theorem pre_tail5 (P N s r c' k1 n t q1 q2 q l9 : Nat) (a1 : Option Addr) (w W7 : World) (hN1 : 1 ≤ N ∧ N ≤ 8192) (TE : Hid (∀ W b v, Below w.heap.size w W → Code W b 0 (List.replicate (N + 1) 0) → b < W.heap.size + 1 → v = Value.slice (some ⟨b, 0, none⟩) (N + 1) (N + 1) → Calls Tryd.prog 8 #[.int .u16 (P : Nat), .int .i64 0, v, .int .i64 (s : Nat)] W fun e w' => (∃ x y z, e = .returned (.tuple #[.agg #[.int .u16 0, .int .i64 0, .string (strB []), .int .i64 0, .slice x y z, .int .i64 0, .int .i64 0], .int .i64 131])) ∧ Below W.heap.size W w'))
    (TF : Hid (∀ W b v, Below w.heap.size w W → Code W b 0 [169, 1, 234, 0] → b < W.heap.size + 1 → v = Value.slice (some ⟨b, 0, none⟩) 4 4 → Calls Tryd.prog 8 #[.int .u16 512, .int .i64 128, v, .int .i64 1] W fun e w' => (∃ x y z u1 u2, e = .returned (.tuple #[.agg #[.int .u16 512, .int .i64 128, .string ⟨#[169, 1]⟩, .int .i64 1, .slice x y z, .int .i64 u1, .int .i64 u2], .int .i64 0])) ∧ Below W.heap.size W w')) (hbw : Below w.heap.size w W7) (y4 y5 y6 y7 y8 y18 y21 y22 y23 y24 y25 y26 y27 y28 y29 y30 y31 y32 y33 y34 y35 y36 y37 y38 y39 y40 y41 y42 y43 y44 y45 y46 y47 y48 y49 y50 y51 y52 y53 y54 y55 y56 y57 y58 y59 y60 y61 y62 y63 y64 y65 y66 y67 y68 y69 y70 y71 y72 y73 y74 y75 y76 y77 y78 y79 y80 y81 y82 y83 y84 y85 y86 y87 y88 y89 y90 y91 y92 y93 y94 y95 y96 y97 y98 y99 y100 y101 y102 y103 y104 y105 y106 y107 y108 y109 y110 y111 y112 y113 y114 y115 y116 y117 y118 y119 y120 y121 y122 y123 y124 y125 y126 y127 y128 y129 y130 y131 y132 y133 y134 y135 y136 y137 y138 y139 y140 y141 y142 y143 y144 y145 y146 y147 y148 y149 y150 y151 y152 y153 y154 y155 y156 y157 y158 y159 y160 y161 y162 y163 y164 y165 y166 y167 y168 y169 y170 y171 y172 y173 y174 y175 y176 y177 y178 y179 y180 y181 y182 y183 y184 y185 y186 y187 y188 y189 y190 y191 y192 y193 y194 y195 y196 y197 y198 y199 y200 y201 y202 y203 y204 y205 y206 y207 y208 y209 y210 y211 y212 y213 y214 y215 y216 y217 y218 y219 y220 y221 y222 y223 y224 y225 y226 y227 y228 y229 y230 y231 y232 y233 y234 y235 y236 y237 y238 y239 y240 y241 y242 y243 y244 y245 y246 y247 y248 y249 y250 y251 y252 y253 y254 y255 y256 y257 y258 y259 y260 y261 y262 : Value) (K : Act → World → Prop) (hK : ∀ a' w', (restOf 18 (Tryd.f4.body.getD .skip)).wp Tryd.prog (bodyPost Tryd.prog Tryd.f4 fun e w' => e = .returned (.bool true) ∧ Below w.heap.size w w') a' w' → K a' w') :
    (headOf (restOf 17 (Tryd.f4.body.getD .skip))).wp Tryd.prog (Exit.then K (bodyPost Tryd.prog Tryd.f4 fun e w' => e = .returned (.bool true) ∧ Below w.heap.size w w')) ⟨#[.int .u16 ((P : Nat) : Int), .slice a1 c' k1, .int .i64 ((s : Nat) : Int), .int .i64 ((r : Nat) : Int), y4, y5, y6, y7, y8, .int .i64 ((N : Nat) : Int), .slice (some ⟨w.heap.size, 0, none⟩) c' c', .pointer (some ⟨q1, 0, none⟩), .int .i64 0, .pointer (some ⟨q2, 0, none⟩), .int .i64 0, .int .i64 ((t : Nat) : Int), .int .i64 ((l9 : Nat) : Int), .int .i64 ((n : Nat) : Int), y18, .pointer (some ⟨q, 0, none⟩), .int .i64 0, y21, y22, y23, y24, y25, y26, y27, y28, y29, y30, y31, y32, y33, y34, y35, y36, y37, y38, y39, y40, y41, y42, y43, y44, y45, y46, y47, y48, y49, y50, y51, y52, y53, y54, y55, y56, y57, y58, y59, y60, y61, y62, y63, y64, y65, y66, y67, y68, y69, y70, y71, y72, y73, y74, y75, y76, y77, y78, y79, y80, y81, y82, y83, y84, y85, y86, y87, y88, y89, y90, y91, y92, y93, y94, y95, y96, y97, y98, y99, y100, y101, y102, y103, y104, y105, y106, y107, y108, y109, y110, y111, y112, y113, y114, y115, y116, y117, y118, y119, y120, y121, y122, y123, y124, y125, y126, y127, y128, y129, y130, y131, y132, y133, y134, y135, y136, y137, y138, y139, y140, y141, y142, y143, y144, y145, y146, y147, y148, y149, y150, y151, y152, y153, y154, y155, y156, y157, y158, y159, y160, y161, y162, y163, y164, y165, y166, y167, y168, y169, y170, y171, y172, y173, y174, y175, y176, y177, y178, y179, y180, y181, y182, y183, y184, y185, y186, y187, y188, y189, y190, y191, y192, y193, y194, y195, y196, y197, y198, y199, y200, y201, y202, y203, y204, y205, y206, y207, y208, y209, y210, y211, y212, y213, y214, y215, y216, y217, y218, y219, y220, y221, y222, y223, y224, y225, y226, y227, y228, y229, y230, y231, y232, y233, y234, y235, y236, y237, y238, y239, y240, y241, y242, y243, y244, y245, y246, y247, y248, y249, y250, y251, y252, y253, y254, y255, y256, y257, y258, y259, y260, y261, y262], []⟩ W7 := by
  dsimp only
  conv => arg 2; whnf
  conv at hK => enter [a', w', 1, 2]; whnf
  have hN9 : N ≤ 8192 := hN1.2
  obtain ⟨i0, hi0, hz0, hz1, hz2⟩ := info_parts Tryd.infoU8
  go_upto_region 31 with fail
  go_cut [22] (fun e wx => e = .int .i64 131 ∧ Below w.heap.size w wx)
  case first =>
    go_wp2_with (first
      | (at_make; refine wpList_make_full _ rfl _ _ 23 rfl W7.heap.size 5 i0 (.int .u8 0) 1 Tryd.underlying23 hi0 hz0 hz1 .i64 .i64 _ _ (N + 1) rfl rfl rfl rfl (by rw [hz2]; omega) (by unfold maxLen; omega) (Nat.le_refl _) ?_; intro w1 hown hgrow; rw [made_zeroB] at hown; have hcd := orow_code hown (by simp); have hlt1 := (orow_base hown).2.1; have hb1 := hbw.trans (((Below.refl W7.heap.size W7).grown hgrow (Nat.le_refl _) (by simp)).mono hbw.size); clear hown hgrow)
      | (go_at_call 8; go_must (refine (TE.out w1 W7.heap.size _ hb1 hcd (by omega) rfl).mono ?_; rintro e W8 ⟨⟨xa, xn, xc, rfl⟩, hb9⟩; have hb9' := hb1.trans (hb9.mono hb1.size); clear hb9)))
    go_meet
    exact ⟨rfl, hb9'.alloc hb9'.size _⟩
  case rest =>
  obtain ⟨rfl, hb9⟩ := hcut
  generalize wc = W8 at *
  clear hi0 hz0 hz1 hz2 hbw TE
  go_upto_region 32 with fail
  go_cut [23, 24] (fun p e wx => ∃ q, p = .pointer (some ⟨q, 0, none⟩) ∧ e = .int .i64 0 ∧ wx.cell? ⟨q, 3, none⟩ = some (.int .i64 1) ∧ wx.cell? ⟨q, 2, none⟩ = some (.string ⟨#[169, 1]⟩) ∧ Below w.heap.size w wx)
  case first =>
    have hb8' : Below w.heap.size w (W8.alloc (.cells #[.int .u8 169, .int .u8 1, .int .u8 234, .int .u8 0] 5)) := hb9.alloc hb9.size _
    have hc4 : Code (W8.alloc (.cells #[.int .u8 169, .int .u8 1, .int .u8 234, .int .u8 0] 5)) W8.heap.size 0 [169, 1, 234, 0] := fun i hi => by
      have hB := Blk.new W8 #[.int .u8 169, .int .u8 1, .int .u8 234, .int .u8 0] 5
      rw [Nat.zero_add, hB.cell i]
      rcases (show i = 0 ∨ i = 1 ∨ i = 2 ∨ i = 3 by have : i < 4 := hi; omega) with rfl | rfl | rfl | rfl <;> rfl
    go_wp2_with (go_at_call 8; go_must (refine (TF.out _ W8.heap.size _ hb8' hc4 (by simp; omega) rfl).mono ?_; rintro e Wa ⟨⟨xa, xn, xc, z1, z2, rfl⟩, hba⟩; have hba' := hb8'.trans (hba.mono hb8'.size); clear hba))
    go_meet
    have hB := Blk.new Wa #[.int .u16 512, .int .i64 128, .string ⟨#[169, 1]⟩, .int .i64 1, .slice xa xn xc, .int .i64 z1, .int .i64 z2] 27
    exact ⟨_, rfl, rfl, hB.cell 3, hB.cell 2, hba'.alloc hba'.size _⟩
  case rest =>
  obtain ⟨q, rfl, rfl, c3, c2, hba⟩ := hcut
  generalize wc = Wa at *
  clear TF
  go_wp2
  go_ret
  exact ⟨rfl, hba⟩
end Go.Proofs.YtfdiplgjiidnbaaDoor
