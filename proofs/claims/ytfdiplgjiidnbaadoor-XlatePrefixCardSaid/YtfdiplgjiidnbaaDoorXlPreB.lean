/-
  The law XlatePrefix from its first question on.
-/
import Derived.Test.YtfdiplgjiidnbaaDoorXlPreC
set_option linter.unusedSimpArgs false
set_option linter.unusedVariables false
namespace Go.Proofs.YtfdiplgjiidnbaaDoor
open Go.RowKit Classical
set_option maxRecDepth 100000 in
set_option maxHeartbeats 6400000 in
theorem pre_tail (P N s r c' k1 n m t q1 b1 o1 : Nat) (a1 : Option Addr) (va : Option Addr) (vc : Nat) (L : List Nat) (BA BB BD : Bk) (at' le kk : Nat → Nat) (w W0 W1 : World) (hN1 : 1 ≤ N ∧ N ≤ 8192) (hs1 : 1 ≤ s ∧ s ≤ 64) (hr1 : 1 ≤ r ∧ r ≤ s) (HT1 : t ≤ c') (hcN : c' ≤ N) (hck : c' ≤ k1) (hc2 : k1 ≤ 140737488351232)
    (HPR : Hid (Pre L s r BA BB n m t at' le kk)) (HROW : Hid (RowAt w a1 L ∧ L.length = c' ∧ CodeAt w a1 k1 L b1 o1)) (PD : 0 < n → BD.ni < (n : Nat)) (PD0 : 0 ≤ BD.ni)
    (TD : Hid (∀ W, Below w.heap.size w W → Calls Tryd.prog 8 #[.int .u16 (P : Nat), .int .i64 0, .slice a1 t k1, .int .i64 (s : Nat)] W fun e w' => ∃ va vc, e = .returned (.tuple #[.agg #[.int .u16 (P : Nat), .int .i64 0, .string BD.s, .int .i64 BD.ni, .slice va BD.l.length vc, .int .i64 BD.lo, .int .i64 BD.hi], .int .i64 0]) ∧ w'.ownsRow W.heap.size 35 7 (.slice va BD.l.length vc) BD.l.length (mflat BD.l) ∧ Below W.heap.size W w'))
    (TE : Hid (∀ W b v, Below w.heap.size w W → Code W b 0 (List.replicate (N + 1) 0) → b < W.heap.size + 1 → v = Value.slice (some ⟨b, 0, none⟩) (N + 1) (N + 1) → Calls Tryd.prog 8 #[.int .u16 (P : Nat), .int .i64 0, v, .int .i64 (s : Nat)] W fun e w' => (∃ x y z, e = .returned (.tuple #[.agg #[.int .u16 0, .int .i64 0, .string (strB []), .int .i64 0, .slice x y z, .int .i64 0, .int .i64 0], .int .i64 131])) ∧ Below W.heap.size W w'))
    (TF : Hid (∀ W b v, Below w.heap.size w W → Code W b 0 [169, 1, 234, 0] → b < W.heap.size + 1 → v = Value.slice (some ⟨b, 0, none⟩) 4 4 → Calls Tryd.prog 8 #[.int .u16 512, .int .i64 128, v, .int .i64 1] W fun e w' => (∃ x y z u1 u2, e = .returned (.tuple #[.agg #[.int .u16 512, .int .i64 128, .string ⟨#[169, 1]⟩, .int .i64 1, .slice x y z, .int .i64 u1, .int .i64 u2], .int .i64 0])) ∧ Below W.heap.size W w'))
    (TB : Hid (∀ W, Below w.heap.size w W → Calls Tryd.prog 8 #[.int .u16 (P : Nat), .int .i64 0, .slice a1 c' k1, .int .i64 (r : Nat)] W fun e w' => ∃ va vc, e = .returned (.tuple #[.agg #[.int .u16 (P : Nat), .int .i64 0, .string BB.s, .int .i64 BB.ni, .slice va BB.l.length vc, .int .i64 BB.lo, .int .i64 BB.hi], .int .i64 0]) ∧ w'.ownsRow W.heap.size 35 7 (.slice va BB.l.length vc) BB.l.length (mflat BB.l) ∧ Below W.heap.size W w')) (F : Bl W0 #[.int .u16 (P : Nat), .int .i64 0, .string BA.s, .int .i64 BA.ni, .slice va BA.l.length vc, .int .i64 BA.lo, .int .i64 BA.hi] q1 W1) (hC0 : Code W0 w.heap.size 0 L) (hb0 : Below w.heap.size w W0) (hb1 : Below w.heap.size w W1) (hg0 : w.heap.size < W0.heap.size + 1) (y4 y5 y6 y7 y13 y14 y15 y16 y17 y18 y19 y20 y21 y22 y23 y24 y25 y26 y27 y28 y29 y30 y31 y32 y33 y34 y35 y36 y37 y38 y39 y40 y41 y42 y43 y44 y45 y46 y47 y48 y49 y50 y51 y52 y53 y54 y55 y56 y57 y58 y59 y60 y61 y62 y63 y64 y65 y66 y67 y68 y69 y70 y71 y72 y73 y74 y75 y76 y77 y78 y79 y80 y81 y82 y83 y84 y85 y86 y87 y88 y89 y90 y91 y92 y93 y94 y95 y96 y97 y98 y99 y100 y101 y102 y103 y104 y105 y106 y107 y108 y109 y110 y111 y112 y113 y114 y115 y116 y117 y118 y119 y120 y121 y122 y123 y124 y125 y126 y127 y128 y129 y130 y131 y132 y133 y134 y135 y136 y137 y138 y139 y140 y141 y142 y143 y144 y145 y146 y147 y148 y149 y150 y151 y152 y153 y154 y155 y156 y157 y158 y159 y160 y161 y162 y163 y164 y165 y166 y167 y168 y169 y170 y171 y172 y173 y174 y175 y176 y177 y178 y179 y180 y181 y182 y183 y184 y185 y186 y187 y188 y189 y190 y191 y192 y193 y194 y195 y196 y197 y198 y199 y200 y201 y202 y203 y204 y205 y206 y207 y208 y209 y210 y211 y212 y213 y214 y215 y216 y217 y218 y219 y220 y221 y222 y223 y224 y225 y226 y227 y228 y229 y230 y231 y232 y233 y234 y235 y236 y237 y238 y239 y240 y241 y242 y243 y244 y245 y246 y247 y248 y249 y250 y251 y252 y253 y254 y255 y256 y257 y258 y259 y260 y261 y262 : Value) (K : Act → World → Prop) (hK : ∀ a' w', (restOf 9 (Tryd.f4.body.getD .skip)).wp Tryd.prog (bodyPost Tryd.prog Tryd.f4 fun e w' => e = .returned (.bool true) ∧ Below w.heap.size w w') a' w' → K a' w') :
    (headOf (restOf 8 (Tryd.f4.body.getD .skip))).wp Tryd.prog (Exit.then K (bodyPost Tryd.prog Tryd.f4 fun e w' => e = .returned (.bool true) ∧ Below w.heap.size w w')) ⟨#[.int .u16 ((P : Nat) : Int), .slice a1 c' k1, .int .i64 ((s : Nat) : Int), .int .i64 ((r : Nat) : Int), y4, y5, y6, y7, .bool false, .int .i64 ((N : Nat) : Int), .slice (some ⟨w.heap.size, 0, none⟩) c' c', .pointer (some ⟨q1, 0, none⟩), .int .i64 0, y13, y14, y15, y16, y17, y18, y19, y20, y21, y22, y23, y24, y25, y26, y27, y28, y29, y30, y31, y32, y33, y34, y35, y36, y37, y38, y39, y40, y41, y42, y43, y44, y45, y46, y47, y48, y49, y50, y51, y52, y53, y54, y55, y56, y57, y58, y59, y60, y61, y62, y63, y64, y65, y66, y67, y68, y69, y70, y71, y72, y73, y74, y75, y76, y77, y78, y79, y80, y81, y82, y83, y84, y85, y86, y87, y88, y89, y90, y91, y92, y93, y94, y95, y96, y97, y98, y99, y100, y101, y102, y103, y104, y105, y106, y107, y108, y109, y110, y111, y112, y113, y114, y115, y116, y117, y118, y119, y120, y121, y122, y123, y124, y125, y126, y127, y128, y129, y130, y131, y132, y133, y134, y135, y136, y137, y138, y139, y140, y141, y142, y143, y144, y145, y146, y147, y148, y149, y150, y151, y152, y153, y154, y155, y156, y157, y158, y159, y160, y161, y162, y163, y164, y165, y166, y167, y168, y169, y170, y171, y172, y173, y174, y175, y176, y177, y178, y179, y180, y181, y182, y183, y184, y185, y186, y187, y188, y189, y190, y191, y192, y193, y194, y195, y196, y197, y198, y199, y200, y201, y202, y203, y204, y205, y206, y207, y208, y209, y210, y211, y212, y213, y214, y215, y216, y217, y218, y219, y220, y221, y222, y223, y224, y225, y226, y227, y228, y229, y230, y231, y232, y233, y234, y235, y236, y237, y238, y239, y240, y241, y242, y243, y244, y245, y246, y247, y248, y249, y250, y251, y252, y253, y254, y255, y256, y257, y258, y259, y260, y261, y262], []⟩ W1 := by
  dsimp only
  conv => arg 2; whnf
  conv at hK => enter [a', w', 1, 2]; whnf
  go_upto_region 9 with fail
  go_cut [13, 14] (fun p e wx => ∃ q ua uc, p = .pointer (some ⟨q, 0, none⟩) ∧ e = .int .i64 0 ∧ Bl W1 #[.int .u16 (P : Nat), .int .i64 0, .string BB.s, .int .i64 BB.ni, .slice ua BB.l.length uc, .int .i64 BB.lo, .int .i64 BB.hi] q wx)
  case first =>
    go_wp2_with (go_at_call 8; go_must (refine (TB.out _ hb1).mono ?_; rintro e W2 ⟨ua, uc, rfl, r2, hb2⟩))
    go_meet
    exact ⟨_, ua, uc, rfl, rfl, Bl.laid hb2⟩
  case rest =>
  clear TB
  obtain ⟨q2, ua, uc, rfl, rfl, G⟩ := hcut
  generalize wc = W2 at *
  replace F := F.on G.hb
  have HK : Hid (Code W2 w.heap.size 0 L) := (hC0.at F.hb)
  have hb2 := hb1.trans (G.hb.mono hb1.size)
  clear hC0 hb0 hb1 hg0
  have HAs : Hid (BA.s = strB (L.take t)) := HPR.out.sA
  have HTL : Hid ((L.take t).length = t) := by
    unfold Hid; rw [List.length_take, HROW.out.2.1]; omega
  have HAz : Hid (BA.s.size = t) := by
    unfold Hid; rw [HAs.out]; simp [strB, ByteArray.size, HROW.out.2.1]; omega
  have HB : Hid (Byts (L.take t)) := fun x hx => HROW.out.2.2.by' x (List.mem_of_mem_take hx)
  have S1 : Hid (∀ W, Below W2.heap.size W2 W → Calls Tryd.prog 11 #[.slice a1 c' k1, .slice (some ⟨w.heap.size, 0, none⟩) c' c'] W fun e w' => e = .returned (.bool true) ∧ ∃ m, w' = W.drewN m) := fun W hb =>
    same_x L c' c' HROW.out.2.1 HROW.out.2.1 (by omega) a1 _ k1 c' W ((HROW.out.1.on hb2).on hb) (.inr ⟨_, _, rfl, HK.out.at hb⟩)
  have S2 : Hid (∀ W g cv, Below W2.heap.size W2 W → Code W g 0 (L.take t) → Calls Tryd.prog 11 #[.slice (some ⟨g, 0, none⟩) t cv, .slice a1 t k1] W fun e w' => e = .returned (.bool true) ∧ ∃ m, w' = W.drewN m) := fun W g cv hb hc =>
    same_x (L.take t) t t HTL.out HTL.out (by omega) _ a1 cv k1 W (.inr ⟨_, _, rfl, hc⟩) (((HROW.out.1.on hb2).on hb).take t)
  go_upto_region 10 with fail
  go_cut [96] (fun v wx => v = .bool false ∧ Below W2.heap.size W2 wx)
  case first =>
    rename_i J0 K0 hJ0 hK0
    have s0 : Below W2.heap.size W2 W2.drew := (Below.refl _ _).drew
    refine wp_region_held (S := fun v => Below W2.heap.size W2 v) (by kernel_rfl) ?_
    refine takeH (i := 0) (v := .int .i64 0) _ rfl (by kernel_rfl) (by kernel_rfl) (by kernel_rfl) (fun _ _ _ h => h) (.inl ⟨by kernel_rfl, fun _ _ => by kernel_rfl⟩) s0 rfl ?_
    refine takeH (i := 1) (v := .bool false) _ rfl (by kernel_rfl) (by kernel_rfl) (by kernel_rfl) (fun _ _ _ h => h) (.inl ⟨by kernel_rfl, fun _ _ => by kernel_rfl⟩) s0 rfl ?_
    refine takeH (i := 2) (v := .bool false) _ rfl (by kernel_rfl) (by kernel_rfl) (by kernel_rfl) (fun _ _ _ h => h) (.inl ⟨by kernel_rfl, fun _ _ => by kernel_rfl⟩) s0 rfl ?_
    refine takeH (i := 3) (v := .int .i64 0) _ rfl (by kernel_rfl) (by kernel_rfl) (by kernel_rfl) (fun _ _ _ h => h) (.inl ⟨by kernel_rfl, fun _ _ => by kernel_rfl⟩) s0 rfl ?_
    refine takeH (i := 4) (v := .bool false) _ rfl (by kernel_rfl) (by kernel_rfl) (by kernel_rfl) (fun _ _ _ h => h) (.inl ⟨by kernel_rfl, fun _ _ => by kernel_rfl⟩) s0 rfl ?_
    refine takeH (i := 5) (v := .bool false) _ rfl (by kernel_rfl) (by kernel_rfl) (by kernel_rfl) (fun _ _ _ h => h) (.inl ⟨by kernel_rfl, fun _ _ => by kernel_rfl⟩) s0 rfl ?_
    refine takeH (i := 6) (v := .bool false) _ rfl (by kernel_rfl) (by kernel_rfl) (by kernel_rfl) (fun _ _ _ h => h) (.inl ⟨by kernel_rfl, fun _ _ => by kernel_rfl⟩) s0 rfl ?_
    refine takeH (i := 7) (v := .slice a1 c' k1) _ rfl (by kernel_rfl) (by kernel_rfl) (by kernel_rfl) (fun _ _ _ h => h) (.inl ⟨by kernel_rfl, fun _ _ => by kernel_rfl⟩) s0 rfl ?_
    refine takeH (i := 8) (v := .slice (some ⟨w.heap.size, 0, none⟩) c' c') _ rfl (by kernel_rfl) (by kernel_rfl) (by kernel_rfl) (fun _ _ _ h => h) (.inl ⟨by kernel_rfl, fun _ _ => by kernel_rfl⟩) s0 rfl ?_
    refine callH (i := 9) (f := 11) (v := .bool true) _ (by kernel_rfl) rfl (by kernel_rfl) (by kernel_rfl) (S1.out _ s0) rfl ?_
    intro Wq1 hbq1
    have sq1 : (fun v => Below W2.heap.size W2 v) Wq1 := bel_drew s0 hbq1
    clear hbq1
    refine ⟨sq1, ?_⟩
    refine takeH (i := 10) (v := .bool false) _ rfl (by kernel_rfl) (by kernel_rfl) (by kernel_rfl) (fun _ _ _ h => h) (.inl ⟨by kernel_rfl, fun _ _ => by kernel_rfl⟩) sq1 rfl ?_
    refine takeH (i := 11) (v := .bool false) _ rfl (by kernel_rfl) (by kernel_rfl) (by kernel_rfl) (fun _ _ _ h => h) (.inl ⟨by kernel_rfl, fun _ _ => by kernel_rfl⟩) sq1 rfl ?_
    refine takeH (i := 12) (v := .bool false) _ rfl (by kernel_rfl) (by kernel_rfl) (by kernel_rfl) (fun _ _ _ h => h) (.inl ⟨by kernel_rfl, fun _ _ => by kernel_rfl⟩) sq1 rfl ?_
    refine takeH (i := 13) (v := .pointer (some ⟨q1, 0, none⟩)) _ rfl (by kernel_rfl) (by kernel_rfl) (by kernel_rfl) (fun _ _ _ h => h) (.inl ⟨by kernel_rfl, fun _ _ => by kernel_rfl⟩) sq1 rfl ?_
    refine takeH (i := 14) (v := .int .u16 ((P : Nat) : Int)) _ rfl (by kernel_rfl) (by kernel_rfl) (by kernel_rfl) (fun _ _ _ h => h) (.inl ⟨by kernel_rfl, fun v hv => by have c : v.cell? ⟨q1, 0, none⟩ = some (.int .u16 ((P : Nat) : Int)) := ((F.b.below F.b.lt hv).cell 0); go_simp⟩) sq1 rfl ?_
    refine takeH (i := 15) (v := .int .u16 ((P : Nat) : Int)) _ rfl (by kernel_rfl) (by kernel_rfl) (by kernel_rfl) (fun _ _ _ h => h) (.inl ⟨by kernel_rfl, fun _ _ => by kernel_rfl⟩) sq1 rfl ?_
    refine takeH (i := 16) (v := .bool false) _ rfl (by kernel_rfl) (by kernel_rfl) (by kernel_rfl) (fun _ _ _ h => h) (.inl ⟨by kernel_rfl, fun v _ => exec_neqS (k := .u16) (a := ((P : Nat) : Int)) rfl (by kernel_rfl) (by kernel_rfl) (by kernel_rfl)⟩) sq1 rfl ?_
    refine takeH (i := 17) (v := .bool false) _ rfl (by kernel_rfl) (by kernel_rfl) (by kernel_rfl) (fun _ _ _ h => h) (.inl ⟨by kernel_rfl, fun _ _ => by kernel_rfl⟩) sq1 rfl ?_
    refine takeH (i := 18) (v := .bool false) _ rfl (by kernel_rfl) (by kernel_rfl) (by kernel_rfl) (fun _ _ _ h => h) (.inl ⟨by kernel_rfl, fun _ _ => by kernel_rfl⟩) sq1 rfl ?_
    refine takeH (i := 19) (v := .pointer (some ⟨q1, 2, none⟩)) _ rfl (by kernel_rfl) (by kernel_rfl) (by kernel_rfl) (fun _ _ _ h => h) (.inl ⟨by kernel_rfl, fun _ _ => by kernel_rfl⟩) sq1 rfl ?_
    refine takeH (i := 20) (v := .string BA.s) _ rfl (by kernel_rfl) (by kernel_rfl) (by kernel_rfl) (fun _ _ _ h => h) (.inl ⟨by kernel_rfl, fun v hv => by have c : v.cell? ⟨q1, 2, none⟩ = some (.string BA.s) := ((F.b.below F.b.lt hv).cell 2); go_simp⟩) sq1 rfl ?_
    refine takeH (i := 21) (v := .int .i64 ((t : Nat) : Int)) _ rfl (by kernel_rfl) (by kernel_rfl) (by kernel_rfl) (fun _ _ _ h => h) (.inl ⟨by kernel_rfl, fun v _ => exec_lenS (s := BA.s) (n := t) (tys := #[]) rfl (by kernel_rfl) HAz.out⟩) sq1 rfl ?_
    refine takeH (i := 22) (v := .slice a1 c' k1) _ rfl (by kernel_rfl) (by kernel_rfl) (by kernel_rfl) (fun _ _ _ h => h) (.inl ⟨by kernel_rfl, fun _ _ => by kernel_rfl⟩) sq1 rfl ?_
    refine takeH (i := 23) (v := .int .i64 ((c' : Nat) : Int)) _ rfl (by kernel_rfl) (by kernel_rfl) (by kernel_rfl) (fun _ _ _ h => h) (.inl ⟨by kernel_rfl, fun _ _ => by kernel_rfl⟩) sq1 rfl ?_
    refine takeH (i := 24) (v := .bool false) _ rfl (by kernel_rfl) (by kernel_rfl) (by kernel_rfl) (fun _ _ _ h => h) (.inl ⟨by kernel_rfl, fun v _ => exec_gtrF (a := ((t : Nat) : Int)) (b := ((c' : Nat) : Int)) rfl (by kernel_rfl) (by kernel_rfl) (by kernel_rfl) (by omega)⟩) sq1 rfl ?_
    refine takeH (i := 25) (v := .bool false) _ rfl (by kernel_rfl) (by kernel_rfl) (by kernel_rfl) (fun _ _ _ h => h) (.inl ⟨by kernel_rfl, fun _ _ => by kernel_rfl⟩) sq1 rfl ?_
    refine takeH (i := 26) (v := .bool false) _ rfl (by kernel_rfl) (by kernel_rfl) (by kernel_rfl) (fun _ _ _ h => h) (.inl ⟨by kernel_rfl, fun _ _ => by kernel_rfl⟩) sq1 rfl ?_
    refine takeH (i := 27) (v := .pointer (some ⟨q1, 2, none⟩)) _ rfl (by kernel_rfl) (by kernel_rfl) (by kernel_rfl) (fun _ _ _ h => h) (.inl ⟨by kernel_rfl, fun _ _ => by kernel_rfl⟩) sq1 rfl ?_
    refine takeH (i := 28) (v := .string BA.s) _ rfl (by kernel_rfl) (by kernel_rfl) (by kernel_rfl) (fun _ _ _ h => h) (.inl ⟨by kernel_rfl, fun v hv => by have c : v.cell? ⟨q1, 2, none⟩ = some (.string BA.s) := ((F.b.below F.b.lt hv).cell 2); go_simp⟩) sq1 rfl ?_
    refine takeH (i := 30) (v := .slice a1 c' k1) _ rfl (by kernel_rfl) (by kernel_rfl) (by kernel_rfl) (fun _ _ _ h => h) (.inl ⟨by kernel_rfl, fun _ _ => by kernel_rfl⟩) sq1 rfl ?_
    refine takeH (i := 31) (v := .pointer (some ⟨q1, 2, none⟩)) _ rfl (by kernel_rfl) (by kernel_rfl) (by kernel_rfl) (fun _ _ _ h => h) (.inl ⟨by kernel_rfl, fun _ _ => by kernel_rfl⟩) sq1 rfl ?_
    refine takeH (i := 32) (v := .string BA.s) _ rfl (by kernel_rfl) (by kernel_rfl) (by kernel_rfl) (fun _ _ _ h => h) (.inl ⟨by kernel_rfl, fun v hv => by have c : v.cell? ⟨q1, 2, none⟩ = some (.string BA.s) := ((F.b.below F.b.lt hv).cell 2); go_simp⟩) sq1 rfl ?_
    refine takeH (i := 33) (v := .int .i64 ((t : Nat) : Int)) _ rfl (by kernel_rfl) (by kernel_rfl) (by kernel_rfl) (fun _ _ _ h => h) (.inl ⟨by kernel_rfl, fun v _ => exec_lenS (s := BA.s) (n := t) (tys := #[]) rfl (by kernel_rfl) HAz.out⟩) sq1 rfl ?_
    refine takeH (i := 34) (v := .slice a1 t k1) _ rfl (by kernel_rfl) (by kernel_rfl) (by kernel_rfl) (fun _ _ _ h => h) (.inl ⟨by kernel_rfl, fun v _ => exec_slH (a := a1) (n := c') (k := k1) (h := t) rfl (by kernel_rfl) (by kernel_rfl) (by omega)⟩) sq1 rfl ?_
    obtain ⟨cv, Wq2, hcv, hcc, hcb⟩ := conv_bytes Wq1 (L.take t) HB.out
    rw [← HAs.out, HTL.out] at hcv
    have sq2 : (fun v => Below W2.heap.size W2 v) Wq2 := sq1.trans (hcb.mono sq1.size)
    refine worldH (i := 29) (v := .slice (some ⟨Wq1.heap.size, 0, none⟩) t cv) (w1 := Wq2) _ (by kernel_rfl) rfl (by kernel_rfl) (exec_convW rfl (by kernel_rfl) hcv) rfl ?_
    refine ⟨sq2, ?_⟩
    refine callH (i := 35) (f := 11) (v := .bool true) _ (by kernel_rfl) rfl (by kernel_rfl) (by kernel_rfl) (S2.out _ _ cv sq2 (hcc)) rfl ?_
    intro Wq3 hbq3
    have sq3 : (fun v => Below W2.heap.size W2 v) Wq3 := bel_drew sq2 hbq3
    clear hbq3
    refine ⟨sq3, ?_⟩
    refine takeH (i := 36) (v := .bool false) _ rfl (by kernel_rfl) (by kernel_rfl) (by kernel_rfl) (fun _ _ _ h => h) (.inl ⟨by kernel_rfl, fun _ _ => by kernel_rfl⟩) sq3 rfl ?_
    refine takeH (i := 37) (v := .bool false) _ rfl (by kernel_rfl) (by kernel_rfl) (by kernel_rfl) (fun _ _ _ h => h) (.inl ⟨by kernel_rfl, fun _ _ => by kernel_rfl⟩) sq3 rfl ?_
    refine wpAnyH_done (by kernel_rfl) ?_ _
    exact hK0 _ _ (Met.intro (hJ0 _ _ ⟨u21, u25, u26, u27, u28, u29, u30, u31, u32, u33, u34, u35, u36, u37, u38, u39, u40, u41, u42, u43, u44, u45, u46, u47, u48, u49, u50, u51, u52, u53, u54, u55, u56, u57, u58, .int .i64 0, .bool false, .bool false, .int .i64 0, .bool false, .bool false, .bool false, .slice a1 c' k1, .slice (some ⟨w.heap.size, 0, none⟩) c' c', .bool true, .bool false, .bool false, .bool false, .pointer (some ⟨q1, 0, none⟩), .int .u16 ((P : Nat) : Int), .int .u16 ((P : Nat) : Int), .bool false, .bool false, .bool false, .pointer (some ⟨q1, 2, none⟩), .string BA.s, .int .i64 ((t : Nat) : Int), .slice a1 c' k1, .int .i64 ((c' : Nat) : Int), .bool false, .bool false, .bool false, .pointer (some ⟨q1, 2, none⟩), .string BA.s, .slice (some ⟨Wq1.heap.size, 0, none⟩) t cv, .slice a1 c' k1, .pointer (some ⟨q1, 2, none⟩), .string BA.s, .int .i64 ((t : Nat) : Int), .slice a1 t k1, .bool true, .bool false, .bool false, u97, u98, u99, u100, u101, u102, u103, u104, u105, u106, u107, u108, u109, u110, u111, u112, u113, u114, u115, u116, u117, u118, u119, u120, u121, u122, u123, u124, u125, u126, u127, u128, u129, u130, u131, u132, u133, u134, u135, u136, u137, u138, u139, u140, u141, u142, u143, u144, u145, u146, u147, u148, u149, u150, u151, u152, u153, u154, u155, u156, u157, u158, u159, u160, u161, u162, u163, u164, u165, u166, u167, u168, u169, u170, u171, u172, u173, u174, u175, u176, u177, u178, u179, u180, u181, u182, u183, u184, u185, u186, u187, u188, u189, u190, u191, u192, u193, u194, u195, u196, u197, u198, u199, u200, u201, u202, u203, u204, u205, u206, u207, u208, u209, u210, u211, u212, u213, u214, u215, u216, u217, u218, u219, u220, u221, u222, u223, u224, u225, u226, u227, u228, u229, u230, u231, u232, u233, u234, u235, u236, u237, u238, u239, u240, u241, u242, u243, u244, u245, u246, u247, u248, u249, u250, u251, u252, u253, u254, u255, u256, u257, u258, u259, u260, u261, u262, ⟨rfl, sq3⟩, by kernel_rfl⟩))
  case rest =>
  obtain ⟨rfl, hb3⟩ := hcut
  generalize wc = W3 at *
  replace F := F.on hb3
  replace G := G.on hb3
  replace hb2 := hb2.trans (hb3.mono hb2.size)
  clear hb3 S1 S2 HK
  go_upto_region 12 with fail
  exact pre_tail2 P N s r c' k1 n m t q1 q2 b1 o1 a1 va ua vc uc L BA BB BD at' le kk w W0 W1 W3 hN1 hs1 hr1 HT1 hcN hck hc2 HPR HROW PD PD0 TD TE TF F G hb2 HAs HTL HAz HB _ _ _ _ _ _ _ _ _ _ _ _ _ _ _ _ _ _ _ _ _ _ _ _ _ _ _ _ _ _ _ _ _ _ _ _ _ _ _ _ _ _ _ _ _ _ _ _ _ _ _ _ _ _ _ _ _ _ _ _ _ _ _ _ _ _ _ _ _ _ _ _ _ _ _ _ _ _ _ _ _ _ _ _ _ _ _ _ _ _ _ _ _ _ _ _ _ _ _ _ _ _ _ _ _ _ _ _ _ _ _ _ _ _ _ _ _ _ _ _ _ _ _ _ _ _ _ _ _ _ _ _ _ _ _ _ _ _ _ _ _ _ _ _ _ _ _ _ _ _ _ _ _ _ _ _ _ _ _ _ _ _ _ _ _ _ _ _ _ _ _ _ _ _ _ _ _ _ _ _ _ _ _ _ _ _ _ _ _ _ _ _ _ _ _ _ _ _ _ _ _ _ _ _ _ _ _ _ _ _ _ _ _ _ _ _ _ _ _ _ _ _ _ _ _ _ _ _ _ _ _ _ _ _ _ _ _ _ _ _ _ _ _ _ _ _ _ _ _ _ _ _ _ (by assumption)
end Go.Proofs.YtfdiplgjiidnbaaDoor
