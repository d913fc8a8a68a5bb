/-
  The law RewindOwn: all is looked at.
-/
import Derived.Test.YtlckjbangdnejaaDoorXtOwX5
set_option linter.unusedSimpArgs false
set_option linter.unusedVariables false
namespace Go.Proofs.YtlckjbangdnejaaDoor
open Go.RowKit Classical
def restOf : Nat → Go.Code → Go.Code
  | n + 1, .seq _ b => restOf n b
  | _, c => c
def headOf : Go.Code → Go.Code
  | .seq a _ => a
  | c => c
def tailOf : Go.Code → Go.Code
  | .seq _ b => b
  | c => c
set_option maxRecDepth 100000 in
set_option maxHeartbeats 16000000 in
theorem own6 (F T : List Nat) (nf nt : Nat) (f6 : nf ≤ 65536) (t6 : nt ≤ 65536) (HF : Hid (Good F ∧ F.length = nf)) (HT : Hid (Good T ∧ T.length = nt)) (d1 d2 : Nat) (hd1b : d1 ≤ 65560) (hd2b : d2 ≤ 65560) (D1 D2 : List Nat) (HD : Hid (D1.length = d1 ∧ D2.length = d2 ∧ Bytes D1 ∧ Bytes D2)) (a b : Option Addr) (ka kb : Nat) (w z : World) (gf cf gg cg : Nat) (HZ : Hid (∀ V, Below z.heap.size z V → Row V a F ∧ Row V b T ∧ Row V (some ⟨gf, 0, none⟩) (padL F) ∧ Row V (some ⟨gg, 0, none⟩) (padL T) ∧ Tab V ∧ Below w.heap.size w V)) (gl cl gw cw gm cm : Nat) (Ls : List (List Nat)) (HLB : Hid (Ls.length = 12 ∧ ∀ i, i < 12 → Bytes (Ls.getD i []) ∧ (Ls.getD i []).length ≤ 65560)) (V : World) (HB5 : Hid (Below z.heap.size z V)) (HC0 : Hid (∀ j, j < 12 → ∃ a k a2 k2 a3 k3, (V.cell? ⟨gl, j, none⟩ = some (.slice a (Ls.getD j []).length k) ∧ V.cell? ⟨gw, j, none⟩ = some (.slice a2 (Ls.getD j []).length k2) ∧ V.cell? ⟨gm, j, none⟩ = some (.slice a3 ((Ls.getD j []).length + 64) k3)) ∧ Row V a (xl j (Ls.getD j [])) ∧ Row V a2 (Ls.getD j []) ∧ Row V a3 (exl j (xl j (Ls.getD j []))))) (q2 q3 q4 q9 q10 q12 q13 q14 q15 q16 q18 q20 q21 q22 q23 q24 q25 q26 q27 q28 q29 q30 q31 q32 q33 q34 q35 q36 q37 q38 q39 q40 q41 q42 q43 q44 q45 q46 q47 q48 q49 q50 q51 q52 q53 q54 q55 q56 q57 q58 q59 q60 q61 q62 q63 q64 q65 q66 q67 q68 q69 q70 q71 q72 q73 q74 q75 q76 q77 q78 q79 q80 q81 q82 q83 q84 q85 q86 q87 q88 q89 q90 q91 q92 q93 q94 q95 q96 q97 q98 q99 q100 q101 q102 q103 q104 q105 q106 q107 q108 q109 q110 q111 q112 q113 q114 q115 q116 q117 q118 q119 q120 q121 q122 q123 q124 q125 q126 q127 q128 q129 q130 q131 q132 q133 q134 q135 q136 q137 q138 q139 q140 q141 q142 q143 q144 q145 q146 q147 q148 q149 q150 q151 q152 q153 q154 q155 q156 q157 q158 q159 q160 q161 q162 q163 q164 q165 q166 q167 q168 q169 q170 q171 q172 q173 q174 q175 q176 q177 q178 q179 q180 q181 q182 q183 q184 q185 q186 q187 q188 q189 q190 q191 q192 q193 q194 q195 q196 q197 q198 q199 q200 q201 q202 q203 q204 q205 q206 q207 q208 q209 q210 q211 q212 q213 q214 q215 q216 q217 q218 q219 q220 q221 q222 q223 q224 q225 q226 q227 q228 q229 q230 q231 q232 q233 q234 q235 q236 q237 q238 q239 q240 q241 q242 q243 q244 q245 q246 q247 q248 q249 q250 q251 q252 q253 q254 q255 q256 q257 q258 q259 q260 q261 q262 q263 q264 q265 q266 q267 q268 q269 q270 q271 q272 q273 q274 q275 q276 q277 q278 q279 q280 q281 q282 q283 q284 q285 q286 q287 q288 q289 q290 q291 q292 q293 q294 q295 q296 q297 q298 q299 q300 q301 q302 q303 q304 q305 q306 q307 q308 q309 q310 q311 q312 q313 q314 q315 q316 q317 q318 q319 q320 q321 q322 q323 q324 q325 q326 q327 q328 q329 q330 q331 q332 q333 q334 q335 q336 q337 q338 q339 q340 q341 q342 q343 q344 q345 q346 q347 q348 q349 q350 q351 q352 q353 q354 q355 q356 q357 q358 q359 q360 q361 q362 q363 q364 q365 q366 q367 q368 q369 q370 q371 q372 q373 q374 q375 q376 q377 q378 q379 q380 q381 q382 q383 q384 q385 q386 q387 q388 q389 q390 q391 q392 q393 q394 q395 q396 q397 q398 q399 q400 q401 q402 q403 q404 q405 q406 q407 q408 q409 q410 q411 q412 q413 q414 : Value) (K1 : Act → World → Prop) (hK1 : ∀ a' w', (restOf 34 (Tryd.f6.body.getD .skip)).wp Tryd.prog (bodyPost Tryd.prog Tryd.f6 fun e w' => e = .returned (.bool true) ∧ Below w.heap.size w w') a' w' → K1 a' w') (K2 : Act → World → Prop) (hK2 : ∀ a' w', (tailOf (headOf (restOf 33 (Tryd.f6.body.getD .skip)))).wp Tryd.prog (Exit.then K1 (bodyPost Tryd.prog Tryd.f6 fun e w' => e = .returned (.bool true) ∧ Below w.heap.size w w')) a' w' → K2 a' w') :
    (headOf (headOf (restOf 33 (Tryd.f6.body.getD .skip)))).wp Tryd.prog (Exit.then K2 (Exit.then K1 (bodyPost Tryd.prog Tryd.f6 fun e w' => e = .returned (.bool true) ∧ Below w.heap.size w w'))) ⟨#[.slice a nf ka, .slice b nt kb, q2, q3, q4, .slice (some ⟨gf, 0, none⟩) nf cf, .slice (some ⟨gf, 0, none⟩) (nf + 8) cf, .slice (some ⟨gg, 0, none⟩) nt cg, .slice (some ⟨gg, 0, none⟩) (nt + 8) cg, q9, q10, .slice (some ⟨gl, 0, none⟩) 12 cl, q12, q13, q14, q15, q16, .slice (some ⟨gw, 0, none⟩) 12 cw, q18, .slice (some ⟨gm, 0, none⟩) 12 cm, q20, q21, q22, q23, q24, q25, q26, q27, q28, q29, q30, q31, q32, q33, q34, q35, q36, q37, q38, q39, q40, q41, q42, q43, q44, q45, q46, q47, q48, q49, q50, q51, q52, q53, q54, q55, q56, q57, q58, q59, q60, q61, q62, q63, q64, q65, q66, q67, q68, q69, q70, q71, q72, q73, q74, q75, q76, q77, q78, q79, q80, q81, q82, q83, q84, q85, q86, q87, q88, q89, q90, q91, q92, q93, q94, q95, q96, q97, q98, q99, q100, q101, q102, q103, q104, q105, q106, q107, q108, q109, q110, q111, q112, q113, q114, q115, q116, q117, q118, q119, q120, q121, q122, q123, q124, q125, q126, q127, q128, q129, q130, q131, q132, q133, q134, q135, q136, q137, q138, q139, q140, q141, q142, q143, q144, q145, q146, q147, q148, q149, q150, q151, q152, q153, q154, q155, q156, q157, q158, q159, q160, q161, q162, q163, q164, q165, q166, q167, q168, q169, q170, q171, q172, q173, q174, q175, q176, q177, q178, q179, q180, q181, q182, q183, q184, q185, q186, q187, q188, q189, q190, q191, q192, q193, q194, q195, q196, q197, q198, q199, q200, q201, q202, q203, q204, q205, q206, q207, q208, q209, q210, q211, q212, q213, q214, q215, q216, q217, q218, q219, q220, q221, q222, q223, q224, q225, q226, q227, q228, q229, q230, q231, q232, q233, q234, q235, q236, q237, q238, q239, q240, q241, q242, q243, q244, q245, q246, q247, q248, q249, q250, q251, q252, q253, q254, q255, q256, q257, q258, q259, q260, q261, q262, q263, q264, q265, q266, q267, q268, q269, q270, q271, q272, q273, q274, q275, q276, q277, q278, q279, q280, q281, q282, q283, q284, q285, q286, q287, q288, q289, q290, q291, q292, q293, q294, q295, q296, q297, q298, q299, q300, q301, q302, q303, q304, q305, q306, q307, q308, q309, q310, q311, q312, q313, q314, q315, q316, q317, q318, q319, q320, q321, q322, q323, q324, q325, q326, q327, q328, q329, q330, q331, q332, q333, q334, q335, q336, q337, q338, q339, q340, q341, q342, q343, q344, q345, q346, q347, q348, q349, q350, q351, q352, q353, q354, q355, q356, q357, q358, q359, q360, q361, q362, q363, q364, q365, q366, q367, q368, q369, q370, q371, q372, q373, q374, q375, q376, q377, q378, q379, q380, q381, q382, q383, q384, q385, q386, q387, q388, q389, q390, q391, q392, q393, q394, q395, q396, q397, q398, q399, q400, q401, q402, q403, q404, q405, q406, q407, q408, q409, q410, q411, q412, q413, q414], []⟩ V := by
  dsimp only
  conv => arg 2; whnf
  conv at hK1 => enter [a', w', 1, 2]; whnf
  conv at hK2 => enter [a', w', 1, 2]; whnf
  have HBV : Hid (Below V.heap.size V V) := Below.refl _ _
  go_upto_region 62 with fail
  go_loopw [25] (fun x wr => ∃ (i : Nat), i ≤ 12 ∧ x = .int .i64 i ∧ Hid (Below V.heap.size V wr)) (fun x _ => 12 - (intOf x).toNat)
  case atStart => exact ⟨0, by omega, rfl, HBV⟩
  case round =>
    clear HBV
    obtain ⟨i, hi, rfl, hB⟩ := hrel
    obtain ⟨wo, rfl⟩ : ∃ x, x = wr := ⟨_, rfl⟩
    by_cases hi12 : i < 12
    · have i12 : (i : Int) < 12 := by omega
      obtain ⟨a1, k1, a2, k2, a3, k3, ⟨d1', d2', d3'⟩, R1, R2, R3⟩ := HC0.out i hi12
      have hby := HLB.out.2 i hi12
      obtain ⟨L, hL⟩ : ∃ L, Ls.getD i [] = L := ⟨_, rfl⟩
      rw [hL] at d1' d2' d3' R1 R2 R3 hby
      obtain ⟨n, hn⟩ : ∃ n, L.length = n := ⟨_, rfl⟩
      rw [hn] at d1' d2' d3'
      have HN : Hid (L.length = n ∧ Bytes L) := ⟨hn, hby.1⟩
      have hn6 : n ≤ 65560 := by rw [← hn]; exact hby.2
      obtain ⟨n2, hn2⟩ : ∃ n2, n + 64 = n2 := ⟨_, rfl⟩
      rw [hn2] at d3'
      have HN2 : Hid (n + 64 = n2) := hn2
      have hn2b : n2 ≤ 70000 := by omega
      have HC : Hid (∀ W, Below V.heap.size V W → (W.cell? ⟨gl, i, none⟩ = some (.slice a1 n k1) ∧ W.cell? ⟨gw, i, none⟩ = some (.slice a2 n k2) ∧ W.cell? ⟨gm, i, none⟩ = some (.slice a3 n2 k3)) ∧ Row W a1 (xl i L) ∧ Row W a2 L ∧ Row W a3 (exl i (xl i L))) := fun W hW => ⟨⟨(hW.cell (p := ⟨gl, i, none⟩) (cell_lt d1')).trans d1', (hW.cell (p := ⟨gw, i, none⟩) (cell_lt d2')).trans d2', (hW.cell (p := ⟨gm, i, none⟩) (cell_lt d3')).trans d3'⟩, R1.below hW, R2.below hW, R3.below hW⟩
      obtain ⟨i1, hi1⟩ : ∃ i1, i1 = i + 1 := ⟨_, rfl⟩
      have ei1 : (i : Int) + 1 = (i1 : Int) := by omega
      have wi1 : IntKind.i64.wrap (i1 : Int) = (i1 : Int) := by rw [IntKind.wrap_i64]; omega
      obtain ⟨bj, hbj⟩ : ∃ bj : Nat, bj = i1 % 256 := ⟨_, rfl⟩
      have ebj : IntKind.u8.wrap (i1 : Int) = (bj : Int) := by rw [hbj]; simp [IntKind.wrap, IntKind.bits, IntKind.signed]
      have hbj2 : bj < 256 := by omega
      have HBJ : Hid (bj = (i + 1) % 256) := by unfold Hid; rw [hbj, hi1]
      obtain ⟨i2, hi2⟩ : ∃ i2, i2 = i + 100 := ⟨_, rfl⟩
      have ei2 : (i : Int) + 100 = (i2 : Int) := by omega
      have hi2b : i2 ≤ 200 := by omega
      obtain ⟨cj, hcj⟩ : ∃ cj : Nat, cj = i2 % 256 := ⟨_, rfl⟩
      have ecj : IntKind.u8.wrap (i2 : Int) = (cj : Int) := by rw [hcj]; simp [IntKind.wrap, IntKind.bits, IntKind.signed]
      have HCJ : Hid (cj = (i + 100) % 256) := by unfold Hid; rw [hcj, hi2]
      have hi1b : i1 ≤ 20 := by omega
      clear d1' d2' d3' R1 R2 R3 hby hL hn hn2 hi1 hbj hi2 hcj
      go_upto_region 65 with fail
      go_loopw [26] (fun x wr => ∃ (q : Nat), q ≤ n ∧ x = .int .i64 q ∧ Hid (Below V.heap.size V wr)) (fun x _ => n - (intOf x).toNat)
      case atStart => exact ⟨0, by omega, rfl, hB⟩
      case round =>
      clear hB
      obtain ⟨q, hq, rfl, hB⟩ := hrel
      obtain ⟨wq, rfl⟩ : ∃ x, x = wr := ⟨_, rfl⟩
      obtain ⟨⟨c1, c2, c3⟩, R1, R2, R3⟩ := HC.out wq hB.out
      by_cases hqn : q < n
      · have iqn : (q : Int) < (n : Int) := by omega
        rcases R1 with h | ⟨g1, o1, rfl, h1⟩
        · have := congrArg List.length h; rw [xl_len, HN.out.1] at this; simp at this; omega
        rcases R2 with h | ⟨g2, o2, rfl, h2⟩
        · have := congrArg List.length h; rw [HN.out.1] at this; simp at this; omega
        have x1 := h1 q (by rw [xl_len, HN.out.1]; exact hqn)
        have x2 := h2 q (by rw [HN.out.1]; exact hqn)
        rw [xl_at i L q (by rw [HN.out.1]; exact hqn), ← HBJ.out] at x1
        have by1 := bytes_at HN.out.2 q
        obtain ⟨y1, hy1⟩ : ∃ y1, y1 = L.getD q 0 := ⟨_, rfl⟩
        rw [← hy1] at x1 x2 by1
        have e1 := xor_u8 y1 bj by1 hbj2
        have hyb : (((y1 ^^^ bj : Nat) : Int) != ((y1 ^^^ bj : Nat) : Int)) = false := by simp
        clear h1 h2 R3 c3 hy1
        go_upto_region 67 with fail
        go_quiet (fail)
        have HB2 : Hid (Below V.heap.size V (wq.drewN nq)) := below_drawsX hB.out nq
        clear hB x1 x2 c1 c2 hyb
        generalize wq.drewN nq = w6 at *
        go_wp2
        go_roundw
        case rel => exact ⟨q + 1, by omega, by go_num, HB2⟩
        case measure => simp [intOf]; omega
      · obtain rfl : q = n := by omega
        clear R1 R2 R3 c2
        go_upto_region 70 with fail
        clear c1 c3
        have HB0 : Hid (Below V.heap.size V wq) := hB
        go_loopw [27] (fun x wr => ∃ (p : Nat), q ≤ p ∧ p ≤ n2 ∧ x = .int .i64 p ∧ Hid (Below V.heap.size V wr)) (fun x _ => n2 - (intOf x).toNat)
        case atStart => exact ⟨q, by omega, by have := HN2.out; omega, rfl, HB0⟩
        case round =>
        clear hB HB0
        obtain ⟨p, hp0, hp, rfl, hB⟩ := hrel
        obtain ⟨wp, rfl⟩ : ∃ x, x = wr := ⟨_, rfl⟩
        obtain ⟨⟨-, -, c3⟩, -, -, R3⟩ := HC.out wp hB.out
        by_cases hpn : p < n2
        · have ipn : (p : Int) < (n2 : Int) := by omega
          have hlen : (exl i (xl i L)).length = n2 := by unfold exl; rw [List.length_append, xl_len, HN.out.1, List.length_replicate]; exact HN2.out
          rcases R3 with h | ⟨g3, o3, rfl, h3⟩
          · have := congrArg List.length h; rw [hlen] at this; simp at this; omega
          have x3 := h3 p (by rw [hlen]; exact hpn)
          have e3 : (exl i (xl i L)).getD p 0 = cj := by
            unfold exl
            rw [List.getD, List.getElem?_append_right (by rw [xl_len, HN.out.1]; exact hp0), List.getElem?_replicate, if_pos (by rw [xl_len, HN.out.1]; have := HN2.out; omega), ← HCJ.out]
            rfl
          rw [e3] at x3
          clear h3 e3 hlen
          go_wp2
          go_roundw
          case rel => exact ⟨p + 1, by omega, by omega, by go_num, hB⟩
          case measure => simp [intOf]; omega
        · obtain rfl : p = n2 := by omega
          clear R3
          go_wp2
          go_roundw
          case rel => exact ⟨i + 1, by omega, by go_num, hB⟩
          case measure => simp [intOf]; omega
    · obtain rfl : i = 12 := by omega
      have HBz : Hid (Below z.heap.size z wo) := HB5.out.trans (hB.out.mono HB5.out.size)
      clear hB HB5 HC0
      go_upto_region 74 with fail
      go_wp2_with fail
      refine (untouched_any F nf HF.out.1.1 HF.out.2 (by omega) (some ⟨gf, 0, none⟩) a cf ka wo (HZ.out _ HBz.out).2.2.1 (HZ.out _ HBz.out).1).mono ?_
      rintro e w2 ⟨rfl, b2⟩
      have HB2 : Hid (Below z.heap.size z w2) := HBz.out.trans (b2.mono HBz.out.size)
      clear b2 HBz
      go_wp2_with fail
      refine (untouched_any T nt HT.out.1.1 HT.out.2 (by omega) (some ⟨gg, 0, none⟩) b cg kb w2 (HZ.out _ HB2.out).2.2.2.1 (HZ.out _ HB2.out).2.1).mono ?_
      rintro e w3 ⟨rfl, b3⟩
      have HB3 : Hid (Below z.heap.size z w3) := HB2.out.trans (b3.mono HB2.out.size)
      clear b3 HB2
      go_wp2
      go_ret
      exact ⟨rfl, (HZ.out _ HB3.out).2.2.2.2.2⟩
end Go.Proofs.YtlckjbangdnejaaDoor
