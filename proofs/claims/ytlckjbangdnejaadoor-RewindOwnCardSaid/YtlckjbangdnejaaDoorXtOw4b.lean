/-
  The law RewindOwn: every list gets its mark.
-/
import Derived.Test.YtlckjbangdnejaaDoorXtOw5
set_option linter.unusedSimpArgs false
set_option linter.unusedVariables false
namespace Go.Proofs.YtlckjbangdnejaaDoor
open Go.RowKit Classical
set_option maxRecDepth 100000 in
set_option maxHeartbeats 16000000 in
theorem own4b (F T : List Nat) (nf nt : Nat) (f6 : nf ≤ 65536) (t6 : nt ≤ 65536) (HF : Hid (Good F ∧ F.length = nf)) (HT : Hid (Good T ∧ T.length = nt)) (d1 d2 : Nat) (hd1b : d1 ≤ 65560) (hd2b : d2 ≤ 65560) (D1 D2 : List Nat) (HD : Hid (D1.length = d1 ∧ D2.length = d2 ∧ Bytes D1 ∧ Bytes D2)) (a b : Option Addr) (ka kb : Nat) (w z : World) (gf cf gg cg : Nat) (HZ : Hid (∀ V, Below z.heap.size z V → Row V a F ∧ Row V b T ∧ Row V (some ⟨gf, 0, none⟩) (padL F) ∧ Row V (some ⟨gg, 0, none⟩) (padL T) ∧ Tab V ∧ Below w.heap.size w V)) (gl cl gw cw B2 : Nat) (fs es : List Value) (Ls : List (List Nat)) (HFL : Hid (fs.length = 12 ∧ es.length = 12)) (HLB : Hid (Ls.length = 12 ∧ ∀ i, i < 12 → Bytes (Ls.getD i []) ∧ (Ls.getD i []).length ≤ 65560)) (V : World) (HB5 : Hid (Below z.heap.size z V)) (HO5 : Hid (Ow V z.heap.size (.slice (some ⟨gl, 0, none⟩) 12 cl) fs)) (HM5 : Hid (Fm V z.heap.size fs Ls)) (HOw : Hid (Ow V B2 (.slice (some ⟨gw, 0, none⟩) 12 cw) es)) (HMw : Hid (Fm V B2 es Ls)) (HB2 : Hid (∀ i, i < 12 → ∀ k, (fs.getD i undef).ownBlock = some k → k < B2)) (q2 q3 q4 q9 q10 q12 q13 q14 q15 q16 q18 q19 q20 q21 q22 q23 q24 q25 q26 q27 q28 q29 q30 q31 q32 q33 q34 q35 q36 q37 q38 q39 q40 q41 q42 q43 q44 q45 q46 q47 q48 q49 q50 q51 q52 q53 q54 q55 q56 q57 q58 q59 q60 q61 q62 q63 q64 q65 q66 q67 q68 q69 q70 q71 q72 q73 q74 q75 q76 q77 q78 q79 q80 q81 q82 q83 q84 q85 q86 q87 q88 q89 q90 q91 q92 q93 q94 q95 q96 q97 q98 q99 q100 q101 q102 q103 q104 q105 q106 q107 q108 q109 q110 q111 q112 q113 q114 q115 q116 q117 q118 q119 q120 q121 q122 q123 q124 q125 q126 q127 q128 q129 q130 q131 q132 q133 q134 q135 q136 q137 q138 q139 q140 q141 q142 q143 q144 q145 q146 q147 q148 q149 q150 q151 q152 q153 q154 q155 q156 q157 q158 q159 q160 q161 q162 q163 q164 q165 q166 q167 q168 q169 q170 q171 q172 q173 q174 q175 q176 q177 q178 q179 q180 q181 q182 q183 q184 q185 q186 q187 q188 q189 q190 q191 q192 q193 q194 q195 q196 q197 q198 q199 q200 q201 q202 q203 q204 q205 q206 q207 q208 q209 q210 q211 q212 q213 q214 q215 q216 q217 q218 q219 q220 q221 q222 q223 q224 q225 q226 q227 q228 q229 q230 q231 q232 q233 q234 q235 q236 q237 q238 q239 q240 q241 q242 q243 q244 q245 q246 q247 q248 q249 q250 q251 q252 q253 q254 q255 q256 q257 q258 q259 q260 q261 q262 q263 q264 q265 q266 q267 q268 q269 q270 q271 q272 q273 q274 q275 q276 q277 q278 q279 q280 q281 q282 q283 q284 q285 q286 q287 q288 q289 q290 q291 q292 q293 q294 q295 q296 q297 q298 q299 q300 q301 q302 q303 q304 q305 q306 q307 q308 q309 q310 q311 q312 q313 q314 q315 q316 q317 q318 q319 q320 q321 q322 q323 q324 q325 q326 q327 q328 q329 q330 q331 q332 q333 q334 q335 q336 q337 q338 q339 q340 q341 q342 q343 q344 q345 q346 q347 q348 q349 q350 q351 q352 q353 q354 q355 q356 q357 q358 q359 q360 q361 q362 q363 q364 q365 q366 q367 q368 q369 q370 q371 q372 q373 q374 q375 q376 q377 q378 q379 q380 q381 q382 q383 q384 q385 q386 q387 q388 q389 q390 q391 q392 q393 q394 q395 q396 q397 q398 q399 q400 q401 q402 q403 q404 q405 q406 q407 q408 q409 q410 q411 q412 q413 q414 : Value) (K : Act → World → Prop) (hK : ∀ a' w', (restOf 31 (Tryd.f6.body.getD .skip)).wp Tryd.prog (bodyPost Tryd.prog Tryd.f6 fun e w' => e = .returned (.bool true) ∧ Below w.heap.size w w') a' w' → K a' w') :
    (headOf (restOf 30 (Tryd.f6.body.getD .skip))).wp Tryd.prog (Exit.then K (bodyPost Tryd.prog Tryd.f6 fun e w' => e = .returned (.bool true) ∧ Below w.heap.size w w')) ⟨#[.slice a nf ka, .slice b nt kb, q2, q3, q4, .slice (some ⟨gf, 0, none⟩) nf cf, .slice (some ⟨gf, 0, none⟩) (nf + 8) cf, .slice (some ⟨gg, 0, none⟩) nt cg, .slice (some ⟨gg, 0, none⟩) (nt + 8) cg, q9, q10, .slice (some ⟨gl, 0, none⟩) 12 cl, q12, q13, q14, q15, q16, .slice (some ⟨gw, 0, none⟩) 12 cw, q18, q19, q20, q21, q22, q23, q24, q25, q26, q27, q28, q29, q30, q31, q32, q33, q34, q35, q36, q37, q38, q39, q40, q41, q42, q43, q44, q45, q46, q47, q48, q49, q50, q51, q52, q53, q54, q55, q56, q57, q58, q59, q60, q61, q62, q63, q64, q65, q66, q67, q68, q69, q70, q71, q72, q73, q74, q75, q76, q77, q78, q79, q80, q81, q82, q83, q84, q85, q86, q87, q88, q89, q90, q91, q92, q93, q94, q95, q96, q97, q98, q99, q100, q101, q102, q103, q104, q105, q106, q107, q108, q109, q110, q111, q112, q113, q114, q115, q116, q117, q118, q119, q120, q121, q122, q123, q124, q125, q126, q127, q128, q129, q130, q131, q132, q133, q134, q135, q136, q137, q138, q139, q140, q141, q142, q143, q144, q145, q146, q147, q148, q149, q150, q151, q152, q153, q154, q155, q156, q157, q158, q159, q160, q161, q162, q163, q164, q165, q166, q167, q168, q169, q170, q171, q172, q173, q174, q175, q176, q177, q178, q179, q180, q181, q182, q183, q184, q185, q186, q187, q188, q189, q190, q191, q192, q193, q194, q195, q196, q197, q198, q199, q200, q201, q202, q203, q204, q205, q206, q207, q208, q209, q210, q211, q212, q213, q214, q215, q216, q217, q218, q219, q220, q221, q222, q223, q224, q225, q226, q227, q228, q229, q230, q231, q232, q233, q234, q235, q236, q237, q238, q239, q240, q241, q242, q243, q244, q245, q246, q247, q248, q249, q250, q251, q252, q253, q254, q255, q256, q257, q258, q259, q260, q261, q262, q263, q264, q265, q266, q267, q268, q269, q270, q271, q272, q273, q274, q275, q276, q277, q278, q279, q280, q281, q282, q283, q284, q285, q286, q287, q288, q289, q290, q291, q292, q293, q294, q295, q296, q297, q298, q299, q300, q301, q302, q303, q304, q305, q306, q307, q308, q309, q310, q311, q312, q313, q314, q315, q316, q317, q318, q319, q320, q321, q322, q323, q324, q325, q326, q327, q328, q329, q330, q331, q332, q333, q334, q335, q336, q337, q338, q339, q340, q341, q342, q343, q344, q345, q346, q347, q348, q349, q350, q351, q352, q353, q354, q355, q356, q357, q358, q359, q360, q361, q362, q363, q364, q365, q366, q367, q368, q369, q370, q371, q372, q373, q374, q375, q376, q377, q378, q379, q380, q381, q382, q383, q384, q385, q386, q387, q388, q389, q390, q391, q392, q393, q394, q395, q396, q397, q398, q399, q400, q401, q402, q403, q404, q405, q406, q407, q408, q409, q410, q411, q412, q413, q414], []⟩ V := by
  dsimp only
  conv => arg 2; whnf
  conv at hK => enter [a', w', 1, 2]; whnf
  have HK0 : Hid (Kp (fun k => ∃ j, j < 12 ∧ (fs.getD j undef).ownBlock = some k) V V) := Kp.refl _ _
  have HM0 : Hid (Fm V z.heap.size fs (Mx 0 Ls)) := by rw [Mx_zero]; exact HM5.out
  have HKO : Hid (∀ W, Kp (fun k => ∃ j, j < 12 ∧ (fs.getD j undef).ownBlock = some k) V W → Ow W z.heap.size (.slice (some ⟨gl, 0, none⟩) 12 cl) fs ∧ W.heap.size ≥ V.heap.size ∧ ∀ j, j < 12 → W.cell? ⟨gl, j, none⟩ = some (fs.getD j undef)) := fun W hK => by
    have hO : Ow W z.heap.size (.slice (some ⟨gl, 0, none⟩) 12 cl) fs := HO5.out.on fun k hk => hK.block k (HO5.out.lt k hk).2 fun h => by
      obtain ⟨j, hj, he⟩ := h
      exact HO5.out.ne (HM5.out.tx j (by rw [HFL.out.1]; exact hj)) k he hk
    refine ⟨hO, hK.size, fun j hj => ?_⟩
    obtain ⟨g, c, e, h⟩ := hO.form (by rw [HFL.out.1]; omega)
    simp only [Value.slice.injEq, Option.some.injEq, Addr.mk.injEq] at e
    rw [e.1.1]
    exact h j (by rw [HFL.out.1]; exact hj)
  go_upto_region 46 with fail
  go_loopw [20] (fun x wr => ∃ (i : Nat), i ≤ 12 ∧ x = .int .i64 i ∧ Hid (Fm wr z.heap.size fs (Mx i Ls)) ∧ Hid (Kp (fun k => ∃ j, j < 12 ∧ (fs.getD j undef).ownBlock = some k) V wr)) (fun x _ => 12 - (intOf x).toNat)
  case atStart => exact ⟨0, by omega, rfl, HM0, HK0⟩
  case round =>
    clear HM0 HK0
    obtain ⟨i, hi, rfl, hM, hK⟩ := hrel
    obtain ⟨wo, rfl⟩ : ∃ x, x = wr := ⟨_, rfl⟩
    by_cases hi12 : i < 12
    · have i12 : (i : Int) < 12 := by omega
      obtain ⟨Li, hLi⟩ : ∃ L, Ls.getD i [] = L := ⟨_, rfl⟩
      have hby := HLB.out.2 i hi12
      rw [hLi] at hby
      obtain ⟨li, hli⟩ : ∃ l, Li.length = l := ⟨_, rfl⟩
      have HLI : Hid (Li.length = li ∧ Bytes Li ∧ Ls.getD i [] = Li) := ⟨hli, hby.1, hLi⟩
      have hli2 : li ≤ 65560 := by rw [← hli]; exact hby.2
      obtain ⟨af, kf, hfi⟩ : ∃ a k, fs.getD i undef = .slice a li k := by
        obtain ⟨a, k, e⟩ := (HM5.out.tx i (by rw [HFL.out.1]; exact hi12)).len
        rw [hLi, hli] at e
        exact ⟨a, k, e⟩
      have HFI : Hid (fs.getD i undef = .slice af li kf) := hfi
      obtain ⟨i1, hi1⟩ : ∃ i1, i1 = i + 1 := ⟨_, rfl⟩
      have ei1 : (i : Int) + 1 = (i1 : Int) := by omega
      have wi1 : IntKind.i64.wrap (i1 : Int) = (i1 : Int) := by rw [IntKind.wrap_i64]; omega
      obtain ⟨bj, hbj⟩ : ∃ bj : Nat, bj = i1 % 256 := ⟨_, rfl⟩
      have ebj : IntKind.u8.wrap (i1 : Int) = (bj : Int) := by rw [hbj]; simp [IntKind.wrap, IntKind.bits, IntKind.signed]
      have hbj2 : bj < 256 := by omega
      have HBJ : Hid (bj = (i + 1) % 256) := by unfold Hid; rw [hbj, hi1]
      have HMS : Hid (Fm wo z.heap.size fs ((Mx i Ls).set i (px i 0 Li))) := by
        have := Mx_begin i Ls (by rw [HLB.out.1]; exact hi12)
        rw [hLi] at this
        rw [this]
        exact hM.out
      clear hby hli hfi hLi hi1 hbj hM
      go_upto_region 49 with fail
      go_loopw [21] (fun x wr => ∃ (q : Nat), q ≤ li ∧ x = .int .i64 q ∧ Hid (Fm wr z.heap.size fs ((Mx i Ls).set i (px i q Li))) ∧ Hid (Kp (fun k => ∃ j, j < 12 ∧ (fs.getD j undef).ownBlock = some k) V wr)) (fun x _ => li - (intOf x).toNat)
      case atStart => exact ⟨0, by omega, rfl, HMS, hK⟩
      case round =>
      clear HMS hK
      obtain ⟨q, hq, rfl, hM, hKz⟩ := hrel
      obtain ⟨wq, rfl⟩ : ∃ x, x = wr := ⟨_, rfl⟩
      have cgl := (HKO.out wq hKz.out).2.2 i hi12
      rw [HFI.out] at cgl
      by_cases hqy : q < li
      · have iqy : (q : Int) < (li : Int) := by omega
        obtain ⟨g, kq, hge, cgq, fgq, hset, -⟩ := hM.out.set i (by rw [HFL.out.1]; exact hi12) q (by rw [getD_set _ _ _ _ (by rw [Mx_len, HLB.out.1]; exact hi12), if_pos rfl, px_len, HLI.out.1]; exact hqy) ((Li.getD q 0) ^^^ ((i + 1) % 256))
        rw [getD_set _ _ _ _ (by rw [Mx_len, HLB.out.1]; exact hi12), if_pos rfl] at hge cgq hset
        rw [px_at i q Li (by rw [HLI.out.1]; exact hqy)] at cgq
        rw [px_step i q Li (by rw [HLI.out.1]; exact hqy), List.set_set] at hset
        rw [HFI.out, px_len, HLI.out.1] at hge
        cases hge
        have b9 := bytes_at HLI.out.2.1 q
        obtain ⟨y1, hy1⟩ : ∃ y1, y1 = Li.getD q 0 := ⟨_, rfl⟩
        rw [← hy1] at cgq hset b9
        rw [← HBJ.out] at hset
        have e1 := xor_u8 y1 bj b9 hbj2
        have HFS : Hid (Fm (wq.setCell ⟨g, q, none⟩ (.int .u8 ((y1 ^^^ bj : Nat) : Int))) z.heap.size fs ((Mx i Ls).set i (px i (q + 1) Li))) := hset
        have HGF : Hid (fs.getD i undef = .slice (some ⟨g, 0, none⟩) li kf) := HFI
        clear hset hy1
        go_upto_region 51 with fail
        have s0 : (fun W => Below wq.heap.size wq W) (wq.drewN 1) := below_drawsX (Below.refl _ _) 1
        refine regionM 17 (S := fun W => Below wq.heap.size wq W) (by kernel_rfl) ?_
        change AnyM _ _ _ _ _ _ _ _ (wq.drewN 1)
        refine takeM (i := 0) (v := .slice (some ⟨gl, 0, none⟩) 12 cl) _ rfl (by kernel_rfl) (by kernel_rfl) (by kernel_rfl) (by kernel_rfl) (fun _ _ _ h => h) (.inl ⟨by kernel_rfl, fun _ _ => by kernel_rfl⟩) s0 rfl ?_
        refine takeM (i := 1) (v := .int .i64 (i : Nat)) _ rfl (by kernel_rfl) (by kernel_rfl) (by kernel_rfl) (by kernel_rfl) (fun _ _ _ h => h) (.inl ⟨by kernel_rfl, fun _ _ => by kernel_rfl⟩) s0 rfl ?_
        refine takeM (i := 2) (v := .pointer (some ⟨gl, i, none⟩)) _ rfl (by kernel_rfl) (by kernel_rfl) (by kernel_rfl) (by kernel_rfl) (fun _ _ _ h => h) (.inl ⟨by kernel_rfl, fun v hv => by have := i12; go_simp⟩) s0 rfl ?_
        refine takeM (i := 3) (v := .slice (some ⟨g, 0, none⟩) li kf) _ rfl (by kernel_rfl) (by kernel_rfl) (by kernel_rfl) (by kernel_rfl) (fun _ _ _ h => h) (.inl ⟨by kernel_rfl, fun v hv => by have c : v.cell? ⟨gl, i, none⟩ = some (.slice (some ⟨g, 0, none⟩) li kf) := (hv.cell (p := ⟨gl, i, none⟩) (cell_lt cgl)).trans cgl; go_simp⟩) s0 rfl ?_
        refine takeM (i := 4) (v := .int .i64 (q : Nat)) _ rfl (by kernel_rfl) (by kernel_rfl) (by kernel_rfl) (by kernel_rfl) (fun _ _ _ h => h) (.inl ⟨by kernel_rfl, fun _ _ => by kernel_rfl⟩) s0 rfl ?_
        refine takeM (i := 5) (v := .slice (some ⟨gl, 0, none⟩) 12 cl) _ rfl (by kernel_rfl) (by kernel_rfl) (by kernel_rfl) (by kernel_rfl) (fun _ _ _ h => h) (.inl ⟨by kernel_rfl, fun _ _ => by kernel_rfl⟩) s0 rfl ?_
        refine takeM (i := 6) (v := .int .i64 (i : Nat)) _ rfl (by kernel_rfl) (by kernel_rfl) (by kernel_rfl) (by kernel_rfl) (fun _ _ _ h => h) (.inl ⟨by kernel_rfl, fun _ _ => by kernel_rfl⟩) s0 rfl ?_
        refine takeM (i := 7) (v := .pointer (some ⟨gl, i, none⟩)) _ rfl (by kernel_rfl) (by kernel_rfl) (by kernel_rfl) (by kernel_rfl) (fun _ _ _ h => h) (.inl ⟨by kernel_rfl, fun v hv => by have := i12; go_simp⟩) s0 rfl ?_
        refine takeM (i := 8) (v := .slice (some ⟨g, 0, none⟩) li kf) _ rfl (by kernel_rfl) (by kernel_rfl) (by kernel_rfl) (by kernel_rfl) (fun _ _ _ h => h) (.inl ⟨by kernel_rfl, fun v hv => by have c : v.cell? ⟨gl, i, none⟩ = some (.slice (some ⟨g, 0, none⟩) li kf) := (hv.cell (p := ⟨gl, i, none⟩) (cell_lt cgl)).trans cgl; go_simp⟩) s0 rfl ?_
        refine takeM (i := 9) (v := .int .i64 (q : Nat)) _ rfl (by kernel_rfl) (by kernel_rfl) (by kernel_rfl) (by kernel_rfl) (fun _ _ _ h => h) (.inl ⟨by kernel_rfl, fun _ _ => by kernel_rfl⟩) s0 rfl ?_
        refine takeM (i := 10) (v := .pointer (some ⟨g, q, none⟩)) _ rfl (by kernel_rfl) (by kernel_rfl) (by kernel_rfl) (by kernel_rfl) (fun _ _ _ h => h) (.inl ⟨by kernel_rfl, fun v hv => by have := iqy; go_simp⟩) s0 rfl ?_
        refine takeM (i := 11) (v := .int .u8 (y1 : Nat)) _ rfl (by kernel_rfl) (by kernel_rfl) (by kernel_rfl) (by kernel_rfl) (fun _ _ _ h => h) (.inl ⟨by kernel_rfl, fun v hv => by have c : v.cell? ⟨g, q, none⟩ = some (.int .u8 (y1 : Nat)) := (hv.cell (p := ⟨g, q, none⟩) (cell_lt cgq)).trans cgq; go_simp⟩) s0 rfl ?_
        refine takeM (i := 12) (v := .int .i64 (i : Nat)) _ rfl (by kernel_rfl) (by kernel_rfl) (by kernel_rfl) (by kernel_rfl) (fun _ _ _ h => h) (.inl ⟨by kernel_rfl, fun _ _ => by kernel_rfl⟩) s0 rfl ?_
        refine takeM (i := 13) (v := .int .i64 (i1 : Nat)) _ rfl (by kernel_rfl) (by kernel_rfl) (by kernel_rfl) (by kernel_rfl) (fun _ _ _ h => h) (.inl ⟨by kernel_rfl, fun v hv => by have := ei1; have := wi1; go_simp⟩) s0 rfl ?_
        refine takeM (i := 14) (v := .int .u8 (bj : Nat)) _ rfl (by kernel_rfl) (by kernel_rfl) (by kernel_rfl) (by kernel_rfl) (fun _ _ _ h => h) (.inl ⟨by kernel_rfl, fun v hv => by have := ebj; go_simp⟩) s0 rfl ?_
        refine takeM (i := 15) (v := .int .u8 ((y1 ^^^ bj : Nat) : Int)) _ rfl (by kernel_rfl) (by kernel_rfl) (by kernel_rfl) (by kernel_rfl) (fun _ _ _ h => h) (.inl ⟨by kernel_rfl, fun v hv => by have := e1; go_simp⟩) s0 rfl ?_
        refine takeM (i := 16) (v := .pointer (some ⟨g, q, none⟩)) _ rfl (by kernel_rfl) (by kernel_rfl) (by kernel_rfl) (by kernel_rfl) (fun _ _ _ h => h) (.inl ⟨by kernel_rfl, fun v hv => by have := iqy; go_simp⟩) s0 rfl ?_
        refine storeM (by kernel_rfl) (by kernel_rfl) ?_
        refine wpOp_store rfl (by kernel_rfl) 5 (.tmp 323) (.tmp 322) rfl g q (.int .u8 ((y1 ^^^ bj : Nat) : Int)) #[.int .u8 ((y1 ^^^ bj : Nat) : Int)] (by kernel_rfl) (by kernel_rfl) rfl (fun j hj => by
          obtain rfl : j = 0 := by simpa using hj
          exact ⟨by rw [Nat.add_zero]; exact (congrArg Option.isSome cgq), by rw [Nat.add_zero]; exact fgq⟩) (by kernel_rfl) (by kernel_rfl) ⟨#[.slice a nf ka, .slice b nt kb, q2, q3, q4, .slice (some ⟨gf, 0, none⟩) nf cf, .slice (some ⟨gf, 0, none⟩) (nf + 8) cf, .slice (some ⟨gg, 0, none⟩) nt cg, .slice (some ⟨gg, 0, none⟩) (nt + 8) cg, q9, q10, .slice (some ⟨gl, 0, none⟩) 12 cl, q12, q13, q14, q15, q16, .slice (some ⟨gw, 0, none⟩) 12 cw, q18, .slice none 0 0, .int .i64 (i : Nat), .int .i64 (q : Nat), q22, q23, q24, q25, q26, q27, q28, q29, q30, q31, q32, q33, q34, q35, q36, q37, q38, q39, q40, q41, q42, q43, q44, q45, q46, q47, q48, q49, q50, q51, q52, q53, q54, q55, q56, q57, q58, q59, q60, q61, q62, q63, q64, q65, q66, q67, q68, q69, q70, q71, q72, q73, q74, q75, q76, q77, q78, q79, q80, q81, q82, q83, q84, q85, q86, q87, q88, q89, q90, q91, q92, q93, q94, q95, q96, q97, q98, q99, q100, q101, q102, q103, q104, q105, q106, q107, q108, q109, q110, q111, q112, q113, q114, q115, q116, q117, q118, q119, q120, q121, q122, q123, q124, q125, q126, q127, q128, q129, q130, q131, q132, q133, q134, q135, q136, q137, q138, q139, q140, q141, q142, q143, q144, q145, q146, q147, q148, q149, q150, q151, q152, q153, q154, q155, q156, q157, q158, q159, q160, q161, q162, q163, q164, q165, q166, q167, q168, q169, q170, q171, q172, q173, q174, q175, q176, q177, q178, q179, q180, q181, q182, q183, q184, q185, q186, q187, q188, q189, q190, q191, q192, q193, q194, q195, q196, q197, q198, q199, q200, q201, q202, q203, q204, q205, q206, q207, q208, q209, q210, q211, q212, q213, q214, q215, q216, q217, q218, q219, q220, q221, q222, q223, q224, q225, q226, q227, q228, q229, q230, q231, q232, q233, q234, q235, q236, q237, q238, q239, q240, q241, q242, q243, q244, q245, q246, q247, q248, q249, q250, q251, q252, q253, q254, q255, q256, q257, q258, q259, q260, q261, q262, q263, q264, q265, q266, q267, q268, q269, q270, q271, q272, q273, q274, q275, q276, q277, q278, q279, q280, q281, q282, q283, q284, q285, q286, q287, q288, q289, q290, q291, .int .i64 (i : Nat), .slice (some ⟨gl, 0, none⟩) 12 cl, .int .i64 12, .bool true, u296, u297, .int .i64 (q : Nat), .slice (some ⟨gl, 0, none⟩) 12 cl, .int .i64 (i : Nat), .pointer (some ⟨gl, i, none⟩), .slice (some ⟨g, 0, none⟩) li kf, .int .i64 (li : Nat), .bool true, u305, u306, .slice (some ⟨gl, 0, none⟩) 12 cl, .int .i64 (i : Nat), .pointer (some ⟨gl, i, none⟩), .slice (some ⟨g, 0, none⟩) li kf, .int .i64 (q : Nat), .slice (some ⟨gl, 0, none⟩) 12 cl, .int .i64 (i : Nat), .pointer (some ⟨gl, i, none⟩), .slice (some ⟨g, 0, none⟩) li kf, .int .i64 (q : Nat), .pointer (some ⟨g, q, none⟩), .int .u8 (y1 : Nat), .int .i64 (i : Nat), .int .i64 (i1 : Nat), .int .u8 (bj : Nat), .int .u8 ((y1 ^^^ bj : Nat) : Int), .pointer (some ⟨g, q, none⟩), q324, q325, q326, q327, q328, q329, q330, q331, q332, q333, q334, q335, q336, q337, q338, q339, q340, q341, q342, q343, q344, q345, q346, q347, q348, q349, q350, q351, q352, q353, q354, q355, q356, q357, q358, q359, q360, q361, q362, q363, q364, q365, q366, q367, q368, q369, q370, q371, q372, q373, q374, q375, q376, q377, q378, q379, q380, q381, q382, q383, q384, q385, q386, q387, q388, q389, q390, q391, q392, q393, q394, q395, q396, q397, q398, q399, q400, q401, q402, q403, q404, q405, q406, q407, q408, q409, q410, q411, q412, q413, q414], []⟩ (by kernel_rfl) ?_
        intro W6 eW6
        have HM7 : Hid (Fm W6 z.heap.size fs ((Mx i Ls).set i (px i (q + 1) Li))) := by rw [eW6]; exact HFS.out.on fun j hj k hk => rfl
        have HK7 : Hid (Kp (fun k => ∃ j, j < 12 ∧ (fs.getD j undef).ownBlock = some k) V W6) := by
          rw [eW6]
          exact (hKz.out.on (below_drawsX (Below.refl _ _) 1)).trans ((Kp.set2 _ g q _).mono fun k hk => ⟨i, hi12, by rw [hk, HGF.out]; rfl⟩)
        clear eW6 s0 cgl cgq fgq HFS hM hKz
        dsimp only
        go_wp2
        go_roundw
        case rel => exact ⟨q + 1, by omega, by go_num, HM7, HK7⟩
        case measure => simp [intOf]; omega
      · obtain rfl : q = li := by omega
        have HM8 : Hid (Fm wq z.heap.size fs (Mx (i + 1) Ls)) := by
          have h1 := hM.out
          rw [← HLI.out.1, px_all] at h1
          have h2 := Mx_step i Ls (by rw [HLB.out.1]; exact hi12)
          rw [HLI.out.2.2] at h2
          rw [← h2]
          exact h1
        clear hM
        go_wp2
        go_roundw
        case rel => exact ⟨i + 1, by omega, by go_num, HM8, hKz⟩
        case measure => simp [intOf]; omega
    · obtain rfl : i = 12 := by omega
      obtain ⟨Ms, hMs⟩ : ∃ Ms, Mx 12 Ls = Ms := ⟨_, rfl⟩
      have HMS : Hid (Mx 12 Ls = Ms) := hMs
      rw [hMs] at hM
      have hO := (HKO.out wo hK.out).1
      have HOl : Hid (Ow wo z.heap.size (.slice (some ⟨gl, 0, none⟩) 12 cl) fs) := hO
      have HBz : Hid (Below z.heap.size z wo) := HB5.out.trans (hK.out.below HB5.out.size fun k hk => by
        obtain ⟨j, hj, he⟩ := hk
        exact ((HM5.out.tx j (by rw [HFL.out.1]; exact hj)).block k he).1)
      have HOw6 : Hid (Ow wo B2 (.slice (some ⟨gw, 0, none⟩) 12 cw) es) := HOw.out.on fun k hk => hK.out.block k (HOw.out.lt k hk).2 fun h => by
        obtain ⟨j, hj, he⟩ := h
        have h1 := HB2.out j hj k he
        have h2 := (HOw.out.lt k hk).1
        omega
      have HMw6 : Hid (Fm wo B2 es Ls) := HMw.out.on fun i hi k hk => hK.out.block k ((HMw.out.tx i hi).block k hk).2 fun h => by
        obtain ⟨j, hj, he⟩ := h
        have h1 := HB2.out j hj k he
        have h2 := ((HMw.out.tx i hi).block k hk).1
        omega
      have HB6 : Hid ((∀ i, i < 12 → ∀ k, (fs.getD i undef).ownBlock = some k → k < B2) ∧ B2 ≤ wo.heap.size) := ⟨HB2.out, by
        obtain ⟨g, c, e, -⟩ := HOw6.out.form (by rw [HFL.out.2]; omega)
        have := HOw6.out.lt gw rfl
        omega⟩
      clear hMs hO HKO hK HB5 HO5 HM5 HOw HMw HB2
      go_upto_region 52 with fail
      exact own5 F T nf nt f6 t6 HF HT d1 d2 hd1b hd2b D1 D2 HD a b ka kb w z gf cf gg cg HZ gl cl gw cw B2 fs es Ls Ms HFL HLB HMS wo HBz HOl hM HOw6 HMw6 HB6 _ _ _ _ _ _ _ _ _ _ _ _ _ _ _ _ _ _ _ _ _ _ _ _ _ _ _ _ _ _ _ _ _ _ _ _ _ _ _ _ _ _ _ _ _ _ _ _ _ _ _ _ _ _ _ _ _ _ _ _ _ _ _ _ _ _ _ _ _ _ _ _ _ _ _ _ _ _ _ _ _ _ _ _ _ _ _ _ _ _ _ _ _ _ _ _ _ _ _ _ _ _ _ _ _ _ _ _ _ _ _ _ _ _ _ _ _ _ _ _ _ _ _ _ _ _ _ _ _ _ _ _ _ _ _ _ _ _ _ _ _ _ _ _ _ _ _ _ _ _ _ _ _ _ _ _ _ _ _ _ _ _ _ _ _ _ _ _ _ _ _ _ _ _ _ _ _ _ _ _ _ _ _ _ _ _ _ _ _ _ _ _ _ _ _ _ _ _ _ _ _ _ _ _ _ _ _ _ _ _ _ _ _ _ _ _ _ _ _ _ _ _ _ _ _ _ _ _ _ _ _ _ _ _ _ _ _ _ _ _ _ _ _ _ _ _ _ _ _ _ _ _ _ _ _ _ _ _ _ _ _ _ _ _ _ _ _ _ _ _ _ _ _ _ _ _ _ _ _ _ _ _ _ _ _ _ _ _ _ _ _ _ _ _ _ _ _ _ _ _ _ _ _ _ _ _ _ _ _ _ _ _ _ _ _ _ _ _ _ _ _ _ _ _ _ _ _ _ _ _ _ _ _ _ _ _ _ _ _ _ _ _ _ _ _ _ _ _ _ _ _ _ _ _ _ _ _ _ _ _ _ _ _ _ _ _ _ _ _ _ _ _ _ _ _ _ _ _ _ _ _ _ _ _ _ _ _ _ _ _ _ _ _ _ _ _ _ _ _ _ _ _ _ _ _ _ _ (by assumption) _ (by assumption)
end Go.Proofs.YtlckjbangdnejaaDoor
