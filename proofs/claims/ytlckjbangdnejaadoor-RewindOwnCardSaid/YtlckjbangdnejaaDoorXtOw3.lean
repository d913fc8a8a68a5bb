/-
  The law RewindOwn: the tape gives back, and what came is held against what went in.
-/
import Derived.Test.YtlckjbangdnejaaDoorXtOw3b
set_option linter.unusedSimpArgs false
set_option linter.unusedVariables false
namespace Go.Proofs.YtlckjbangdnejaaDoor
open Go.RowKit Classical
set_option maxRecDepth 100000 in
set_option maxHeartbeats 16000000 in
theorem own3 (F T : List Nat) (nf nt : Nat) (f6 : nf ≤ 65536) (t6 : nt ≤ 65536) (HF : Hid (Good F ∧ F.length = nf)) (HT : Hid (Good T ∧ T.length = nt)) (d1 d2 : Nat) (hd1b : d1 ≤ 65560) (hd2b : d2 ≤ 65560) (D1 D2 : List Nat) (HD : Hid (D1.length = d1 ∧ D2.length = d2 ∧ Bytes D1 ∧ Bytes D2)) (a b : Option Addr) (ka kb : Nat) (w z : World) (gf cf gg cg : Nat) (HZ : Hid (∀ V, Below z.heap.size z V → Row V a F ∧ Row V b T ∧ Row V (some ⟨gf, 0, none⟩) (padL F) ∧ Row V (some ⟨gg, 0, none⟩) (padL T) ∧ Tab V ∧ Below w.heap.size w V)) (m6 : Nat) (HM6 : Hid (m6 = 6)) (t : Nat) (FQ : Nat → Prop) (v : Value) (es : List Value) (hes : es.length = 10) (V : World) (HI : Hid (Iv z t FQ [T, F] v es [D1, D2, D1, T, T, F, F, T, F, T] V)) (q2 q3 q4 q10 q12 q13 q14 q16 q17 q18 q19 q20 q21 q22 q23 q24 q25 q26 q27 q28 q29 q30 q31 q32 q33 q34 q35 q36 q37 q38 q39 q40 q41 q42 q43 q44 q45 q46 q47 q48 q49 q50 q51 q52 q53 q54 q55 q56 q57 q58 q59 q60 q61 q62 q63 q64 q65 q66 q67 q68 q69 q70 q71 q72 q73 q74 q75 q76 q77 q78 q79 q80 q81 q82 q83 q84 q85 q86 q87 q88 q89 q90 q91 q92 q93 q94 q95 q96 q97 q98 q99 q100 q101 q102 q103 q104 q105 q106 q107 q108 q109 q110 q111 q112 q113 q114 q115 q116 q117 q118 q119 q120 q121 q122 q123 q124 q125 q126 q127 q128 q129 q130 q131 q132 q133 q134 q135 q136 q137 q138 q139 q140 q141 q142 q143 q144 q145 q146 q147 q148 q149 q150 q151 q152 q153 q154 q155 q156 q157 q158 q159 q160 q161 q162 q163 q164 q165 q166 q167 q168 q169 q170 q171 q172 q173 q174 q175 q176 q177 q178 q179 q180 q181 q182 q183 q184 q185 q186 q187 q188 q189 q190 q191 q192 q193 q194 q195 q196 q197 q198 q199 q200 q201 q202 q203 q204 q205 q206 q207 q208 q209 q210 q211 q212 q213 q214 q215 q216 q217 q218 q219 q220 q221 q222 q223 q224 q225 q226 q227 q228 q229 q230 q231 q232 q233 q234 q235 q236 q237 q238 q239 q240 q241 q242 q243 q244 q245 q246 q247 q248 q249 q250 q251 q252 q253 q254 q255 q256 q257 q258 q259 q260 q261 q262 q263 q264 q265 q266 q267 q268 q269 q270 q271 q272 q273 q274 q275 q276 q277 q278 q279 q280 q281 q282 q283 q284 q285 q286 q287 q288 q289 q290 q291 q292 q293 q294 q295 q296 q297 q298 q299 q300 q301 q302 q303 q304 q305 q306 q307 q308 q309 q310 q311 q312 q313 q314 q315 q316 q317 q318 q319 q320 q321 q322 q323 q324 q325 q326 q327 q328 q329 q330 q331 q332 q333 q334 q335 q336 q337 q338 q339 q340 q341 q342 q343 q344 q345 q346 q347 q348 q349 q350 q351 q352 q353 q354 q355 q356 q357 q358 q359 q360 q361 q362 q363 q364 q365 q366 q367 q368 q369 q370 q371 q372 q373 q374 q375 q376 q377 q378 q379 q380 q381 q382 q383 q384 q385 q386 q387 q388 q389 q390 q391 q392 q393 q394 q395 q396 q397 q398 q399 q400 q401 q402 q403 q404 q405 q406 q407 q408 q409 q410 q411 q412 q413 q414 : Value) (K : Act → World → Prop) (hK : ∀ a' w', (restOf 24 (Tryd.f6.body.getD .skip)).wp Tryd.prog (bodyPost Tryd.prog Tryd.f6 fun e w' => e = .returned (.bool true) ∧ Below w.heap.size w w') a' w' → K a' w') :
    (headOf (restOf 23 (Tryd.f6.body.getD .skip))).wp Tryd.prog (Exit.then K (bodyPost Tryd.prog Tryd.f6 fun e w' => e = .returned (.bool true) ∧ Below w.heap.size w w')) ⟨#[.slice a nf ka, .slice b nt kb, q2, q3, q4, .slice (some ⟨gf, 0, none⟩) nf cf, .slice (some ⟨gf, 0, none⟩) (nf + 8) cf, .slice (some ⟨gg, 0, none⟩) nt cg, .slice (some ⟨gg, 0, none⟩) (nt + 8) cg, .pointer (some ⟨t, 0, none⟩), q10, v, q12, q13, q14, .int .i64 (m6 : Nat), q16, q17, q18, q19, q20, q21, q22, q23, q24, q25, q26, q27, q28, q29, q30, q31, q32, q33, q34, q35, q36, q37, q38, q39, q40, q41, q42, q43, q44, q45, q46, q47, q48, q49, q50, q51, q52, q53, q54, q55, q56, q57, q58, q59, q60, q61, q62, q63, q64, q65, q66, q67, q68, q69, q70, q71, q72, q73, q74, q75, q76, q77, q78, q79, q80, q81, q82, q83, q84, q85, q86, q87, q88, q89, q90, q91, q92, q93, q94, q95, q96, q97, q98, q99, q100, q101, q102, q103, q104, q105, q106, q107, q108, q109, q110, q111, q112, q113, q114, q115, q116, q117, q118, q119, q120, q121, q122, q123, q124, q125, q126, q127, q128, q129, q130, q131, q132, q133, q134, q135, q136, q137, q138, q139, q140, q141, q142, q143, q144, q145, q146, q147, q148, q149, q150, q151, q152, q153, q154, q155, q156, q157, q158, q159, q160, q161, q162, q163, q164, q165, q166, q167, q168, q169, q170, q171, q172, q173, q174, q175, q176, q177, q178, q179, q180, q181, q182, q183, q184, q185, q186, q187, q188, q189, q190, q191, q192, q193, q194, q195, q196, q197, q198, q199, q200, q201, q202, q203, q204, q205, q206, q207, q208, q209, q210, q211, q212, q213, q214, q215, q216, q217, q218, q219, q220, q221, q222, q223, q224, q225, q226, q227, q228, q229, q230, q231, q232, q233, q234, q235, q236, q237, q238, q239, q240, q241, q242, q243, q244, q245, q246, q247, q248, q249, q250, q251, q252, q253, q254, q255, q256, q257, q258, q259, q260, q261, q262, q263, q264, q265, q266, q267, q268, q269, q270, q271, q272, q273, q274, q275, q276, q277, q278, q279, q280, q281, q282, q283, q284, q285, q286, q287, q288, q289, q290, q291, q292, q293, q294, q295, q296, q297, q298, q299, q300, q301, q302, q303, q304, q305, q306, q307, q308, q309, q310, q311, q312, q313, q314, q315, q316, q317, q318, q319, q320, q321, q322, q323, q324, q325, q326, q327, q328, q329, q330, q331, q332, q333, q334, q335, q336, q337, q338, q339, q340, q341, q342, q343, q344, q345, q346, q347, q348, q349, q350, q351, q352, q353, q354, q355, q356, q357, q358, q359, q360, q361, q362, q363, q364, q365, q366, q367, q368, q369, q370, q371, q372, q373, q374, q375, q376, q377, q378, q379, q380, q381, q382, q383, q384, q385, q386, q387, q388, q389, q390, q391, q392, q393, q394, q395, q396, q397, q398, q399, q400, q401, q402, q403, q404, q405, q406, q407, q408, q409, q410, q411, q412, q413, q414], []⟩ V := by
  dsimp only
  conv => arg 2; whnf
  conv at hK => enter [a', w', 1, 2]; whnf
  obtain ⟨Ls, hLs⟩ : ∃ Ls, [D1, D2, D1, T, T, F, F, T, F, T] = Ls := ⟨_, rfl⟩
  have HLS : Hid ([D1, D2, D1, T, T, F, F, T, F, T] = Ls) := hLs
  rw [hLs] at HI
  clear hLs
  have HEL : Hid (es.length = 10) := hes
  clear hes
  go_upto_region 33 with fail
  go_wp2_with fail
  refine (back_some FQ t 2 T [F] V HI.out.t1).mono ?_
  rintro e w1 ⟨g1, rfl, O9, hg9, T9, K9⟩
  have hb9 := HI.out.back hg9 O9 T9 K9 (by rw [HT.out.2]; omega)
  rw [HT.out.2] at hb9 ⊢
  obtain ⟨FQ1, hFPn⟩ : ∃ G : Nat → Prop, (fun k => (FQ k ∧ k ≠ g1) ∨ ((V).heap.size ≤ k ∧ k < w1.heap.size)) = G := ⟨_, rfl⟩
  rw [hFPn] at hb9
  have HI1 : Hid (Iv z t FQ1 [F] v (es) (Ls) w1) := hb9.1
  have HX1 : Hid (Nx z FQ1 (es) w1 (.slice (some ⟨g1, 0, none⟩) nt nt) T) := hb9.2
  clear hb9 O9 hg9 T9 K9 HI hFPn
  go_upto_region 34 with fail
  have HOW : Hid ((w1).ownsRow z.heap.size 28 1 v 10 es) := by have := HI1.out.o; unfold Ow at this; rw [show (es).length = 10 by simp only [List.length_append, List.length_cons, List.length_nil, HEL.out]] at this; exact this
  go_upto_region 35 with (refine wpList_appSl rfl _ _ rfl (cells := es) (n := 10) (v := v) (cs := #[.slice (some ⟨g1, 0, none⟩) nt nt]) HOW.out HI1.out.b.size rfl rfl rfl (fun u hu => by simp at hu; subst hu; rfl) (by omega) ?_; intro v2 w2 r1 r2 r3 r4 r5)
  have HI2 : Hid (Iv z t FQ1 [F] v2 (es ++ [.slice (some ⟨g1, 0, none⟩) nt nt]) (Ls ++ [T]) w2) := HI1.out.app HX1.out (by rw [show (es).length = 10 by simp only [List.length_append, List.length_cons, List.length_nil, HEL.out]]; exact r1) r3 r4 r5
  clear r1 r2 r3 r4 r5 HI1 HX1 HOW
  go_wp2_with fail
  refine (back_some FQ1 t 2 F [] w2 HI2.out.t1).mono ?_
  rintro e w3 ⟨g3, rfl, O9, hg9, T9, K9⟩
  have hb9 := HI2.out.back hg9 O9 T9 K9 (by rw [HF.out.2]; omega)
  rw [HF.out.2] at hb9 ⊢
  obtain ⟨FQ3, hFPn⟩ : ∃ G : Nat → Prop, (fun k => (FQ1 k ∧ k ≠ g3) ∨ ((w2).heap.size ≤ k ∧ k < w3.heap.size)) = G := ⟨_, rfl⟩
  rw [hFPn] at hb9
  have HI3 : Hid (Iv z t FQ3 [] v2 (es ++ [.slice (some ⟨g1, 0, none⟩) nt nt]) (Ls ++ [T]) w3) := hb9.1
  have HX3 : Hid (Nx z FQ3 (es ++ [.slice (some ⟨g1, 0, none⟩) nt nt]) w3 (.slice (some ⟨g3, 0, none⟩) nf nf) F) := hb9.2
  clear hb9 O9 hg9 T9 K9 HI2 hFPn
  obtain ⟨es2, he2⟩ : ∃ es2 : List Value, es ++ [.slice (some ⟨g1, 0, none⟩) nt nt] = es2 := ⟨_, rfl⟩
  have hl2 : es2.length = 11 := by rw [← he2]; simp only [List.length_append, List.length_cons, List.length_nil, HEL.out]
  rw [he2] at HI3 HX3
  have HI3' : Hid (Iv z t FQ3 [] v2 es2 [D1, D2, D1, T, T, F, F, T, F, T, T] w3) := by
    have : [D1, D2, D1, T, T, F, F, T, F, T, T] = Ls ++ [T] := by rw [← HLS.out]; rfl
    rw [this]
    exact HI3.out
  clear he2 HI3 HEL HLS
  go_upto_region 36 with fail
  exact own3b F T nf nt f6 t6 HF HT d1 d2 hd1b hd2b D1 D2 HD a b ka kb w z gf cf gg cg HZ m6 HM6 t FQ3 g3 v2 es2 hl2 w3 HI3' HX3 _ _ _ _ _ _ _ _ _ _ _ _ _ _ _ _ _ _ _ _ _ _ _ _ _ _ _ _ _ _ _ _ _ _ _ _ _ _ _ _ _ _ _ _ _ _ _ _ _ _ _ _ _ _ _ _ _ _ _ _ _ _ _ _ _ _ _ _ _ _ _ _ _ _ _ _ _ _ _ _ _ _ _ _ _ _ _ _ _ _ _ _ _ _ _ _ _ _ _ _ _ _ _ _ _ _ _ _ _ _ _ _ _ _ _ _ _ _ _ _ _ _ _ _ _ _ _ _ _ _ _ _ _ _ _ _ _ _ _ _ _ _ _ _ _ _ _ _ _ _ _ _ _ _ _ _ _ _ _ _ _ _ _ _ _ _ _ _ _ _ _ _ _ _ _ _ _ _ _ _ _ _ _ _ _ _ _ _ _ _ _ _ _ _ _ _ _ _ _ _ _ _ _ _ _ _ _ _ _ _ _ _ _ _ _ _ _ _ _ _ _ _ _ _ _ _ _ _ _ _ _ _ _ _ _ _ _ _ _ _ _ _ _ _ _ _ _ _ _ _ _ _ _ _ _ _ _ _ _ _ _ _ _ _ _ _ _ _ _ _ _ _ _ _ _ _ _ _ _ _ _ _ _ _ _ _ _ _ _ _ _ _ _ _ _ _ _ _ _ _ _ _ _ _ _ _ _ _ _ _ _ _ _ _ _ _ _ _ _ _ _ _ _ _ _ _ _ _ _ _ _ _ _ _ _ _ _ _ _ _ _ _ _ _ _ _ _ _ _ _ _ _ _ _ _ _ _ _ _ _ _ _ _ _ _ _ _ _ _ _ _ _ _ _ _ _ _ _ _ _ _ _ _ _ _ _ _ _ _ _ _ _ _ _ _ _ _ _ _ _ _ _ _ _ _ _ (by assumption)
end Go.Proofs.YtlckjbangdnejaaDoor
