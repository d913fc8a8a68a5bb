/-
  The law RewindOwn: what came is held against what went in.
-/
import Derived.Test.YtlckjbangdnejaaDoorXtOw4
import Derived.Test.YtlckjbangdnejaaDoorXtQui
import Derived.Test.YtlckjbangdnejaaDoorXtOw3r
set_option linter.unusedSimpArgs false
set_option linter.unusedVariables false
namespace Go.Proofs.YtlckjbangdnejaaDoor
open Go.RowKit Classical
set_option maxRecDepth 100000 in
set_option maxHeartbeats 16000000 in
theorem own3b (F T : List Nat) (nf nt : Nat) (f6 : nf ≤ 65536) (t6 : nt ≤ 65536) (HF : Hid (Good F ∧ F.length = nf)) (HT : Hid (Good T ∧ T.length = nt)) (d1 d2 : Nat) (hd1b : d1 ≤ 65560) (hd2b : d2 ≤ 65560) (D1 D2 : List Nat) (HD : Hid (D1.length = d1 ∧ D2.length = d2 ∧ Bytes D1 ∧ Bytes D2)) (a b : Option Addr) (ka kb : Nat) (w z : World) (gf cf gg cg : Nat) (HZ : Hid (∀ V, Below z.heap.size z V → Row V a F ∧ Row V b T ∧ Row V (some ⟨gf, 0, none⟩) (padL F) ∧ Row V (some ⟨gg, 0, none⟩) (padL T) ∧ Tab V ∧ Below w.heap.size w V)) (m6 : Nat) (HM6 : Hid (m6 = 6)) (t : Nat) (FQ3 : Nat → Prop) (g3 : Nat) (v : Value) (es : List Value) (hes : es.length = 11) (V : World) (HI3 : Hid (Iv z t FQ3 [] v es [D1, D2, D1, T, T, F, F, T, F, T, T] V)) (HX3 : Hid (Nx z FQ3 es V (.slice (some ⟨g3, 0, none⟩) nf nf) F)) (q2 q3 q4 q10 q12 q13 q16 q17 q18 q19 q20 q21 q22 q23 q24 q25 q26 q27 q28 q29 q30 q31 q32 q33 q34 q35 q36 q37 q38 q39 q40 q41 q42 q43 q44 q45 q46 q47 q48 q49 q50 q51 q52 q53 q54 q55 q56 q57 q58 q59 q60 q61 q62 q63 q64 q65 q66 q67 q68 q69 q70 q71 q72 q73 q74 q75 q76 q77 q78 q79 q80 q81 q82 q83 q84 q85 q86 q87 q88 q89 q90 q91 q92 q93 q94 q95 q96 q97 q98 q99 q100 q101 q102 q103 q104 q105 q106 q107 q108 q109 q110 q111 q112 q113 q114 q115 q116 q117 q118 q119 q120 q121 q122 q123 q124 q125 q126 q127 q128 q129 q130 q131 q132 q133 q134 q135 q136 q137 q138 q139 q140 q141 q142 q143 q144 q145 q146 q147 q148 q149 q150 q151 q152 q153 q154 q155 q156 q157 q158 q159 q160 q161 q162 q163 q164 q165 q166 q167 q168 q169 q170 q171 q172 q173 q174 q175 q176 q177 q178 q179 q180 q181 q182 q183 q184 q185 q186 q187 q188 q189 q190 q191 q192 q193 q194 q195 q196 q197 q198 q199 q200 q201 q202 q203 q204 q205 q206 q207 q208 q209 q210 q211 q212 q213 q214 q215 q216 q217 q218 q219 q220 q221 q222 q223 q224 q225 q226 q227 q228 q229 q230 q231 q232 q233 q234 q235 q236 q237 q238 q239 q240 q241 q242 q243 q244 q245 q246 q247 q248 q249 q250 q251 q252 q253 q254 q255 q256 q257 q258 q259 q260 q261 q262 q263 q264 q265 q266 q267 q268 q269 q270 q271 q272 q273 q274 q275 q276 q277 q278 q279 q280 q281 q282 q283 q284 q285 q286 q287 q288 q289 q290 q291 q292 q293 q294 q295 q296 q297 q298 q299 q300 q301 q302 q303 q304 q305 q306 q307 q308 q309 q310 q311 q312 q313 q314 q315 q316 q317 q318 q319 q320 q321 q322 q323 q324 q325 q326 q327 q328 q329 q330 q331 q332 q333 q334 q335 q336 q337 q338 q339 q340 q341 q342 q343 q344 q345 q346 q347 q348 q349 q350 q351 q352 q353 q354 q355 q356 q357 q358 q359 q360 q361 q362 q363 q364 q365 q366 q367 q368 q369 q370 q371 q372 q373 q374 q375 q376 q377 q378 q379 q380 q381 q382 q383 q384 q385 q386 q387 q388 q389 q390 q391 q392 q393 q394 q395 q396 q397 q398 q399 q400 q401 q402 q403 q404 q405 q406 q407 q408 q409 q410 q411 q412 q413 q414 : Value) (K : Act → World → Prop) (hK : ∀ a' w', (restOf 27 (Tryd.f6.body.getD .skip)).wp Tryd.prog (bodyPost Tryd.prog Tryd.f6 fun e w' => e = .returned (.bool true) ∧ Below w.heap.size w w') a' w' → K a' w') :
    (headOf (restOf 26 (Tryd.f6.body.getD .skip))).wp Tryd.prog (Exit.then K (bodyPost Tryd.prog Tryd.f6 fun e w' => e = .returned (.bool true) ∧ Below w.heap.size w w')) ⟨#[.slice a nf ka, .slice b nt kb, q2, q3, q4, .slice (some ⟨gf, 0, none⟩) nf cf, .slice (some ⟨gf, 0, none⟩) (nf + 8) cf, .slice (some ⟨gg, 0, none⟩) nt cg, .slice (some ⟨gg, 0, none⟩) (nt + 8) cg, .pointer (some ⟨t, 0, none⟩), q10, v, q12, q13, .slice (some ⟨g3, 0, none⟩) nf nf, .int .i64 (m6 : Nat), q16, q17, q18, q19, q20, q21, q22, q23, q24, q25, q26, q27, q28, q29, q30, q31, q32, q33, q34, q35, q36, q37, q38, q39, q40, q41, q42, q43, q44, q45, q46, q47, q48, q49, q50, q51, q52, q53, q54, q55, q56, q57, q58, q59, q60, q61, q62, q63, q64, q65, q66, q67, q68, q69, q70, q71, q72, q73, q74, q75, q76, q77, q78, q79, q80, q81, q82, q83, q84, q85, q86, q87, q88, q89, q90, q91, q92, q93, q94, q95, q96, q97, q98, q99, q100, q101, q102, q103, q104, q105, q106, q107, q108, q109, q110, q111, q112, q113, q114, q115, q116, q117, q118, q119, q120, q121, q122, q123, q124, q125, q126, q127, q128, q129, q130, q131, q132, q133, q134, q135, q136, q137, q138, q139, q140, q141, q142, q143, q144, q145, q146, q147, q148, q149, q150, q151, q152, q153, q154, q155, q156, q157, q158, q159, q160, q161, q162, q163, q164, q165, q166, q167, q168, q169, q170, q171, q172, q173, q174, q175, q176, q177, q178, q179, q180, q181, q182, q183, q184, q185, q186, q187, q188, q189, q190, q191, q192, q193, q194, q195, q196, q197, q198, q199, q200, q201, q202, q203, q204, q205, q206, q207, q208, q209, q210, q211, q212, q213, q214, q215, q216, q217, q218, q219, q220, q221, q222, q223, q224, q225, q226, q227, q228, q229, q230, q231, q232, q233, q234, q235, q236, q237, q238, q239, q240, q241, q242, q243, q244, q245, q246, q247, q248, q249, q250, q251, q252, q253, q254, q255, q256, q257, q258, q259, q260, q261, q262, q263, q264, q265, q266, q267, q268, q269, q270, q271, q272, q273, q274, q275, q276, q277, q278, q279, q280, q281, q282, q283, q284, q285, q286, q287, q288, q289, q290, q291, q292, q293, q294, q295, q296, q297, q298, q299, q300, q301, q302, q303, q304, q305, q306, q307, q308, q309, q310, q311, q312, q313, q314, q315, q316, q317, q318, q319, q320, q321, q322, q323, q324, q325, q326, q327, q328, q329, q330, q331, q332, q333, q334, q335, q336, q337, q338, q339, q340, q341, q342, q343, q344, q345, q346, q347, q348, q349, q350, q351, q352, q353, q354, q355, q356, q357, q358, q359, q360, q361, q362, q363, q364, q365, q366, q367, q368, q369, q370, q371, q372, q373, q374, q375, q376, q377, q378, q379, q380, q381, q382, q383, q384, q385, q386, q387, q388, q389, q390, q391, q392, q393, q394, q395, q396, q397, q398, q399, q400, q401, q402, q403, q404, q405, q406, q407, q408, q409, q410, q411, q412, q413, q414], []⟩ V := by
  dsimp only
  conv => arg 2; whnf
  conv at hK => enter [a', w', 1, 2]; whnf
  have HEL : Hid (es.length = 11) := hes
  clear hes
  obtain ⟨Ls, hLs⟩ : ∃ Ls, [D1, D2, D1, T, T, F, F, T, F, T, T] = Ls := ⟨_, rfl⟩
  have HLS : Hid ([D1, D2, D1, T, T, F, F, T, F, T, T] = Ls) := hLs
  rw [hLs] at HI3
  clear hLs
  go_upto_region 36 with fail
  have HOW : Hid ((V).ownsRow z.heap.size 28 1 v 11 es) := by have := HI3.out.o; unfold Ow at this; rw [show (es).length = 11 by simp only [List.length_append, List.length_cons, List.length_nil, HEL.out]] at this; exact this
  go_upto_region 37 with (refine wpList_appSl rfl _ _ rfl (cells := es) (n := 11) (v := v) (cs := #[.slice (some ⟨g3, 0, none⟩) nf nf]) HOW.out HI3.out.b.size rfl rfl rfl (fun u hu => by simp at hu; subst hu; rfl) (by omega) ?_; intro v4 w4 r1 r2 r3 r4 r5)
  have HI4 : Hid (Iv z t FQ3 [] v4 (es ++ [.slice (some ⟨g3, 0, none⟩) nf nf]) (Ls ++ [F]) w4) := HI3.out.app HX3.out (by rw [show (es).length = 11 by simp only [List.length_append, List.length_cons, List.length_nil, HEL.out]]; exact r1) r3 r4 r5
  clear r1 r2 r3 r4 r5 HI3 HX3 HOW
  obtain ⟨fs, hfs⟩ : ∃ fs : List Value, es ++ [.slice (some ⟨g3, 0, none⟩) nf nf] = fs := ⟨_, rfl⟩
  have hfl : fs.length = 12 := by rw [← hfs]; simp only [List.length_append, List.length_cons, List.length_nil, HEL.out]
  rw [hfs] at HI4
  clear hfs
  have HB4 : Hid (Below z.heap.size z w4) := HI4.out.b
  have HO4 : Hid (Ow w4 z.heap.size v4 fs) := HI4.out.o
  have HM4 : Hid (Fm w4 z.heap.size fs [D1, D2, D1, T, T, F, F, T, F, T, T, F]) := by
    have := HI4.out.f
    rw [← HLS.out] at this
    exact this
  clear HI4
  obtain ⟨gl, cl, hv, hc⟩ := HO4.out.form (by omega)
  rw [hfl] at hv hc
  subst hv
  obtain ⟨a0, k0, e0, R0⟩ : ∃ a k, fs.getD 0 undef = .slice a d1 k ∧ Row w4 a D1 := by
    have := HM4.out.tx 0 (by omega)
    simp only [List.getD_cons_zero, List.getD_cons_succ] at this
    obtain ⟨a, k, e, -, R, -⟩ := this.full
    rw [HD.out.1] at e
    exact ⟨a, k, e, R.row⟩
  obtain ⟨a1, k1, e1, R1⟩ : ∃ a k, fs.getD 1 undef = .slice a d2 k ∧ Row w4 a D2 := by
    have := HM4.out.tx 1 (by omega)
    simp only [List.getD_cons_zero, List.getD_cons_succ] at this
    obtain ⟨a, k, e, -, R, -⟩ := this.full
    rw [HD.out.2.1] at e
    exact ⟨a, k, e, R.row⟩
  obtain ⟨a2, k2, e2, R2⟩ : ∃ a k, fs.getD 2 undef = .slice a d1 k ∧ Row w4 a D1 := by
    have := HM4.out.tx 2 (by omega)
    simp only [List.getD_cons_zero, List.getD_cons_succ] at this
    obtain ⟨a, k, e, -, R, -⟩ := this.full
    rw [HD.out.1] at e
    exact ⟨a, k, e, R.row⟩
  obtain ⟨a3, k3, e3, R3⟩ : ∃ a k, fs.getD 3 undef = .slice a nt k ∧ Row w4 a T := by
    have := HM4.out.tx 3 (by omega)
    simp only [List.getD_cons_zero, List.getD_cons_succ] at this
    obtain ⟨a, k, e, -, R, -⟩ := this.full
    rw [HT.out.2] at e
    exact ⟨a, k, e, R.row⟩
  obtain ⟨a4, k4, e4, R4⟩ : ∃ a k, fs.getD 4 undef = .slice a nt k ∧ Row w4 a T := by
    have := HM4.out.tx 4 (by omega)
    simp only [List.getD_cons_zero, List.getD_cons_succ] at this
    obtain ⟨a, k, e, -, R, -⟩ := this.full
    rw [HT.out.2] at e
    exact ⟨a, k, e, R.row⟩
  obtain ⟨a5, k5, e5, R5⟩ : ∃ a k, fs.getD 5 undef = .slice a nf k ∧ Row w4 a F := by
    have := HM4.out.tx 5 (by omega)
    simp only [List.getD_cons_zero, List.getD_cons_succ] at this
    obtain ⟨a, k, e, -, R, -⟩ := this.full
    rw [HF.out.2] at e
    exact ⟨a, k, e, R.row⟩
  obtain ⟨a6, k6, e6, R6⟩ : ∃ a k, fs.getD 6 undef = .slice a nf k ∧ Row w4 a F := by
    have := HM4.out.tx 6 (by omega)
    simp only [List.getD_cons_zero, List.getD_cons_succ] at this
    obtain ⟨a, k, e, -, R, -⟩ := this.full
    rw [HF.out.2] at e
    exact ⟨a, k, e, R.row⟩
  obtain ⟨a7, k7, e7, R7⟩ : ∃ a k, fs.getD 7 undef = .slice a nt k ∧ Row w4 a T := by
    have := HM4.out.tx 7 (by omega)
    simp only [List.getD_cons_zero, List.getD_cons_succ] at this
    obtain ⟨a, k, e, -, R, -⟩ := this.full
    rw [HT.out.2] at e
    exact ⟨a, k, e, R.row⟩
  obtain ⟨a8, k8, e8, R8⟩ : ∃ a k, fs.getD 8 undef = .slice a nf k ∧ Row w4 a F := by
    have := HM4.out.tx 8 (by omega)
    simp only [List.getD_cons_zero, List.getD_cons_succ] at this
    obtain ⟨a, k, e, -, R, -⟩ := this.full
    rw [HF.out.2] at e
    exact ⟨a, k, e, R.row⟩
  obtain ⟨a9, k9, e9, R9⟩ : ∃ a k, fs.getD 9 undef = .slice a nt k ∧ Row w4 a T := by
    have := HM4.out.tx 9 (by omega)
    simp only [List.getD_cons_zero, List.getD_cons_succ] at this
    obtain ⟨a, k, e, -, R, -⟩ := this.full
    rw [HT.out.2] at e
    exact ⟨a, k, e, R.row⟩
  obtain ⟨a10, k10, e10, R10⟩ : ∃ a k, fs.getD 10 undef = .slice a nt k ∧ Row w4 a T := by
    have := HM4.out.tx 10 (by omega)
    simp only [List.getD_cons_zero, List.getD_cons_succ] at this
    obtain ⟨a, k, e, -, R, -⟩ := this.full
    rw [HT.out.2] at e
    exact ⟨a, k, e, R.row⟩
  obtain ⟨a11, k11, e11, R11⟩ : ∃ a k, fs.getD 11 undef = .slice a nf k ∧ Row w4 a F := by
    have := HM4.out.tx 11 (by omega)
    simp only [List.getD_cons_zero, List.getD_cons_succ] at this
    obtain ⟨a, k, e, -, R, -⟩ := this.full
    rw [HF.out.2] at e
    exact ⟨a, k, e, R.row⟩
  have HC : Hid (∀ W, Below w4.heap.size w4 W → (W.cell? ⟨gl, 0, none⟩ = some (.slice a0 d1 k0) ∧ Row W a0 D1) ∧ (W.cell? ⟨gl, 1, none⟩ = some (.slice a1 d2 k1) ∧ Row W a1 D2) ∧ (W.cell? ⟨gl, 2, none⟩ = some (.slice a2 d1 k2) ∧ Row W a2 D1) ∧ (W.cell? ⟨gl, 3, none⟩ = some (.slice a3 nt k3) ∧ Row W a3 T) ∧ (W.cell? ⟨gl, 4, none⟩ = some (.slice a4 nt k4) ∧ Row W a4 T) ∧ (W.cell? ⟨gl, 5, none⟩ = some (.slice a5 nf k5) ∧ Row W a5 F) ∧ (W.cell? ⟨gl, 6, none⟩ = some (.slice a6 nf k6) ∧ Row W a6 F) ∧ (W.cell? ⟨gl, 7, none⟩ = some (.slice a7 nt k7) ∧ Row W a7 T) ∧ (W.cell? ⟨gl, 8, none⟩ = some (.slice a8 nf k8) ∧ Row W a8 F) ∧ (W.cell? ⟨gl, 9, none⟩ = some (.slice a9 nt k9) ∧ Row W a9 T) ∧ (W.cell? ⟨gl, 10, none⟩ = some (.slice a10 nt k10) ∧ Row W a10 T) ∧ (W.cell? ⟨gl, 11, none⟩ = some (.slice a11 nf k11) ∧ Row W a11 F)) := fun W hW => by
    refine ⟨?_, ?_, ?_, ?_, ?_, ?_, ?_, ?_, ?_, ?_, ?_, ?_⟩
    · have c := hc 0 (by omega)
      rw [e0] at c
      exact ⟨(hW.cell (p := ⟨gl, 0, none⟩) (cell_lt c)).trans c, R0.below hW⟩
    · have c := hc 1 (by omega)
      rw [e1] at c
      exact ⟨(hW.cell (p := ⟨gl, 1, none⟩) (cell_lt c)).trans c, R1.below hW⟩
    · have c := hc 2 (by omega)
      rw [e2] at c
      exact ⟨(hW.cell (p := ⟨gl, 2, none⟩) (cell_lt c)).trans c, R2.below hW⟩
    · have c := hc 3 (by omega)
      rw [e3] at c
      exact ⟨(hW.cell (p := ⟨gl, 3, none⟩) (cell_lt c)).trans c, R3.below hW⟩
    · have c := hc 4 (by omega)
      rw [e4] at c
      exact ⟨(hW.cell (p := ⟨gl, 4, none⟩) (cell_lt c)).trans c, R4.below hW⟩
    · have c := hc 5 (by omega)
      rw [e5] at c
      exact ⟨(hW.cell (p := ⟨gl, 5, none⟩) (cell_lt c)).trans c, R5.below hW⟩
    · have c := hc 6 (by omega)
      rw [e6] at c
      exact ⟨(hW.cell (p := ⟨gl, 6, none⟩) (cell_lt c)).trans c, R6.below hW⟩
    · have c := hc 7 (by omega)
      rw [e7] at c
      exact ⟨(hW.cell (p := ⟨gl, 7, none⟩) (cell_lt c)).trans c, R7.below hW⟩
    · have c := hc 8 (by omega)
      rw [e8] at c
      exact ⟨(hW.cell (p := ⟨gl, 8, none⟩) (cell_lt c)).trans c, R8.below hW⟩
    · have c := hc 9 (by omega)
      rw [e9] at c
      exact ⟨(hW.cell (p := ⟨gl, 9, none⟩) (cell_lt c)).trans c, R9.below hW⟩
    · have c := hc 10 (by omega)
      rw [e10] at c
      exact ⟨(hW.cell (p := ⟨gl, 10, none⟩) (cell_lt c)).trans c, R10.below hW⟩
    · have c := hc 11 (by omega)
      rw [e11] at c
      exact ⟨(hW.cell (p := ⟨gl, 11, none⟩) (cell_lt c)).trans c, R11.below hW⟩
  clear hc e0 R0 e1 R1 e2 R2 e3 R3 e4 R4 e5 R5 e6 R6 e7 R7 e8 R8 e9 R9 e10 R10 e11 R11
  obtain ⟨⟨cA_0, rA_0⟩, ⟨cA_1, rA_1⟩, ⟨cA_2, rA_2⟩, ⟨cA_3, rA_3⟩, ⟨cA_4, rA_4⟩, ⟨cA_5, rA_5⟩, ⟨cA_6, rA_6⟩, ⟨cA_7, rA_7⟩, ⟨cA_8, rA_8⟩, ⟨cA_9, rA_9⟩, ⟨cA_10, rA_10⟩, ⟨cA_11, rA_11⟩⟩ := HC.out w4 (Below.refl _ _)
  have Q6 : Hid (∀ n, Calls Tryd.prog 14 #[.slice a6 nf k6, .slice a nf ka] (w4.drewN n) fun e w' => e = .returned (.bool true) ∧ ∃ m, w' = (w4.drewN n).drewN m) := fun n => same_q F nf HF.out.1.1 HF.out.2 (by omega) a6 a k6 ka _ (((HC.out w4 (Below.refl _ _)).2.2.2.2.2.2.1.2).below (below_drawsX (Below.refl _ _) n)) (((HZ.out _ HB4.out).1).below (below_drawsX (Below.refl _ _) n))
  have Q7 : Hid (∀ n, Calls Tryd.prog 14 #[.slice a7 nt k7, .slice b nt kb] (w4.drewN n) fun e w' => e = .returned (.bool true) ∧ ∃ m, w' = (w4.drewN n).drewN m) := fun n => same_q T nt HT.out.1.1 HT.out.2 (by omega) a7 b k7 kb _ (((HC.out w4 (Below.refl _ _)).2.2.2.2.2.2.2.1.2).below (below_drawsX (Below.refl _ _) n)) (((HZ.out _ HB4.out).2.1).below (below_drawsX (Below.refl _ _) n))
  have Q8 : Hid (∀ n, Calls Tryd.prog 14 #[.slice a8 nf k8, .slice a nf ka] (w4.drewN n) fun e w' => e = .returned (.bool true) ∧ ∃ m, w' = (w4.drewN n).drewN m) := fun n => same_q F nf HF.out.1.1 HF.out.2 (by omega) a8 a k8 ka _ (((HC.out w4 (Below.refl _ _)).2.2.2.2.2.2.2.2.1.2).below (below_drawsX (Below.refl _ _) n)) (((HZ.out _ HB4.out).1).below (below_drawsX (Below.refl _ _) n))
  have Q9 : Hid (∀ n, Calls Tryd.prog 14 #[.slice a9 nt k9, .slice b nt kb] (w4.drewN n) fun e w' => e = .returned (.bool true) ∧ ∃ m, w' = (w4.drewN n).drewN m) := fun n => same_q T nt HT.out.1.1 HT.out.2 (by omega) a9 b k9 kb _ (((HC.out w4 (Below.refl _ _)).2.2.2.2.2.2.2.2.2.1.2).below (below_drawsX (Below.refl _ _) n)) (((HZ.out _ HB4.out).2.1).below (below_drawsX (Below.refl _ _) n))
  have Q10 : Hid (∀ n, Calls Tryd.prog 14 #[.slice a10 nt k10, .slice b nt kb] (w4.drewN n) fun e w' => e = .returned (.bool true) ∧ ∃ m, w' = (w4.drewN n).drewN m) := fun n => same_q T nt HT.out.1.1 HT.out.2 (by omega) a10 b k10 kb _ (((HC.out w4 (Below.refl _ _)).2.2.2.2.2.2.2.2.2.2.1.2).below (below_drawsX (Below.refl _ _) n)) (((HZ.out _ HB4.out).2.1).below (below_drawsX (Below.refl _ _) n))
  have Q11 : Hid (∀ n, Calls Tryd.prog 14 #[.slice a11 nf k11, .slice a nf ka] (w4.drewN n) fun e w' => e = .returned (.bool true) ∧ ∃ m, w' = (w4.drewN n).drewN m) := fun n => same_q F nf HF.out.1.1 HF.out.2 (by omega) a11 a k11 ka _ (((HC.out w4 (Below.refl _ _)).2.2.2.2.2.2.2.2.2.2.2.2).below (below_drawsX (Below.refl _ _) n)) (((HZ.out _ HB4.out).1).below (below_drawsX (Below.refl _ _) n))
  have Q0 : Hid (∀ n, Calls Tryd.prog 14 #[.slice a0 d1 k0, .slice a2 d1 k2] (w4.drewN n) fun e w' => e = .returned (.bool true) ∧ ∃ m, w' = (w4.drewN n).drewN m) := fun n => same_q D1 d1 HD.out.2.2.1 HD.out.1 (by omega) a0 a2 k0 k2 _ (((HC.out w4 (Below.refl _ _)).1.2).below (below_drawsX (Below.refl _ _) n)) (((HC.out w4 (Below.refl _ _)).2.2.1.2).below (below_drawsX (Below.refl _ _) n))
  have Q3 : Hid (∀ n, Calls Tryd.prog 14 #[.slice a3 nt k3, .slice a4 nt k4] (w4.drewN n) fun e w' => e = .returned (.bool true) ∧ ∃ m, w' = (w4.drewN n).drewN m) := fun n => same_q T nt HT.out.1.1 HT.out.2 (by omega) a3 a4 k3 k4 _ (((HC.out w4 (Below.refl _ _)).2.2.2.1.2).below (below_drawsX (Below.refl _ _) n)) (((HC.out w4 (Below.refl _ _)).2.2.2.2.1.2).below (below_drawsX (Below.refl _ _) n))
  have QF : Hid (∀ n, Calls Tryd.prog 21 #[.slice (some ⟨gf, 0, none⟩) (nf + 8) cf, .slice a nf ka] (w4.drewN n) fun e w' => e = .returned (.bool true) ∧ ∃ m, w' = (w4.drewN n).drewN m) := fun n => untouched_q F nf HF.out.1.1 HF.out.2 (by omega) (some ⟨gf, 0, none⟩) a cf ka _ (((HZ.out _ HB4.out).2.2.1).below (below_drawsX (Below.refl _ _) n)) (((HZ.out _ HB4.out).1).below (below_drawsX (Below.refl _ _) n))
  have QT : Hid (∀ n, Calls Tryd.prog 21 #[.slice (some ⟨gg, 0, none⟩) (nt + 8) cg, .slice b nt kb] (w4.drewN n) fun e w' => e = .returned (.bool true) ∧ ∃ m, w' = (w4.drewN n).drewN m) := fun n => untouched_q T nt HT.out.1.1 HT.out.2 (by omega) (some ⟨gg, 0, none⟩) b cg kb _ (((HZ.out _ HB4.out).2.2.2.1).below (below_drawsX (Below.refl _ _) n)) (((HZ.out _ HB4.out).2.1).below (below_drawsX (Below.refl _ _) n))
  clear HC rA_0 rA_1 rA_2 rA_3 rA_4 rA_5 rA_6 rA_7 rA_8 rA_9 rA_10 rA_11 cA_1 cA_5
  have i6 : (m6 : Int) < 12 := by have := HM6.out; omega
  have h6 : m6 ≤ 20 := by have := HM6.out; omega
  rw [show (6 : Nat) = m6 from HM6.out.symm] at cA_6
  obtain ⟨m7, hm7⟩ : ∃ m : Nat, m = m6 + 1 := ⟨_, rfl⟩
  have e7 : (m6 : Int) + 1 = (m7 : Int) := by omega
  have i7 : (m7 : Int) < 12 := by have := HM6.out; omega
  have h7 : m7 ≤ 20 := by have := HM6.out; omega
  have w7 : IntKind.i64.wrap (m7 : Int) = (m7 : Int) := by rw [IntKind.wrap_i64]; omega
  rw [show (7 : Nat) = m7 by have := HM6.out; omega] at cA_7
  clear hm7
  obtain ⟨m8, hm8⟩ : ∃ m : Nat, m = m6 + 2 := ⟨_, rfl⟩
  have e8 : (m6 : Int) + 2 = (m8 : Int) := by omega
  have i8 : (m8 : Int) < 12 := by have := HM6.out; omega
  have h8 : m8 ≤ 20 := by have := HM6.out; omega
  have w8 : IntKind.i64.wrap (m8 : Int) = (m8 : Int) := by rw [IntKind.wrap_i64]; omega
  rw [show (8 : Nat) = m8 by have := HM6.out; omega] at cA_8
  clear hm8
  obtain ⟨m9, hm9⟩ : ∃ m : Nat, m = m6 + 3 := ⟨_, rfl⟩
  have e9 : (m6 : Int) + 3 = (m9 : Int) := by omega
  have i9 : (m9 : Int) < 12 := by have := HM6.out; omega
  have h9 : m9 ≤ 20 := by have := HM6.out; omega
  have w9 : IntKind.i64.wrap (m9 : Int) = (m9 : Int) := by rw [IntKind.wrap_i64]; omega
  rw [show (9 : Nat) = m9 by have := HM6.out; omega] at cA_9
  clear hm9
  obtain ⟨m10, hm10⟩ : ∃ m : Nat, m = m6 + 4 := ⟨_, rfl⟩
  have e10 : (m6 : Int) + 4 = (m10 : Int) := by omega
  have i10 : (m10 : Int) < 12 := by have := HM6.out; omega
  have h10 : m10 ≤ 20 := by have := HM6.out; omega
  have w10 : IntKind.i64.wrap (m10 : Int) = (m10 : Int) := by rw [IntKind.wrap_i64]; omega
  rw [show (10 : Nat) = m10 by have := HM6.out; omega] at cA_10
  clear hm10
  obtain ⟨m11, hm11⟩ : ∃ m : Nat, m = m6 + 5 := ⟨_, rfl⟩
  have e11 : (m6 : Int) + 5 = (m11 : Int) := by omega
  have i11 : (m11 : Int) < 12 := by have := HM6.out; omega
  have h11 : m11 ≤ 20 := by have := HM6.out; omega
  have w11 : IntKind.i64.wrap (m11 : Int) = (m11 : Int) := by rw [IntKind.wrap_i64]; omega
  rw [show (11 : Nat) = m11 by have := HM6.out; omega] at cA_11
  clear hm11
  have s0 : Below w4.heap.size w4 (w4.drewN 1) := below_drawsX (Below.refl _ _) 1
  refine wp_region_held (S := fun V => Below w4.heap.size w4 V) (by kernel_rfl) ?_
  change wpAnyH _ _ _ _ _ _ _ _ (w4.drewN 1)
  refine takeH (i := 0) (v := .slice (some ⟨gl, 0, none⟩) 12 cl) _ rfl (by kernel_rfl) (by kernel_rfl) (by kernel_rfl) (fun _ _ _ h => h) (.inl ⟨by kernel_rfl, fun _ _ => by kernel_rfl⟩) s0 rfl ?_
  refine takeH (i := 1) (v := .int .i64 (m6 : Nat)) _ rfl (by kernel_rfl) (by kernel_rfl) (by kernel_rfl) (fun _ _ _ h => h) (.inl ⟨by kernel_rfl, fun _ _ => by kernel_rfl⟩) s0 rfl ?_
  refine takeH (i := 2) (v := .pointer (some ⟨gl, m6, none⟩)) _ rfl (by kernel_rfl) (by kernel_rfl) (by kernel_rfl) (fun _ _ _ h => h) (.inl ⟨by kernel_rfl, fun v hv => by have := i6; go_simp⟩) s0 rfl ?_
  refine takeH (i := 3) (v := .slice a6 nf k6) _ rfl (by kernel_rfl) (by kernel_rfl) (by kernel_rfl) (fun _ _ _ h => h) (.inl ⟨by kernel_rfl, fun v hv => by have c : v.cell? ⟨gl, m6, none⟩ = some (.slice a6 nf k6) := (hv.cell (p := ⟨gl, m6, none⟩) (cell_lt cA_6)).trans cA_6; go_simp⟩) s0 rfl ?_
  refine takeH (i := 4) (v := .slice a nf ka) _ rfl (by kernel_rfl) (by kernel_rfl) (by kernel_rfl) (fun _ _ _ h => h) (.inl ⟨by kernel_rfl, fun _ _ => by kernel_rfl⟩) s0 rfl ?_
  refine callH (i := 5) (f := 14) (args := #[.slice a6 nf k6, .slice a nf ka]) (v := .bool true) (R := fun w' => ∃ m, w' = w4.drewN m) _ (by kernel_rfl) rfl (by kernel_rfl) (by kernel_rfl) (Calls.quiet_of (Q6.out 1)) rfl ?_
  rintro _ ⟨n1, rfl⟩
  have s1 : Below w4.heap.size w4 (w4.drewN n1) := below_drawsX (Below.refl _ _) n1
  refine ⟨s1, ?_⟩
  refine takeH (i := 6) (v := .bool false) _ rfl (by kernel_rfl) (by kernel_rfl) (by kernel_rfl) (fun _ _ _ h => h) (.inl ⟨by kernel_rfl, fun _ _ => by kernel_rfl⟩) s1 rfl ?_
  refine takeH (i := 7) (v := .bool false) ⟨#[.slice a nf ka, .slice b nt kb, q2, q3, q4, .slice (some ⟨gf, 0, none⟩) nf cf, .slice (some ⟨gf, 0, none⟩) (nf + 8) cf, .slice (some ⟨gg, 0, none⟩) nt cg, .slice (some ⟨gg, 0, none⟩) (nt + 8) cg, .pointer (some ⟨t, 0, none⟩), q10, .slice (some ⟨gl, 0, none⟩) 12 cl, q12, q13, .slice (some ⟨g3, 0, none⟩) nf nf, .int .i64 (m6 : Nat), q16, q17, q18, q19, q20, q21, q22, q23, q24, q25, q26, q27, q28, q29, q30, q31, q32, q33, q34, q35, q36, q37, q38, q39, q40, q41, q42, q43, q44, q45, q46, q47, q48, q49, q50, q51, q52, q53, q54, q55, q56, q57, q58, q59, q60, q61, q62, q63, q64, q65, q66, q67, q68, q69, q70, q71, q72, q73, q74, q75, q76, q77, q78, q79, q80, q81, q82, q83, q84, q85, q86, q87, q88, q89, q90, q91, q92, q93, q94, q95, q96, q97, q98, q99, q100, q101, q102, q103, q104, q105, q106, q107, q108, q109, q110, q111, q112, q113, q114, q115, q116, q117, q118, q119, q120, q121, q122, q123, q124, q125, q126, q127, q128, q129, q130, q131, q132, q133, q134, q135, q136, q137, q138, q139, q140, q141, q142, q143, q144, q145, q146, q147, q148, q149, q150, q151, q152, q153, q154, q155, q156, q157, q158, q159, q160, q161, q162, q163, q164, q165, q166, q167, q168, q169, q170, q171, q172, q173, q174, q175, q176, q177, q178, q179, q180, q181, q182, q183, v, .slice (some ⟨g3, 0, none⟩) nf nf, .slice (some ⟨V.heap.size, 0, none⟩) 1 1, .slice (some ⟨gl, 0, none⟩) 12 cl, .slice (some ⟨gl, 0, none⟩) 12 cl, .int .i64 (m6 : Nat), .pointer (some ⟨gl, m6, none⟩), .slice a6 nf k6, .slice a nf ka, .bool true, .bool false, .bool false, q196, q197, q198, q199, q200, q201, q202, q203, q204, q205, q206, q207, q208, q209, q210, q211, q212, q213, q214, q215, q216, q217, q218, q219, q220, q221, q222, q223, q224, q225, q226, q227, q228, q229, q230, q231, q232, q233, q234, q235, q236, q237, q238, q239, q240, q241, q242, q243, q244, q245, q246, q247, q248, q249, q250, q251, q252, q253, q254, q255, q256, q257, q258, q259, q260, q261, q262, q263, q264, q265, q266, q267, q268, q269, q270, q271, q272, q273, q274, q275, q276, q277, q278, q279, q280, q281, q282, q283, q284, q285, q286, q287, q288, q289, q290, q291, q292, q293, q294, q295, q296, q297, q298, q299, q300, q301, q302, q303, q304, q305, q306, q307, q308, q309, q310, q311, q312, q313, q314, q315, q316, q317, q318, q319, q320, q321, q322, q323, q324, q325, q326, q327, q328, q329, q330, q331, q332, q333, q334, q335, q336, q337, q338, q339, q340, q341, q342, q343, q344, q345, q346, q347, q348, q349, q350, q351, q352, q353, q354, q355, q356, q357, q358, q359, q360, q361, q362, q363, q364, q365, q366, q367, q368, q369, q370, q371, q372, q373, q374, q375, q376, q377, q378, q379, q380, q381, q382, q383, q384, q385, q386, q387, q388, q389, q390, q391, q392, q393, q394, q395, q396, q397, q398, q399, q400, q401, q402, q403, q404, q405, q406, q407, q408, q409, q410, q411, q412, q413, q414], []⟩ rfl (by kernel_rfl) (by kernel_rfl) (by kernel_rfl) (fun _ _ _ h => h) (.inl ⟨by kernel_rfl, fun _ _ => by kernel_rfl⟩) s1 (by kernel_rfl) ?_
  try (conv => arg 8; dsimp only)
  refine takeH (i := 8) (v := .slice (some ⟨gl, 0, none⟩) 12 cl) _ rfl (by kernel_rfl) (by kernel_rfl) (by kernel_rfl) (fun _ _ _ h => h) (.inl ⟨by kernel_rfl, fun _ _ => by kernel_rfl⟩) s1 rfl ?_
  refine takeH (i := 9) (v := .int .i64 (m6 : Nat)) _ rfl (by kernel_rfl) (by kernel_rfl) (by kernel_rfl) (fun _ _ _ h => h) (.inl ⟨by kernel_rfl, fun _ _ => by kernel_rfl⟩) s1 rfl ?_
  refine takeH (i := 10) (v := .int .i64 (m7 : Nat)) _ rfl (by kernel_rfl) (by kernel_rfl) (by kernel_rfl) (fun _ _ _ h => h) (.inl ⟨by kernel_rfl, fun v hv => by have := e7; have := w7; go_simp⟩) s1 rfl ?_
  refine takeH (i := 11) (v := .pointer (some ⟨gl, m7, none⟩)) _ rfl (by kernel_rfl) (by kernel_rfl) (by kernel_rfl) (fun _ _ _ h => h) (.inl ⟨by kernel_rfl, fun v hv => by have := i7; go_simp⟩) s1 rfl ?_
  refine takeH (i := 12) (v := .slice a7 nt k7) _ rfl (by kernel_rfl) (by kernel_rfl) (by kernel_rfl) (fun _ _ _ h => h) (.inl ⟨by kernel_rfl, fun v hv => by have c : v.cell? ⟨gl, m7, none⟩ = some (.slice a7 nt k7) := (hv.cell (p := ⟨gl, m7, none⟩) (cell_lt cA_7)).trans cA_7; go_simp⟩) s1 rfl ?_
  refine takeH (i := 13) (v := .slice b nt kb) _ rfl (by kernel_rfl) (by kernel_rfl) (by kernel_rfl) (fun _ _ _ h => h) (.inl ⟨by kernel_rfl, fun _ _ => by kernel_rfl⟩) s1 rfl ?_
  refine callH (i := 14) (f := 14) (args := #[.slice a7 nt k7, .slice b nt kb]) (v := .bool true) (R := fun w' => ∃ m, w' = w4.drewN m) _ (by kernel_rfl) rfl (by kernel_rfl) (by kernel_rfl) (Calls.quiet_of (Q7.out n1)) rfl ?_
  rintro _ ⟨n2, rfl⟩
  have s2 : Below w4.heap.size w4 (w4.drewN n2) := below_drawsX (Below.refl _ _) n2
  refine ⟨s2, ?_⟩
  refine takeH (i := 15) (v := .bool false) _ rfl (by kernel_rfl) (by kernel_rfl) (by kernel_rfl) (fun _ _ _ h => h) (.inl ⟨by kernel_rfl, fun _ _ => by kernel_rfl⟩) s2 rfl ?_
  refine takeH (i := 16) (v := .bool false) _ rfl (by kernel_rfl) (by kernel_rfl) (by kernel_rfl) (fun _ _ _ h => h) (.inl ⟨by kernel_rfl, fun _ _ => by kernel_rfl⟩) s2 rfl ?_
  refine takeH (i := 17) (v := .bool false) ⟨#[.slice a nf ka, .slice b nt kb, q2, q3, q4, .slice (some ⟨gf, 0, none⟩) nf cf, .slice (some ⟨gf, 0, none⟩) (nf + 8) cf, .slice (some ⟨gg, 0, none⟩) nt cg, .slice (some ⟨gg, 0, none⟩) (nt + 8) cg, .pointer (some ⟨t, 0, none⟩), q10, .slice (some ⟨gl, 0, none⟩) 12 cl, q12, q13, .slice (some ⟨g3, 0, none⟩) nf nf, .int .i64 (m6 : Nat), q16, q17, q18, q19, q20, q21, q22, q23, q24, q25, q26, q27, q28, q29, q30, q31, q32, q33, q34, q35, q36, q37, q38, q39, q40, q41, q42, q43, q44, q45, q46, q47, q48, q49, q50, q51, q52, q53, q54, q55, q56, q57, q58, q59, q60, q61, q62, q63, q64, q65, q66, q67, q68, q69, q70, q71, q72, q73, q74, q75, q76, q77, q78, q79, q80, q81, q82, q83, q84, q85, q86, q87, q88, q89, q90, q91, q92, q93, q94, q95, q96, q97, q98, q99, q100, q101, q102, q103, q104, q105, q106, q107, q108, q109, q110, q111, q112, q113, q114, q115, q116, q117, q118, q119, q120, q121, q122, q123, q124, q125, q126, q127, q128, q129, q130, q131, q132, q133, q134, q135, q136, q137, q138, q139, q140, q141, q142, q143, q144, q145, q146, q147, q148, q149, q150, q151, q152, q153, q154, q155, q156, q157, q158, q159, q160, q161, q162, q163, q164, q165, q166, q167, q168, q169, q170, q171, q172, q173, q174, q175, q176, q177, q178, q179, q180, q181, q182, q183, v, .slice (some ⟨g3, 0, none⟩) nf nf, .slice (some ⟨V.heap.size, 0, none⟩) 1 1, .slice (some ⟨gl, 0, none⟩) 12 cl, .slice (some ⟨gl, 0, none⟩) 12 cl, .int .i64 (m6 : Nat), .pointer (some ⟨gl, m6, none⟩), .slice a6 nf k6, .slice a nf ka, .bool true, .bool false, .bool false, .slice (some ⟨gl, 0, none⟩) 12 cl, .int .i64 (m6 : Nat), .int .i64 (m7 : Nat), .pointer (some ⟨gl, m7, none⟩), .slice a7 nt k7, .slice b nt kb, .bool true, .bool false, .bool false, .bool false, q206, q207, q208, q209, q210, q211, q212, q213, q214, q215, q216, q217, q218, q219, q220, q221, q222, q223, q224, q225, q226, q227, q228, q229, q230, q231, q232, q233, q234, q235, q236, q237, q238, q239, q240, q241, q242, q243, q244, q245, q246, q247, q248, q249, q250, q251, q252, q253, q254, q255, q256, q257, q258, q259, q260, q261, q262, q263, q264, q265, q266, q267, q268, q269, q270, q271, q272, q273, q274, q275, q276, q277, q278, q279, q280, q281, q282, q283, q284, q285, q286, q287, q288, q289, q290, q291, q292, q293, q294, q295, q296, q297, q298, q299, q300, q301, q302, q303, q304, q305, q306, q307, q308, q309, q310, q311, q312, q313, q314, q315, q316, q317, q318, q319, q320, q321, q322, q323, q324, q325, q326, q327, q328, q329, q330, q331, q332, q333, q334, q335, q336, q337, q338, q339, q340, q341, q342, q343, q344, q345, q346, q347, q348, q349, q350, q351, q352, q353, q354, q355, q356, q357, q358, q359, q360, q361, q362, q363, q364, q365, q366, q367, q368, q369, q370, q371, q372, q373, q374, q375, q376, q377, q378, q379, q380, q381, q382, q383, q384, q385, q386, q387, q388, q389, q390, q391, q392, q393, q394, q395, q396, q397, q398, q399, q400, q401, q402, q403, q404, q405, q406, q407, q408, q409, q410, q411, q412, q413, q414], []⟩ rfl (by kernel_rfl) (by kernel_rfl) (by kernel_rfl) (fun _ _ _ h => h) (.inl ⟨by kernel_rfl, fun _ _ => by kernel_rfl⟩) s2 (by kernel_rfl) ?_
  try (conv => arg 8; dsimp only)
  refine takeH (i := 18) (v := .slice (some ⟨gl, 0, none⟩) 12 cl) _ rfl (by kernel_rfl) (by kernel_rfl) (by kernel_rfl) (fun _ _ _ h => h) (.inl ⟨by kernel_rfl, fun _ _ => by kernel_rfl⟩) s2 rfl ?_
  refine takeH (i := 19) (v := .int .i64 (m6 : Nat)) _ rfl (by kernel_rfl) (by kernel_rfl) (by kernel_rfl) (fun _ _ _ h => h) (.inl ⟨by kernel_rfl, fun _ _ => by kernel_rfl⟩) s2 rfl ?_
  refine takeH (i := 20) (v := .int .i64 (m8 : Nat)) _ rfl (by kernel_rfl) (by kernel_rfl) (by kernel_rfl) (fun _ _ _ h => h) (.inl ⟨by kernel_rfl, fun v hv => by have := e8; have := w8; go_simp⟩) s2 rfl ?_
  refine takeH (i := 21) (v := .pointer (some ⟨gl, m8, none⟩)) _ rfl (by kernel_rfl) (by kernel_rfl) (by kernel_rfl) (fun _ _ _ h => h) (.inl ⟨by kernel_rfl, fun v hv => by have := i8; go_simp⟩) s2 rfl ?_
  refine takeH (i := 22) (v := .slice a8 nf k8) _ rfl (by kernel_rfl) (by kernel_rfl) (by kernel_rfl) (fun _ _ _ h => h) (.inl ⟨by kernel_rfl, fun v hv => by have c : v.cell? ⟨gl, m8, none⟩ = some (.slice a8 nf k8) := (hv.cell (p := ⟨gl, m8, none⟩) (cell_lt cA_8)).trans cA_8; go_simp⟩) s2 rfl ?_
  refine takeH (i := 23) (v := .slice a nf ka) _ rfl (by kernel_rfl) (by kernel_rfl) (by kernel_rfl) (fun _ _ _ h => h) (.inl ⟨by kernel_rfl, fun _ _ => by kernel_rfl⟩) s2 rfl ?_
  refine callH (i := 24) (f := 14) (args := #[.slice a8 nf k8, .slice a nf ka]) (v := .bool true) (R := fun w' => ∃ m, w' = w4.drewN m) _ (by kernel_rfl) rfl (by kernel_rfl) (by kernel_rfl) (Calls.quiet_of (Q8.out n2)) rfl ?_
  rintro _ ⟨n3, rfl⟩
  have s3 : Below w4.heap.size w4 (w4.drewN n3) := below_drawsX (Below.refl _ _) n3
  refine ⟨s3, ?_⟩
  refine takeH (i := 25) (v := .bool false) _ rfl (by kernel_rfl) (by kernel_rfl) (by kernel_rfl) (fun _ _ _ h => h) (.inl ⟨by kernel_rfl, fun _ _ => by kernel_rfl⟩) s3 rfl ?_
  refine takeH (i := 26) (v := .bool false) _ rfl (by kernel_rfl) (by kernel_rfl) (by kernel_rfl) (fun _ _ _ h => h) (.inl ⟨by kernel_rfl, fun _ _ => by kernel_rfl⟩) s3 rfl ?_
  refine takeH (i := 27) (v := .bool false) ⟨#[.slice a nf ka, .slice b nt kb, q2, q3, q4, .slice (some ⟨gf, 0, none⟩) nf cf, .slice (some ⟨gf, 0, none⟩) (nf + 8) cf, .slice (some ⟨gg, 0, none⟩) nt cg, .slice (some ⟨gg, 0, none⟩) (nt + 8) cg, .pointer (some ⟨t, 0, none⟩), q10, .slice (some ⟨gl, 0, none⟩) 12 cl, q12, q13, .slice (some ⟨g3, 0, none⟩) nf nf, .int .i64 (m6 : Nat), q16, q17, q18, q19, q20, q21, q22, q23, q24, q25, q26, q27, q28, q29, q30, q31, q32, q33, q34, q35, q36, q37, q38, q39, q40, q41, q42, q43, q44, q45, q46, q47, q48, q49, q50, q51, q52, q53, q54, q55, q56, q57, q58, q59, q60, q61, q62, q63, q64, q65, q66, q67, q68, q69, q70, q71, q72, q73, q74, q75, q76, q77, q78, q79, q80, q81, q82, q83, q84, q85, q86, q87, q88, q89, q90, q91, q92, q93, q94, q95, q96, q97, q98, q99, q100, q101, q102, q103, q104, q105, q106, q107, q108, q109, q110, q111, q112, q113, q114, q115, q116, q117, q118, q119, q120, q121, q122, q123, q124, q125, q126, q127, q128, q129, q130, q131, q132, q133, q134, q135, q136, q137, q138, q139, q140, q141, q142, q143, q144, q145, q146, q147, q148, q149, q150, q151, q152, q153, q154, q155, q156, q157, q158, q159, q160, q161, q162, q163, q164, q165, q166, q167, q168, q169, q170, q171, q172, q173, q174, q175, q176, q177, q178, q179, q180, q181, q182, q183, v, .slice (some ⟨g3, 0, none⟩) nf nf, .slice (some ⟨V.heap.size, 0, none⟩) 1 1, .slice (some ⟨gl, 0, none⟩) 12 cl, .slice (some ⟨gl, 0, none⟩) 12 cl, .int .i64 (m6 : Nat), .pointer (some ⟨gl, m6, none⟩), .slice a6 nf k6, .slice a nf ka, .bool true, .bool false, .bool false, .slice (some ⟨gl, 0, none⟩) 12 cl, .int .i64 (m6 : Nat), .int .i64 (m7 : Nat), .pointer (some ⟨gl, m7, none⟩), .slice a7 nt k7, .slice b nt kb, .bool true, .bool false, .bool false, .bool false, .slice (some ⟨gl, 0, none⟩) 12 cl, .int .i64 (m6 : Nat), .int .i64 (m8 : Nat), .pointer (some ⟨gl, m8, none⟩), .slice a8 nf k8, .slice a nf ka, .bool true, .bool false, .bool false, .bool false, q216, q217, q218, q219, q220, q221, q222, q223, q224, q225, q226, q227, q228, q229, q230, q231, q232, q233, q234, q235, q236, q237, q238, q239, q240, q241, q242, q243, q244, q245, q246, q247, q248, q249, q250, q251, q252, q253, q254, q255, q256, q257, q258, q259, q260, q261, q262, q263, q264, q265, q266, q267, q268, q269, q270, q271, q272, q273, q274, q275, q276, q277, q278, q279, q280, q281, q282, q283, q284, q285, q286, q287, q288, q289, q290, q291, q292, q293, q294, q295, q296, q297, q298, q299, q300, q301, q302, q303, q304, q305, q306, q307, q308, q309, q310, q311, q312, q313, q314, q315, q316, q317, q318, q319, q320, q321, q322, q323, q324, q325, q326, q327, q328, q329, q330, q331, q332, q333, q334, q335, q336, q337, q338, q339, q340, q341, q342, q343, q344, q345, q346, q347, q348, q349, q350, q351, q352, q353, q354, q355, q356, q357, q358, q359, q360, q361, q362, q363, q364, q365, q366, q367, q368, q369, q370, q371, q372, q373, q374, q375, q376, q377, q378, q379, q380, q381, q382, q383, q384, q385, q386, q387, q388, q389, q390, q391, q392, q393, q394, q395, q396, q397, q398, q399, q400, q401, q402, q403, q404, q405, q406, q407, q408, q409, q410, q411, q412, q413, q414], []⟩ rfl (by kernel_rfl) (by kernel_rfl) (by kernel_rfl) (fun _ _ _ h => h) (.inl ⟨by kernel_rfl, fun _ _ => by kernel_rfl⟩) s3 (by kernel_rfl) ?_
  try (conv => arg 8; dsimp only)
  refine takeH (i := 28) (v := .slice (some ⟨gl, 0, none⟩) 12 cl) _ rfl (by kernel_rfl) (by kernel_rfl) (by kernel_rfl) (fun _ _ _ h => h) (.inl ⟨by kernel_rfl, fun _ _ => by kernel_rfl⟩) s3 rfl ?_
  refine takeH (i := 29) (v := .int .i64 (m6 : Nat)) _ rfl (by kernel_rfl) (by kernel_rfl) (by kernel_rfl) (fun _ _ _ h => h) (.inl ⟨by kernel_rfl, fun _ _ => by kernel_rfl⟩) s3 rfl ?_
  refine takeH (i := 30) (v := .int .i64 (m9 : Nat)) _ rfl (by kernel_rfl) (by kernel_rfl) (by kernel_rfl) (fun _ _ _ h => h) (.inl ⟨by kernel_rfl, fun v hv => by have := e9; have := w9; go_simp⟩) s3 rfl ?_
  refine takeH (i := 31) (v := .pointer (some ⟨gl, m9, none⟩)) _ rfl (by kernel_rfl) (by kernel_rfl) (by kernel_rfl) (fun _ _ _ h => h) (.inl ⟨by kernel_rfl, fun v hv => by have := i9; go_simp⟩) s3 rfl ?_
  refine takeH (i := 32) (v := .slice a9 nt k9) _ rfl (by kernel_rfl) (by kernel_rfl) (by kernel_rfl) (fun _ _ _ h => h) (.inl ⟨by kernel_rfl, fun v hv => by have c : v.cell? ⟨gl, m9, none⟩ = some (.slice a9 nt k9) := (hv.cell (p := ⟨gl, m9, none⟩) (cell_lt cA_9)).trans cA_9; go_simp⟩) s3 rfl ?_
  refine takeH (i := 33) (v := .slice b nt kb) _ rfl (by kernel_rfl) (by kernel_rfl) (by kernel_rfl) (fun _ _ _ h => h) (.inl ⟨by kernel_rfl, fun _ _ => by kernel_rfl⟩) s3 rfl ?_
  refine callH (i := 34) (f := 14) (args := #[.slice a9 nt k9, .slice b nt kb]) (v := .bool true) (R := fun w' => ∃ m, w' = w4.drewN m) _ (by kernel_rfl) rfl (by kernel_rfl) (by kernel_rfl) (Calls.quiet_of (Q9.out n3)) rfl ?_
  rintro _ ⟨n4, rfl⟩
  have s4 : Below w4.heap.size w4 (w4.drewN n4) := below_drawsX (Below.refl _ _) n4
  refine ⟨s4, ?_⟩
  refine takeH (i := 35) (v := .bool false) _ rfl (by kernel_rfl) (by kernel_rfl) (by kernel_rfl) (fun _ _ _ h => h) (.inl ⟨by kernel_rfl, fun _ _ => by kernel_rfl⟩) s4 rfl ?_
  refine takeH (i := 36) (v := .bool false) _ rfl (by kernel_rfl) (by kernel_rfl) (by kernel_rfl) (fun _ _ _ h => h) (.inl ⟨by kernel_rfl, fun _ _ => by kernel_rfl⟩) s4 rfl ?_
  refine takeH (i := 37) (v := .bool false) ⟨#[.slice a nf ka, .slice b nt kb, q2, q3, q4, .slice (some ⟨gf, 0, none⟩) nf cf, .slice (some ⟨gf, 0, none⟩) (nf + 8) cf, .slice (some ⟨gg, 0, none⟩) nt cg, .slice (some ⟨gg, 0, none⟩) (nt + 8) cg, .pointer (some ⟨t, 0, none⟩), q10, .slice (some ⟨gl, 0, none⟩) 12 cl, q12, q13, .slice (some ⟨g3, 0, none⟩) nf nf, .int .i64 (m6 : Nat), q16, q17, q18, q19, q20, q21, q22, q23, q24, q25, q26, q27, q28, q29, q30, q31, q32, q33, q34, q35, q36, q37, q38, q39, q40, q41, q42, q43, q44, q45, q46, q47, q48, q49, q50, q51, q52, q53, q54, q55, q56, q57, q58, q59, q60, q61, q62, q63, q64, q65, q66, q67, q68, q69, q70, q71, q72, q73, q74, q75, q76, q77, q78, q79, q80, q81, q82, q83, q84, q85, q86, q87, q88, q89, q90, q91, q92, q93, q94, q95, q96, q97, q98, q99, q100, q101, q102, q103, q104, q105, q106, q107, q108, q109, q110, q111, q112, q113, q114, q115, q116, q117, q118, q119, q120, q121, q122, q123, q124, q125, q126, q127, q128, q129, q130, q131, q132, q133, q134, q135, q136, q137, q138, q139, q140, q141, q142, q143, q144, q145, q146, q147, q148, q149, q150, q151, q152, q153, q154, q155, q156, q157, q158, q159, q160, q161, q162, q163, q164, q165, q166, q167, q168, q169, q170, q171, q172, q173, q174, q175, q176, q177, q178, q179, q180, q181, q182, q183, v, .slice (some ⟨g3, 0, none⟩) nf nf, .slice (some ⟨V.heap.size, 0, none⟩) 1 1, .slice (some ⟨gl, 0, none⟩) 12 cl, .slice (some ⟨gl, 0, none⟩) 12 cl, .int .i64 (m6 : Nat), .pointer (some ⟨gl, m6, none⟩), .slice a6 nf k6, .slice a nf ka, .bool true, .bool false, .bool false, .slice (some ⟨gl, 0, none⟩) 12 cl, .int .i64 (m6 : Nat), .int .i64 (m7 : Nat), .pointer (some ⟨gl, m7, none⟩), .slice a7 nt k7, .slice b nt kb, .bool true, .bool false, .bool false, .bool false, .slice (some ⟨gl, 0, none⟩) 12 cl, .int .i64 (m6 : Nat), .int .i64 (m8 : Nat), .pointer (some ⟨gl, m8, none⟩), .slice a8 nf k8, .slice a nf ka, .bool true, .bool false, .bool false, .bool false, .slice (some ⟨gl, 0, none⟩) 12 cl, .int .i64 (m6 : Nat), .int .i64 (m9 : Nat), .pointer (some ⟨gl, m9, none⟩), .slice a9 nt k9, .slice b nt kb, .bool true, .bool false, .bool false, .bool false, q226, q227, q228, q229, q230, q231, q232, q233, q234, q235, q236, q237, q238, q239, q240, q241, q242, q243, q244, q245, q246, q247, q248, q249, q250, q251, q252, q253, q254, q255, q256, q257, q258, q259, q260, q261, q262, q263, q264, q265, q266, q267, q268, q269, q270, q271, q272, q273, q274, q275, q276, q277, q278, q279, q280, q281, q282, q283, q284, q285, q286, q287, q288, q289, q290, q291, q292, q293, q294, q295, q296, q297, q298, q299, q300, q301, q302, q303, q304, q305, q306, q307, q308, q309, q310, q311, q312, q313, q314, q315, q316, q317, q318, q319, q320, q321, q322, q323, q324, q325, q326, q327, q328, q329, q330, q331, q332, q333, q334, q335, q336, q337, q338, q339, q340, q341, q342, q343, q344, q345, q346, q347, q348, q349, q350, q351, q352, q353, q354, q355, q356, q357, q358, q359, q360, q361, q362, q363, q364, q365, q366, q367, q368, q369, q370, q371, q372, q373, q374, q375, q376, q377, q378, q379, q380, q381, q382, q383, q384, q385, q386, q387, q388, q389, q390, q391, q392, q393, q394, q395, q396, q397, q398, q399, q400, q401, q402, q403, q404, q405, q406, q407, q408, q409, q410, q411, q412, q413, q414], []⟩ rfl (by kernel_rfl) (by kernel_rfl) (by kernel_rfl) (fun _ _ _ h => h) (.inl ⟨by kernel_rfl, fun _ _ => by kernel_rfl⟩) s4 (by kernel_rfl) ?_
  try (conv => arg 8; dsimp only)
  refine takeH (i := 38) (v := .slice (some ⟨gl, 0, none⟩) 12 cl) _ rfl (by kernel_rfl) (by kernel_rfl) (by kernel_rfl) (fun _ _ _ h => h) (.inl ⟨by kernel_rfl, fun _ _ => by kernel_rfl⟩) s4 rfl ?_
  refine takeH (i := 39) (v := .int .i64 (m6 : Nat)) _ rfl (by kernel_rfl) (by kernel_rfl) (by kernel_rfl) (fun _ _ _ h => h) (.inl ⟨by kernel_rfl, fun _ _ => by kernel_rfl⟩) s4 rfl ?_
  refine takeH (i := 40) (v := .int .i64 (m10 : Nat)) _ rfl (by kernel_rfl) (by kernel_rfl) (by kernel_rfl) (fun _ _ _ h => h) (.inl ⟨by kernel_rfl, fun v hv => by have := e10; have := w10; go_simp⟩) s4 rfl ?_
  refine takeH (i := 41) (v := .pointer (some ⟨gl, m10, none⟩)) _ rfl (by kernel_rfl) (by kernel_rfl) (by kernel_rfl) (fun _ _ _ h => h) (.inl ⟨by kernel_rfl, fun v hv => by have := i10; go_simp⟩) s4 rfl ?_
  refine takeH (i := 42) (v := .slice a10 nt k10) _ rfl (by kernel_rfl) (by kernel_rfl) (by kernel_rfl) (fun _ _ _ h => h) (.inl ⟨by kernel_rfl, fun v hv => by have c : v.cell? ⟨gl, m10, none⟩ = some (.slice a10 nt k10) := (hv.cell (p := ⟨gl, m10, none⟩) (cell_lt cA_10)).trans cA_10; go_simp⟩) s4 rfl ?_
  refine takeH (i := 43) (v := .slice b nt kb) _ rfl (by kernel_rfl) (by kernel_rfl) (by kernel_rfl) (fun _ _ _ h => h) (.inl ⟨by kernel_rfl, fun _ _ => by kernel_rfl⟩) s4 rfl ?_
  refine callH (i := 44) (f := 14) (args := #[.slice a10 nt k10, .slice b nt kb]) (v := .bool true) (R := fun w' => ∃ m, w' = w4.drewN m) _ (by kernel_rfl) rfl (by kernel_rfl) (by kernel_rfl) (Calls.quiet_of (Q10.out n4)) rfl ?_
  rintro _ ⟨n5, rfl⟩
  have s5 : Below w4.heap.size w4 (w4.drewN n5) := below_drawsX (Below.refl _ _) n5
  refine ⟨s5, ?_⟩
  refine takeH (i := 45) (v := .bool false) _ rfl (by kernel_rfl) (by kernel_rfl) (by kernel_rfl) (fun _ _ _ h => h) (.inl ⟨by kernel_rfl, fun _ _ => by kernel_rfl⟩) s5 rfl ?_
  refine takeH (i := 46) (v := .bool false) _ rfl (by kernel_rfl) (by kernel_rfl) (by kernel_rfl) (fun _ _ _ h => h) (.inl ⟨by kernel_rfl, fun _ _ => by kernel_rfl⟩) s5 rfl ?_
  refine takeH (i := 47) (v := .bool false) ⟨#[.slice a nf ka, .slice b nt kb, q2, q3, q4, .slice (some ⟨gf, 0, none⟩) nf cf, .slice (some ⟨gf, 0, none⟩) (nf + 8) cf, .slice (some ⟨gg, 0, none⟩) nt cg, .slice (some ⟨gg, 0, none⟩) (nt + 8) cg, .pointer (some ⟨t, 0, none⟩), q10, .slice (some ⟨gl, 0, none⟩) 12 cl, q12, q13, .slice (some ⟨g3, 0, none⟩) nf nf, .int .i64 (m6 : Nat), q16, q17, q18, q19, q20, q21, q22, q23, q24, q25, q26, q27, q28, q29, q30, q31, q32, q33, q34, q35, q36, q37, q38, q39, q40, q41, q42, q43, q44, q45, q46, q47, q48, q49, q50, q51, q52, q53, q54, q55, q56, q57, q58, q59, q60, q61, q62, q63, q64, q65, q66, q67, q68, q69, q70, q71, q72, q73, q74, q75, q76, q77, q78, q79, q80, q81, q82, q83, q84, q85, q86, q87, q88, q89, q90, q91, q92, q93, q94, q95, q96, q97, q98, q99, q100, q101, q102, q103, q104, q105, q106, q107, q108, q109, q110, q111, q112, q113, q114, q115, q116, q117, q118, q119, q120, q121, q122, q123, q124, q125, q126, q127, q128, q129, q130, q131, q132, q133, q134, q135, q136, q137, q138, q139, q140, q141, q142, q143, q144, q145, q146, q147, q148, q149, q150, q151, q152, q153, q154, q155, q156, q157, q158, q159, q160, q161, q162, q163, q164, q165, q166, q167, q168, q169, q170, q171, q172, q173, q174, q175, q176, q177, q178, q179, q180, q181, q182, q183, v, .slice (some ⟨g3, 0, none⟩) nf nf, .slice (some ⟨V.heap.size, 0, none⟩) 1 1, .slice (some ⟨gl, 0, none⟩) 12 cl, .slice (some ⟨gl, 0, none⟩) 12 cl, .int .i64 (m6 : Nat), .pointer (some ⟨gl, m6, none⟩), .slice a6 nf k6, .slice a nf ka, .bool true, .bool false, .bool false, .slice (some ⟨gl, 0, none⟩) 12 cl, .int .i64 (m6 : Nat), .int .i64 (m7 : Nat), .pointer (some ⟨gl, m7, none⟩), .slice a7 nt k7, .slice b nt kb, .bool true, .bool false, .bool false, .bool false, .slice (some ⟨gl, 0, none⟩) 12 cl, .int .i64 (m6 : Nat), .int .i64 (m8 : Nat), .pointer (some ⟨gl, m8, none⟩), .slice a8 nf k8, .slice a nf ka, .bool true, .bool false, .bool false, .bool false, .slice (some ⟨gl, 0, none⟩) 12 cl, .int .i64 (m6 : Nat), .int .i64 (m9 : Nat), .pointer (some ⟨gl, m9, none⟩), .slice a9 nt k9, .slice b nt kb, .bool true, .bool false, .bool false, .bool false, .slice (some ⟨gl, 0, none⟩) 12 cl, .int .i64 (m6 : Nat), .int .i64 (m10 : Nat), .pointer (some ⟨gl, m10, none⟩), .slice a10 nt k10, .slice b nt kb, .bool true, .bool false, .bool false, .bool false, q236, q237, q238, q239, q240, q241, q242, q243, q244, q245, q246, q247, q248, q249, q250, q251, q252, q253, q254, q255, q256, q257, q258, q259, q260, q261, q262, q263, q264, q265, q266, q267, q268, q269, q270, q271, q272, q273, q274, q275, q276, q277, q278, q279, q280, q281, q282, q283, q284, q285, q286, q287, q288, q289, q290, q291, q292, q293, q294, q295, q296, q297, q298, q299, q300, q301, q302, q303, q304, q305, q306, q307, q308, q309, q310, q311, q312, q313, q314, q315, q316, q317, q318, q319, q320, q321, q322, q323, q324, q325, q326, q327, q328, q329, q330, q331, q332, q333, q334, q335, q336, q337, q338, q339, q340, q341, q342, q343, q344, q345, q346, q347, q348, q349, q350, q351, q352, q353, q354, q355, q356, q357, q358, q359, q360, q361, q362, q363, q364, q365, q366, q367, q368, q369, q370, q371, q372, q373, q374, q375, q376, q377, q378, q379, q380, q381, q382, q383, q384, q385, q386, q387, q388, q389, q390, q391, q392, q393, q394, q395, q396, q397, q398, q399, q400, q401, q402, q403, q404, q405, q406, q407, q408, q409, q410, q411, q412, q413, q414], []⟩ rfl (by kernel_rfl) (by kernel_rfl) (by kernel_rfl) (fun _ _ _ h => h) (.inl ⟨by kernel_rfl, fun _ _ => by kernel_rfl⟩) s5 (by kernel_rfl) ?_
  try (conv => arg 8; dsimp only)
  refine r37b nf nt d1 d2 ka kb gf cf gg cg gl cl m6 m11 t g3 a b w4 a0 k0 a2 k2 a3 k3 a4 k4 a11 k11 cA_0 cA_2 cA_3 cA_4 cA_11 Q11 Q0 Q3 QF QT e11 i11 w11 n5 _ (by kernel_rfl) _ (by kernel_rfl) _ _ _ _ _ _ _ _ _ _ _ _ _ _ _ _ _ _ _ _ _ _ _ _ _ _ _ _ _ _ _ _ _ _ _ _ _ _ _ _ _ _ _ _ _ _ _ _ _ _ _ _ _ _ _ _ _ _ _ _ _ _ _ _ _ _ _ _ _ _ _ _ _ _ _ _ _ _ _ _ _ _ _ _ _ _ _ _ _ _ _ _ _ _ _ _ _ _ _ _ _ _ _ _ _ _ _ _ _ _ _ _ _ _ _ _ _ _ _ _ _ _ _ _ _ _ _ _ _ _ _ _ _ _ _ _ _ _ _ _ _ _ _ _ _ _ _ _ _ _ _ _ _ _ _ _ _ _ _ _ _ _ _ _ _ _ _ _ _ _ _ _ _ _ _ _ _ _ _ _ _ _ _ _ _ _ _ _ _ _ _ _ _ _ _ _ _ _ _ _ _ _ _ _ _ _ _ _ _ _ _ _ _ _ _ _ _ _ _ _ _ _ _ _ _ _ _ _ _ _ _ _ _ _ _ _ _ _ _ _ _ _ _ _ _ _ _ _ _ _ _ _ _ _ _ _ _ _ _ _ _ _ _ _ _ _ _ _ _ _ _ _ _ _ _ _ _ _ _ _ _ _ _ _ _ _ _ _ _ _ _ _ _ _ _ _ _ _ _ _ _ _ _ _ _ _ _ _ _ _ _ _ _ _ _ _ _ _ _ _ _ _ _ _ _ _ _ _ _ _ _ _ _ _ _ _ _ _ _ _ _ _ _ _ _ _ _ _ _ _ _ _ _ _ _ _ _ _ _ _ _ _ _ _ _ _ _ _ _ _ _ _ _ _ _ _ _ _ _ _ _ _ _ _ _ _ _ _ _ _ _ _ _ _ _ _ _ _ _ _ _ _ _ _ _ (fun _ _ _ _ _ h => h) ?_
  intro n10
  dsimp only
  have HBK : Hid (Below w4.heap.size w4 (w4.drewN n10)) := below_drawsX (Below.refl _ _) n10
  clear s0 s1 s2 s3 s4 s5 cA_0 cA_2 cA_3 cA_4 cA_6 cA_7 cA_8 cA_9 cA_10 cA_11 Q6 Q7 Q8 Q9 Q10 Q11 Q0 Q3 QF QT
  have HB5 : Hid (Below z.heap.size z (w4.drewN n10)) := HB4.out.trans (HBK.out.mono HB4.out.size)
  have HO5 : Hid (Ow (w4.drewN n10) z.heap.size (.slice (some ⟨gl, 0, none⟩) 12 cl) fs) := HO4.out.on fun k hk => HBK.out.block k (HO4.out.lt k hk).2
  have HM5 : Hid (Fm (w4.drewN n10) z.heap.size fs [D1, D2, D1, T, T, F, F, T, F, T, T, F]) := HM4.out.below HBK.out
  clear HB4 HO4 HM4 HBK
  go_upto_region 39 with fail
  generalize (w4.drewN n10) = w5 at *
  exact own4 F T nf nt f6 t6 HF HT d1 d2 hd1b hd2b D1 D2 HD a b ka kb w z gf cf gg cg HZ gl cl fs hfl w5 HB5 HO5 HM5 _ _ _ _ _ _ _ _ _ _ _ _ _ _ _ _ _ _ _ _ _ _ _ _ _ _ _ _ _ _ _ _ _ _ _ _ _ _ _ _ _ _ _ _ _ _ _ _ _ _ _ _ _ _ _ _ _ _ _ _ _ _ _ _ _ _ _ _ _ _ _ _ _ _ _ _ _ _ _ _ _ _ _ _ _ _ _ _ _ _ _ _ _ _ _ _ _ _ _ _ _ _ _ _ _ _ _ _ _ _ _ _ _ _ _ _ _ _ _ _ _ _ _ _ _ _ _ _ _ _ _ _ _ _ _ _ _ _ _ _ _ _ _ _ _ _ _ _ _ _ _ _ _ _ _ _ _ _ _ _ _ _ _ _ _ _ _ _ _ _ _ _ _ _ _ _ _ _ _ _ _ _ _ _ _ _ _ _ _ _ _ _ _ _ _ _ _ _ _ _ _ _ _ _ _ _ _ _ _ _ _ _ _ _ _ _ _ _ _ _ _ _ _ _ _ _ _ _ _ _ _ _ _ _ _ _ _ _ _ _ _ _ _ _ _ _ _ _ _ _ _ _ _ _ _ _ _ _ _ _ _ _ _ _ _ _ _ _ _ _ _ _ _ _ _ _ _ _ _ _ _ _ _ _ _ _ _ _ _ _ _ _ _ _ _ _ _ _ _ _ _ _ _ _ _ _ _ _ _ _ _ _ _ _ _ _ _ _ _ _ _ _ _ _ _ _ _ _ _ _ _ _ _ _ _ _ _ _ _ _ _ _ _ _ _ _ _ _ _ _ _ _ _ _ _ _ _ _ _ _ _ _ _ _ _ _ _ _ _ _ _ _ _ _ _ _ _ _ _ _ _ _ _ _ _ _ _ _ _ _ _ _ _ _ _ _ _ _ _ _ _ _ _ _ _ _ _ _ _ (by assumption)
end Go.Proofs.YtlckjbangdnejaaDoor
