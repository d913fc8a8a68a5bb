/-
  The law RewindOwn: from the pushes on.
-/
import Derived.Test.YtlckjbangdnejaaDoorXtOw3
set_option linter.unusedSimpArgs false
set_option linter.unusedVariables false
namespace Go.Proofs.YtlckjbangdnejaaDoor
open Go.RowKit Classical
def ft (F T : List Nat) : Nat → List (List Nat)
  | 0 => []
  | i + 1 => ft F T i ++ [F, T]
set_option maxRecDepth 100000 in
set_option maxHeartbeats 16000000 in
theorem own2 (F T : List Nat) (nf nt : Nat) (f6 : nf ≤ 65536) (t6 : nt ≤ 65536) (HF : Hid (Good F ∧ F.length = nf)) (HT : Hid (Good T ∧ T.length = nt)) (d1 d2 : Nat) (hd1b : d1 ≤ 65560) (hd2b : d2 ≤ 65560) (D1 D2 : List Nat) (HD : Hid (D1.length = d1 ∧ D2.length = d2 ∧ Bytes D1 ∧ Bytes D2)) (a b : Option Addr) (ka kb : Nat) (w z : World) (gf cf gg cg : Nat) (HZ : Hid (∀ V, Below z.heap.size z V → Row V a F ∧ Row V b T ∧ Row V (some ⟨gf, 0, none⟩) (padL F) ∧ Row V (some ⟨gg, 0, none⟩) (padL T) ∧ Tab V ∧ Below w.heap.size w V)) (t : Nat) (FP : Nat → Prop) (v : Value) (es : List Value) (hes : es.length = 6) (V : World) (HI : Hid (Iv z t FP [] v es [D1, D2, D1, T, T, F] V)) (q2 q3 q4 q10 q12 q13 q14 q15 q16 q17 q18 q19 q20 q21 q22 q23 q24 q25 q26 q27 q28 q29 q30 q31 q32 q33 q34 q35 q36 q37 q38 q39 q40 q41 q42 q43 q44 q45 q46 q47 q48 q49 q50 q51 q52 q53 q54 q55 q56 q57 q58 q59 q60 q61 q62 q63 q64 q65 q66 q67 q68 q69 q70 q71 q72 q73 q74 q75 q76 q77 q78 q79 q80 q81 q82 q83 q84 q85 q86 q87 q88 q89 q90 q91 q92 q93 q94 q95 q96 q97 q98 q99 q100 q101 q102 q103 q104 q105 q106 q107 q108 q109 q110 q111 q112 q113 q114 q115 q116 q117 q118 q119 q120 q121 q122 q123 q124 q125 q126 q127 q128 q129 q130 q131 q132 q133 q134 q135 q136 q137 q138 q139 q140 q141 q142 q143 q144 q145 q146 q147 q148 q149 q150 q151 q152 q153 q154 q155 q156 q157 q158 q159 q160 q161 q162 q163 q164 q165 q166 q167 q168 q169 q170 q171 q172 q173 q174 q175 q176 q177 q178 q179 q180 q181 q182 q183 q184 q185 q186 q187 q188 q189 q190 q191 q192 q193 q194 q195 q196 q197 q198 q199 q200 q201 q202 q203 q204 q205 q206 q207 q208 q209 q210 q211 q212 q213 q214 q215 q216 q217 q218 q219 q220 q221 q222 q223 q224 q225 q226 q227 q228 q229 q230 q231 q232 q233 q234 q235 q236 q237 q238 q239 q240 q241 q242 q243 q244 q245 q246 q247 q248 q249 q250 q251 q252 q253 q254 q255 q256 q257 q258 q259 q260 q261 q262 q263 q264 q265 q266 q267 q268 q269 q270 q271 q272 q273 q274 q275 q276 q277 q278 q279 q280 q281 q282 q283 q284 q285 q286 q287 q288 q289 q290 q291 q292 q293 q294 q295 q296 q297 q298 q299 q300 q301 q302 q303 q304 q305 q306 q307 q308 q309 q310 q311 q312 q313 q314 q315 q316 q317 q318 q319 q320 q321 q322 q323 q324 q325 q326 q327 q328 q329 q330 q331 q332 q333 q334 q335 q336 q337 q338 q339 q340 q341 q342 q343 q344 q345 q346 q347 q348 q349 q350 q351 q352 q353 q354 q355 q356 q357 q358 q359 q360 q361 q362 q363 q364 q365 q366 q367 q368 q369 q370 q371 q372 q373 q374 q375 q376 q377 q378 q379 q380 q381 q382 q383 q384 q385 q386 q387 q388 q389 q390 q391 q392 q393 q394 q395 q396 q397 q398 q399 q400 q401 q402 q403 q404 q405 q406 q407 q408 q409 q410 q411 q412 q413 q414 : Value) (K : Act → World → Prop) (hK : ∀ a' w', (restOf 20 (Tryd.f6.body.getD .skip)).wp Tryd.prog (bodyPost Tryd.prog Tryd.f6 fun e w' => e = .returned (.bool true) ∧ Below w.heap.size w w') a' w' → K a' w') :
    (headOf (restOf 19 (Tryd.f6.body.getD .skip))).wp Tryd.prog (Exit.then K (bodyPost Tryd.prog Tryd.f6 fun e w' => e = .returned (.bool true) ∧ Below w.heap.size w w')) ⟨#[.slice a nf ka, .slice b nt kb, q2, q3, q4, .slice (some ⟨gf, 0, none⟩) nf cf, .slice (some ⟨gf, 0, none⟩) (nf + 8) cf, .slice (some ⟨gg, 0, none⟩) nt cg, .slice (some ⟨gg, 0, none⟩) (nt + 8) cg, .pointer (some ⟨t, 0, none⟩), q10, v, q12, q13, q14, q15, q16, q17, q18, q19, q20, q21, q22, q23, q24, q25, q26, q27, q28, q29, q30, q31, q32, q33, q34, q35, q36, q37, q38, q39, q40, q41, q42, q43, q44, q45, q46, q47, q48, q49, q50, q51, q52, q53, q54, q55, q56, q57, q58, q59, q60, q61, q62, q63, q64, q65, q66, q67, q68, q69, q70, q71, q72, q73, q74, q75, q76, q77, q78, q79, q80, q81, q82, q83, q84, q85, q86, q87, q88, q89, q90, q91, q92, q93, q94, q95, q96, q97, q98, q99, q100, q101, q102, q103, q104, q105, q106, q107, q108, q109, q110, q111, q112, q113, q114, q115, q116, q117, q118, q119, q120, q121, q122, q123, q124, q125, q126, q127, q128, q129, q130, q131, q132, q133, q134, q135, q136, q137, q138, q139, q140, q141, q142, q143, q144, q145, q146, q147, q148, q149, q150, q151, q152, q153, q154, q155, q156, q157, q158, q159, q160, q161, q162, q163, q164, q165, q166, q167, q168, q169, q170, q171, q172, q173, q174, q175, q176, q177, q178, q179, q180, q181, q182, q183, q184, q185, q186, q187, q188, q189, q190, q191, q192, q193, q194, q195, q196, q197, q198, q199, q200, q201, q202, q203, q204, q205, q206, q207, q208, q209, q210, q211, q212, q213, q214, q215, q216, q217, q218, q219, q220, q221, q222, q223, q224, q225, q226, q227, q228, q229, q230, q231, q232, q233, q234, q235, q236, q237, q238, q239, q240, q241, q242, q243, q244, q245, q246, q247, q248, q249, q250, q251, q252, q253, q254, q255, q256, q257, q258, q259, q260, q261, q262, q263, q264, q265, q266, q267, q268, q269, q270, q271, q272, q273, q274, q275, q276, q277, q278, q279, q280, q281, q282, q283, q284, q285, q286, q287, q288, q289, q290, q291, q292, q293, q294, q295, q296, q297, q298, q299, q300, q301, q302, q303, q304, q305, q306, q307, q308, q309, q310, q311, q312, q313, q314, q315, q316, q317, q318, q319, q320, q321, q322, q323, q324, q325, q326, q327, q328, q329, q330, q331, q332, q333, q334, q335, q336, q337, q338, q339, q340, q341, q342, q343, q344, q345, q346, q347, q348, q349, q350, q351, q352, q353, q354, q355, q356, q357, q358, q359, q360, q361, q362, q363, q364, q365, q366, q367, q368, q369, q370, q371, q372, q373, q374, q375, q376, q377, q378, q379, q380, q381, q382, q383, q384, q385, q386, q387, q388, q389, q390, q391, q392, q393, q394, q395, q396, q397, q398, q399, q400, q401, q402, q403, q404, q405, q406, q407, q408, q409, q410, q411, q412, q413, q414], []⟩ V := by
  dsimp only
  conv => arg 2; whnf
  conv at hK => enter [a', w', 1, 2]; whnf
  have HGG : Hid (gg < z.heap.size) := (HZ.out z (Below.refl _ _)).2.2.2.1.lt ⟨gg, 0, none⟩ rfl (by intro h; have := congrArg List.length h; rw [padL_len] at this; simp at this)
  go_upto_region 23 with fail
  go_wp2_with fail
  refine (push_first FP t 2 F (some ⟨gf, 0, none⟩) nf cf HF.out.1 HF.out.2 V HI.out.t1 (Row.pre (m := List.replicate 8 199) (HZ.out _ HI.out.b).2.2.1)).mono ?_
  rintro e w1 ⟨rfl, T1, K1⟩
  have HI1 : Hid (Iv z t (fun k => FP k ∨ (V.heap.size ≤ k ∧ k < w1.heap.size)) [F] v es [D1, D2, D1, T, T, F] w1) := HI.out.push T1 K1
  clear T1 K1 HI
  obtain ⟨FP1, hFP1⟩ : ∃ FP1 : Nat → Prop, (fun k => FP k ∨ (V.heap.size ≤ k ∧ k < w1.heap.size)) = FP1 := ⟨_, rfl⟩
  rw [hFP1] at HI1
  clear hFP1
  go_upto_region 24 with fail
  go_wp2_with fail
  refine (push_more FP1 t 2 F [] T (some ⟨gg, 0, none⟩) nt cg HT.out.1 HT.out.2 w1 HI1.out.t1 (Row.pre (m := List.replicate 8 199) (HZ.out _ HI1.out.b).2.2.2.1) (HZ.out _ HI1.out.b).2.2.2.2.1 (fun p hp _ hf => by
    cases hp
    have h1 := (HI1.out.fp _ hf).1
    have h2 := HGG.out
    simp at h1
    omega)).mono ?_
  rintro e w2 ⟨rfl, T2, K2⟩
  have HI2 : Hid (Iv z t (fun k => FP1 k ∨ (w1.heap.size ≤ k ∧ k < w2.heap.size)) [T, F] v es [D1, D2, D1, T, T, F] w2) := HI1.out.push T2 K2
  clear T2 K2 HI1
  obtain ⟨FQ, hFQ⟩ : ∃ FQ : Nat → Prop, (fun k => FP1 k ∨ (w1.heap.size ≤ k ∧ k < w2.heap.size)) = FQ := ⟨_, rfl⟩
  rw [hFQ] at HI2
  clear hFQ
  obtain ⟨gl, cl, hv, -⟩ := HI2.out.o.form (by omega)
  rw [hes] at hv
  have HES : Hid (es.length = 6) := hes
  subst hv
  go_upto_region 27 with fail
  obtain ⟨v0, hv0⟩ : ∃ v0 : Value, v0 = .slice (some ⟨gl, 0, none⟩) 6 cl := ⟨_, rfl⟩
  rw [← hv0] at HI2 ⊢
  clear hv0 hes
  go_loopw [11, 16] (fun vv x wr => ∃ (i : Nat) (fs : List Value), i ≤ 2 ∧ x = .int .i64 i ∧ Hid (fs.length = 6 + 2 * i) ∧ Hid (Iv z t FQ [T, F] vv fs ([D1, D2, D1, T, T, F] ++ ft F T i) wr)) (fun _ x _ => 2 - (intOf x).toNat)
  case atStart => exact ⟨0, es, by omega, rfl, HES, HI2⟩
  case round =>
    clear HI2
    obtain ⟨i, fs, hi, rfl, HFL, HI3⟩ := hrel
    obtain ⟨wq, rfl⟩ : ∃ x, x = wr := ⟨_, rfl⟩
    obtain ⟨Ls, hLs⟩ : ∃ Ls, [D1, D2, D1, T, T, F] ++ ft F T i = Ls := ⟨_, rfl⟩
    have HLS : Hid ([D1, D2, D1, T, T, F] ++ ft F T i = Ls) := hLs
    rw [hLs] at HI3
    clear hLs
    obtain ⟨n, hn⟩ : ∃ n, 6 + 2 * i = n := ⟨_, rfl⟩
    have HEL : Hid (fs.length = n) := by unfold Hid; rw [HFL.out]; exact hn
    have HN : Hid (6 + 2 * i = n) := hn
    have hn10 : n ≤ 10 := by omega
    clear hn HFL
    by_cases hi2 : i < 2
    · have i3 : (i : Int) < 2 := by omega
      go_upto_region 29 with fail
      go_wp2_with fail
      refine (at_good FQ t 2 [T, F] wq HI3.out.t1 1 (by simp)).mono ?_
      rintro e w4 ⟨g4, rfl, hg9, O9, b9⟩
      simp only [List.getD_cons_zero, List.getD_cons_succ] at O9 ⊢
      rw [HF.out.2]
      have HX4 : Hid (Nx z FQ (fs) w4 (.slice (some ⟨g4, 0, none⟩) nf nf) F) := by
        have := HI3.out.fresh (O9.tx hg9 (by rw [HF.out.2]; omega))
        rw [HF.out.2] at this
        exact this
      have HI4 : Hid (Iv z t FQ [T, F] u11 (fs) (Ls) w4) := HI3.out.below b9
      clear O9 hg9 b9 HI3
      go_upto_region 30 with fail
      have HOW : Hid ((w4).ownsRow z.heap.size 28 1 u11 n fs) := by have := HI4.out.o; unfold Ow at this; rw [show (fs).length = n by simp only [List.length_append, List.length_cons, List.length_nil, HEL.out]] at this; exact this
      go_upto_region 31 with (refine wpList_appSl rfl _ _ rfl (cells := fs) (n := n) (v := u11) (cs := #[.slice (some ⟨g4, 0, none⟩) nf nf]) HOW.out HI4.out.b.size rfl rfl rfl (fun u hu => by simp at hu; subst hu; rfl) (by omega) ?_; intro v5 w5 r1 r2 r3 r4 r5)
      have HI5 : Hid (Iv z t FQ [T, F] v5 (fs ++ [.slice (some ⟨g4, 0, none⟩) nf nf]) (Ls ++ [F]) w5) := HI4.out.app HX4.out (by rw [show (fs).length = n by simp only [List.length_append, List.length_cons, List.length_nil, HEL.out]]; exact r1) r3 r4 r5
      clear r1 r2 r3 r4 r5 HI4 HX4 HOW
      go_wp2_with fail
      refine (at_good FQ t 2 [T, F] w5 HI5.out.t1 0 (by simp)).mono ?_
      rintro e w6 ⟨g6, rfl, hg9, O9, b9⟩
      simp only [List.getD_cons_zero, List.getD_cons_succ] at O9 ⊢
      rw [HT.out.2]
      have HX6 : Hid (Nx z FQ (fs ++ [.slice (some ⟨g4, 0, none⟩) nf nf]) w6 (.slice (some ⟨g6, 0, none⟩) nt nt) T) := by
        have := HI5.out.fresh (O9.tx hg9 (by rw [HT.out.2]; omega))
        rw [HT.out.2] at this
        exact this
      have HI6 : Hid (Iv z t FQ [T, F] v5 (fs ++ [.slice (some ⟨g4, 0, none⟩) nf nf]) (Ls ++ [F]) w6) := HI5.out.below b9
      clear O9 hg9 b9 HI5
      go_upto_region 32 with fail
      have HOW : Hid ((w6).ownsRow z.heap.size 28 1 v5 (n + 1) (fs ++ [.slice (some ⟨g4, 0, none⟩) nf nf] : List Value)) := by have := HI6.out.o; unfold Ow at this; rw [show ((fs ++ [.slice (some ⟨g4, 0, none⟩) nf nf] : List Value)).length = (n + 1) by simp only [List.length_append, List.length_cons, List.length_nil, HEL.out]] at this; exact this
      go_upto_region 28 with (refine wpList_appSl rfl _ _ rfl (cells := (fs ++ [.slice (some ⟨g4, 0, none⟩) nf nf] : List Value)) (n := (n + 1)) (v := v5) (cs := #[.slice (some ⟨g6, 0, none⟩) nt nt]) HOW.out HI6.out.b.size rfl rfl rfl (fun u hu => by simp at hu; subst hu; rfl) (by omega) ?_; intro v7 w7 r1 r2 r3 r4 r5)
      have HI7 : Hid (Iv z t FQ [T, F] v7 ((fs ++ [.slice (some ⟨g4, 0, none⟩) nf nf] : List Value) ++ [.slice (some ⟨g6, 0, none⟩) nt nt]) ((Ls ++ [F]) ++ [T]) w7) := HI6.out.app HX6.out (by rw [show ((fs ++ [.slice (some ⟨g4, 0, none⟩) nf nf] : List Value)).length = (n + 1) by simp only [List.length_append, List.length_cons, List.length_nil, HEL.out]]; exact r1) r3 r4 r5
      clear r1 r2 r3 r4 r5 HI6 HX6 HOW
      have HI8 : Hid (Iv z t FQ [T, F] v7 (fs ++ [.slice (some ⟨g4, 0, none⟩) nf nf] ++ [.slice (some ⟨g6, 0, none⟩) nt nt]) ([D1, D2, D1, T, T, F] ++ ft F T (i + 1)) w7) := by
        have : [D1, D2, D1, T, T, F] ++ ft F T (i + 1) = Ls ++ [F] ++ [T] := by rw [← HLS.out]; simp [ft]
        rw [this]
        exact HI7.out
      have HL8 : Hid ((fs ++ [.slice (some ⟨g4, 0, none⟩) nf nf] ++ [.slice (some ⟨g6, 0, none⟩) nt nt] : List Value).length = 6 + 2 * (i + 1)) := by
        unfold Hid
        simp only [List.length_append, List.length_cons, List.length_nil, HEL.out]
        have := HN.out
        omega
      clear HI7
      go_wp2
      go_roundw
      case rel => exact ⟨i + 1, _, by omega, by go_num, HL8, HI8⟩
      case measure => simp [intOf]; omega
    · obtain rfl : i = 2 := by omega
      have HI9 : Hid (Iv z t FQ [T, F] u11 fs [D1, D2, D1, T, T, F, F, T, F, T] wq) := by
        have : [D1, D2, D1, T, T, F, F, T, F, T] = Ls := HLS.out
        rw [this]
        exact HI3.out
      have hn9 : fs.length = 10 := by have := HN.out; rw [HEL.out]; omega
      clear HI3
      go_upto_region 33 with fail
      exact own3 F T nf nt f6 t6 HF HT d1 d2 hd1b hd2b D1 D2 HD a b ka kb w z gf cf gg cg HZ 6 rfl t FQ u11 fs hn9 wq HI9 _ _ _ _ _ _ _ _ _ _ _ _ _ _ _ _ _ _ _ _ _ _ _ _ _ _ _ _ _ _ _ _ _ _ _ _ _ _ _ _ _ _ _ _ _ _ _ _ _ _ _ _ _ _ _ _ _ _ _ _ _ _ _ _ _ _ _ _ _ _ _ _ _ _ _ _ _ _ _ _ _ _ _ _ _ _ _ _ _ _ _ _ _ _ _ _ _ _ _ _ _ _ _ _ _ _ _ _ _ _ _ _ _ _ _ _ _ _ _ _ _ _ _ _ _ _ _ _ _ _ _ _ _ _ _ _ _ _ _ _ _ _ _ _ _ _ _ _ _ _ _ _ _ _ _ _ _ _ _ _ _ _ _ _ _ _ _ _ _ _ _ _ _ _ _ _ _ _ _ _ _ _ _ _ _ _ _ _ _ _ _ _ _ _ _ _ _ _ _ _ _ _ _ _ _ _ _ _ _ _ _ _ _ _ _ _ _ _ _ _ _ _ _ _ _ _ _ _ _ _ _ _ _ _ _ _ _ _ _ _ _ _ _ _ _ _ _ _ _ _ _ _ _ _ _ _ _ _ _ _ _ _ _ _ _ _ _ _ _ _ _ _ _ _ _ _ _ _ _ _ _ _ _ _ _ _ _ _ _ _ _ _ _ _ _ _ _ _ _ _ _ _ _ _ _ _ _ _ _ _ _ _ _ _ _ _ _ _ _ _ _ _ _ _ _ _ _ _ _ _ _ _ _ _ _ _ _ _ _ _ _ _ _ _ _ _ _ _ _ _ _ _ _ _ _ _ _ _ _ _ _ _ _ _ _ _ _ _ _ _ _ _ _ _ _ _ _ _ _ _ _ _ _ _ _ _ _ _ _ _ _ _ _ _ _ _ _ _ _ _ _ _ _ _ _ _ _ (by assumption)
end Go.Proofs.YtlckjbangdnejaaDoor
