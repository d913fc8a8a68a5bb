/-
  The law RewindOwn: a copy of each is kept.
-/
import Derived.Test.YtlckjbangdnejaaDoorXtOw4b
set_option linter.unusedSimpArgs false
set_option linter.unusedVariables false
namespace Go.Proofs.YtlckjbangdnejaaDoor
open Go.RowKit Classical
set_option maxRecDepth 100000 in
set_option maxHeartbeats 16000000 in
theorem own4 (F T : List Nat) (nf nt : Nat) (f6 : nf ≤ 65536) (t6 : nt ≤ 65536) (HF : Hid (Good F ∧ F.length = nf)) (HT : Hid (Good T ∧ T.length = nt)) (d1 d2 : Nat) (hd1b : d1 ≤ 65560) (hd2b : d2 ≤ 65560) (D1 D2 : List Nat) (HD : Hid (D1.length = d1 ∧ D2.length = d2 ∧ Bytes D1 ∧ Bytes D2)) (a b : Option Addr) (ka kb : Nat) (w z : World) (gf cf gg cg : Nat) (HZ : Hid (∀ V, Below z.heap.size z V → Row V a F ∧ Row V b T ∧ Row V (some ⟨gf, 0, none⟩) (padL F) ∧ Row V (some ⟨gg, 0, none⟩) (padL T) ∧ Tab V ∧ Below w.heap.size w V)) (gl cl : Nat) (fs : List Value) (hfl : fs.length = 12) (V : World) (HB5 : Hid (Below z.heap.size z V)) (HO5 : Hid (Ow V z.heap.size (.slice (some ⟨gl, 0, none⟩) 12 cl) fs)) (HM5 : Hid (Fm V z.heap.size fs [D1, D2, D1, T, T, F, F, T, F, T, T, F])) (q2 q3 q4 q9 q10 q12 q13 q14 q15 q16 q17 q18 q19 q20 q21 q22 q23 q24 q25 q26 q27 q28 q29 q30 q31 q32 q33 q34 q35 q36 q37 q38 q39 q40 q41 q42 q43 q44 q45 q46 q47 q48 q49 q50 q51 q52 q53 q54 q55 q56 q57 q58 q59 q60 q61 q62 q63 q64 q65 q66 q67 q68 q69 q70 q71 q72 q73 q74 q75 q76 q77 q78 q79 q80 q81 q82 q83 q84 q85 q86 q87 q88 q89 q90 q91 q92 q93 q94 q95 q96 q97 q98 q99 q100 q101 q102 q103 q104 q105 q106 q107 q108 q109 q110 q111 q112 q113 q114 q115 q116 q117 q118 q119 q120 q121 q122 q123 q124 q125 q126 q127 q128 q129 q130 q131 q132 q133 q134 q135 q136 q137 q138 q139 q140 q141 q142 q143 q144 q145 q146 q147 q148 q149 q150 q151 q152 q153 q154 q155 q156 q157 q158 q159 q160 q161 q162 q163 q164 q165 q166 q167 q168 q169 q170 q171 q172 q173 q174 q175 q176 q177 q178 q179 q180 q181 q182 q183 q184 q185 q186 q187 q188 q189 q190 q191 q192 q193 q194 q195 q196 q197 q198 q199 q200 q201 q202 q203 q204 q205 q206 q207 q208 q209 q210 q211 q212 q213 q214 q215 q216 q217 q218 q219 q220 q221 q222 q223 q224 q225 q226 q227 q228 q229 q230 q231 q232 q233 q234 q235 q236 q237 q238 q239 q240 q241 q242 q243 q244 q245 q246 q247 q248 q249 q250 q251 q252 q253 q254 q255 q256 q257 q258 q259 q260 q261 q262 q263 q264 q265 q266 q267 q268 q269 q270 q271 q272 q273 q274 q275 q276 q277 q278 q279 q280 q281 q282 q283 q284 q285 q286 q287 q288 q289 q290 q291 q292 q293 q294 q295 q296 q297 q298 q299 q300 q301 q302 q303 q304 q305 q306 q307 q308 q309 q310 q311 q312 q313 q314 q315 q316 q317 q318 q319 q320 q321 q322 q323 q324 q325 q326 q327 q328 q329 q330 q331 q332 q333 q334 q335 q336 q337 q338 q339 q340 q341 q342 q343 q344 q345 q346 q347 q348 q349 q350 q351 q352 q353 q354 q355 q356 q357 q358 q359 q360 q361 q362 q363 q364 q365 q366 q367 q368 q369 q370 q371 q372 q373 q374 q375 q376 q377 q378 q379 q380 q381 q382 q383 q384 q385 q386 q387 q388 q389 q390 q391 q392 q393 q394 q395 q396 q397 q398 q399 q400 q401 q402 q403 q404 q405 q406 q407 q408 q409 q410 q411 q412 q413 q414 : Value) (K : Act → World → Prop) (hK : ∀ a' w', (restOf 29 (Tryd.f6.body.getD .skip)).wp Tryd.prog (bodyPost Tryd.prog Tryd.f6 fun e w' => e = .returned (.bool true) ∧ Below w.heap.size w w') a' w' → K a' w') :
    (headOf (restOf 28 (Tryd.f6.body.getD .skip))).wp Tryd.prog (Exit.then K (bodyPost Tryd.prog Tryd.f6 fun e w' => e = .returned (.bool true) ∧ Below w.heap.size w w')) ⟨#[.slice a nf ka, .slice b nt kb, q2, q3, q4, .slice (some ⟨gf, 0, none⟩) nf cf, .slice (some ⟨gf, 0, none⟩) (nf + 8) cf, .slice (some ⟨gg, 0, none⟩) nt cg, .slice (some ⟨gg, 0, none⟩) (nt + 8) cg, q9, q10, .slice (some ⟨gl, 0, none⟩) 12 cl, q12, q13, q14, q15, q16, q17, q18, q19, q20, q21, q22, q23, q24, q25, q26, q27, q28, q29, q30, q31, q32, q33, q34, q35, q36, q37, q38, q39, q40, q41, q42, q43, q44, q45, q46, q47, q48, q49, q50, q51, q52, q53, q54, q55, q56, q57, q58, q59, q60, q61, q62, q63, q64, q65, q66, q67, q68, q69, q70, q71, q72, q73, q74, q75, q76, q77, q78, q79, q80, q81, q82, q83, q84, q85, q86, q87, q88, q89, q90, q91, q92, q93, q94, q95, q96, q97, q98, q99, q100, q101, q102, q103, q104, q105, q106, q107, q108, q109, q110, q111, q112, q113, q114, q115, q116, q117, q118, q119, q120, q121, q122, q123, q124, q125, q126, q127, q128, q129, q130, q131, q132, q133, q134, q135, q136, q137, q138, q139, q140, q141, q142, q143, q144, q145, q146, q147, q148, q149, q150, q151, q152, q153, q154, q155, q156, q157, q158, q159, q160, q161, q162, q163, q164, q165, q166, q167, q168, q169, q170, q171, q172, q173, q174, q175, q176, q177, q178, q179, q180, q181, q182, q183, q184, q185, q186, q187, q188, q189, q190, q191, q192, q193, q194, q195, q196, q197, q198, q199, q200, q201, q202, q203, q204, q205, q206, q207, q208, q209, q210, q211, q212, q213, q214, q215, q216, q217, q218, q219, q220, q221, q222, q223, q224, q225, q226, q227, q228, q229, q230, q231, q232, q233, q234, q235, q236, q237, q238, q239, q240, q241, q242, q243, q244, q245, q246, q247, q248, q249, q250, q251, q252, q253, q254, q255, q256, q257, q258, q259, q260, q261, q262, q263, q264, q265, q266, q267, q268, q269, q270, q271, q272, q273, q274, q275, q276, q277, q278, q279, q280, q281, q282, q283, q284, q285, q286, q287, q288, q289, q290, q291, q292, q293, q294, q295, q296, q297, q298, q299, q300, q301, q302, q303, q304, q305, q306, q307, q308, q309, q310, q311, q312, q313, q314, q315, q316, q317, q318, q319, q320, q321, q322, q323, q324, q325, q326, q327, q328, q329, q330, q331, q332, q333, q334, q335, q336, q337, q338, q339, q340, q341, q342, q343, q344, q345, q346, q347, q348, q349, q350, q351, q352, q353, q354, q355, q356, q357, q358, q359, q360, q361, q362, q363, q364, q365, q366, q367, q368, q369, q370, q371, q372, q373, q374, q375, q376, q377, q378, q379, q380, q381, q382, q383, q384, q385, q386, q387, q388, q389, q390, q391, q392, q393, q394, q395, q396, q397, q398, q399, q400, q401, q402, q403, q404, q405, q406, q407, q408, q409, q410, q411, q412, q413, q414], []⟩ V := by
  dsimp only
  conv => arg 2; whnf
  conv at hK => enter [a', w', 1, 2]; whnf
  obtain ⟨Ls, hLs⟩ : ∃ Ls, [D1, D2, D1, T, T, F, F, T, F, T, T, F] = Ls := ⟨_, rfl⟩
  have HLB : Hid (Ls.length = 12 ∧ ∀ i, i < 12 → Bytes (Ls.getD i []) ∧ (Ls.getD i []).length ≤ 65560) := by
    rw [← hLs]
    refine ⟨rfl, fun i hi => ?_⟩
    have xd1 : Bytes D1 ∧ D1.length ≤ 65560 := ⟨HD.out.2.2.1, by rw [HD.out.1]; exact hd1b⟩
    have xd2 : Bytes D2 ∧ D2.length ≤ 65560 := ⟨HD.out.2.2.2, by rw [HD.out.2.1]; exact hd2b⟩
    have xf : Bytes F ∧ F.length ≤ 65560 := ⟨HF.out.1.1, by rw [HF.out.2]; omega⟩
    have xt : Bytes T ∧ T.length ≤ 65560 := ⟨HT.out.1.1, by rw [HT.out.2]; omega⟩
    match i, hi with
    | 0, _ => exact xd1
    | 1, _ => exact xd2
    | 2, _ => exact xd1
    | 3, _ => exact xt
    | 4, _ => exact xt
    | 5, _ => exact xf
    | 6, _ => exact xf
    | 7, _ => exact xt
    | 8, _ => exact xf
    | 9, _ => exact xt
    | 10, _ => exact xt
    | 11, _ => exact xf
  rw [hLs] at HM5
  clear hLs
  have HFL : Hid (fs.length = 12) := hfl
  clear hfl
  have HBV : Hid (Below V.heap.size V V) := Below.refl _ _
  have HO0 : Hid (Ow V V.heap.size (.slice none 0 0) []) := World.ownsRow_nil _ _ _ _
  have HM0 : Hid (Fm V V.heap.size [] (Ls.take 0)) := by rw [List.take_zero]; exact Fm.nil _ _
  have HZ0 : Hid (([] : List Value).length = 0) := rfl
  go_upto_region 41 with fail
  go_loopw [17, 18] (fun vv x wr => ∃ (i : Nat) (es : List Value), i ≤ 12 ∧ x = .int .i64 i ∧ Hid (es.length = i) ∧ Hid (Ow wr V.heap.size vv es) ∧ Hid (Fm wr V.heap.size es (Ls.take i)) ∧ Hid (Below V.heap.size V wr)) (fun _ x _ => 12 - (intOf x).toNat)
  case atStart => exact ⟨0, [], by omega, rfl, HZ0, HO0, HM0, HBV⟩
  case round =>
    clear HBV HO0 HM0 HZ0
    obtain ⟨i, es, hi, rfl, HEL, HOa, HMa, HBa⟩ := hrel
    obtain ⟨wq, rfl⟩ : ∃ x, x = wr := ⟨_, rfl⟩
    by_cases hi12 : i < 12
    · have i12 : (i : Int) < 12 := by omega
      obtain ⟨Li, hLi⟩ : ∃ L, Ls.getD i [] = L := ⟨_, rfl⟩
      have hby := HLB.out.2 i hi12
      rw [hLi] at hby
      obtain ⟨li, hli⟩ : ∃ l, Li.length = l := ⟨_, rfl⟩
      have HLI : Hid (Li.length = li) := hli
      have hli2 : li ≤ 65560 := by rw [← hli]; exact hby.2
      obtain ⟨ai, ki, hfi, hri⟩ : ∃ a k, fs.getD i undef = .slice a li k ∧ Row V a Li := by
        have := HM5.out.tx i (by rw [HFL.out]; exact hi12)
        rw [hLi] at this
        obtain ⟨a, k, e, -, R, -⟩ := this.full
        rw [hli] at e
        exact ⟨a, k, e, R.row⟩
      have cV : V.cell? ⟨gl, i, none⟩ = some (.slice ai li ki) := by
        obtain ⟨g, c, e, h⟩ := HO5.out.form (by rw [HFL.out]; omega)
        simp only [Value.slice.injEq, Option.some.injEq, Addr.mk.injEq] at e
        have := h i (by rw [HFL.out]; exact hi12)
        rw [hfi] at this
        rw [e.1.1]
        exact this
      have HB1 : Hid (Below wq.heap.size wq (wq.alloc (.cells #[] 5))) := (Below.refl _ _).alloc (Nat.le_refl _) _
      have HBW : Hid (Below V.heap.size V (wq.alloc (.cells #[] 5))) := HBa.out.trans (HB1.out.mono HBa.out.size)
      have c43 : (wq.alloc (.cells #[] 5)).cell? ⟨gl, i, none⟩ = some (.slice ai li ki) := (HBW.out.cell (p := ⟨gl, i, none⟩) (cell_lt cV)).trans cV
      have HR1 : Hid (Row (wq.alloc (.cells #[] 5)) ai Li) := hri.below HBW.out
      have HT1 : Hid (Tx (wq.alloc (.cells #[] 5)) wq.heap.size (.slice (some ⟨wq.heap.size, 0, none⟩) 0 0) []) := ⟨rfl, .inr ⟨_, 0, _, rfl, Nat.le_refl _, heap_alloc_new wq _, Nat.le_refl _, by decide, rfl, rfl⟩⟩
      have HL1 : Hid (([] : List Nat).length + Li.length ≤ 140737488500000) := by unfold Hid; rw [hli]; simp; omega
      have HTK : Hid (Ls.take (i + 1) = Ls.take i ++ [Li]) := by
        unfold Hid
        have hlt : i < Ls.length := by rw [HLB.out.1]; exact hi12
        rw [List.take_succ_eq_append_getElem hlt, ← hLi]
        simp [List.getD, List.getElem?_eq_getElem hlt]
      clear hLi hby hli hfi hri cV
      go_upto_region 43 with fail
      go_upto_region 42 with (first
        | (refine wpList_apW rfl _ _ rfl HT1.out HB1.out HB1.out.size rfl rfl HLI.out HR1.out HL1.out ?_; intro v9 w6 T6 B6 hs6; rw [List.nil_append] at T6; obtain ⟨a9, k9, rfl, -, -, -⟩ := T6.full; rw [HLI.out] at T6 ⊢; have HT6 : Hid (Tx w6 wq.heap.size (.slice a9 li k9) Li) := T6; have HB6 : Hid (Below wq.heap.size wq w6) := B6; have HOW : Hid (w6.ownsRow V.heap.size 28 1 u17 i es) := (by have h := HOa.out.on fun k hk => B6.block k (HOa.out.lt k hk).2; unfold Ow at h; rw [HEL.out] at h; exact h); have HVS : Hid (V.heap.size ≤ w6.heap.size) := Nat.le_trans HBa.out.size B6.size; clear T6 B6 hs6 HT1 HL1 HR1 HB1 c43)
        | (refine wpList_appSl rfl _ _ rfl (cells := es) (n := i) (v := u17) (cs := #[.slice a9 li k9]) HOW.out HVS.out rfl rfl rfl (fun u hu => by simp at hu; subst hu; rfl) (by omega) ?_; intro v10 w7 r1 r2 r3 r4 r5))
      have HO7 : Hid (Ow w7 V.heap.size v10 (es ++ [.slice a9 li k9])) := by
        unfold Hid Ow
        rw [List.length_append, HEL.out]
        exact r1
      have HE7 : Hid ((es ++ [.slice a9 li k9] : List Value).length = i + 1) := by unfold Hid; rw [List.length_append, HEL.out]; rfl
      have HM7 : Hid (Fm w7 V.heap.size (es ++ [.slice a9 li k9]) (Ls.take (i + 1))) := by
        rw [HTK.out]
        have hOw6 : Ow w6 V.heap.size u17 es := HOa.out.on fun k hk => HB6.out.block k (HOa.out.lt k hk).2
        have hFm6 := HMa.out.below HB6.out
        refine (hFm6.on fun j hj k hk => r3 k ((hFm6.tx j hj).block k hk).2 (hOw6.ne (hFm6.tx j hj) k hk)).snoc (Tx.keep (l := Li) (orow_lower HT6.out HBa.out.size) fun k hk => r3 k (HT6.out.block k hk).2 (hOw6.ne HT6.out k hk)) fun k hk j hj he => ?_
        have h1 := (HT6.out.block k hk).1
        have h2 := ((HMa.out.tx j hj).block k he).2
        omega
      have HB7 : Hid (Below V.heap.size V w7) := (HBa.out.trans (HB6.out.mono HBa.out.size)).trans r4
      clear r1 r2 r3 r4 r5 HOa HMa HBa HOW HVS HT6 HB6 HBW HTK
      go_wp2
      go_roundw
      case rel => exact ⟨i + 1, _, by omega, by go_num, HE7, HO7, HM7, HB7⟩
      case measure => simp [intOf]; omega
    · obtain rfl : i = 12 := by omega
      have HMb : Hid (Fm wq V.heap.size es Ls) := by
        have := HMa.out
        rw [List.take_of_length_le (by rw [HLB.out.1]; exact Nat.le_refl _)] at this
        exact this
      clear HMa
      go_upto_region 44 with fail
      obtain ⟨gw, cw, hvw, -⟩ := HOa.out.form (by rw [HEL.out]; omega)
      rw [HEL.out] at hvw
      subst hvw
      have HFE : Hid (fs.length = 12 ∧ es.length = 12) := ⟨HFL.out, HEL.out⟩
      have HBz : Hid (Below z.heap.size z wq) := HB5.out.trans (HBa.out.mono HB5.out.size)
      have HO6 : Hid (Ow wq z.heap.size (.slice (some ⟨gl, 0, none⟩) 12 cl) fs) := HO5.out.on fun k hk => HBa.out.block k (HO5.out.lt k hk).2
      have HM6 : Hid (Fm wq z.heap.size fs Ls) := HM5.out.below HBa.out
      have HB2 : Hid (∀ i, i < 12 → ∀ k, (fs.getD i undef).ownBlock = some k → k < V.heap.size) := fun i hi k hk => ((HM5.out.tx i (by rw [HFL.out]; exact hi)).block k hk).2
      clear HO5 HM5 HBa HB5 HFL HEL
      exact own4b F T nf nt f6 t6 HF HT d1 d2 hd1b hd2b D1 D2 HD a b ka kb w z gf cf gg cg HZ gl cl gw cw V.heap.size fs es Ls HFE HLB wq HBz HO6 HM6 HOa HMb HB2 _ _ _ _ _ _ _ _ _ _ _ _ _ _ _ _ _ _ _ _ _ _ _ _ _ _ _ _ _ _ _ _ _ _ _ _ _ _ _ _ _ _ _ _ _ _ _ _ _ _ _ _ _ _ _ _ _ _ _ _ _ _ _ _ _ _ _ _ _ _ _ _ _ _ _ _ _ _ _ _ _ _ _ _ _ _ _ _ _ _ _ _ _ _ _ _ _ _ _ _ _ _ _ _ _ _ _ _ _ _ _ _ _ _ _ _ _ _ _ _ _ _ _ _ _ _ _ _ _ _ _ _ _ _ _ _ _ _ _ _ _ _ _ _ _ _ _ _ _ _ _ _ _ _ _ _ _ _ _ _ _ _ _ _ _ _ _ _ _ _ _ _ _ _ _ _ _ _ _ _ _ _ _ _ _ _ _ _ _ _ _ _ _ _ _ _ _ _ _ _ _ _ _ _ _ _ _ _ _ _ _ _ _ _ _ _ _ _ _ _ _ _ _ _ _ _ _ _ _ _ _ _ _ _ _ _ _ _ _ _ _ _ _ _ _ _ _ _ _ _ _ _ _ _ _ _ _ _ _ _ _ _ _ _ _ _ _ _ _ _ _ _ _ _ _ _ _ _ _ _ _ _ _ _ _ _ _ _ _ _ _ _ _ _ _ _ _ _ _ _ _ _ _ _ _ _ _ _ _ _ _ _ _ _ _ _ _ _ _ _ _ _ _ _ _ _ _ _ _ _ _ _ _ _ _ _ _ _ _ _ _ _ _ _ _ _ _ _ _ _ _ _ _ _ _ _ _ _ _ _ _ _ _ _ _ _ _ _ _ _ _ _ _ _ _ _ _ _ _ _ _ _ _ _ _ _ _ _ _ _ _ _ _ _ _ _ _ _ _ _ _ _ _ _ _ _ _ _ (by assumption)
end Go.Proofs.YtlckjbangdnejaaDoor
