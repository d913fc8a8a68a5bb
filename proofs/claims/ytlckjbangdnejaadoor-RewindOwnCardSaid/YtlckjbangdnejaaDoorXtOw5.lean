/-
  The law RewindOwn: every list goes on.
-/
import Derived.Test.YtlckjbangdnejaaDoorXtOw6
set_option linter.unusedSimpArgs false
set_option linter.unusedVariables false
namespace Go.Proofs.YtlckjbangdnejaaDoor
open Go.RowKit Classical
set_option maxRecDepth 100000 in
set_option maxHeartbeats 16000000 in
theorem own5 (F T : List Nat) (nf nt : Nat) (f6 : nf ≤ 65536) (t6 : nt ≤ 65536) (HF : Hid (Good F ∧ F.length = nf)) (HT : Hid (Good T ∧ T.length = nt)) (d1 d2 : Nat) (hd1b : d1 ≤ 65560) (hd2b : d2 ≤ 65560) (D1 D2 : List Nat) (HD : Hid (D1.length = d1 ∧ D2.length = d2 ∧ Bytes D1 ∧ Bytes D2)) (a b : Option Addr) (ka kb : Nat) (w z : World) (gf cf gg cg : Nat) (HZ : Hid (∀ V, Below z.heap.size z V → Row V a F ∧ Row V b T ∧ Row V (some ⟨gf, 0, none⟩) (padL F) ∧ Row V (some ⟨gg, 0, none⟩) (padL T) ∧ Tab V ∧ Below w.heap.size w V)) (gl cl gw cw B2 : Nat) (fs es : List Value) (Ls Ms : List (List Nat)) (HFL : Hid (fs.length = 12 ∧ es.length = 12)) (HLB : Hid (Ls.length = 12 ∧ ∀ i, i < 12 → Bytes (Ls.getD i []) ∧ (Ls.getD i []).length ≤ 65560)) (HMS : Hid (Mx 12 Ls = Ms)) (V : World) (HB5 : Hid (Below z.heap.size z V)) (HO5 : Hid (Ow V z.heap.size (.slice (some ⟨gl, 0, none⟩) 12 cl) fs)) (HM5 : Hid (Fm V z.heap.size fs Ms)) (HOw : Hid (Ow V B2 (.slice (some ⟨gw, 0, none⟩) 12 cw) es)) (HMw : Hid (Fm V B2 es Ls)) (HB2 : Hid ((∀ i, i < 12 → ∀ k, (fs.getD i undef).ownBlock = some k → k < B2) ∧ B2 ≤ V.heap.size)) (q2 q3 q4 q9 q10 q12 q13 q14 q15 q16 q18 q20 q21 q22 q23 q24 q25 q26 q27 q28 q29 q30 q31 q32 q33 q34 q35 q36 q37 q38 q39 q40 q41 q42 q43 q44 q45 q46 q47 q48 q49 q50 q51 q52 q53 q54 q55 q56 q57 q58 q59 q60 q61 q62 q63 q64 q65 q66 q67 q68 q69 q70 q71 q72 q73 q74 q75 q76 q77 q78 q79 q80 q81 q82 q83 q84 q85 q86 q87 q88 q89 q90 q91 q92 q93 q94 q95 q96 q97 q98 q99 q100 q101 q102 q103 q104 q105 q106 q107 q108 q109 q110 q111 q112 q113 q114 q115 q116 q117 q118 q119 q120 q121 q122 q123 q124 q125 q126 q127 q128 q129 q130 q131 q132 q133 q134 q135 q136 q137 q138 q139 q140 q141 q142 q143 q144 q145 q146 q147 q148 q149 q150 q151 q152 q153 q154 q155 q156 q157 q158 q159 q160 q161 q162 q163 q164 q165 q166 q167 q168 q169 q170 q171 q172 q173 q174 q175 q176 q177 q178 q179 q180 q181 q182 q183 q184 q185 q186 q187 q188 q189 q190 q191 q192 q193 q194 q195 q196 q197 q198 q199 q200 q201 q202 q203 q204 q205 q206 q207 q208 q209 q210 q211 q212 q213 q214 q215 q216 q217 q218 q219 q220 q221 q222 q223 q224 q225 q226 q227 q228 q229 q230 q231 q232 q233 q234 q235 q236 q237 q238 q239 q240 q241 q242 q243 q244 q245 q246 q247 q248 q249 q250 q251 q252 q253 q254 q255 q256 q257 q258 q259 q260 q261 q262 q263 q264 q265 q266 q267 q268 q269 q270 q271 q272 q273 q274 q275 q276 q277 q278 q279 q280 q281 q282 q283 q284 q285 q286 q287 q288 q289 q290 q291 q292 q293 q294 q295 q296 q297 q298 q299 q300 q301 q302 q303 q304 q305 q306 q307 q308 q309 q310 q311 q312 q313 q314 q315 q316 q317 q318 q319 q320 q321 q322 q323 q324 q325 q326 q327 q328 q329 q330 q331 q332 q333 q334 q335 q336 q337 q338 q339 q340 q341 q342 q343 q344 q345 q346 q347 q348 q349 q350 q351 q352 q353 q354 q355 q356 q357 q358 q359 q360 q361 q362 q363 q364 q365 q366 q367 q368 q369 q370 q371 q372 q373 q374 q375 q376 q377 q378 q379 q380 q381 q382 q383 q384 q385 q386 q387 q388 q389 q390 q391 q392 q393 q394 q395 q396 q397 q398 q399 q400 q401 q402 q403 q404 q405 q406 q407 q408 q409 q410 q411 q412 q413 q414 : Value) (K1 : Act → World → Prop) (hK1 : ∀ a' w', (restOf 33 (Tryd.f6.body.getD .skip)).wp Tryd.prog (bodyPost Tryd.prog Tryd.f6 fun e w' => e = .returned (.bool true) ∧ Below w.heap.size w w') a' w' → K1 a' w') (K2 : Act → World → Prop) (hK2 : ∀ a' w', (tailOf (headOf (restOf 32 (Tryd.f6.body.getD .skip)))).wp Tryd.prog (Exit.then K1 (bodyPost Tryd.prog Tryd.f6 fun e w' => e = .returned (.bool true) ∧ Below w.heap.size w w')) a' w' → K2 a' w') :
    (headOf (headOf (restOf 32 (Tryd.f6.body.getD .skip)))).wp Tryd.prog (Exit.then K2 (Exit.then K1 (bodyPost Tryd.prog Tryd.f6 fun e w' => e = .returned (.bool true) ∧ Below w.heap.size w w'))) ⟨#[.slice a nf ka, .slice b nt kb, q2, q3, q4, .slice (some ⟨gf, 0, none⟩) nf cf, .slice (some ⟨gf, 0, none⟩) (nf + 8) cf, .slice (some ⟨gg, 0, none⟩) nt cg, .slice (some ⟨gg, 0, none⟩) (nt + 8) cg, q9, q10, .slice (some ⟨gl, 0, none⟩) 12 cl, q12, q13, q14, q15, q16, .slice (some ⟨gw, 0, none⟩) 12 cw, q18, .slice none 0 0, q20, q21, q22, q23, q24, q25, q26, q27, q28, q29, q30, q31, q32, q33, q34, q35, q36, q37, q38, q39, q40, q41, q42, q43, q44, q45, q46, q47, q48, q49, q50, q51, q52, q53, q54, q55, q56, q57, q58, q59, q60, q61, q62, q63, q64, q65, q66, q67, q68, q69, q70, q71, q72, q73, q74, q75, q76, q77, q78, q79, q80, q81, q82, q83, q84, q85, q86, q87, q88, q89, q90, q91, q92, q93, q94, q95, q96, q97, q98, q99, q100, q101, q102, q103, q104, q105, q106, q107, q108, q109, q110, q111, q112, q113, q114, q115, q116, q117, q118, q119, q120, q121, q122, q123, q124, q125, q126, q127, q128, q129, q130, q131, q132, q133, q134, q135, q136, q137, q138, q139, q140, q141, q142, q143, q144, q145, q146, q147, q148, q149, q150, q151, q152, q153, q154, q155, q156, q157, q158, q159, q160, q161, q162, q163, q164, q165, q166, q167, q168, q169, q170, q171, q172, q173, q174, q175, q176, q177, q178, q179, q180, q181, q182, q183, q184, q185, q186, q187, q188, q189, q190, q191, q192, q193, q194, q195, q196, q197, q198, q199, q200, q201, q202, q203, q204, q205, q206, q207, q208, q209, q210, q211, q212, q213, q214, q215, q216, q217, q218, q219, q220, q221, q222, q223, q224, q225, q226, q227, q228, q229, q230, q231, q232, q233, q234, q235, q236, q237, q238, q239, q240, q241, q242, q243, q244, q245, q246, q247, q248, q249, q250, q251, q252, q253, q254, q255, q256, q257, q258, q259, q260, q261, q262, q263, q264, q265, q266, q267, q268, q269, q270, q271, q272, q273, q274, q275, q276, q277, q278, q279, q280, q281, q282, q283, q284, q285, q286, q287, q288, q289, q290, q291, q292, q293, q294, q295, q296, q297, q298, q299, q300, q301, q302, q303, q304, q305, q306, q307, q308, q309, q310, q311, q312, q313, q314, q315, q316, q317, q318, q319, q320, q321, q322, q323, q324, q325, q326, q327, q328, q329, q330, q331, q332, q333, q334, q335, q336, q337, q338, q339, q340, q341, q342, q343, q344, q345, q346, q347, q348, q349, q350, q351, q352, q353, q354, q355, q356, q357, q358, q359, q360, q361, q362, q363, q364, q365, q366, q367, q368, q369, q370, q371, q372, q373, q374, q375, q376, q377, q378, q379, q380, q381, q382, q383, q384, q385, q386, q387, q388, q389, q390, q391, q392, q393, q394, q395, q396, q397, q398, q399, q400, q401, q402, q403, q404, q405, q406, q407, q408, q409, q410, q411, q412, q413, q414], []⟩ V := by
  dsimp only
  conv => arg 2; whnf
  conv at hK1 => enter [a', w', 1, 2]; whnf
  conv at hK2 => enter [a', w', 1, 2]; whnf
  have HFS : Hid (∀ j, j < fs.length → ∀ k, (fs.getD j undef).ownBlock = some k → k < V.heap.size) := fun j hj k hk => ((HM5.out.tx j hj).block k hk).2
  have HI0 : Hid (Io V V z.heap.size (.slice none 0 0) fs [] Ms) := ⟨HM5.out, World.ownsRow_nil _ _ _ _, fun j hj => absurd hj (Nat.not_lt_zero j), Kp.refl _ _⟩
  have HZ0 : Hid (([] : List Value).length = 0) := rfl
  have HLM : Hid (∀ i, i < 12 → (Ms.getD i []).length ≤ 65560) := fun i hi => by
    rw [← HMS.out, Mx_at _ _ _ (by rw [HLB.out.1]; exact hi)]
    rw [if_pos hi, xl_len]
    exact (HLB.out.2 i hi).2
  have HKO : Hid (∀ W, Kp (Sf fs) V W → ∀ j, j < 12 → W.cell? ⟨gl, j, none⟩ = some (fs.getD j undef)) := fun W hK j hj => by
    have hO : Ow W z.heap.size (.slice (some ⟨gl, 0, none⟩) 12 cl) fs := HO5.out.on fun k hk => hK.block k (HO5.out.lt k hk).2 fun h => by
      obtain ⟨j, hj, he⟩ := h
      exact HO5.out.ne (HM5.out.tx j hj) k he hk
    obtain ⟨g, c, e, h⟩ := hO.form (by rw [HFL.out.1]; omega)
    simp only [Value.slice.injEq, Option.some.injEq, Addr.mk.injEq] at e
    rw [e.1.1]
    exact h j (by rw [HFL.out.1]; exact hj)
  go_upto_region 53 with fail
  go_loopw [19, 22] (fun vv x wr => ∃ (i : Nat) (ms : List Value), i ≤ 12 ∧ x = .int .i64 i ∧ Hid (ms.length = i) ∧ Hid (Io V wr z.heap.size vv fs ms Ms)) (fun _ x _ => 12 - (intOf x).toNat)
  case atStart => exact ⟨0, [], by omega, rfl, HZ0, HI0⟩
  case round =>
    clear HI0 HZ0
    obtain ⟨i, ms, hi, rfl, HML, hI⟩ := hrel
    obtain ⟨wo, rfl⟩ : ∃ x, x = wr := ⟨_, rfl⟩
    by_cases hi12 : i < 12
    · have i12 : (i : Int) < 12 := by omega
      have HIZ : Hid (Iz V wo wo z.heap.size u19 fs ms Ms i (fs.getD i undef) []) := hI.out.start i (by rw [HFL.out.1]; exact hi12)
      have HVO : Hid (V.heap.size ≤ wo.heap.size) := hI.out.kp.size
      have cgl := HKO.out wo hI.out.kp i hi12
      obtain ⟨n, hn⟩ : ∃ n, (Ms.getD i []).length = n := ⟨_, rfl⟩
      have HN : Hid ((Ms.getD i []).length = n) := hn
      have hn6 : n ≤ 65560 := by rw [← hn]; exact HLM.out i hi12
      obtain ⟨af, kf, hfi⟩ : ∃ a k, fs.getD i undef = .slice a n k := by
        obtain ⟨a, k, e⟩ := (hI.out.f.tx i (by rw [HFL.out.1]; exact hi12)).len
        rw [hn] at e
        exact ⟨a, k, e⟩
      rw [hfi] at cgl HIZ
      obtain ⟨i1, hi1⟩ : ∃ i1, i1 = i + 100 := ⟨_, rfl⟩
      have ei1 : (i : Int) + 100 = (i1 : Int) := by omega
      obtain ⟨cj, hcj⟩ : ∃ cj : Nat, cj = i1 % 256 := ⟨_, rfl⟩
      have ecj : IntKind.u8.wrap (i1 : Int) = (cj : Int) := by rw [hcj]; simp [IntKind.wrap, IntKind.bits, IntKind.signed]
      have HCJ : Hid (cj = (i + 100) % 256) := by unfold Hid; rw [hcj, hi1]
      have hi1b : i1 ≤ 200 := by omega
      clear hn hfi hi1 hcj hI
      have HIY : Hid (Iz V wo wo z.heap.size u19 fs ms Ms i (.slice af n kf) (List.replicate 0 cj)) := HIZ
      clear HIZ
      go_upto_region 57 with fail
      clear cgl
      go_loopw [23, 24] (fun m x wr => ∃ (k : Nat), k ≤ 64 ∧ x = .int .i64 k ∧ Hid (Iz V wo wr z.heap.size u19 fs ms Ms i m (List.replicate k cj)) ∧ Hid (wo.heap.size ≤ wr.heap.size)) (fun _ x _ => 64 - (intOf x).toNat)
      case atStart => exact ⟨0, by omega, rfl, HIY, Nat.le_refl _⟩
      case round =>
      clear HIY
      obtain ⟨k, hk, rfl, hI, hW⟩ := hrel
      obtain ⟨wq, rfl⟩ : ∃ x, x = wr := ⟨_, rfl⟩
      obtain ⟨am, km, hm⟩ := hI.out.tx.len
      subst hm
      by_cases hk6 : k < 64
      · have ik : (k : Int) < 64 := by omega
        have HBB : Hid (z.heap.size ≤ wq.heap.size) := by
          have h1 := HB5.out.size
          have h2 := HVO.out
          have h3 := hW.out
          unfold Hid
          omega
        have HLL : Hid ((Ms.getD i [] ++ List.replicate k cj).length ≤ 1000000) := by
          unfold Hid
          rw [List.length_append, HN.out, List.length_replicate]
          omega
        obtain ⟨nm, hnm⟩ : ∃ nm, (Ms.getD i [] ++ List.replicate k cj).length = nm := ⟨_, rfl⟩
        rw [hnm] at hI ⊢
        have HNM : Hid ((Ms.getD i [] ++ List.replicate k cj).length = nm) := hnm
        clear hnm
        have HTX : Hid (Tx wq z.heap.size (.slice am nm km) (Ms.getD i [] ++ List.replicate k cj)) := hI.out.tx
        go_upto_region 59 with fail
        go_upto_region 58 with (refine wpList_ap8 rfl _ _ rfl (y := cj) HTX.out HBB.out rfl rfl HLL.out ?_; intro m8 w8 T8 fr b8 s8 alt)
        have HI8 : Hid (Iz V wo w8 z.heap.size u19 fs ms Ms i m8 (List.replicate (k + 1) cj)) := by
          have := hI.out.step (by rw [HFL.out.1]; exact hi12) HML.out HFS.out HVO.out hW.out T8 fr b8 s8 (by rw [HNM.out] at alt ⊢; exact alt)
          rw [← List.replicate_succ'] at this
          exact this
        have HW8 : Hid (wo.heap.size ≤ w8.heap.size) := Nat.le_trans hW.out s8
        clear T8 fr b8 s8 alt hI hW HTX HBB
        go_wp2
        go_roundw
        case rel => exact ⟨k + 1, by omega, by go_num, HI8, HW8⟩
        case measure => simp [intOf]; omega
      · obtain rfl : k = 64 := by omega
        have HIF : Hid (Iz V wo wq z.heap.size u19 fs ms Ms i (.slice am (Ms.getD i [] ++ List.replicate 64 cj).length km) (List.replicate 64 ((i + 100) % 256))) := by
          rw [← HCJ.out]
          exact hI.out
        obtain ⟨nm, hnm⟩ : ∃ nm, (Ms.getD i [] ++ List.replicate 64 cj).length = nm := ⟨_, rfl⟩
        rw [hnm] at HIF ⊢
        clear hnm hI
        have HOW : Hid (wq.ownsRow V.heap.size 28 1 u19 i ms) := by
          have h := HIF.out.o
          unfold Ow at h
          rw [HML.out] at h
          exact h
        have HVW : Hid (V.heap.size ≤ wq.heap.size) := Nat.le_trans HVO.out hW.out
        go_upto_region 60 with fail
        go_upto_region 54 with (refine wpList_appSl rfl _ _ rfl (cells := ms) (n := i) (v := u19) (cs := #[.slice am nm km]) HOW.out HVW.out rfl rfl rfl (fun u hu => by simp at hu; subst hu; rfl) (by omega) ?_; intro v10 w7 r1 r2 r3 r4 r5)
        have HI7 : Hid (Io V w7 z.heap.size v10 fs (ms ++ [.slice am nm km]) Ms) := HIF.out.finish HML.out HVO.out (by rw [HML.out]; exact r1) r3 r4
        have HL7 : Hid ((ms ++ [.slice am nm km] : List Value).length = i + 1) := by unfold Hid; rw [List.length_append, HML.out]; rfl
        clear r1 r2 r3 r4 r5 HIF HOW HVW hW
        go_wp2
        go_roundw
        case rel => exact ⟨i + 1, _, by omega, by go_num, HL7, HI7⟩
        case measure => simp [intOf]; omega
    · obtain rfl : i = 12 := by omega
      obtain ⟨gm, cm, hvm, hcm⟩ := hI.out.o.form (by rw [HML.out]; omega)
      rw [HML.out] at hvm hcm
      subst hvm
      have HC0 : Hid (∀ j, j < 12 → ∃ a k a2 k2 a3 k3, (wo.cell? ⟨gl, j, none⟩ = some (.slice a (Ls.getD j []).length k) ∧ wo.cell? ⟨gw, j, none⟩ = some (.slice a2 (Ls.getD j []).length k2) ∧ wo.cell? ⟨gm, j, none⟩ = some (.slice a3 ((Ls.getD j []).length + 64) k3)) ∧ Row wo a (xl j (Ls.getD j [])) ∧ Row wo a2 (Ls.getD j []) ∧ Row wo a3 (exl j (xl j (Ls.getD j [])))) := fun j hj => by
        have hMj : Ms.getD j [] = xl j (Ls.getD j []) := by
          rw [← HMS.out, Mx_at _ _ _ (by rw [HLB.out.1]; exact hj), if_pos hj]
        have hOw : Ow wo B2 (.slice (some ⟨gw, 0, none⟩) 12 cw) es := HOw.out.on fun k hk => hI.out.kp.block k (HOw.out.lt k hk).2 fun h => by
          obtain ⟨q, hq, he⟩ := h
          have h1 := HB2.out.1 q (by rw [← HFL.out.1]; exact hq) k he
          have h2 := (HOw.out.lt k hk).1
          omega
        have hMw : Fm wo B2 es Ls := HMw.out.on fun i hi k hk => hI.out.kp.block k ((HMw.out.tx i hi).block k hk).2 fun h => by
          obtain ⟨q, hq, he⟩ := h
          have h1 := HB2.out.1 q (by rw [← HFL.out.1]; exact hq) k he
          have h2 := ((HMw.out.tx i hi).block k hk).1
          omega
        have c1 := HKO.out wo hI.out.kp j hj
        obtain ⟨g2, cc2, e2, h2⟩ := hOw.form (by rw [HFL.out.2]; omega)
        simp only [Value.slice.injEq, Option.some.injEq, Addr.mk.injEq] at e2
        have c2 := h2 j (by rw [HFL.out.2]; exact hj)
        rw [← e2.1.1] at c2
        have c3 := hcm j hj
        have t1 := hI.out.f.tx j (by rw [HFL.out.1]; exact hj)
        have t2 := hMw.tx j (by rw [HFL.out.2]; exact hj)
        have t3 := (hI.out.mo j (by rw [HML.out]; exact hj)).1
        rw [hMj] at t1 t3
        obtain ⟨a1, k1, e1, -, R1, -⟩ := t1.full
        obtain ⟨a2, k2, e4, -, R2, -⟩ := t2.full
        obtain ⟨a3, k3, e5, -, R3, -⟩ := t3.full
        rw [xl_len] at e1
        have hxl : (exl j (xl j (Ls.getD j []))).length = (Ls.getD j []).length + 64 := by unfold exl; rw [List.length_append, xl_len, List.length_replicate]
        rw [hxl] at e5
        rw [e1] at c1
        rw [e4] at c2
        rw [e5] at c3
        exact ⟨a1, k1, a2, k2, a3, k3, ⟨c1, c2, c3⟩, R1.row, R2.row, R3.row⟩
      have HBz : Hid (Below z.heap.size z wo) := HB5.out.trans (hI.out.kp.below HB5.out.size fun k hk => by
        obtain ⟨j, hj, he⟩ := hk
        exact ((HM5.out.tx j hj).block k he).1)
      clear hcm hI HKO HFS HB5 HO5 HM5 HOw HMw HB2 HML HMS HLM
      go_upto_region 61 with fail
      exact own6 F T nf nt f6 t6 HF HT d1 d2 hd1b hd2b D1 D2 HD a b ka kb w z gf cf gg cg HZ gl cl gw cw gm cm Ls HLB wo HBz HC0 _ _ _ _ _ _ _ _ _ _ _ _ _ _ _ _ _ _ _ _ _ _ _ _ _ _ _ _ _ _ _ _ _ _ _ _ _ _ _ _ _ _ _ _ _ _ _ _ _ _ _ _ _ _ _ _ _ _ _ _ _ _ _ _ _ _ _ _ _ _ _ _ _ _ _ _ _ _ _ _ _ _ _ _ _ _ _ _ _ _ _ _ _ _ _ _ _ _ _ _ _ _ _ _ _ _ _ _ _ _ _ _ _ _ _ _ _ _ _ _ _ _ _ _ _ _ _ _ _ _ _ _ _ _ _ _ _ _ _ _ _ _ _ _ _ _ _ _ _ _ _ _ _ _ _ _ _ _ _ _ _ _ _ _ _ _ _ _ _ _ _ _ _ _ _ _ _ _ _ _ _ _ _ _ _ _ _ _ _ _ _ _ _ _ _ _ _ _ _ _ _ _ _ _ _ _ _ _ _ _ _ _ _ _ _ _ _ _ _ _ _ _ _ _ _ _ _ _ _ _ _ _ _ _ _ _ _ _ _ _ _ _ _ _ _ _ _ _ _ _ _ _ _ _ _ _ _ _ _ _ _ _ _ _ _ _ _ _ _ _ _ _ _ _ _ _ _ _ _ _ _ _ _ _ _ _ _ _ _ _ _ _ _ _ _ _ _ _ _ _ _ _ _ _ _ _ _ _ _ _ _ _ _ _ _ _ _ _ _ _ _ _ _ _ _ _ _ _ _ _ _ _ _ _ _ _ _ _ _ _ _ _ _ _ _ _ _ _ _ _ _ _ _ _ _ _ _ _ _ _ _ _ _ _ _ _ _ _ _ _ _ _ _ _ _ _ _ _ _ _ _ _ _ _ _ _ _ _ _ _ _ _ _ _ _ _ _ _ _ _ _ _ _ _ _ _ _ (by assumption) _ (by assumption)
end Go.Proofs.YtlckjbangdnejaaDoor
