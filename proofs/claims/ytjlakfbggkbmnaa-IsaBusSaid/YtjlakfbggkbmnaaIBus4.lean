/-
  The law IsaBus from a statement on.
-/
import Derived.Test.YtjlakfbggkbmnaaIBus6
set_option linter.unusedSimpArgs false
set_option linter.unusedVariables false
namespace Go.Proofs.Ytjlakfbggkbmnaa
open Go.RowKit Go.IntWalk
set_option maxRecDepth 100000 in
set_option maxHeartbeats 4000000 in
theorem bus4 (k o md kd ln cl nl nx nt ny b gl gx gt gy cpl cpx cpt cpy : Nat) (w wc : World) (ic : ∀ i, wc.cell? ⟨b, i, none⟩ = (#[.int .i64 (o : Nat), .int .i64 (md : Nat), .int .i64 (kd : Nat), .int .i64 (ln : Nat), .int .i64 (nl : Nat), .int .i64 (cl : Nat)] : Array Value)[i]?) (hB : Below w.heap.size w wc) (bl1 : 1 ≤ nl) (bl8 : nl ≤ 8) (bx8 : nx ≤ 8) (bt8 : nt ≤ 8) (by1 : 1 ≤ ny) (by8 : ny ≤ 8) (b1 : 1 ≤ ln) (b3 : ln ≤ 3)
    (y : List Nat) (CY : Cel wc gy y) (hny : y.length = ny) (hmv : cnt y 11 + cnt y 12 = mvN o) (ix : Bool) (lt : Nat) (hl1 : lt ≤ 1) (hlt : lt = (decide (kd = 1) && ix).toNat) (ht : nt = nl) (hx : nx = nl + lt) (hy : ny = nx) (u1 u2 u8 u9 u10 u11 u12 u14 u15 u16 u17 u18 u19 u20 u21 u22 u23 u24 u25 u26 u27 u28 u29 u30 u31 u32 u33 u34 u35 u36 u37 u38 u39 u40 u41 u42 u43 u44 u45 u46 u47 u48 u49 u50 u51 u52 u53 u54 u55 u56 u57 u58 u59 u60 u61 u62 u63 u64 u65 u66 u67 u68 u69 u70 u71 u72 u73 u74 u75 u76 u77 u78 u79 u80 u81 u82 u83 u84 u85 u86 u87 u88 u89 u90 u91 u92 u93 u94 u95 u96 u97 u98 u99 u100 u101 u102 u103 u104 u105 u106 u107 u108 u109 u110 u111 u112 u113 u114 u115 u116 u117 u118 u119 u120 u121 u122 u123 u124 u125 u126 u127 u128 u129 u130 u131 u132 u133 u134 u135 u136 u137 u138 u139 u140 u141 u142 u143 u144 u145 u146 u147 u148 u149 u150 u151 u152 u153 u154 u155 u156 u157 u158 u159 u160 u161 u162 u163 u164 u165 u166 u167 u168 u169 u170 u171 u172 u173 u174 u175 u176 u177 u178 u179 u180 u181 u182 u183 u184 u185 u186 u187 u188 u189 u190 u191 u192 u193 u194 u195 u196 u197 u198 u199 u200 u201 u202 u203 u204 u205 u206 u207 u208 u209 u210 u211 u212 u213 u214 u215 u216 u217 u218 u219 u220 u221 u222 u223 u224 u225 u226 u227 u228 u229 u230 u231 u232 u233 u234 u235 u236 u237 u238 u239 u240 u241 u242 u243 u244 u245 u246 u247 u248 : Value)
    (K : Act → World → Prop) (hK : ∀ a' w', (restOf 17 (Try.f3.body.getD .skip)).wp Try.prog (bodyPost Try.prog Try.f3 fun e w' => e = .returned (.bool true) ∧ Below w.heap.size w w') a' w' → K a' w') :
    (headOf (restOf 16 (Try.f3.body.getD .skip))).wp Try.prog (Exit.then K (bodyPost Try.prog Try.f3 fun e w' => e = .returned (.bool true) ∧ Below w.heap.size w w')) ⟨#[.int .u8 (k : Nat), u1, u2, .pointer (some ⟨b, 0, none⟩), .slice (some ⟨gl, 0, none⟩) nl cpl, .slice (some ⟨gx, 0, none⟩) nx cpx, .slice (some ⟨gt, 0, none⟩) nt cpt, .slice (some ⟨gy, 0, none⟩) ny cpy, u8, u9, u10, u11, u12, .bool ix, u14, u15, u16, u17, u18, u19, u20, u21, u22, u23, u24, u25, u26, u27, u28, u29, u30, u31, u32, u33, u34, u35, u36, u37, u38, u39, u40, u41, u42, u43, u44, u45, u46, u47, u48, u49, u50, u51, u52, u53, u54, u55, u56, u57, u58, u59, u60, u61, u62, u63, u64, u65, u66, u67, u68, u69, u70, u71, u72, u73, u74, u75, u76, u77, u78, u79, u80, u81, u82, u83, u84, u85, u86, u87, u88, u89, u90, u91, u92, u93, u94, u95, u96, u97, u98, u99, u100, u101, u102, u103, u104, u105, u106, u107, u108, u109, u110, u111, u112, u113, u114, u115, u116, u117, u118, u119, u120, u121, u122, u123, u124, u125, u126, u127, u128, u129, u130, u131, u132, u133, u134, u135, u136, u137, u138, u139, u140, u141, u142, u143, u144, u145, u146, u147, u148, u149, u150, u151, u152, u153, u154, u155, u156, u157, u158, u159, u160, u161, u162, u163, u164, u165, u166, u167, u168, u169, u170, u171, u172, u173, u174, u175, u176, u177, u178, u179, u180, u181, u182, u183, u184, u185, u186, u187, u188, u189, u190, u191, u192, u193, u194, u195, u196, u197, u198, u199, u200, u201, u202, u203, u204, u205, u206, u207, u208, u209, u210, u211, u212, u213, u214, u215, u216, u217, u218, u219, u220, u221, u222, u223, u224, u225, u226, u227, u228, u229, u230, u231, u232, u233, u234, u235, u236, u237, u238, u239, u240, u241, u242, u243, u244, u245, u246, u247, u248], []⟩ wc := by
  dsimp only
  conv => arg 2; whnf
  conv at hK => enter [a', w', 1, 2]; whnf
  have HH : Hid ((y.length = ny) ∧ Cel wc gy y ∧ (cnt y 11 + cnt y 12 = mvN o) ∧ nt = nl ∧ nx = nl + lt ∧ ny = nx) := ⟨hny, CY, hmv, ht, hx, hy⟩
  have HL := Hid.mk3 hlt
  clear hny CY hmv ht hx hy hlt
  go_upto_region 34 with fail
  go_cut [219] (fun q wx => q = .bool (decide (kd = 1) && ix) ∧ wc = wx)
  case first =>
    by_cases h1 : kd = 1
    · subst h1
      cases ix
      · go_wp2; go_meet; exact ⟨rfl, rfl⟩
      · go_wp2; go_meet; exact ⟨rfl, rfl⟩
    · have t1 : ((kd : Int) == 1) = false := by rw [beq_eq_false_iff_ne]; omega
      have E : Hid (decide (kd = 1) = false) := decide_eq_false h1
      clear h1
      go_wp2
      go_meet
      exact ⟨by rw [E.out]; rfl, rfl⟩
  case rest =>
  obtain ⟨rfl, rfl⟩ := hcut
  generalize (decide (kd = 1) && ix) = lx at *
  go_upto_if 219 with fail
  go_cut [14] (fun q wx => q = .int .i64 (lt : Nat) ∧ wc = wx)
  case first =>
    cases lx
    · obtain rfl : lt = 0 := HL.out
      go_wp2; go_meet; exact ⟨rfl, rfl⟩
    · obtain rfl : lt = 1 := HL.out
      go_wp2; go_meet; exact ⟨rfl, rfl⟩
  case rest =>
  obtain ⟨rfl, rfl⟩ := hcut
  clear HL
  have e1 : nt = nl := HH.out.2.2.2.1
  have e2 : nx = nl + lt := HH.out.2.2.2.2.1
  have e3 : ny = nx := HH.out.2.2.2.2.2
  have H2 : Hid ((y.length = ny) ∧ Cel wc gy y ∧ (cnt y 11 + cnt y 12 = mvN o)) := ⟨HH.out.1, HH.out.2.1, HH.out.2.2.1⟩
  clear HH
  subst e1 e3 e2
  go_upto_region 38 with fail
  exact bus6 k o md kd ln cl _ _ _ _ b gl gx gt gy cpl cpx cpt cpy w wc ic hB bl1 bl8 bx8 bt8 by1 by8 b1 b3 y H2.out.2.1 H2.out.1 H2.out.2.2 _ _ _ _ _ _ _ _ _ _ _ _ _ _ _ _ _ _ _ _ _ _ _ _ _ _ _ _ _ _ _ _ _ _ _ _ _ _ _ _ _ _ _ _ _ _ _ _ _ _ _ _ _ _ _ _ _ _ _ _ _ _ _ _ _ _ _ _ _ _ _ _ _ _ _ _ _ _ _ _ _ _ _ _ _ _ _ _ _ _ _ _ _ _ _ _ _ _ _ _ _ _ _ _ _ _ _ _ _ _ _ _ _ _ _ _ _ _ _ _ _ _ _ _ _ _ _ _ _ _ _ _ _ _ _ _ _ _ _ _ _ _ _ _ _ _ _ _ _ _ _ _ _ _ _ _ _ _ _ _ _ _ _ _ _ _ _ _ _ _ _ _ _ _ _ _ _ _ _ _ _ _ _ _ _ _ _ _ _ _ _ _ _ _ _ _ _ _ _ _ _ _ _ _ _ _ _ _ _ _ _ _ _ _ _ _ _ _ _ _ _ _ _ _ _ _ _ _ _ _ _ _ _ _ _ _ _ _ _ _ _ _ _ _ (by assumption)
end Go.Proofs.Ytjlakfbggkbmnaa
