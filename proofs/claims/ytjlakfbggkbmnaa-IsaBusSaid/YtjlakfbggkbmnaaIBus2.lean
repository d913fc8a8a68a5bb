/-
  The law IsaBus from a statement on.
-/
import Derived.Test.YtjlakfbggkbmnaaIBus3
set_option linter.unusedSimpArgs false
set_option linter.unusedVariables false
namespace Go.Proofs.Ytjlakfbggkbmnaa
open Go.RowKit Go.IntWalk
set_option maxRecDepth 100000 in
set_option maxHeartbeats 4000000 in
theorem bus2 (k o md kd ln cl nl nx nt ny b gl gx gt gy cpl cpx cpt cpy : Nat) (w wc : World) (ic : ∀ i, wc.cell? ⟨b, i, none⟩ = (#[.int .i64 (o : Nat), .int .i64 (md : Nat), .int .i64 (kd : Nat), .int .i64 (ln : Nat), .int .i64 (nl : Nat), .int .i64 (cl : Nat)] : Array Value)[i]?) (hB : Below w.heap.size w wc) (bl1 : 1 ≤ nl) (bl8 : nl ≤ 8) (bx8 : nx ≤ 8) (bt8 : nt ≤ 8) (by1 : 1 ≤ ny) (by8 : ny ≤ 8) (b1 : 1 ≤ ln) (b3 : ln ≤ 3)
    (l x t y : List Nat) (CY : Cel wc gy y) (hny : y.length = ny) (hnl : l.length = nl) (hnx : x.length = nx) (hnt : t.length = nt) (F : BusF o md kd ln l x t y) (u1 u2 u8 u11 u12 u13 u14 u15 u16 u17 u18 u19 u20 u21 u22 u23 u24 u25 u26 u27 u28 u29 u30 u31 u32 u33 u34 u35 u36 u37 u38 u39 u40 u41 u42 u43 u44 u45 u46 u47 u48 u49 u50 u51 u52 u53 u54 u55 u56 u57 u58 u59 u60 u61 u62 u63 u64 u65 u66 u67 u68 u69 u70 u71 u72 u73 u74 u75 u76 u77 u78 u79 u80 u81 u82 u83 u84 u85 u86 u87 u88 u89 u90 u91 u92 u93 u94 u95 u96 u97 u98 u99 u100 u101 u102 u103 u104 u105 u106 u107 u108 u109 u110 u111 u112 u113 u114 u115 u116 u117 u118 u119 u120 u121 u122 u123 u124 u125 u126 u127 u128 u129 u130 u131 u132 u133 u134 u135 u136 u137 u138 u139 u140 u141 u142 u143 u144 u145 u146 u147 u148 u149 u150 u151 u152 u153 u154 u155 u156 u157 u158 u159 u160 u161 u162 u163 u164 u165 u166 u167 u168 u169 u170 u171 u172 u173 u174 u175 u176 u177 u178 u179 u180 u181 u182 u183 u184 u185 u186 u187 u188 u189 u190 u191 u192 u193 u194 u195 u196 u197 u198 u199 u200 u201 u202 u203 u204 u205 u206 u207 u208 u209 u210 u211 u212 u213 u214 u215 u216 u217 u218 u219 u220 u221 u222 u223 u224 u225 u226 u227 u228 u229 u230 u231 u232 u233 u234 u235 u236 u237 u238 u239 u240 u241 u242 u243 u244 u245 u246 u247 u248 : Value)
    (K : Act → World → Prop) (hK : ∀ a' w', (restOf 13 (Try.f3.body.getD .skip)).wp Try.prog (bodyPost Try.prog Try.f3 fun e w' => e = .returned (.bool true) ∧ Below w.heap.size w w') a' w' → K a' w') :
    (headOf (restOf 12 (Try.f3.body.getD .skip))).wp Try.prog (Exit.then K (bodyPost Try.prog Try.f3 fun e w' => e = .returned (.bool true) ∧ Below w.heap.size w w')) ⟨#[.int .u8 (k : Nat), u1, u2, .pointer (some ⟨b, 0, none⟩), .slice (some ⟨gl, 0, none⟩) nl cpl, .slice (some ⟨gx, 0, none⟩) nx cpx, .slice (some ⟨gt, 0, none⟩) nt cpt, .slice (some ⟨gy, 0, none⟩) ny cpy, u8, .int .i64 (cnt y 9 : Nat), .int .i64 (cnt y 7 : Nat), u11, u12, u13, u14, u15, u16, u17, u18, u19, u20, u21, u22, u23, u24, u25, u26, u27, u28, u29, u30, u31, u32, u33, u34, u35, u36, u37, u38, u39, u40, u41, u42, u43, u44, u45, u46, u47, u48, u49, u50, u51, u52, u53, u54, u55, u56, u57, u58, u59, u60, u61, u62, u63, u64, u65, u66, u67, u68, u69, u70, u71, u72, u73, u74, u75, u76, u77, u78, u79, u80, u81, u82, u83, u84, u85, u86, u87, u88, u89, u90, u91, u92, u93, u94, u95, u96, u97, u98, u99, u100, u101, u102, u103, u104, u105, u106, u107, u108, u109, u110, u111, u112, u113, u114, u115, u116, u117, u118, u119, u120, u121, u122, u123, u124, u125, u126, u127, u128, u129, u130, u131, u132, u133, u134, u135, u136, u137, u138, u139, u140, u141, u142, u143, u144, u145, u146, u147, u148, u149, u150, u151, u152, u153, u154, u155, u156, u157, u158, u159, u160, u161, u162, u163, u164, u165, u166, u167, u168, u169, u170, u171, u172, u173, u174, u175, u176, u177, u178, u179, u180, u181, u182, u183, u184, u185, u186, u187, u188, u189, u190, u191, u192, u193, u194, u195, u196, u197, u198, u199, u200, u201, u202, u203, u204, u205, u206, u207, u208, u209, u210, u211, u212, u213, u214, u215, u216, u217, u218, u219, u220, u221, u222, u223, u224, u225, u226, u227, u228, u229, u230, u231, u232, u233, u234, u235, u236, u237, u238, u239, u240, u241, u242, u243, u244, u245, u246, u247, u248], []⟩ wc := by
  dsimp only
  conv => arg 2; whnf
  conv at hK => enter [a', w', 1, 2]; whnf
  have C8 := Hid.mk3 (count_lit y (by omega) gy cpy 8 8 rfl wc CY)
  rw [hny] at C8
  have lc8 := Nat.le_trans (List.count_le_length (a := 8) (l := y)) (by omega : y.length ≤ 8)
  change cnt y 8 ≤ 8 at lc8
  have lc9 := Nat.le_trans (List.count_le_length (a := 9) (l := y)) (by omega : y.length ≤ 8)
  change cnt y 9 ≤ 8 at lc9
  have lc7 := Nat.le_trans (List.count_le_length (a := 7) (l := y)) (by omega : y.length ≤ 8)
  change cnt y 7 ≤ 8 at lc7
  have y1c := CY (ny - 1) (by omega)
  have Y2 := Hid.mk3 (fun h : 2 ≤ ny => CY (ny - 2) (by omega))
  have Y3 := Hid.mk3 (fun h : 3 ≤ ny => CY (ny - 3) (by omega))
  have kA := F.kA
  have kB := F.kB
  have kC := F.kC
  have kD := F.kD
  have k5 := F.k5
  have kN := F.kN
  rw [hny] at kA kB kC k5 kN
  rw [hnl, hnx, hnt] at k5 kN
  have HCY := Hid.mk3 CY
  have HNY := Hid.mk3 hny
  clear F CY
  generalize y.getD (ny - 1) 0 = z1 at *
  generalize y.getD (ny - 2) 0 = z2 at *
  generalize y.getD (ny - 3) 0 = z3 at *
  have HN := Hid.mk3 kN
  generalize hc9 : cnt y 9 = n9 at *
  generalize hc7 : cnt y 7 = n7 at *
  generalize hc8 : cnt y 8 = n8 at *
  have HA := Hid.mk3 kA
  have HBb := Hid.mk3 kB
  have HC := Hid.mk3 kC
  have HDd := Hid.mk3 kD
  have H5 := Hid.mk3 k5
  clear kA kB kC kD k5 kN hc9 hc7 hc8 hny hnl hnx hnt
  go_upto_block 0 with (go_at_call 6; go_must (refine C8.out.mono ?_; rintro e w6 ⟨rfl, hw6⟩; obtain rfl := hw6.symm))
  clear C8
  go_cut [9, 10, 11, 84] (fun _ _ _ _ wx => wc = wx)
  case first =>
    have hk5 : kd = 1 ∨ kd = 4 ∨ kd = 2 ∨ kd = 3 ∨ (¬ (kd = 1 ∨ kd = 4) ∧ kd ≠ 2 ∧ kd ≠ 3) := by omega
    clear HN H5 HCY
    rcases hk5 with rfl | rfl | rfl | rfl | ⟨m1, m2, m3⟩
    · obtain ⟨rfl, rfl, rfl, rfl⟩ := HA.out (Or.inl rfl)
      go_wp2
      go_meet
      exact rfl
    · obtain ⟨rfl, rfl, rfl, rfl⟩ := HA.out (Or.inr rfl)
      go_wp2
      go_meet
      exact rfl
    · obtain ⟨rfl, rfl, rfl, rfl⟩ := HBb.out rfl
      go_wp2
      go_meet
      exact rfl
    · obtain ⟨rfl, rfl, rfl, h5, rfl, rfl, rfl⟩ := HC.out rfl
      have y2c := Y2.out (by omega)
      have y3c := Y3.out (by omega)
      go_wp2
      go_meet
      exact rfl
    · obtain ⟨rfl, rfl, rfl⟩ := HDd.out m1 m2 m3
      have t1 : ((kd : Int) == 1) = false := by rw [beq_eq_false_iff_ne]; omega
      have t4 : ((kd : Int) == 4) = false := by rw [beq_eq_false_iff_ne]; omega
      have t2 : ((kd : Int) == 2) = false := by rw [beq_eq_false_iff_ne]; omega
      have t3 : ((kd : Int) == 3) = false := by rw [beq_eq_false_iff_ne]; omega
      clear m1 m2 m3
      go_wp2
      go_meet
      exact rfl
  case rest =>
  obtain rfl := hcut
  clear HA HBb HC HDd Y2 Y3 y1c
  by_cases h5 : kd = 5
  · subst h5
    obtain ⟨rfl, rfl, rfl, rfl⟩ := H5.out rfl
    go_wp2
    go_ret
    exact ⟨rfl, hB⟩
  · have t5 : ((kd : Int) == 5) = false := by rw [beq_eq_false_iff_ne]; omega
    have kk := HN.out h5
    have HKK := Hid.mk3 kk
    clear kk HN H5 h5
    go_upto_region 32 with fail
    exact bus3 k o md kd ln cl nl nx nt ny b gl gx gt gy cpl cpx cpt cpy w wc ic hB bl1 bl8 bx8 bt8 by1 by8 b1 b3 y HCY.out HNY.out HKK.out.2.2.2 HKK.out.1 HKK.out.2.1 HKK.out.2.2.1 _ _ _ _ _ _ _ _ _ _ _ _ _ _ _ _ _ _ _ _ _ _ _ _ _ _ _ _ _ _ _ _ _ _ _ _ _ _ _ _ _ _ _ _ _ _ _ _ _ _ _ _ _ _ _ _ _ _ _ _ _ _ _ _ _ _ _ _ _ _ _ _ _ _ _ _ _ _ _ _ _ _ _ _ _ _ _ _ _ _ _ _ _ _ _ _ _ _ _ _ _ _ _ _ _ _ _ _ _ _ _ _ _ _ _ _ _ _ _ _ _ _ _ _ _ _ _ _ _ _ _ _ _ _ _ _ _ _ _ _ _ _ _ _ _ _ _ _ _ _ _ _ _ _ _ _ _ _ _ _ _ _ _ _ _ _ _ _ _ _ _ _ _ _ _ _ _ _ _ _ _ _ _ _ _ _ _ _ _ _ _ _ _ _ _ _ _ _ _ _ _ _ _ _ _ _ _ _ _ _ _ _ _ _ _ _ _ _ _ _ _ _ _ _ _ _ _ _ _ _ _ _ _ _ _ _ _ _ _ _ _ _ _ _ (by assumption)
end Go.Proofs.Ytjlakfbggkbmnaa
