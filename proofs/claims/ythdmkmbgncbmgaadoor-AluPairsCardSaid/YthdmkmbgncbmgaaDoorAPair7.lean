/-
  The law AluPairs from its part 7 on.
-/
import Derived.Test.YthdmkmbgncbmgaaDoorAPair
namespace Go.Proofs.YthdmkmbgncbmgaaDoor
open Go.RowKit
set_option maxRecDepth 100000 in
set_option maxHeartbeats 4000000 in
theorem pairs7 (a x y s m : Int) (F : Fl) (w wc : World) (a0 : 0 ≤ a) (a1 : a ≤ 255) (m0 : 0 ≤ m) (m1 : m ≤ 255) (b3 : Nat) (j0 j1 j2 j3 j4 j5 : Int) (hb3 : w.heap.size < b3) 
    (B1 : Blk wc w.heap.size #[.int .u8 a, .int .u8 x, .int .u8 y, .int .u8 s, .int .u8 (F.val : Nat), .int .u8 m]) (B3 : Blk wc b3 #[.int .u8 j0, .int .u8 j1, .int .u8 j2, .int .u8 j3, .int .u8 j4, .int .u8 j5]) (hw : Below w.heap.size w wc) (u4 u5 u6 u7 u8 u9 u10 u11 u12 u13 u14 u15 u16 u17 u18 u19 u20 u21 u22 u23 u24 u25 u26 u27 u28 u29 u30 u31 u32 u33 u34 u35 u36 u37 u38 u39 u40 u41 u42 u43 u44 u45 u46 u47 u48 u49 u50 u51 u52 u53 u54 u55 u56 u57 u58 u59 u60 u61 u62 u63 u64 u65 u66 u67 u68 u69 u70 u71 u72 u73 u74 u75 u76 u77 u78 u79 u80 u81 u82 u83 u84 u85 u86 u87 u88 u89 u90 u91 u92 u93 u94 u95 u96 u97 u98 u99 u100 u101 u102 u103 u104 u105 u106 u107 u108 u109 u110 u111 u112 u113 u114 u115 u116 u117 u118 u119 u120 u121 u122 u123 u124 u125 u126 u127 u128 u129 u130 u131 u132 u133 u134 u135 u136 u137 u138 u139 u140 u141 u142 u143 u144 u145 u146 u147 u148 u149 u150 u151 u152 u153 u154 u155 u156 u157 u158 u159 u160 u161 u162 u163 u164 : Value)
    (K : Act → World → Prop) (hK : ∀ a' w', (restOf 16 (Tryd.f4.body.getD .skip)).wp Tryd.prog (bodyPost Tryd.prog Tryd.f4 fun e w' => e = .returned (.bool true) ∧ Below w.heap.size w w') a' w' → K a' w') :
    (headOf (restOf 15 (Tryd.f4.body.getD .skip))).wp Tryd.prog (Exit.then K (bodyPost Tryd.prog Tryd.f4 fun e w' => e = .returned (.bool true) ∧ Below w.heap.size w w')) ⟨#[.agg #[.int .u8 a, .int .u8 x, .int .u8 y, .int .u8 s, .int .u8 (F.val : Nat), .int .u8 m], .pointer (some ⟨w.heap.size, 0, none⟩), .bool false, .pointer (some ⟨b3, 0, none⟩), u4, u5, u6, u7, u8, u9, u10, u11, u12, u13, u14, u15, u16, u17, u18, u19, u20, u21, u22, u23, u24, u25, u26, u27, u28, u29, u30, u31, u32, u33, u34, u35, u36, u37, u38, u39, u40, u41, u42, u43, u44, u45, u46, u47, u48, u49, u50, u51, u52, u53, u54, u55, u56, u57, u58, u59, u60, u61, u62, u63, u64, u65, u66, u67, u68, u69, u70, u71, u72, u73, u74, u75, u76, u77, u78, u79, u80, u81, u82, u83, u84, u85, u86, u87, u88, u89, u90, u91, u92, u93, u94, u95, u96, u97, u98, u99, u100, u101, u102, u103, u104, u105, u106, u107, u108, u109, u110, u111, u112, u113, u114, u115, u116, u117, u118, u119, u120, u121, u122, u123, u124, u125, u126, u127, u128, u129, u130, u131, u132, u133, u134, u135, u136, u137, u138, u139, u140, u141, u142, u143, u144, u145, u146, u147, u148, u149, u150, u151, u152, u153, u154, u155, u156, u157, u158, u159, u160, u161, u162, u163, u164], []⟩ wc := by
  obtain ⟨A1, X1, p1, M1, Am, Xm, pm, Mm, c1, c2, c3, e1⟩ := grp7 a x y s m F a0 a1 m0 m1
  have HC : Hid _ := And.intro c1 (And.intro c2 c3)
  clear c1 c2 c3
  have He1 : Hid _ := e1
  clear e1
  have HBD : Hid _ := And.intro (And.intro a0 a1) (And.intro m0 m1)
  clear a0 a1 m0 m1
  dsimp only
  conv => arg 2; whnf
  conv at hK => enter [a', w', 1, 2]; whnf
  have hcell1 := B1.cell
  have hfree1 := B1.free
  have hlt1 := B1.lt
  have hcell3 := B3.cell
  have hfree3 := B3.free
  have hlt3 := B3.lt
  go_cut [] (fun wx => Blk wx w.heap.size #[.int .u8 a, .int .u8 x, .int .u8 y, .int .u8 s, .int .u8 (F.val : Nat), .int .u8 m] ∧ Blk wx b3 #[.int .u8 A1, .int .u8 X1, .int .u8 y, .int .u8 s, .int .u8 p1, .int .u8 M1] ∧ Below w.heap.size w wx)
  case first =>
    go_wp2_with (go_at_call 11; refine (HC.out.1 _).mono ?_; rintro e w1 ⟨rfl, hb1⟩; have k1 := B1.below hlt1 hb1; have k3 := B3.below hlt3 hb1; have hcell5 := k3.cell; have hfree5 := k3.free)
    go_meet
    have kw := hw.trans (hb1.mono hw.size)
    exact ⟨k1.below (B := b3) hb3 (below_set6 (Below.refl _ _) (Nat.le_refl _) _ _ _ _ _ _), k3.set6 _ _ _ _ _ _, below_set6 kw (by omega) _ _ _ _ _ _⟩
  case rest =>
  clear B1 B3 hw hcell1 hfree1 hlt1 hcell3 hfree3 hlt3
  obtain ⟨B1, B3, hw⟩ := hcut
  have hcell1 := B1.cell
  have hfree1 := B1.free
  have hlt1 := B1.lt
  have hcell3 := B3.cell
  have hfree3 := B3.free
  have hlt3 := B3.lt
  go_upto_region 23 with fail
  obtain ⟨W9, hW9⟩ : ∃ x, x = wc := ⟨wc, rfl⟩
  subst hW9
  go_cut [2] (fun q wx => q = .bool true ∧ Below W9.heap.size W9 wx)
  case first =>
    have start : PS W9 w.heap.size b3 a x y s (F.val : Nat) m A1 X1 y s p1 M1 W9.drew := ⟨B1.cell 0, B1.cell 1, B1.cell 2, B1.cell 3, B1.cell 4, B1.cell 5, B3.cell 0, B3.cell 1, B3.cell 2, B3.cell 3, B3.cell 4, B3.cell 5, (Below.refl _ _).drew⟩
    clear hcell1 hfree1 hcell3 hfree3
    have e1 := He1.out
    go_region_held3 (fun v => v.cell? ⟨w.heap.size, 0, none⟩ = some (.int .u8 a) ∧ v.cell? ⟨w.heap.size, 1, none⟩ = some (.int .u8 x) ∧ v.cell? ⟨w.heap.size, 2, none⟩ = some (.int .u8 y) ∧ v.cell? ⟨w.heap.size, 3, none⟩ = some (.int .u8 s) ∧ v.cell? ⟨w.heap.size, 4, none⟩ = some (.int .u8 (F.val : Nat)) ∧ v.cell? ⟨w.heap.size, 5, none⟩ = some (.int .u8 m) ∧ v.cell? ⟨b3, 0, none⟩ = some (.int .u8 A1) ∧ v.cell? ⟨b3, 1, none⟩ = some (.int .u8 X1) ∧ v.cell? ⟨b3, 2, none⟩ = some (.int .u8 y) ∧ v.cell? ⟨b3, 3, none⟩ = some (.int .u8 s) ∧ v.cell? ⟨b3, 4, none⟩ = some (.int .u8 p1) ∧ v.cell? ⟨b3, 5, none⟩ = some (.int .u8 M1) ∧ Below W9.heap.size W9 v)
      (first | with_reducible exact start | with_reducible exact PS.on (by assumption) hbw)
      (first
        | (go_at_call_of 11 (Value.int .i64 1); refine (HC.out.2.1 _).mono ?_; rintro e w1 ⟨rfl, hbw⟩; have hb1 := hbw)
        | (go_at_call_of 12 (Value.int .i64 32); refine (HC.out.2.2 _).mono ?_; rintro e w2 ⟨rfl, hbw⟩; have hb2 := hbw))
    all_goals
      go_wp2
      go_meet
      exact ⟨rfl, ((Below.refl _ _).drew.trans hb1).trans (hb2.mono hb1.size)⟩
  case rest =>
  obtain ⟨rfl, hq⟩ := hcut
  replace B1 := B1.below hlt1 hq
  replace B3 := B3.below hlt3 hq
  replace hw := hw.trans (hq.mono hw.size)
  clear hq hcell1 hfree1 hlt1 hcell3 hfree3 hlt3 HC He1
  go_wp2
  go_ret
  exact ⟨rfl, hw⟩
end Go.Proofs.YthdmkmbgncbmgaaDoor
