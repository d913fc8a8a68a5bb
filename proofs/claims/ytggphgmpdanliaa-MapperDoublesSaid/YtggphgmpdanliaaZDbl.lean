/-
  The law MapperDoubles returns true.
-/
import Derived.Test.YtggphgmpdanliaaZOut
import Derived.Test.YtggphgmpdanliaaZLawB
import Derived.Test.YtggphgmpdanliaaYArg2
import Derived.Test.YtggphgmpdanliaaYCel
set_option linter.unusedSimpArgs false
set_option linter.unusedVariables false
namespace Go.Proofs.Ytggphgmpdanliaa
open Go.RowKit Classical
set_option maxRecDepth 100000 in
set_option maxHeartbeats 1000000 in
theorem doubles_law (w : World) (mp sub ram nv pr ch : Int) (vert four : Bool) (hpr : -9223372036854775808 ≤ pr ∧ pr ≤ 9223372036854775807) (hch : -9223372036854775808 ≤ ch ∧ ch ≤ 9223372036854775807) (a : Option Addr) (len cap : Nat) (q : Nat → Sp) (sb so : Nat) (hlen : len ≤ 9223372036854775807) (hS : Scr w a len q sb so) (more : Int) (m0 : 0 ≤ more) (m1 : more ≤ 255) :
    Calls Try.prog 3 #[.agg #[.int .i64 mp, .int .i64 sub, .int .i64 ram, .int .i64 nv, .int .i64 pr, .int .i64 ch, .bool vert, .bool four], .slice a len cap, .int .u8 more] w fun e w' => e = .returned (.bool true) ∧ Below w.heap.size w w' := by
  have MA : Hid _ := fun (W : World) => made_any W mp sub ram nv pr ch vert four hpr hch
  have CR : Hid _ := fun (W : World) => carried_any W mp sub ram nv pr ch vert four hpr hch
  have DL : Hid ((newD mp sub ram nv vert four (pr % 1081344).toNat (ch % 540672).toNat).r.length = 8) := newD_len ..
  have CV : Hid (carB mp sub (pr % 1081344).toNat (ch % 540672).toNat = true → (newD mp sub ram nv vert four (pr % 1081344).toNat (ch % 540672).toNat).Ok ∧ IsNew (newD mp sub ram nv vert four (pr % 1081344).toNat (ch % 540672).toNat) mp sub ram nv vert four (pr % 1081344).toNat (ch % 540672).toNat ∧ carB mp sub (pr % 1081344).toNat (ch % 540672).toNat = true) := fun h => ⟨(newD_car ram nv vert four h).1, (newD_car ram nv vert four h).2, h⟩
  obtain ⟨D, hD⟩ : ∃ D, newD mp sub ram nv vert four (pr % 1081344).toNat (ch % 540672).toNat = D := ⟨_, rfl⟩
  rw [hD] at MA DL CV
  obtain ⟨cv, hcv⟩ : ∃ x, carB mp sub (pr % 1081344).toNat (ch % 540672).toNat = x := ⟨_, rfl⟩
  rw [hcv] at CR CV
  clear hD hcv
  go_enter Try.func3, Try.ntmps3
  go_upto_region 1 with fail
  have s0 : G w [(w.heap.size, #[.int .i64 mp, .int .i64 sub, .int .i64 ram, .int .i64 nv, .int .i64 pr, .int .i64 ch, .bool vert, .bool four], 23)] (w.alloc (.cells #[.int .i64 mp, .int .i64 sub, .int .i64 ram, .int .i64 nv, .int .i64 pr, .int .i64 ch, .bool vert, .bool four] 23)) := G.start w _ _
  generalize w.alloc (.cells #[.int .i64 mp, .int .i64 sub, .int .i64 ram, .int .i64 nv, .int .i64 pr, .int .i64 ch, .bool vert, .bool four] 23) = W0 at *
  go_wp2_with (refine wpList_load_mid rfl 23 _ rfl (w.heap.size) 0 rfl (#[.int .i64 mp, .int .i64 sub, .int .i64 ram, .int .i64 nv, .int .i64 pr, .int .i64 ch, .bool vert, .bool four] : Array Value).toList _ (s0.blk (w.heap.size) #[.int .i64 mp, .int .i64 sub, .int .i64 ram, .int .i64 nv, .int .i64 pr, .int .i64 ch, .bool vert, .bool four] 23 (by simp)).range Try.underlying23 rfl (by kernel_rfl) ?_)
  refine (MA.out _).mono ?_
  rintro e W2 ⟨rfl, hbq⟩
  replace s0 := s0.on hbq
  clear hbq MA
  have hlm : w.heap.size < W2.heap.size := (s0.blk (w.heap.size) #[.int .i64 mp, .int .i64 sub, .int .i64 ram, .int .i64 nv, .int .i64 pr, .int .i64 ch, .bool vert, .bool four] 23 (by simp)).lt
  go_upto_region 2 with (refine wpList_store_mid rfl 28 _ _ rfl W2.heap.size 0 (D).cells rfl rfl (newB_there W2 (D) DL.out) (infoB' (D) DL.out) (isB (D) DL.out).one ?_)
  change Code.wp _ _ _ _ ((W2.alloc (.cells Z31 28)).setCells W2.heap.size 0 D.cells.toList)
  replace s0 := G.newB s0 (d := D) DL.out
  generalize (W2.alloc (.cells Z31 28)).setCells W2.heap.size 0 D.cells.toList = W3 at *
  generalize W2.heap.size = m at *
  have c0 : W3.cell? ⟨w.heap.size, 0, none⟩ = some (.int .i64 mp) := (s0.blk (w.heap.size) #[.int .i64 mp, .int .i64 sub, .int .i64 ram, .int .i64 nv, .int .i64 pr, .int .i64 ch, .bool vert, .bool four] 23 (by simp)).cell 0
  have c1 : W3.cell? ⟨w.heap.size, 1, none⟩ = some (.int .i64 sub) := (s0.blk (w.heap.size) #[.int .i64 mp, .int .i64 sub, .int .i64 ram, .int .i64 nv, .int .i64 pr, .int .i64 ch, .bool vert, .bool four] 23 (by simp)).cell 1
  have c2 : W3.cell? ⟨w.heap.size, 2, none⟩ = some (.int .i64 ram) := (s0.blk (w.heap.size) #[.int .i64 mp, .int .i64 sub, .int .i64 ram, .int .i64 nv, .int .i64 pr, .int .i64 ch, .bool vert, .bool four] 23 (by simp)).cell 2
  have c3 : W3.cell? ⟨w.heap.size, 3, none⟩ = some (.int .i64 nv) := (s0.blk (w.heap.size) #[.int .i64 mp, .int .i64 sub, .int .i64 ram, .int .i64 nv, .int .i64 pr, .int .i64 ch, .bool vert, .bool four] 23 (by simp)).cell 3
  have c4 : W3.cell? ⟨w.heap.size, 4, none⟩ = some (.int .i64 pr) := (s0.blk (w.heap.size) #[.int .i64 mp, .int .i64 sub, .int .i64 ram, .int .i64 nv, .int .i64 pr, .int .i64 ch, .bool vert, .bool four] 23 (by simp)).cell 4
  have c5 : W3.cell? ⟨w.heap.size, 5, none⟩ = some (.int .i64 ch) := (s0.blk (w.heap.size) #[.int .i64 mp, .int .i64 sub, .int .i64 ram, .int .i64 nv, .int .i64 pr, .int .i64 ch, .bool vert, .bool four] 23 (by simp)).cell 5
  have c6 : W3.cell? ⟨w.heap.size, 6, none⟩ = some (.bool vert) := (s0.blk (w.heap.size) #[.int .i64 mp, .int .i64 sub, .int .i64 ram, .int .i64 nv, .int .i64 pr, .int .i64 ch, .bool vert, .bool four] 23 (by simp)).cell 6
  have c7 : W3.cell? ⟨w.heap.size, 7, none⟩ = some (.bool four) := (s0.blk (w.heap.size) #[.int .i64 mp, .int .i64 sub, .int .i64 ram, .int .i64 nv, .int .i64 pr, .int .i64 ch, .bool vert, .bool four] 23 (by simp)).cell 7
  go_wp2_with fail
  refine (CR.out _).mono ?_
  rintro e W4 ⟨rfl, hbq⟩
  replace s0 := s0.on hbq
  clear hbq CR c0 c1 c2 c3 c4 c5 c6 c7
  cases cv
  · clear CV
    go_wp2
    go_ret
    exact ⟨rfl, s0.2⟩
  obtain ⟨OD, ND9, -⟩ := CV.out rfl
  clear CV
  have c0 : W4.cell? ⟨w.heap.size, 0, none⟩ = some (.int .i64 mp) := (s0.blk (w.heap.size) #[.int .i64 mp, .int .i64 sub, .int .i64 ram, .int .i64 nv, .int .i64 pr, .int .i64 ch, .bool vert, .bool four] 23 (by simp)).cell 0
  by_cases h4 : mp = 4
  · have h4b : (mp == 4) = true := by simpa using h4
    clear h4 OD ND9
    go_wp2
    go_ret
    exact ⟨rfl, s0.2⟩
  have h4b : (mp == 4) = false := by simpa using h4
  go_upto_region 4 with fail
  have KD : Hid (D.kind = mp) := ND9.kind
  have SD : Hid (D.sub = sub) := ND9.sub
  clear ND9 c0
  go_wp2
  go_loopw [9, 10] (fun x i wr => ∃ (k : Nat) (b : Bd) (at_ : Int), k ≤ len ∧ i = .int .i64 k ∧ x = .int .i64 at_ ∧ 0 ≤ at_ ∧ at_ ≤ 258 * k ∧ (k : Int) ≤ 1099511627776 ∧ b.Ok ∧ b.kind = mp ∧ b.sub = sub ∧ G w [(m, b.cells, 28), (w.heap.size, #[.int .i64 mp, .int .i64 sub, .int .i64 ram, .int .i64 nv, .int .i64 pr, .int .i64 ch, .bool vert, .bool four], 23)] wr) (fun _ i _ => len - (intOf i).toNat)
  case atStart => exact ⟨0, D, 0, by omega, rfl, rfl, by omega, by omega, by omega, OD, KD.out, SD.out, s0⟩
  case round =>
    clear s0 DL OD KD SD
    obtain ⟨k, b, at_, hk, rfl, rfl, t0, t1, kb, ob, kdb, sdb, s0⟩ := hrel
    by_cases hlt : k < len ∧ (k : Int) < 1099511627776
    · have hl2 := hlt.2
      have hlt := hlt.1
      have hd9 : decide ((k : Int) < 1099511627776) = true := decide_eq_true hl2
      obtain ⟨rfl, hsb⟩ := hS.at_ (by omega)
      have R : Hid _ := G.range s0 hsb (hS.cells k hlt)
      have sok := hS.ok k hlt
      have hSH : Hid (Scr _ _ _ _ _ _) := hS
      clear hS
      generalize q k = s at *
      have R2 : Hid (wr.rangeAt sb (so + k * 6) [.int .i64 s.k, .int .u16 s.a, .int .u8 s.v, .int .u8 s.u, .int .i64 s.c, .int .i64 s.n]) := R.out
      clear R
      go_upto_region 9 with (refine wpList_load_mid rfl 34 _ rfl sb (so + k * 6) rfl [.int .i64 s.k, .int .u16 s.a, .int .u8 s.v, .int .u8 s.u, .int .i64 s.c, .int .i64 s.n] _ R2.out Try.underlying34 rfl (by kernel_rfl) ?_)
      have hnb : m < wr.heap.size := (s0.blk m b.cells 28 (by simp)).lt
      replace s0 := s0.new s.cells 34
      change Code.wp _ _ _ _ (wr.alloc (.cells s.cells 34))
      generalize wr.alloc (.cells s.cells 34) = W5 at *
      generalize wr.heap.size = nb at *
      clear R2
      obtain ⟨A, hA⟩ : ∃ A, bits .or .u16 s.a 32768 = A := ⟨_, rfl⟩
      have AB := orHigh sok.a.1 sok.a.2
      rw [hA] at AB
      obtain ⟨A0, A1⟩ := AB
      have f1 : W5.frozen? ⟨nb, 1, none⟩ = false := (s0.blk nb s.cells 34 (by simp)).free 1
      have g1 : W5.cell? ⟨nb, 1, none⟩ = some (.int .u16 s.a) := (s0.blk nb s.cells 34 (by simp)).cell 1
      go_upto_region 10 with fail
      replace s0 := s0.step (by omega) (by intro p hp; simp only [List.mem_cons, List.not_mem_nil, or_false] at hp; rcases hp with rfl | rfl <;> (dsimp only; omega)) A
      clear g1 f1
      generalize W5.setCell ⟨nb, 1, none⟩ (.int .u16 A) = W6 at *
      have an := and255i s.n
      have an0 : 0 ≤ s.n % 256 := by omega
      have an1 : s.n % 256 ≤ 255 := by omega
      generalize s.n % 256 = nn at *
      have g1 : W6.cell? ⟨nb, 1, none⟩ = some (.int .u16 A) := (s0.blk nb ({ s with a := A } : Sp).cells 34 (by simp)).cell 1
      have g2 : W6.cell? ⟨nb, 2, none⟩ = some (.int .u8 s.v) := (s0.blk nb ({ s with a := A } : Sp).cells 34 (by simp)).cell 2
      have g3 : W6.cell? ⟨nb, 3, none⟩ = some (.int .u8 s.u) := (s0.blk nb ({ s with a := A } : Sp).cells 34 (by simp)).cell 3
      have g5 : W6.cell? ⟨nb, 5, none⟩ = some (.int .i64 s.n) := (s0.blk nb ({ s with a := A } : Sp).cells 34 (by simp)).cell 5
      go_upto_region 11 with fail
      obtain ⟨t2, ht2⟩ : ∃ x, at_ + 3 + nn = x := ⟨_, rfl⟩
      have u0 : 0 ≤ t2 := by omega
      have u1 : t2 ≤ 258 * (k + 1) := by omega
      rw [ht2]
      clear an ht2
      have c1 : Hid _ := fun (W : World) => write_all W b A s.v s.u t2 ob.wf A1 sok.v.1 sok.v.2 sok.u.1 sok.u.2 (by omega)
      have E1 : wrA b A s.v s.u t2 = wrB b A s.v s.u t2 := wrA_in ob s.v s.u A0 u0
      have o1 := wrB_ok ob A s.v s.u t2 sok.v.1 sok.v.2 sok.u.1 sok.u.2 u0 (by omega)
      have x1 := wrB_fix b A s.v s.u t2
      have z0 := fun h => wrB_0 (b := b) h A s.v s.u t2
      have z1 := fun h => wrB_last (b := b) h A s.v s.u t2
      rw [E1] at c1
      generalize wrB b A s.v s.u t2 = d1 at *
      have c2 : Hid _ := fun (W : World) => write_all W d1 A more s.u (t2 + 1) o1.wf A1 m0 m1 sok.u.1 sok.u.2 (by omega)
      have E2 : wrA d1 A more s.u (t2 + 1) = wrB d1 A more s.u (t2 + 1) := wrA_in o1 more s.u A0 (by omega)
      have o2 := wrB_ok o1 A more s.u (t2 + 1) m0 m1 sok.u.1 sok.u.2 (by omega) (by omega)
      have x2 := wrB_fix d1 A more s.u (t2 + 1)
      have k1d : d1.kind = mp := x1.1.trans kdb
      have s1d : d1.sub = sub := x1.2.1.trans sdb
      have y0 : mp = 0 → wrB d1 A more s.u (t2 + 1) = d1 := fun h => wrB_0 (k1d.trans h) ..
      have y1 : mp = 1 → wrB d1 A more s.u (t2 + 1) = { d1 with last := t2 + 1 } := fun h => wrB_deaf (k1d.trans h) _ _ _ _ (by rw [z1 (kdb.trans h)]; omega)
      have yL : (mp = 2 ∨ mp = 3 ∨ mp = 7) → (wrB d1 A more s.u (t2 + 1)).latch = if sub = 2 then bits .and .u8 more s.u else more := fun h => by rw [← s1d]; exact wrB_latch (by rw [k1d]; exact h) ..
      rw [E2] at c2
      generalize wrB d1 A more s.u (t2 + 1) = d2 at *
      have hkd : mp = 0 ∨ mp = 1 ∨ (mp = 2 ∨ mp = 3 ∨ mp = 7) := by have := ob.kd; omega
      have BL : Hid _ := ob.wf.rlen
      have L1 : Hid _ := o1.wf.rlen
      have L2 : Hid _ := o2.wf.rlen
      have O2 : Hid _ := o2
      have K2 : Hid (d2.kind = mp) := x2.1.trans k1d
      have S2 : Hid (d2.sub = sub) := x2.2.1.trans s1d
      have Y0 : Hid _ := y0
      have Y1 : Hid _ := y1
      have YL : Hid _ := yL
      have HKD : Hid _ := hkd
      clear E1 E2 o1 o2 x1 x2 z0 z1 y0 y1 yL ob kdb sdb k1d s1d hkd
      have ldm : Hid _ := (s0.blk m b.cells 28 (by simp)).range
      go_wp2_with (refine wpList_load_mid rfl 28 _ rfl m 0 rfl b.cells.toList _ ldm.out Try.underlying28 rfl (by rw [Array.length_toList]; exact infoB' _ BL.out) ?_)
      refine (c1.out _).mono ?_
      rintro e W7 ⟨rfl, hbx⟩
      replace s0 := s0.on hbx
      clear hbx ldm g1 g2 g3 g5
      go_upto_region 12 with (refine wpList_store_mid rfl 28 _ _ rfl W7.heap.size 0 (d1).cells rfl rfl (newB_there W7 (d1) L1.out) (infoB' (d1) L1.out) (isB (d1) L1.out).one ?_)
      change Code.wp _ _ _ _ ((W7.alloc (.cells Z31 28)).setCells W7.heap.size 0 d1.cells.toList)
      have hmo : nb < W7.heap.size := (s0.blk nb ({ s with a := A } : Sp).cells 34 (by simp)).lt
      replace s0 := G.newB s0 (d := d1) L1.out
      generalize (W7.alloc (.cells Z31 28)).setCells W7.heap.size 0 d1.cells.toList = W8 at *
      generalize W7.heap.size = mo at *
      have g1 : W8.cell? ⟨nb, 1, none⟩ = some (.int .u16 A) := (s0.blk nb ({ s with a := A } : Sp).cells 34 (by simp)).cell 1
      have g2 : W8.cell? ⟨nb, 2, none⟩ = some (.int .u8 s.v) := (s0.blk nb ({ s with a := A } : Sp).cells 34 (by simp)).cell 2
      have g3 : W8.cell? ⟨nb, 3, none⟩ = some (.int .u8 s.u) := (s0.blk nb ({ s with a := A } : Sp).cells 34 (by simp)).cell 3
      have g5 : W8.cell? ⟨nb, 5, none⟩ = some (.int .i64 s.n) := (s0.blk nb ({ s with a := A } : Sp).cells 34 (by simp)).cell 5
      have ldm : Hid _ := (s0.blk mo d1.cells 28 (by simp)).range
      have hu1 : t2 + 1 ≤ 9223372036854775807 := by omega
      go_wp2_with (refine wpList_load_mid rfl 28 _ rfl mo 0 rfl d1.cells.toList _ ldm.out Try.underlying28 rfl (by rw [Array.length_toList]; exact infoB' _ L1.out) ?_)
      refine (c2.out _).mono ?_
      rintro e W9 ⟨rfl, hbx⟩
      replace s0 := s0.on hbx
      clear hbx ldm g1 g2 g3 g5 c1 c2
      have s1 : G w [(m, b.cells, 28), (mo, d1.cells, 28), (nb, ({ s with a := A } : Sp).cells, 34), (w.heap.size, #[.int .i64 mp, .int .i64 sub, .int .i64 ram, .int .i64 nv, .int .i64 pr, .int .i64 ch, .bool vert, .bool four], 23)] W9 := s0.sub (by simp)
      have s3 := s1.setB BL.out L2.out (by omega) (by intro p hp; simp only [List.mem_cons, List.not_mem_nil, or_false] at hp; rcases hp with rfl | rfl | rfl <;> (dsimp only; omega))
      have stm : Hid _ := setB_there (s1.blk m b.cells 28 (by simp)) BL.out L2.out
      clear s1 s0
      go_upto_region 13 with (refine wpList_store_mid rfl 28 _ _ rfl m 0 d2.cells rfl rfl stm.out (infoB' _ L2.out) (isB _ L2.out).one ?_)
      have s0 := s3
      clear s3 stm
      generalize W9.setCells m 0 d2.cells.toList = Wa at *
      have c0 : Wa.cell? ⟨w.heap.size, 0, none⟩ = some (.int .i64 mp) := (s0.blk (w.heap.size) #[.int .i64 mp, .int .i64 sub, .int .i64 ram, .int .i64 nv, .int .i64 pr, .int .i64 ch, .bool vert, .bool four] 23 (by simp)).cell 0
      have hk9 : (k : Int) + 1 ≤ 9223372036854775807 := by omega
      have hkd := HKD.out
      clear HKD
      rcases hkd with hm | hm | hm
      · have e : d2 = d1 := Y0.out hm
        rw [e] at s0 O2 K2 S2
        have b0 : (mp == 0) = true := by simpa using hm
        have qn := fun (W : World) => (show (binOp .neq 28 (.agg (d1).cells) (.agg (d1).cells)).run Try.prog W = .ok (.bool false) W by rw [Try.neqB W (d1) (d1) L1.out L1.out]; simp)
        clear hm e Y0 Y1 YL
        go_wp2_with (first
          | (refine wpList_load_mid rfl 28 _ rfl m 0 rfl (d1).cells.toList _ (s0.blk m (d1).cells 28 (by simp)).range Try.underlying28 rfl (by rw [Array.length_toList]; exact infoB' _ L1.out) ?_)
          | (refine wpList_load_mid rfl 28 _ rfl mo 0 rfl (d1).cells.toList _ (s0.blk mo (d1).cells 28 (by simp)).range Try.underlying28 rfl (by rw [Array.length_toList]; exact infoB' _ L1.out) ?_))
        go_roundw
        case rel => exact ⟨k + 1, d1, t2, by omega, by go_num, rfl, by omega, by omega, by omega, O2.out, K2.out, S2.out, s0.sub (by simp)⟩
        case measure => simp [intOf]; omega
      · have e : d2 = { d1 with last := t2 + 1 } := Y1.out hm
        have b0 : (mp == 0) = false := by rw [hm]; decide
        have b1 : (mp == 1) = true := by simpa using hm
        have f12 : Wa.frozen? ⟨mo, 12, none⟩ = false := (s0.blk mo d1.cells 28 (by simp)).free 12
        have g12 : Wa.cell? ⟨mo, 12, none⟩ = some (.int .i64 d1.last) := ((s0.blk mo d1.cells 28 (by simp)).cell 12).trans (isB d1 L1.out).h12
        have s5 : G w [(mo, d1.cells, 28), (m, d2.cells, 28), (nb, ({ s with a := A } : Sp).cells, 34), (w.heap.size, #[.int .i64 mp, .int .i64 sub, .int .i64 ram, .int .i64 nv, .int .i64 pr, .int .i64 ch, .bool vert, .bool four], 23)] Wa := s0.sub (by simp)
        have s6 := s5.cellB (d := d2) (by omega) (by intro p hp; simp only [List.mem_cons, List.not_mem_nil, or_false] at hp; rcases hp with rfl | rfl | rfl <;> (dsimp only; omega)) 12 (.int .i64 (t2 + 1)) (by rw [e]; exact cellsW_12 L1.out _)
        clear hm e Y0 Y1 YL s5
        go_upto_region 24 with fail
        clear s0 f12 g12 c0
        have s0 := s6
        clear s6
        generalize Wa.setCell ⟨mo, 12, none⟩ (.int .i64 (t2 + 1)) = Wb at *
        have qn := fun (W : World) => (show (binOp .neq 28 (.agg (d2).cells) (.agg (d2).cells)).run Try.prog W = .ok (.bool false) W by rw [Try.neqB W (d2) (d2) L2.out L2.out]; simp)
        go_wp2_with (first
          | (refine wpList_load_mid rfl 28 _ rfl m 0 rfl (d2).cells.toList _ (s0.blk m (d2).cells 28 (by simp)).range Try.underlying28 rfl (by rw [Array.length_toList]; exact infoB' _ L2.out) ?_)
          | (refine wpList_load_mid rfl 28 _ rfl mo 0 rfl (d2).cells.toList _ (s0.blk mo (d2).cells 28 (by simp)).range Try.underlying28 rfl (by rw [Array.length_toList]; exact infoB' _ L2.out) ?_))
        go_roundw
        case rel => exact ⟨k + 1, d2, t2, by omega, by go_num, rfl, by omega, by omega, by omega, O2.out, K2.out, S2.out, s0.sub (by simp)⟩
        case measure => simp [intOf]; omega
      · have b0 : (mp == 0) = false := by simp only [beq_eq_false_iff_ne]; omega
        have b1 : (mp == 1) = false := by simp only [beq_eq_false_iff_ne]; omega
        have el := YL.out hm
        have c1 : Wa.cell? ⟨w.heap.size, 1, none⟩ = some (.int .i64 sub) := (s0.blk (w.heap.size) #[.int .i64 mp, .int .i64 sub, .int .i64 ram, .int .i64 nv, .int .i64 pr, .int .i64 ch, .bool vert, .bool four] 23 (by simp)).cell 1
        have g3 : Wa.cell? ⟨nb, 3, none⟩ = some (.int .u8 s.u) := (s0.blk nb ({ s with a := A } : Sp).cells 34 (by simp)).cell 3
        have g13 : Wa.cell? ⟨m, 13, none⟩ = some (.int .u8 d2.latch) := ((s0.blk m d2.cells 28 (by simp)).cell 13).trans (isB d2 L2.out).h13
        have sH : Hid (G _ _ _) := s0
        clear s0 hm Y0 Y1 YL
        by_cases h2 : sub = 2
        · rw [if_pos h2] at el
          rw [el] at g13
          have h2b : (sub == 2) = true := by simpa using h2
          clear el h2
          go_wp2
          go_roundw
          case rel => exact ⟨k + 1, d2, t2, by omega, by go_num, rfl, by omega, by omega, by omega, O2.out, K2.out, S2.out, G.sub sH.out (by simp)⟩
          case measure => simp [intOf]; omega
        · rw [if_neg h2] at el
          rw [el] at g13
          have h2b : (sub == 2) = false := by simpa using h2
          clear el h2
          go_wp2
          go_roundw
          case rel => exact ⟨k + 1, d2, t2, by omega, by go_num, rfl, by omega, by omega, by omega, O2.out, K2.out, S2.out, G.sub sH.out (by simp)⟩
          case measure => simp [intOf]; omega
    · have hcase : k = len ∨ (k < len ∧ (k : Int) = 1099511627776) := by omega
      rcases hcase with rfl | ⟨h1, h2⟩
      · go_wp2
        go_ret
        exact ⟨rfl, s0.2⟩
      · have hd8 : decide ((k : Int) < len) = true := decide_eq_true (by omega)
        have hd9 : decide ((k : Int) < 1099511627776) = false := decide_eq_false (by omega)
        clear h2
        go_wp2
        go_ret
        exact ⟨rfl, s0.2⟩
end Go.Proofs.Ytggphgmpdanliaa
