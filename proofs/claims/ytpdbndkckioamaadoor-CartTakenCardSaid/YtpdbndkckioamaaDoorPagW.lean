/-
  What an image says: its header, its error and the place, its cartridge; plain facts, no conditions.
  What the header's format, reserved and sizes answer, and how a reader gives up; conditions: the bytes are bytes.
  What the header's sizes answers; conditions: the bytes are bytes.
-/
import Derived.Test.YtpdbndkckioamaaDoorPagC
import Derived.BigQuiet
import Derived.Deep.Heap
set_option linter.unusedSimpArgs false
set_option linter.unusedVariables false
namespace Go.Proofs.YtpdbndkckioamaaDoor
open Go.RowKit
/-- The sixteen bytes of a header. -/
structure Hq where
  b0 : Nat
  b1 : Nat
  b2 : Nat
  b3 : Nat
  b4 : Nat
  b5 : Nat
  b6 : Nat
  b7 : Nat
  b8 : Nat
  b9 : Nat
  b10 : Nat
  b11 : Nat
  b12 : Nat
  b13 : Nat
  b14 : Nat
  b15 : Nat
namespace Hq
def l (h : Hq) : List Nat := [h.b0, h.b1, h.b2, h.b3, h.b4, h.b5, h.b6, h.b7, h.b8, h.b9, h.b10, h.b11, h.b12, h.b13, h.b14, h.b15]
/-- Every one is a byte. -/
structure Ok (h : Hq) : Prop where
  k0 : h.b0 < 256
  k1 : h.b1 < 256
  k2 : h.b2 < 256
  k3 : h.b3 < 256
  k4 : h.b4 < 256
  k5 : h.b5 < 256
  k6 : h.b6 < 256
  k7 : h.b7 < 256
  k8 : h.b8 < 256
  k9 : h.b9 < 256
  k10 : h.b10 < 256
  k11 : h.b11 < 256
  k12 : h.b12 < 256
  k13 : h.b13 < 256
  k14 : h.b14 < 256
  k15 : h.b15 < 256
/-- The format. -/
def f (h : Hq) : Nat := if h.b7 / 4 % 4 = 2 then 2 else if h.b7 / 4 % 4 = 0 ∧ h.b12 = 0 ∧ h.b13 = 0 ∧ h.b14 = 0 ∧ h.b15 = 0 then 1 else 0
def kdM (k : Nat) : Nat := if k = 1 then 0 else if k = 3 then 240 else 255
/-- The bits that must be clear. -/
def rs (h : Hq) : List Nat :=
  if h.f = 1 then [0, 0, 0, 0, 0, 0, 0, if h.b7 % 4 = 3 then 3 else 0, 0, 254, 255, 255, 0, 0, 0, 0]
  else if h.f = 2 then [0, 0, 0, 0, 0, 0, 0, 0, 0, 0, 0, 0, 252, kdM (h.b7 % 4), 252, 192]
  else [0, 0, 0, 0, 0, 0, 0, 0, 0, 0, 0, 0, 0, 0, 0, 0]
/-- The first place, from i on, with a barred bit; 0: none. -/
def fb (h : Hq) : Nat → Nat → Nat
  | 0, _ => 0
  | k + 1, i => if bits BinOp.and IntKind.u8 ((h.l.getD i 0 : Nat) : Int) ((h.rs.getD i 0 : Nat) : Int) = 0 then fb h k (i + 1) else i
def bad (h : Hq) : Nat := fb h 16 0
/-- A number of bytes. -/
def sz (low high unit : Nat) : Nat := if high = 15 then (2 * (low % 4) + 1) * 2 ^ (min (low / 4) 32) else (high * 256 + low) * unit
def prg (h : Hq) : Nat := sz h.b4 (if h.f = 2 then h.b9 % 16 else 0) 16384
def chr (h : Hq) : Nat := sz h.b5 (if h.f = 2 then h.b9 / 16 else 0) 8192
def tr (h : Hq) : Nat := if h.b6 / 4 % 2 = 1 then 512 else 0
def wu (h : Hq) : Nat := if h.f = 1 then max h.b8 1 else 1
def bat (h : Hq) : Bool := decide (h.b6 / 2 % 2 = 1)
/-- The cartridge that the header tells. -/
def cf (h : Hq) (cr : Int) (nt np nq nr : Nat) : CF :=
  ⟨(h.f : Int), ((if h.f = 2 then h.b6 / 16 + h.b7 / 16 * 16 + h.b8 % 16 * 256 else if h.f = 1 then h.b6 / 16 + h.b7 / 16 * 16 else h.b6 / 16 : Nat) : Int), ((if h.f = 2 then h.b8 / 16 else 0 : Nat) : Int),
   ((if h.f = 0 then 0 else h.b7 % 4 : Nat) : Int), ((if h.f = 2 then h.b13 else 0 : Nat) : Int), ((if h.f = 2 then h.b12 % 4 else if h.f = 1 then h.b9 % 2 else 0 : Nat) : Int), ((if h.f = 2 then h.b15 % 64 else 0 : Nat) : Int), ((if h.f = 2 then h.b14 % 4 else 0 : Nat) : Int),
   ((if h.f = 2 then rz (h.b10 % 16) else if h.bat then 0 else h.wu * 8192 : Nat) : Int), ((if h.f = 2 then rz (h.b10 / 16) else if h.bat then h.wu * 8192 else 0 : Nat) : Int), cr, ((if h.f = 2 then rz (h.b11 / 16) else 0 : Nat) : Int),
   decide (h.b6 % 2 = 1), decide (h.b6 / 8 % 2 = 1), h.bat, nt, np, nq, nr⟩
def cr0 (h : Hq) : Int := ((if h.f = 2 then rz (h.b11 % 16) else 0 : Nat) : Int)
def cr (h : Hq) : Int := if h.f = 2 then ((rz (h.b11 % 16) : Nat) : Int) else if h.chr = 0 then 8192 else 0
def fin (h : Hq) : Nat := 16 + h.tr + h.prg + h.chr
def least (h : Hq) : Nat := if h.f = 1 ∧ h.b7 % 4 = 2 then 8192 else if h.f = 2 then h.b14 % 4 else 0
/-- What is wrong behind the header's beginning: the error (0: none) and its place. -/
def e (h : Hq) (n : Nat) : Nat × Nat :=
  if h.bad ≠ 0 then (12, h.bad)
  else if h.prg = 0 ∨ 1048576 < h.prg then (13, 4)
  else if 524288 < h.chr then (14, 5)
  else if n < h.fin then (11, n)
  else if h.f = 2 ∧ h.b14 % 4 = 0 ∧ h.fin < n then (15, h.fin)
  else if n - h.fin < h.least then (11, n)
  else (0, 0)
end Hq
/-- What is wrong with the first bytes. -/
def frontE (L : List Nat) (n : Nat) : Nat × Nat :=
  if n ≤ 0 then (11, n) else if L.getD 0 0 ≠ 78 then (10, 0)
  else if n ≤ 1 then (11, n) else if L.getD 1 0 ≠ 69 then (10, 1)
  else if n ≤ 2 then (11, n) else if L.getD 2 0 ≠ 83 then (10, 2)
  else if n ≤ 3 then (11, n) else if L.getD 3 0 ≠ 26 then (10, 3)
  else if n < 16 then (11, n) else (0, 0)
def hdOf (L : List Nat) : Hq := ⟨L.getD 0 0, L.getD 1 0, L.getD 2 0, L.getD 3 0, L.getD 4 0, L.getD 5 0, L.getD 6 0, L.getD 7 0, L.getD 8 0, L.getD 9 0, L.getD 10 0, L.getD 11 0, L.getD 12 0, L.getD 13 0, L.getD 14 0, L.getD 15 0⟩
/-- The error of an image (0: none) and its place. -/
def pz (L : List Nat) : Nat × Nat := if 2097152 < L.length then (1, 0) else if (frontE L L.length).1 ≠ 0 then frontE L L.length else (hdOf L).e L.length
def noC : CF := ⟨0, 0, 0, 0, 0, 0, 0, 0, 0, 0, 0, 0, false, false, false, 0, 0, 0, 0⟩
/-- The cartridge of an image. -/
def pC (L : List Nat) : CF := if (pz L).1 = 0 then (hdOf L).cf (hdOf L).cr (hdOf L).tr (hdOf L).prg (hdOf L).chr (L.length - (hdOf L).fin) else noC
def cutL (L : List Nat) (g : Bool) (a n : Nat) : List Nat := if g then (L.drop a).take n else []
def pT (L : List Nat) : List Nat := if (pz L).1 = 0 then (L.drop 16).take (hdOf L).tr else []
def pP (L : List Nat) : List Nat := if (pz L).1 = 0 then (L.drop (16 + (hdOf L).tr)).take (hdOf L).prg else []
def pQ (L : List Nat) : List Nat := if (pz L).1 = 0 then (L.drop (16 + (hdOf L).tr + (hdOf L).prg)).take (hdOf L).chr else []
def pR (L : List Nat) : List Nat := if (pz L).1 = 0 then (L.drop (hdOf L).fin).take (L.length - (hdOf L).fin) else []
/-- Facts on one byte's bits. -/
theorem by_and (b : Nat) (h : b < 256) : bits BinOp.and IntKind.u8 (b : Int) 12 = ((b / 4 % 4 * 4 : Nat) : Int) ∧ bits BinOp.and IntKind.u8 (b : Int) 3 = ((b % 4 : Nat) : Int) ∧ bits BinOp.and IntKind.u8 (b : Int) 240 = ((b / 16 * 16 : Nat) : Int) ∧ bits BinOp.and IntKind.u8 (b : Int) 15 = ((b % 16 : Nat) : Int) ∧ bits BinOp.and IntKind.u8 (b : Int) 63 = ((b % 64 : Nat) : Int) := by
  have g : ∀ t : Fin 256, bits BinOp.and IntKind.u8 ((t.val : Nat) : Int) 12 = ((t.val / 4 % 4 * 4 : Nat) : Int) ∧ bits BinOp.and IntKind.u8 ((t.val : Nat) : Int) 3 = ((t.val % 4 : Nat) : Int) ∧ bits BinOp.and IntKind.u8 ((t.val : Nat) : Int) 240 = ((t.val / 16 * 16 : Nat) : Int) ∧ bits BinOp.and IntKind.u8 ((t.val : Nat) : Int) 15 = ((t.val % 16 : Nat) : Int) ∧ bits BinOp.and IntKind.u8 ((t.val : Nat) : Int) 63 = ((t.val % 64 : Nat) : Int) := by decide +kernel
  exact g ⟨b, h⟩
theorem by_bit (b : Nat) (h : b < 256) : bits BinOp.and IntKind.u8 (b : Int) 1 = ((b % 2 : Nat) : Int) ∧ bits BinOp.and IntKind.u8 (b : Int) 2 = ((b / 2 % 2 * 2 : Nat) : Int) ∧ bits BinOp.and IntKind.u8 (b : Int) 4 = ((b / 4 % 2 * 4 : Nat) : Int) ∧ bits BinOp.and IntKind.u8 (b : Int) 8 = ((b / 8 % 2 * 8 : Nat) : Int) := by
  have g : ∀ t : Fin 256, bits BinOp.and IntKind.u8 ((t.val : Nat) : Int) 1 = ((t.val % 2 : Nat) : Int) ∧ bits BinOp.and IntKind.u8 ((t.val : Nat) : Int) 2 = ((t.val / 2 % 2 * 2 : Nat) : Int) ∧ bits BinOp.and IntKind.u8 ((t.val : Nat) : Int) 4 = ((t.val / 4 % 2 * 4 : Nat) : Int) ∧ bits BinOp.and IntKind.u8 ((t.val : Nat) : Int) 8 = ((t.val / 8 % 2 * 8 : Nat) : Int) := by decide +kernel
  exact g ⟨b, h⟩
theorem or_any (a b : Nat) (ha : a < 256) (hb : b < 256) : ∃ c : Nat, c < 256 ∧ bits BinOp.or IntKind.u8 (a : Int) (b : Int) = (c : Int) ∧ (c = 0 ↔ a = 0 ∧ b = 0) :=
  ⟨a ||| b, Nat.or_lt_two_pow (n := 8) ha hb, u8_or_nat a b ha hb, Nat.or_eq_zero_iff⟩
theorem hd_ok (L : List Nat) (h : ∀ y ∈ L, y < 256) : (hdOf L).Ok := by
  have g : ∀ i, L.getD i 0 < 256 := fun i => by
    rw [List.getD_eq_getElem?_getD]
    cases e : L[i]? with
    | none => decide
    | some v => exact h v (List.mem_of_getElem? e)
  exact ⟨g 0, g 1, g 2, g 3, g 4, g 5, g 6, g 7, g 8, g 9, g 10, g 11, g 12, g 13, g 14, g 15⟩
theorem hd_take (L : List Nat) (h : 16 ≤ L.length) : L.take 16 = (hdOf L).l := by
  match L, h with
  | a0 :: a1 :: a2 :: a3 :: a4 :: a5 :: a6 :: a7 :: a8 :: a9 :: a10 :: a11 :: a12 :: a13 :: a14 :: a15 :: r, _ => rfl
theorem Hq.f_lt (h : Hq) : h.f = 0 ∨ h.f = 1 ∨ h.f = 2 := by
  unfold Hq.f; split
  · exact .inr (.inr rfl)
  · split
    · exact .inr (.inl rfl)
    · exact .inl rfl
end Go.Proofs.YtpdbndkckioamaaDoor
namespace Go.Proofs.YtpdbndkckioamaaDoor
open Go.RowKit
/-- How a reader gives up. -/
def fault (e : Ending) (x p : Int) : Prop := e = .panicked [{ v := .iface 55 (.agg #[.int .i64 x, .int .i64 p]), recovered := false }]
theorem giveUp_any (x p : Int) (w : World) : Calls Tryd.prog 40 #[.int .i64 x, .int .i64 p] w fun e w' => fault e x p ∧ w' = w := by
  go_enter Tryd.func40, Tryd.ntmps40
  go_wp2
  exact ⟨rfl, rfl, rfl⟩
/-- A header's cells. -/
def hv (h : Hq) : Array Value := (vals h.l).toArray
set_option maxHeartbeats 1000000 in
theorem format_g (h : Hq) (B : h.Ok) (hs : Array Value) (HH0 : hs = hv h) (w : World) :
    Calls Tryd.prog 59 #[.agg hs] w fun e w' => e = .returned (.int .i64 ((h.f : Nat) : Int)) ∧ Below w.heap.size w w' := by
  have HH : Hid (hs = _) := HH0
  have hsz : hs.size = 16 := by rw [HH0]; rfl
  clear HH0
  obtain ⟨c1, l1, o1, z1⟩ := or_any h.b12 h.b13 B.k12 B.k13
  obtain ⟨c2, l2, o2, z2⟩ := or_any c1 h.b14 l1 B.k14
  obtain ⟨c3, l3, o3, z3⟩ := or_any c2 h.b15 l2 B.k15
  have HZ : Hid (c3 = 0 ↔ h.b12 = 0 ∧ h.b13 = 0 ∧ h.b14 = 0 ∧ h.b15 = 0) := by
    unfold Hid; rw [z3, z2, z1]
    exact ⟨fun ⟨⟨⟨p, q⟩, r⟩, s⟩ => ⟨p, q, r, s⟩, fun ⟨p, q, r, s⟩ => ⟨⟨⟨p, q⟩, r⟩, s⟩⟩
  clear z1 z2 z3 l1 l2
  have a12 := (by_and h.b7 B.k7).1
  have HF : Hid (h.f = if h.b7 / 4 % 4 = 2 then 2 else if h.b7 / 4 % 4 = 0 ∧ c3 = 0 then 1 else 0) := by
    unfold Hid Hq.f
    by_cases h0 : c3 = 0
    · obtain ⟨p, q, r, s⟩ := HZ.out.1 h0
      simp [h0, p, q, r, s]
    · rw [if_neg (c := h.b7 / 4 % 4 = 0 ∧ c3 = 0) (fun x => h0 x.2), if_neg (c := h.b7 / 4 % 4 = 0 ∧ _) (fun x => h0 (HZ.out.2 x.2))]
  obtain ⟨ff, hff⟩ : ∃ ff, h.f = ff := ⟨_, rfl⟩
  rw [hff] at HF ⊢
  clear hff HZ
  go_enter Tryd.func59, Tryd.ntmps59
  go_upto_region 1 with fail
  have hb0 : Below w.heap.size w (w.alloc (.cells hs 67)) := (Below.refl _ _).alloc (Nat.le_refl _) _
  have b0 : Blk (w.alloc (.cells hs 67)) w.heap.size hs 67 := Blk.new w hs _
  generalize w.alloc (.cells hs 67) = W0 at *
  have d7 := (b0.cell 7).trans (show hs[7]? = some (.int .u8 ((h.b7 : Nat) : Int)) by rw [HH.out]; rfl)
  have d12 := (b0.cell 12).trans (show hs[12]? = some (.int .u8 ((h.b12 : Nat) : Int)) by rw [HH.out]; rfl)
  have d13 := (b0.cell 13).trans (show hs[13]? = some (.int .u8 ((h.b13 : Nat) : Int)) by rw [HH.out]; rfl)
  have d14 := (b0.cell 14).trans (show hs[14]? = some (.int .u8 ((h.b14 : Nat) : Int)) by rw [HH.out]; rfl)
  have d15 := (b0.cell 15).trans (show hs[15]? = some (.int .u8 ((h.b15 : Nat) : Int)) by rw [HH.out]; rfl)
  clear hsz
  generalize h.b7 / 4 % 4 = t at *
  generalize h.b7 = y7 at *
  generalize h.b12 = u12 at *
  generalize h.b13 = u13 at *
  generalize h.b14 = u14 at *
  generalize h.b15 = u15 at *
  by_cases h2 : t = 2
  · subst h2
    have e : bits BinOp.and IntKind.u8 (y7 : Int) 12 = 8 := a12
    have e2 : ff = 2 := HF.out
    subst e2
    clear a12
    go_wp2
    go_ret
    exact ⟨rfl, hb0⟩
  · have e : (bits BinOp.and IntKind.u8 (y7 : Int) 12 == 8) = false := by rw [a12, beq_eq_false_iff_ne]; omega
    by_cases h0 : t = 0
    · subst h0
      have e0 : bits BinOp.and IntKind.u8 (y7 : Int) 12 = 0 := a12
      clear a12 e
      by_cases hc : c3 = 0
      · have hc' : ((c3 : Int) == 0) = true := by rw [hc]; rfl
        have e2 : ff = 1 := by rw [HF.out, if_neg h2, if_pos ⟨rfl, hc⟩]
        subst e2
        clear hc h2
        go_wp2
        go_ret
        exact ⟨rfl, hb0⟩
      · have hc' : ((c3 : Int) == 0) = false := by rw [beq_eq_false_iff_ne]; omega
        have e2 : ff = 0 := by rw [HF.out, if_neg h2, if_neg (fun x => hc x.2)]
        subst e2
        clear hc h2
        go_wp2
        go_ret
        exact ⟨rfl, hb0⟩
    · have e0 : (bits BinOp.and IntKind.u8 (y7 : Int) 12 == 0) = false := by rw [a12, beq_eq_false_iff_ne]; omega
      have e2 : ff = 0 := by rw [HF.out, if_neg h2, if_neg (fun x => h0 x.1)]
      subst e2
      clear a12 h0 h2
      go_wp2
      go_ret
      exact ⟨rfl, hb0⟩
set_option maxHeartbeats 1000000 in
theorem reserved_g (h : Hq) (B : h.Ok) (hs : Array Value) (HH0 : hs = hv h) (w : World) :
    Calls Tryd.prog 58 #[.agg hs] w fun e w' => e = .returned (.agg (vals h.rs).toArray) ∧ Below w.heap.size w w' := by
  have HH : Hid (hs = _) := HH0
  have hsz : hs.size = 16 := by rw [HH0]; rfl
  have HSZ : Hid (hs.size = 16) := hsz
  have FC : Hid (∀ W : World, Calls _ _ _ _ _) := fun W => format_g h B hs HH0 W
  clear HH0
  have a3 := (by_and h.b7 B.k7).2.1
  obtain ⟨rr, hrr⟩ : ∃ rr, h.rs = rr := ⟨_, rfl⟩
  have HR : Hid (h.rs = rr) := hrr
  rw [hrr]
  clear hrr
  go_enter Tryd.func58, Tryd.ntmps58
  go_upto_region 1 with fail
  have K0 : Blk ((w.alloc (.cells hs 67)).alloc (.cells Z16 67)) w.heap.size hs 67 ∧ Blk ((w.alloc (.cells hs 67)).alloc (.cells Z16 67)) (w.heap.size + 1) Z16 67 ∧ Below w.heap.size w ((w.alloc (.cells hs 67)).alloc (.cells Z16 67)) :=
    ⟨(Blk.new w hs _).old _, by have := Blk.new (w.alloc (.cells hs 67)) Z16 67; rwa [World.size_alloc] at this, ((Below.refl _ _).alloc (Nat.le_refl _) _).alloc (by simp) _⟩
  generalize (w.alloc (.cells hs 67)).alloc (.cells Z16 67) = W0 at *
  obtain ⟨b0, z0, hb0⟩ := K0
  clear hsz
  have FC1 : Hid (Calls _ _ _ _ _) := FC.out W0
  obtain ⟨ff, hff⟩ : ∃ ff, h.f = ff := ⟨_, rfl⟩
  have HF : Hid (h.f = ff) := hff
  rw [hff] at FC1
  clear hff FC
  go_wp2_with (refine wpList_load_mid rfl 67 _ rfl w.heap.size 0 rfl hs.toList _ b0.range Tryd.underlying67 rfl (by rw [Array.length_toList, HSZ.out]; exact infoHdr) ?_; rw [Array.toArray_toList])
  refine FC1.out.mono ?_
  rintro e W1 ⟨rfl, hb1⟩
  have b1 := b0.below b0.lt hb1
  have z1 := z0.below z0.lt hb1
  have hbw := hb0.trans (hb1.mono hb0.size)
  clear FC1 b0 z0 hb0 hb1
  have c7 := (b1.cell 7).trans (show hs[7]? = some (.int .u8 ((h.b7 : Nat) : Int)) by rw [HH.out]; rfl)
  have h3 : h.b7 % 4 < 4 := Nat.mod_lt _ (by decide)
  have hf3 : ff = 0 ∨ ff = 1 ∨ ff = 2 := by rw [← HF.out]; exact h.f_lt
  have HR' : Hid (rr = if ff = 1 then [0, 0, 0, 0, 0, 0, 0, if h.b7 % 4 = 3 then 3 else 0, 0, 254, 255, 255, 0, 0, 0, 0] else if ff = 2 then [0, 0, 0, 0, 0, 0, 0, 0, 0, 0, 0, 0, 252, Hq.kdM (h.b7 % 4), 252, 192] else [0, 0, 0, 0, 0, 0, 0, 0, 0, 0, 0, 0, 0, 0, 0, 0]) := by
    unfold Hid; rw [← HR.out, ← HF.out]; rfl
  have H7 : Hid (hs[7]? = some (.int .u8 ((h.b7 : Nat) : Int))) := by unfold Hid; rw [HH.out]; rfl
  clear HR HF HH B
  generalize h.b7 % 4 = kk at *
  generalize h.b7 = y7 at *
  have GC : Hid (∀ (n : Int) (W : World), Calls _ _ _ _ _) := fun n W => greatestKind_any n W
  rcases hf3 with rfl | rfl | rfl
  · have e : rr = [0, 0, 0, 0, 0, 0, 0, 0, 0, 0, 0, 0, 0, 0, 0, 0] := HR'.out
    subst e
    have HS : Hid ((vals [0, 0, 0, 0, 0, 0, 0, 0, 0, 0, 0, 0, 0, 0, 0, 0]).toArray.size = 16 ∧ (vals [0, 0, 0, 0, 0, 0, 0, 0, 0, 0, 0, 0, 0, 0, 0, 0]).toArray.all (·.oneCell') = true) := ⟨rfl, by simp [vals, Value.oneCell']⟩
    clear GC c7 a3 h3
    go_wp2_with (refine wpList_store_mid rfl 67 _ _ rfl (w.heap.size + 1) 0 (vals [0, 0, 0, 0, 0, 0, 0, 0, 0, 0, 0, 0, 0, 0, 0, 0]).toArray rfl rfl (by exact z1.there _ HS.out.1.symm) (by rw [HS.out.1]; exact infoHdr) HS.out.2 ?_)
    refine ret_agg1 (m := w.heap.size + 1) (L := (vals [0, 0, 0, 0, 0, 0, 0, 0, 0, 0, 0, 0, 0, 0, 0, 0]).toArray) Tryd.results58 (by rfl) (z1.setAll (by rfl)) Tryd.underlying67 rfl (by exact infoHdr) ?_
    exact ⟨rfl, setCells_below (by omega) _ _ _ _ hbw⟩
  · have e : rr = [0, 0, 0, 0, 0, 0, 0, if kk = 3 then 3 else 0, 0, 254, 255, 255, 0, 0, 0, 0] := HR'.out
    have HS : Hid ((vals [0, 0, 0, 0, 0, 0, 0, 0, 0, 254, 255, 255, 0, 0, 0, 0]).toArray.size = 16 ∧ (vals [0, 0, 0, 0, 0, 0, 0, 0, 0, 254, 255, 255, 0, 0, 0, 0]).toArray.all (·.oneCell') = true) := ⟨rfl, by simp [vals, Value.oneCell']⟩
    have HS3 : Hid ((vals [0, 0, 0, 0, 0, 0, 0, 3, 0, 254, 255, 255, 0, 0, 0, 0]).toArray.size = 16 ∧ (vals [0, 0, 0, 0, 0, 0, 0, 3, 0, 254, 255, 255, 0, 0, 0, 0]).toArray.all (·.oneCell') = true) := ⟨rfl, by simp [vals, Value.oneCell']⟩
    clear GC
    go_upto_region 3 with fail
    go_cut [3] (fun p wx => ∃ g, p = .pointer (some ⟨g, 0, none⟩) ∧ Blk wx g (vals [0, 0, 0, 0, 0, 0, 0, 0, 0, 254, 255, 255, 0, 0, 0, 0]).toArray 67 ∧ w.heap.size + 1 < g ∧ Blk wx w.heap.size hs 67 ∧ Blk wx (w.heap.size + 1) Z16 67 ∧ Below w.heap.size w wx)
    case first =>
      have hz := z1.lt
      go_wp2_with (refine wpList_store_mid rfl 67 _ _ rfl _ 0 (vals [0, 0, 0, 0, 0, 0, 0, 0, 0, 254, 255, 255, 0, 0, 0, 0]).toArray rfl rfl ((Blk.new _ _ _).there _ (by first | exact HS.out.1.symm | (rw [HS.out.1]; rfl))) (by rw [HS.out.1]; exact infoHdr) HS.out.2 ?_)
      go_meet
      have hl : Below W1.heap.size W1 ((W1.alloc (.cells Z16 67)).setCells W1.heap.size 0 (vals [0, 0, 0, 0, 0, 0, 0, 0, 0, 254, 255, 255, 0, 0, 0, 0]).toArray.toList) := setCells_below (Nat.le_refl _) _ _ _ _ ((Below.refl _ _).alloc (Nat.le_refl _) _)
      exact ⟨_, rfl, (Blk.new W1 Z16 67).setAll (L := (vals [0, 0, 0, 0, 0, 0, 0, 0, 0, 254, 255, 255, 0, 0, 0, 0]).toArray) HS.out.1, hz, b1.below b1.lt hl, z1.below z1.lt hl, hbw.trans (hl.mono hbw.size)⟩
    case rest =>
    clear b1 z1 hbw c7
    obtain ⟨g, rfl, bg, hg, b1, z1, hbw⟩ := hcut
    generalize wc = W2 at *
    have c7 : W2.cell? ⟨w.heap.size, 7, none⟩ = some (.int .u8 ((y7 : Nat) : Int)) := (b1.cell 7).trans H7.out
    by_cases hk : kk = 3
    · subst hk
      have e3 : bits BinOp.and IntKind.u8 (y7 : Int) 3 = 3 := a3
      have e' : rr = [0, 0, 0, 0, 0, 0, 0, 3, 0, 254, 255, 255, 0, 0, 0, 0] := e
      subst e'
      clear a3 h3 e
      have d7 := (bg.cell 7).trans (show _ = some (.int .u8 0) from rfl)
      have f7 := bg.free 7
      go_upto_region 6 with fail
      have bg2 : Blk (W2.setCell ⟨g, 7, none⟩ (.int .u8 3)) g (vals [0, 0, 0, 0, 0, 0, 0, 3, 0, 254, 255, 255, 0, 0, 0, 0]).toArray 67 := bg.set 7 (.int .u8 3)
      have z2 := z1.other (m := g) (by omega) 7 (.int .u8 3)
      have hb2 := hbw.setCell (p := ⟨g, 7, none⟩) (by show w.heap.size ≤ g; omega) (.int .u8 3)
      clear bg z1 hbw b1 d7 f7 c7
      generalize W2.setCell ⟨g, 7, none⟩ (.int .u8 3) = W3 at *
      go_wp2_with (first
        | refine wpList_load_mid rfl 67 _ rfl g 0 rfl (vals [0, 0, 0, 0, 0, 0, 0, 3, 0, 254, 255, 255, 0, 0, 0, 0]).toArray.toList _ bg2.range Tryd.underlying67 rfl (by exact infoHdr) ?_
        | refine wpList_store_mid rfl 67 _ _ rfl (w.heap.size + 1) 0 (vals [0, 0, 0, 0, 0, 0, 0, 3, 0, 254, 255, 255, 0, 0, 0, 0]).toArray rfl rfl (by exact z2.there _ HS3.out.1.symm) (by rw [HS3.out.1]; exact infoHdr) HS3.out.2 ?_)
      refine ret_agg1 (m := w.heap.size + 1) (L := (vals [0, 0, 0, 0, 0, 0, 0, 3, 0, 254, 255, 255, 0, 0, 0, 0]).toArray) Tryd.results58 (by rfl) (z2.setAll (by rfl)) Tryd.underlying67 rfl (by exact infoHdr) ?_
      exact ⟨rfl, setCells_below (by omega) _ _ _ _ hb2⟩
    · have e3 : (bits BinOp.and IntKind.u8 (y7 : Int) 3 == 3) = false := by rw [a3, beq_eq_false_iff_ne]; omega
      have e' : rr = [0, 0, 0, 0, 0, 0, 0, 0, 0, 254, 255, 255, 0, 0, 0, 0] := by rw [e, if_neg hk]
      subst e'
      clear a3 h3 e hk
      go_upto_region 6 with fail
      go_wp2_with (first
        | refine wpList_load_mid rfl 67 _ rfl g 0 rfl (vals [0, 0, 0, 0, 0, 0, 0, 0, 0, 254, 255, 255, 0, 0, 0, 0]).toArray.toList _ bg.range Tryd.underlying67 rfl (by exact infoHdr) ?_
        | refine wpList_store_mid rfl 67 _ _ rfl (w.heap.size + 1) 0 (vals [0, 0, 0, 0, 0, 0, 0, 0, 0, 254, 255, 255, 0, 0, 0, 0]).toArray rfl rfl (by exact z1.there _ HS.out.1.symm) (by rw [HS.out.1]; exact infoHdr) HS.out.2 ?_)
      refine ret_agg1 (m := w.heap.size + 1) (L := (vals [0, 0, 0, 0, 0, 0, 0, 0, 0, 254, 255, 255, 0, 0, 0, 0]).toArray) Tryd.results58 (by rfl) (z1.setAll (by rfl)) Tryd.underlying67 rfl (by exact infoHdr) ?_
      exact ⟨rfl, setCells_below (by omega) _ _ _ _ hbw⟩
  · have e : rr = [0, 0, 0, 0, 0, 0, 0, 0, 0, 0, 0, 0, 252, Hq.kdM kk, 252, 192] := HR'.out
    rcases (show kk = 0 ∨ kk = 1 ∨ kk = 2 ∨ kk = 3 by omega) with rfl | rfl | rfl | rfl
    · have e3 : bits BinOp.and IntKind.u8 (y7 : Int) 3 = 0 := a3
      have e' : rr = [0, 0, 0, 0, 0, 0, 0, 0, 0, 0, 0, 0, 252, 255, 252, 192] := e
      subst e'
      have GK : Hid (∀ W : World, Calls _ _ _ _ _) := fun W => GC.out 0 W
      have HS : Hid ((vals [0, 0, 0, 0, 0, 0, 0, 0, 0, 0, 0, 0, 252, 255, 252, 192]).toArray.size = 16 ∧ (vals [0, 0, 0, 0, 0, 0, 0, 0, 0, 0, 0, 0, 252, 255, 252, 192]).toArray.all (·.oneCell') = true) := ⟨rfl, by simp [vals, Value.oneCell']⟩
      clear GC a3 h3 e
      go_wp2_with (first
        | (go_at_call 80; go_must (refine (GK.out _).mono ?_; rintro e w1 ⟨rfl, hw1⟩; obtain rfl := hw1.symm))
        | refine wpList_store_mid rfl 67 _ _ rfl (w.heap.size + 1) 0 (vals [0, 0, 0, 0, 0, 0, 0, 0, 0, 0, 0, 0, 252, 255, 252, 192]).toArray rfl rfl (by exact z1.there _ HS.out.1.symm) (by rw [HS.out.1]; exact infoHdr) HS.out.2 ?_)
      refine ret_agg1 (m := w.heap.size + 1) (L := (vals [0, 0, 0, 0, 0, 0, 0, 0, 0, 0, 0, 0, 252, 255, 252, 192]).toArray) Tryd.results58 (by rfl) (z1.setAll (by rfl)) Tryd.underlying67 rfl (by exact infoHdr) ?_
      exact ⟨rfl, setCells_below (by omega) _ _ _ _ hbw⟩
    · have e3 : bits BinOp.and IntKind.u8 (y7 : Int) 3 = 1 := a3
      have e' : rr = [0, 0, 0, 0, 0, 0, 0, 0, 0, 0, 0, 0, 252, 0, 252, 192] := e
      subst e'
      have GK : Hid (∀ W : World, Calls _ _ _ _ _) := fun W => GC.out 1 W
      have HS : Hid ((vals [0, 0, 0, 0, 0, 0, 0, 0, 0, 0, 0, 0, 252, 0, 252, 192]).toArray.size = 16 ∧ (vals [0, 0, 0, 0, 0, 0, 0, 0, 0, 0, 0, 0, 252, 0, 252, 192]).toArray.all (·.oneCell') = true) := ⟨rfl, by simp [vals, Value.oneCell']⟩
      clear GC a3 h3 e
      go_wp2_with (first
        | (go_at_call 80; go_must (refine (GK.out _).mono ?_; rintro e w1 ⟨rfl, hw1⟩; obtain rfl := hw1.symm))
        | refine wpList_store_mid rfl 67 _ _ rfl (w.heap.size + 1) 0 (vals [0, 0, 0, 0, 0, 0, 0, 0, 0, 0, 0, 0, 252, 0, 252, 192]).toArray rfl rfl (by exact z1.there _ HS.out.1.symm) (by rw [HS.out.1]; exact infoHdr) HS.out.2 ?_)
      refine ret_agg1 (m := w.heap.size + 1) (L := (vals [0, 0, 0, 0, 0, 0, 0, 0, 0, 0, 0, 0, 252, 0, 252, 192]).toArray) Tryd.results58 (by rfl) (z1.setAll (by rfl)) Tryd.underlying67 rfl (by exact infoHdr) ?_
      exact ⟨rfl, setCells_below (by omega) _ _ _ _ hbw⟩
    · have e3 : bits BinOp.and IntKind.u8 (y7 : Int) 3 = 2 := a3
      have e' : rr = [0, 0, 0, 0, 0, 0, 0, 0, 0, 0, 0, 0, 252, 255, 252, 192] := e
      subst e'
      have GK : Hid (∀ W : World, Calls _ _ _ _ _) := fun W => GC.out 2 W
      have HS : Hid ((vals [0, 0, 0, 0, 0, 0, 0, 0, 0, 0, 0, 0, 252, 255, 252, 192]).toArray.size = 16 ∧ (vals [0, 0, 0, 0, 0, 0, 0, 0, 0, 0, 0, 0, 252, 255, 252, 192]).toArray.all (·.oneCell') = true) := ⟨rfl, by simp [vals, Value.oneCell']⟩
      clear GC a3 h3 e
      go_wp2_with (first
        | (go_at_call 80; go_must (refine (GK.out _).mono ?_; rintro e w1 ⟨rfl, hw1⟩; obtain rfl := hw1.symm))
        | refine wpList_store_mid rfl 67 _ _ rfl (w.heap.size + 1) 0 (vals [0, 0, 0, 0, 0, 0, 0, 0, 0, 0, 0, 0, 252, 255, 252, 192]).toArray rfl rfl (by exact z1.there _ HS.out.1.symm) (by rw [HS.out.1]; exact infoHdr) HS.out.2 ?_)
      refine ret_agg1 (m := w.heap.size + 1) (L := (vals [0, 0, 0, 0, 0, 0, 0, 0, 0, 0, 0, 0, 252, 255, 252, 192]).toArray) Tryd.results58 (by rfl) (z1.setAll (by rfl)) Tryd.underlying67 rfl (by exact infoHdr) ?_
      exact ⟨rfl, setCells_below (by omega) _ _ _ _ hbw⟩
    · have e3 : bits BinOp.and IntKind.u8 (y7 : Int) 3 = 3 := a3
      have e' : rr = [0, 0, 0, 0, 0, 0, 0, 0, 0, 0, 0, 0, 252, 240, 252, 192] := e
      subst e'
      have GK : Hid (∀ W : World, Calls _ _ _ _ _) := fun W => GC.out 3 W
      have HS : Hid ((vals [0, 0, 0, 0, 0, 0, 0, 0, 0, 0, 0, 0, 252, 240, 252, 192]).toArray.size = 16 ∧ (vals [0, 0, 0, 0, 0, 0, 0, 0, 0, 0, 0, 0, 252, 240, 252, 192]).toArray.all (·.oneCell') = true) := ⟨rfl, by simp [vals, Value.oneCell']⟩
      clear GC a3 h3 e
      go_wp2_with (first
        | (go_at_call 80; go_must (refine (GK.out _).mono ?_; rintro e w1 ⟨rfl, hw1⟩; obtain rfl := hw1.symm))
        | refine wpList_store_mid rfl 67 _ _ rfl (w.heap.size + 1) 0 (vals [0, 0, 0, 0, 0, 0, 0, 0, 0, 0, 0, 0, 252, 240, 252, 192]).toArray rfl rfl (by exact z1.there _ HS.out.1.symm) (by rw [HS.out.1]; exact infoHdr) HS.out.2 ?_)
      refine ret_agg1 (m := w.heap.size + 1) (L := (vals [0, 0, 0, 0, 0, 0, 0, 0, 0, 0, 0, 0, 252, 240, 252, 192]).toArray) Tryd.results58 (by rfl) (z1.setAll (by rfl)) Tryd.underlying67 rfl (by exact infoHdr) ?_
      exact ⟨rfl, setCells_below (by omega) _ _ _ _ hbw⟩
end Go.Proofs.YtpdbndkckioamaaDoor
namespace Go.Proofs.YtpdbndkckioamaaDoor
open Go.RowKit
theorem i64_or_nat (a b : Nat) (ha : a < 4611686018427387904) (hb : b < 4611686018427387904) : bits BinOp.or IntKind.i64 (a : Int) (b : Int) = ((a ||| b : Nat) : Int) := by
  have hx : a ||| b < 2 ^ 62 := Nat.or_lt_two_pow (by omega) (by omega)
  show IntKind.i64.wrap ((BitVec.ofInt 64 (a : Int) ||| BitVec.ofInt 64 (b : Int)).toNat : Int) = _
  rw [BitVec.toNat_or, ofInt_u64 a (by omega), ofInt_u64 b (by omega), IntKind.wrap_i64]
  omega
theorem or_hl (hi lo : Nat) (h1 : hi < 16) (h2 : lo < 256) : bits BinOp.or IntKind.i64 ((hi : Int) * 256) (lo : Int) = ((hi * 256 + lo : Nat) : Int) := by
  have := i64_or_nat (hi * 256) lo (by omega) (by omega)
  rw [nat_join 8 (hi * 256) lo (by omega) h2] at this
  rw [← this]; simp
theorem sz_pow (low : Nat) (h : low < 256) : (2 * (low % 4) + 1) * 2 ^ (min (low / 4) 32) ≤ 30064771072 := by
  have h1 : 2 ^ (min (low / 4) 32) ≤ 2 ^ 32 := Nat.pow_le_pow_right (by decide) (Nat.min_le_right _ _)
  have h2 : 2 * (low % 4) + 1 ≤ 7 := by omega
  have h3 := Nat.mul_le_mul h2 h1
  have h4 : (7 : Nat) * 2 ^ 32 = 30064771072 := by decide
  omega
set_option maxHeartbeats 1000000 in
theorem romSize_g (low high unit : Nat) (h1 : low < 256) (h2 : high < 16) (hu : unit ≤ 16384) (w : World) :
    Calls Tryd.prog 62 #[.int .u8 (low : Nat), .int .u8 (high : Nat), .int .i64 (unit : Nat)] w fun e w' => e = .returned (.int .i64 ((Hq.sz low high unit : Nat) : Int)) ∧ w' = w := by
  by_cases h15 : high = 15
  · subst h15
    have e : Hq.sz low 15 unit = (2 * (low % 4) + 1) * 2 ^ (min (low / 4) 32) := rfl
    have hb := sz_pow low h1
    rw [e]
    have g1 := (by_and low h1).2.1
    have g2 : (low : Int) / 4 = ((low / 4 : Nat) : Int) := by omega
    have g3 : (2 : Int) * ((low % 4 : Nat) : Int) + 1 = ((2 * (low % 4) + 1 : Nat) : Int) := by omega
    have g4 : low % 4 < 4 := Nat.mod_lt _ (by decide)
    clear e
    by_cases hk : low / 4 ≤ 32
    · have em : min (low / 4) 32 = low / 4 := Nat.min_eq_left hk
      rw [em] at hb ⊢
      have g7 : ¬ (32 : Int) < ((low / 4 : Nat) : Int) := by omega
      have g8 : ((low / 4 : Nat) : Int) ≤ 32 := by omega
      have g5 : ((2 * (low % 4) + 1 : Nat) : Int) * 2 ^ (low / 4) = (((2 * (low % 4) + 1) * 2 ^ (low / 4) : Nat) : Int) := by simp
      have g6 : low / 4 < 64 := by omega
      generalize (2 * (low % 4) + 1) * 2 ^ (low / 4) = n at *
      have g9 : 2 * (low % 4) + 1 < 8 := by omega
      generalize 2 * (low % 4) + 1 = o at *
      generalize low / 4 = k at *
      generalize low % 4 = q at *
      clear em hk
      go_enter Tryd.func62, Tryd.ntmps62
      go_wp2
      go_ret
      exact ⟨by go_num, rfl⟩
    · have em : min (low / 4) 32 = 32 := Nat.min_eq_right (by omega)
      rw [em] at hb ⊢
      have g7 : (32 : Int) < ((low / 4 : Nat) : Int) := by omega
      have g7' : ¬ ((low / 4 : Nat) : Int) ≤ 32 := by omega
      have g6 : low / 4 < 64 := by omega
      have g9 : 2 * (low % 4) + 1 < 8 := by omega
      have g5 : (((2 * (low % 4) + 1) * 2 ^ 32 : Nat) : Int) = ((2 * (low % 4) + 1 : Nat) : Int) * 4294967296 := by simp
      rw [g5]
      clear g5 hb em hk
      generalize 2 * (low % 4) + 1 = o at *
      generalize low / 4 = k at *
      generalize low % 4 = q at *
      go_enter Tryd.func62, Tryd.ntmps62
      go_wp2
      go_ret
      exact ⟨by go_num, rfl⟩
  · have e : Hq.sz low high unit = (high * 256 + low) * unit := by unfold Hq.sz; rw [if_neg h15]
    rw [e]
    have g1 := or_hl high low h2 h1
    have g2 : ((high : Int) != 15) = true := by rw [bne_iff_ne]; omega
    have hb : (high * 256 + low) * unit ≤ 4096 * 16384 := Nat.mul_le_mul (by omega) hu
    have g3 : ((high * 256 + low : Nat) : Int) * (unit : Int) = (((high * 256 + low) * unit : Nat) : Int) := by simp
    have g4 : high * 256 + low < 4096 := by omega
    generalize (high * 256 + low) * unit = n at *
    generalize high * 256 + low = m at *
    clear e h15
    go_enter Tryd.func62, Tryd.ntmps62
    go_wp2
    go_ret
    exact ⟨by go_num, rfl⟩
set_option maxHeartbeats 1000000 in
theorem sizes_g (h : Hq) (B : h.Ok) (hs : Array Value) (HH0 : hs = hv h) (w : World) :
    Calls Tryd.prog 43 #[.agg hs] w fun e w' => e = .returned (.tuple #[.int .i64 ((h.prg : Nat) : Int), .int .i64 ((h.chr : Nat) : Int)]) ∧ Below w.heap.size w w' := by
  have HH : Hid (hs = _) := HH0
  have hsz : hs.size = 16 := by rw [HH0]; rfl
  have HSZ : Hid (hs.size = 16) := hsz
  have FC : Hid (∀ W : World, Calls _ _ _ _ _) := fun W => format_g h B hs HH0 W
  clear HH0
  have HD : Hid ((hs[4]? = some (.int .u8 ((h.b4 : Nat) : Int)) ∧ hs[5]? = some (.int .u8 ((h.b5 : Nat) : Int))) ∧ hs[9]? = some (.int .u8 ((h.b9 : Nat) : Int))) := by rw [HH.out]; exact ⟨⟨rfl, rfl⟩, rfl⟩
  obtain ⟨x9, hx9⟩ : ∃ x9, (if h.f = 2 then h.b9 else 0) = x9 := ⟨_, rfl⟩
  have h9 := B.k9
  have h4 := B.k4
  have h5 := B.k5
  have hx : x9 < 256 := by rw [← hx9]; split <;> omega
  have e1 : h.prg = Hq.sz h.b4 (x9 % 16) 16384 := by unfold Hq.prg; rw [← hx9]; split <;> rfl
  have e2 : h.chr = Hq.sz h.b5 (x9 / 16) 8192 := by unfold Hq.chr; rw [← hx9]; split <;> rfl
  rw [e1, e2]
  have R1 : Hid (∀ W : World, Calls _ _ _ _ _) := fun W => romSize_g h.b4 (x9 % 16) 16384 h4 (Nat.mod_lt _ (by decide)) (by decide) W
  have R2 : Hid (∀ W : World, Calls _ _ _ _ _) := fun W => romSize_g h.b5 (x9 / 16) 8192 h5 (by omega) (by decide) W
  have s9a := (by_and x9 hx).2.2.2.1
  have s9b : (x9 : Int) / 16 = ((x9 / 16 : Nat) : Int) := by omega
  have hm : x9 % 16 < 16 := Nat.mod_lt _ (by decide)
  generalize Hq.sz h.b4 (x9 % 16) 16384 = pp at *
  generalize Hq.sz h.b5 (x9 / 16) 8192 = qq at *
  generalize x9 % 16 = xa at *
  have hm2 : x9 / 16 < 16 := by omega
  generalize x9 / 16 = xb at *
  obtain ⟨ff, hff⟩ : ∃ ff, h.f = ff := ⟨_, rfl⟩
  rw [hff] at FC hx9
  have HX9 : Hid ((if ff = 2 then h.b9 else 0) = x9) := hx9
  clear hff hx9 e1 e2 HH B
  generalize h.b4 = y4 at *
  generalize h.b5 = y5 at *
  generalize h.b9 = y9 at *
  go_enter Tryd.func43, Tryd.ntmps43
  go_upto_region 2 with fail
  have hb0 : Below w.heap.size w (w.alloc (.cells hs 67)) := (Below.refl _ _).alloc (Nat.le_refl _) _
  have b0 : Blk (w.alloc (.cells hs 67)) w.heap.size hs 67 := Blk.new w hs _
  generalize w.alloc (.cells hs 67) = W0 at *
  clear hsz
  have FC1 : Hid (Calls _ _ _ _ _) := FC.out W0
  go_wp2_with (refine wpList_load_mid rfl 67 _ rfl w.heap.size 0 rfl hs.toList _ b0.range Tryd.underlying67 rfl (by rw [Array.length_toList, HSZ.out]; exact infoHdr) ?_; rw [Array.toArray_toList])
  refine FC1.out.mono ?_
  rintro e W1 ⟨rfl, hb1⟩
  have b1 := b0.below b0.lt hb1
  have hbw := hb0.trans (hb1.mono hb0.size)
  clear FC1 FC b0 hb0 hb1
  have c4 := (b1.cell 4).trans HD.out.1.1
  have c5 := (b1.cell 5).trans HD.out.1.2
  have c9 := (b1.cell 9).trans HD.out.2
  by_cases h2 : ff = 2
  · have h2' : ((ff : Int) == 2) = true := by rw [h2]; rfl
    have e : y9 = x9 := by rw [← HX9.out, if_pos h2]
    subst e
    clear h2 h9
    go_upto_region 4 with fail
    go_quiet (first
      | (go_at_call_of 62 (Value.int .i64 16384); exact Calls.quiet_of_same (R1.out _))
      | (go_at_call_of 62 (Value.int .i64 8192); exact Calls.quiet_of_same (R2.out _)))
    go_wp2
    go_ret2
    exact ⟨rfl, below_draws hbw _⟩
  · have h2' : ((ff : Int) == 2) = false := by rw [beq_eq_false_iff_ne]; omega
    have e : 0 = x9 := by rw [← HX9.out, if_neg h2]
    subst e
    have z1 : xa = 0 := by have : ((0 : Nat) : Int) = (xa : Int) := s9a; omega
    have z2 : xb = 0 := by omega
    subst z1
    subst z2
    clear h2 h9 c9
    go_upto_region 4 with fail
    go_quiet (first
      | (go_at_call_of 62 (Value.int .i64 16384); exact Calls.quiet_of_same (R1.out _))
      | (go_at_call_of 62 (Value.int .i64 8192); exact Calls.quiet_of_same (R2.out _)))
    go_wp2
    go_ret2
    exact ⟨rfl, below_draws hbw _⟩
end Go.Proofs.YtpdbndkckioamaaDoor
