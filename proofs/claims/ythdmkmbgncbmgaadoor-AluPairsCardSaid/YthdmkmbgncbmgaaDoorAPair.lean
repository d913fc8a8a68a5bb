/-
  The law AluPairs returns true for every Alu; conditions: the six are bytes.
-/
import Derived.Test.YthdmkmbgncbmgaaDoorABlk
import Derived.Test.YthdmkmbgncbmgaaDoorADoA
import Derived.Test.YthdmkmbgncbmgaaDoorADoT
import Derived.Test.YthdmkmbgncbmgaaDoorADoU
import Derived.Test.YthdmkmbgncbmgaaDoorADoQ
import Derived.Test.YthdmkmbgncbmgaaDoorADoR
import Derived.Deep.CutBlock
import Derived.Deep.DeepCutAuto
import Derived.Deep.RegionHeld3
namespace Go.Proofs.YthdmkmbgncbmgaaDoor
open Go.RowKit
theorem pand_bd (a m : Int) (a0 : 0 ≤ a) (a1 : a ≤ 255) (m0 : 0 ≤ m) (m1 : m ≤ 255) : 0 ≤ bits .and .u8 a m ∧ bits .and .u8 a m ≤ 255 := by
  obtain ⟨A, rfl⟩ := Int.eq_ofNat_of_zero_le a0
  obtain ⟨M, rfl⟩ := Int.eq_ofNat_of_zero_le m0
  rw [bits_and A M (by omega) (by omega)]
  have : A &&& M < 2 ^ 8 := Nat.and_lt_two_pow _ (by omega)
  omega
theorem nat_and127 (a : Nat) (h : a < 128) : a &&& 127 = a := by revert a; decide +kernel
theorem and127 (t : Int) (c : Bool) (h0 : 0 ≤ t) (h1 : t ≤ 255) : bits .and .u8 (t / 2) 127 = shV 32 t c := by
  show _ = t / 2
  obtain ⟨T, rfl⟩ := Int.eq_ofNat_of_zero_le h0
  have h := bits_and (T / 2) 127 (by omega) (by decide)
  rw [nat_and127 (T / 2) (by omega)] at h
  exact (congrArg (fun z => bits .and .u8 z 127) (by omega)).trans (h.trans (by omega))
theorem rol_or (m : Int) (F : Fl) (_m0 : 0 ≤ m) (_m1 : m ≤ 255) : bits .or .u8 (IntKind.u8.wrap (m * 2)) (bits .and .u8 (F.val : Nat) 1) = shV 39 m F.c := by
  show _ = m * 2 % 256 + ci F.c
  rw [bit_c, IntKind.wrap_u8]
  cases F.c
  · exact (u8_or0 _ (by omega) (by omega)).trans (by simp [ci])
  · exact u8_or1 _ (by omega) (by omega) (by omega)
theorem ror_or (m : Int) (F : Fl) (m0 : 0 ≤ m) (m1 : m ≤ 255) : bits .or .u8 (m / 2) (IntKind.u8.wrap ((F.val : Nat) * 128)) = shV 40 m F.c := by
  show _ = m / 2 + 128 * ci F.c
  have e : IntKind.u8.wrap (((F.val : Nat) : Int) * 128) = 128 * ci F.c := by
    rw [IntKind.wrap_u8, ← ci_toNat, ← and_c F, Nat.and_one_is_mod]
    omega
  rw [e]
  cases F.c
  · exact (u8_or0 _ (by omega) (by omega)).trans (by simp [ci])
  · exact (u8_or128' _ (by omega) (by omega)).trans (by simp [ci])
/-- What the region reads. -/
abbrev PS (W : World) (b1 b3 : Nat) (i0 i1 i2 i3 i4 i5 o0 o1 o2 o3 o4 o5 : Int) (v : World) : Prop :=
  v.cell? ⟨b1, 0, none⟩ = some (.int .u8 i0) ∧ v.cell? ⟨b1, 1, none⟩ = some (.int .u8 i1) ∧ v.cell? ⟨b1, 2, none⟩ = some (.int .u8 i2) ∧ v.cell? ⟨b1, 3, none⟩ = some (.int .u8 i3) ∧ v.cell? ⟨b1, 4, none⟩ = some (.int .u8 i4) ∧ v.cell? ⟨b1, 5, none⟩ = some (.int .u8 i5) ∧ v.cell? ⟨b3, 0, none⟩ = some (.int .u8 o0) ∧ v.cell? ⟨b3, 1, none⟩ = some (.int .u8 o1) ∧ v.cell? ⟨b3, 2, none⟩ = some (.int .u8 o2) ∧ v.cell? ⟨b3, 3, none⟩ = some (.int .u8 o3) ∧ v.cell? ⟨b3, 4, none⟩ = some (.int .u8 o4) ∧ v.cell? ⟨b3, 5, none⟩ = some (.int .u8 o5) ∧ Below W.heap.size W v
theorem PS.on {W : World} {b1 b3 : Nat} {i0 i1 i2 i3 i4 i5 o0 o1 o2 o3 o4 o5 : Int} {v v' : World} (h : PS W b1 b3 i0 i1 i2 i3 i4 i5 o0 o1 o2 o3 o4 o5 v) (hb : Below v.heap.size v v') : PS W b1 b3 i0 i1 i2 i3 i4 i5 o0 o1 o2 o3 o4 o5 v' := by
  obtain ⟨h0, h1, h2, h3, h4, h5, g0, g1, g2, g3, g4, g5, hB⟩ := h
  have l1 : b1 < v.heap.size := Nat.lt_of_not_le fun hle => by
    have e : v.heap[b1]? = none := by simp [hle]
    simp [World.cell?, e] at h0
  have l3 : b3 < v.heap.size := Nat.lt_of_not_le fun hle => by
    have e : v.heap[b3]? = none := by simp [hle]
    simp [World.cell?, e] at g0
  exact ⟨(hb.cell (p := ⟨b1, 0, none⟩) l1).trans h0, (hb.cell (p := ⟨b1, 1, none⟩) l1).trans h1, (hb.cell (p := ⟨b1, 2, none⟩) l1).trans h2, (hb.cell (p := ⟨b1, 3, none⟩) l1).trans h3, (hb.cell (p := ⟨b1, 4, none⟩) l1).trans h4, (hb.cell (p := ⟨b1, 5, none⟩) l1).trans h5, (hb.cell (p := ⟨b3, 0, none⟩) l3).trans g0, (hb.cell (p := ⟨b3, 1, none⟩) l3).trans g1, (hb.cell (p := ⟨b3, 2, none⟩) l3).trans g2, (hb.cell (p := ⟨b3, 3, none⟩) l3).trans g3, (hb.cell (p := ⟨b3, 4, none⟩) l3).trans g4, (hb.cell (p := ⟨b3, 5, none⟩) l3).trans g5, hB.trans (hb.mono hB.size)⟩
theorem grp0 (a x y s m : Int) (F : Fl) (a0 : 0 ≤ a) (a1 : a ≤ 255) (m0 : 0 ≤ m) (m1 : m ≤ 255) :
    ∃ A1 X1 p1 M1 Am Xm pm Mm : Int, (∀ W, Calls Tryd.prog 11 #[.int .i64 67, .agg #[.int .u8 a, .int .u8 x, .int .u8 y, .int .u8 s, .int .u8 (F.val : Nat), .int .u8 m]] W fun e w' => e = .returned (.agg #[.int .u8 A1, .int .u8 X1, .int .u8 y, .int .u8 s, .int .u8 p1, .int .u8 M1]) ∧ Below W.heap.size W w') ∧ (∀ W, Calls Tryd.prog 11 #[.int .i64 2, .agg #[.int .u8 a, .int .u8 x, .int .u8 y, .int .u8 s, .int .u8 (F.val : Nat), .int .u8 m]] W fun e w' => e = .returned (.agg #[.int .u8 Am, .int .u8 Xm, .int .u8 y, .int .u8 s, .int .u8 pm, .int .u8 Mm]) ∧ Below W.heap.size W w') ∧ (∀ W, Calls Tryd.prog 11 #[.int .i64 34, .agg #[.int .u8 Am, .int .u8 Xm, .int .u8 y, .int .u8 s, .int .u8 pm, .int .u8 Mm]] W fun e w' => e = .returned (.agg #[.int .u8 A1, .int .u8 X1, .int .u8 y, .int .u8 s, .int .u8 p1, .int .u8 M1]) ∧ Below W.heap.size W w') ∧ IntKind.u8.wrap (m * 2) = M1 ∧ bits .or .u8 a M1 = A1 :=
  ⟨_, _, _, _, _, _, _, _, fun W => do_67 a x y s m F W a0 a1 m0 m1, fun W => do_2 a x y s m F W m0 m1, fun W => do_34 a x y s (shV 2 m F.c) (shF 2 m F) W, (show IntKind.u8.wrap (m * 2) = m * 2 % 256 by rw [IntKind.wrap_u8]), rfl⟩
theorem grp1 (a x y s m : Int) (F : Fl) (a0 : 0 ≤ a) (a1 : a ≤ 255) (m0 : 0 ≤ m) (m1 : m ≤ 255) :
    ∃ A1 X1 p1 M1 Am Xm pm Mm : Int, (∀ W, Calls Tryd.prog 11 #[.int .i64 63, .agg #[.int .u8 a, .int .u8 x, .int .u8 y, .int .u8 s, .int .u8 (F.val : Nat), .int .u8 m]] W fun e w' => e = .returned (.agg #[.int .u8 A1, .int .u8 X1, .int .u8 y, .int .u8 s, .int .u8 p1, .int .u8 M1]) ∧ Below W.heap.size W w') ∧ (∀ W, Calls Tryd.prog 11 #[.int .i64 39, .agg #[.int .u8 a, .int .u8 x, .int .u8 y, .int .u8 s, .int .u8 (F.val : Nat), .int .u8 m]] W fun e w' => e = .returned (.agg #[.int .u8 Am, .int .u8 Xm, .int .u8 y, .int .u8 s, .int .u8 pm, .int .u8 Mm]) ∧ Below W.heap.size W w') ∧ (∀ W, Calls Tryd.prog 11 #[.int .i64 1, .agg #[.int .u8 Am, .int .u8 Xm, .int .u8 y, .int .u8 s, .int .u8 pm, .int .u8 Mm]] W fun e w' => e = .returned (.agg #[.int .u8 A1, .int .u8 X1, .int .u8 y, .int .u8 s, .int .u8 p1, .int .u8 M1]) ∧ Below W.heap.size W w') ∧ bits .or .u8 (IntKind.u8.wrap (m * 2)) (bits .and .u8 (F.val : Nat) 1) = M1 ∧ bits .and .u8 a M1 = A1 :=
  ⟨_, _, _, _, _, _, _, _, fun W => do_63 a x y s m F W a0 a1 m0 m1, fun W => do_39 a x y s m F W m0 m1, fun W => do_1 a x y s (shV 39 m F.c) (shF 39 m F) W, rol_or m F m0 m1, rfl⟩
theorem grp2 (a x y s m : Int) (F : Fl) (a0 : 0 ≤ a) (a1 : a ≤ 255) (m0 : 0 ≤ m) (m1 : m ≤ 255) :
    ∃ A1 X1 p1 M1 Am Xm pm Mm : Int, (∀ W, Calls Tryd.prog 11 #[.int .i64 68, .agg #[.int .u8 a, .int .u8 x, .int .u8 y, .int .u8 s, .int .u8 (F.val : Nat), .int .u8 m]] W fun e w' => e = .returned (.agg #[.int .u8 A1, .int .u8 X1, .int .u8 y, .int .u8 s, .int .u8 p1, .int .u8 M1]) ∧ Below W.heap.size W w') ∧ (∀ W, Calls Tryd.prog 11 #[.int .i64 32, .agg #[.int .u8 a, .int .u8 x, .int .u8 y, .int .u8 s, .int .u8 (F.val : Nat), .int .u8 m]] W fun e w' => e = .returned (.agg #[.int .u8 Am, .int .u8 Xm, .int .u8 y, .int .u8 s, .int .u8 pm, .int .u8 Mm]) ∧ Below W.heap.size W w') ∧ (∀ W, Calls Tryd.prog 11 #[.int .i64 23, .agg #[.int .u8 Am, .int .u8 Xm, .int .u8 y, .int .u8 s, .int .u8 pm, .int .u8 Mm]] W fun e w' => e = .returned (.agg #[.int .u8 A1, .int .u8 X1, .int .u8 y, .int .u8 s, .int .u8 p1, .int .u8 M1]) ∧ Below W.heap.size W w') ∧ m / 2 = M1 ∧ bits .xor .u8 a M1 = A1 :=
  ⟨_, _, _, _, _, _, _, _, fun W => do_68 a x y s m F W a0 a1 m0 m1, fun W => do_32 a x y s m F W m0 m1, fun W => do_23 a x y s (shV 32 m F.c) (shF 32 m F) W, rfl, rfl⟩
theorem grp3 (a x y s m : Int) (F : Fl) (a0 : 0 ≤ a) (a1 : a ≤ 255) (m0 : 0 ≤ m) (m1 : m ≤ 255) :
    ∃ A1 X1 p1 M1 Am Xm pm Mm : Int, (∀ W, Calls Tryd.prog 11 #[.int .i64 64, .agg #[.int .u8 a, .int .u8 x, .int .u8 y, .int .u8 s, .int .u8 (F.val : Nat), .int .u8 m]] W fun e w' => e = .returned (.agg #[.int .u8 A1, .int .u8 X1, .int .u8 y, .int .u8 s, .int .u8 p1, .int .u8 M1]) ∧ Below W.heap.size W w') ∧ (∀ W, Calls Tryd.prog 11 #[.int .i64 40, .agg #[.int .u8 a, .int .u8 x, .int .u8 y, .int .u8 s, .int .u8 (F.val : Nat), .int .u8 m]] W fun e w' => e = .returned (.agg #[.int .u8 Am, .int .u8 Xm, .int .u8 y, .int .u8 s, .int .u8 pm, .int .u8 Mm]) ∧ Below W.heap.size W w') ∧ (∀ W, Calls Tryd.prog 11 #[.int .i64 0, .agg #[.int .u8 Am, .int .u8 Xm, .int .u8 y, .int .u8 s, .int .u8 pm, .int .u8 Mm]] W fun e w' => e = .returned (.agg #[.int .u8 A1, .int .u8 X1, .int .u8 y, .int .u8 s, .int .u8 p1, .int .u8 M1]) ∧ Below W.heap.size W w') ∧ bits .or .u8 (m / 2) (IntKind.u8.wrap ((F.val : Nat) * 128)) = M1 :=
  ⟨_, _, _, _, _, _, _, _, fun W => do_64 a x y s m F W a0 a1 m0 m1, fun W => do_40 a x y s m F W m0 m1, fun W => do_0 a x y s (shV 40 m F.c) (shF 40 m F) W a0 a1 (sh_bd 40 m F.c m0 m1).1 (sh_bd 40 m F.c m0 m1).2, ror_or m F m0 m1⟩
theorem grp4 (a x y s m : Int) (F : Fl) (a0 : 0 ≤ a) (a1 : a ≤ 255) (m0 : 0 ≤ m) (m1 : m ≤ 255) :
    ∃ A1 X1 p1 M1 Am Xm pm Mm : Int, (∀ W, Calls Tryd.prog 11 #[.int .i64 59, .agg #[.int .u8 a, .int .u8 x, .int .u8 y, .int .u8 s, .int .u8 (F.val : Nat), .int .u8 m]] W fun e w' => e = .returned (.agg #[.int .u8 A1, .int .u8 X1, .int .u8 y, .int .u8 s, .int .u8 p1, .int .u8 M1]) ∧ Below W.heap.size W w') ∧ (∀ W, Calls Tryd.prog 11 #[.int .i64 20, .agg #[.int .u8 a, .int .u8 x, .int .u8 y, .int .u8 s, .int .u8 (F.val : Nat), .int .u8 m]] W fun e w' => e = .returned (.agg #[.int .u8 Am, .int .u8 Xm, .int .u8 y, .int .u8 s, .int .u8 pm, .int .u8 Mm]) ∧ Below W.heap.size W w') ∧ (∀ W, Calls Tryd.prog 11 #[.int .i64 17, .agg #[.int .u8 Am, .int .u8 Xm, .int .u8 y, .int .u8 s, .int .u8 pm, .int .u8 Mm]] W fun e w' => e = .returned (.agg #[.int .u8 A1, .int .u8 X1, .int .u8 y, .int .u8 s, .int .u8 p1, .int .u8 M1]) ∧ Below W.heap.size W w') ∧ IntKind.u8.wrap (m - 1) = M1 :=
  ⟨_, _, _, _, _, _, _, _, fun W => do_59 a x y s m F W a0 a1 m0 m1, fun W => do_20 a x y s m F W, fun W => do_17 a x y s ((m - 1) % 256) (nzF ((m - 1) % 256) F) W, (show IntKind.u8.wrap (m - 1) = (m - 1) % 256 by rw [IntKind.wrap_u8])⟩
theorem grp5 (a x y s m : Int) (F : Fl) (a0 : 0 ≤ a) (a1 : a ≤ 255) (m0 : 0 ≤ m) (m1 : m ≤ 255) :
    ∃ A1 X1 p1 M1 Am Xm pm Mm : Int, (∀ W, Calls Tryd.prog 11 #[.int .i64 60, .agg #[.int .u8 a, .int .u8 x, .int .u8 y, .int .u8 s, .int .u8 (F.val : Nat), .int .u8 m]] W fun e w' => e = .returned (.agg #[.int .u8 A1, .int .u8 X1, .int .u8 y, .int .u8 s, .int .u8 p1, .int .u8 M1]) ∧ Below W.heap.size W w') ∧ (∀ W, Calls Tryd.prog 11 #[.int .i64 24, .agg #[.int .u8 a, .int .u8 x, .int .u8 y, .int .u8 s, .int .u8 (F.val : Nat), .int .u8 m]] W fun e w' => e = .returned (.agg #[.int .u8 Am, .int .u8 Xm, .int .u8 y, .int .u8 s, .int .u8 pm, .int .u8 Mm]) ∧ Below W.heap.size W w') ∧ (∀ W, Calls Tryd.prog 11 #[.int .i64 43, .agg #[.int .u8 Am, .int .u8 Xm, .int .u8 y, .int .u8 s, .int .u8 pm, .int .u8 Mm]] W fun e w' => e = .returned (.agg #[.int .u8 A1, .int .u8 X1, .int .u8 y, .int .u8 s, .int .u8 p1, .int .u8 M1]) ∧ Below W.heap.size W w') ∧ IntKind.u8.wrap (m + 1) = M1 :=
  ⟨_, _, _, _, _, _, _, _, fun W => do_60 a x y s m F W a0 a1 m0 m1, fun W => do_24 a x y s m F W, fun W => do_43 a x y s ((m + 1) % 256) (nzF ((m + 1) % 256) F) W a0 a1 (by omega) (by omega), (show IntKind.u8.wrap (m + 1) = (m + 1) % 256 by rw [IntKind.wrap_u8])⟩
theorem grp6 (a x y s m : Int) (F : Fl) (_a0 : 0 ≤ a) (_a1 : a ≤ 255) (_m0 : 0 ≤ m) (_m1 : m ≤ 255) :
    ∃ A1 X1 p1 M1 Am Xm pm Mm : Int, (∀ W, Calls Tryd.prog 11 #[.int .i64 62, .agg #[.int .u8 a, .int .u8 x, .int .u8 y, .int .u8 s, .int .u8 (F.val : Nat), .int .u8 m]] W fun e w' => e = .returned (.agg #[.int .u8 A1, .int .u8 X1, .int .u8 y, .int .u8 s, .int .u8 p1, .int .u8 M1]) ∧ Below W.heap.size W w') ∧ (∀ W, Calls Tryd.prog 11 #[.int .i64 29, .agg #[.int .u8 a, .int .u8 x, .int .u8 y, .int .u8 s, .int .u8 (F.val : Nat), .int .u8 m]] W fun e w' => e = .returned (.agg #[.int .u8 Am, .int .u8 Xm, .int .u8 y, .int .u8 s, .int .u8 pm, .int .u8 Mm]) ∧ Below W.heap.size W w') ∧ (∀ W, Calls Tryd.prog 11 #[.int .i64 30, .agg #[.int .u8 Am, .int .u8 Xm, .int .u8 y, .int .u8 s, .int .u8 pm, .int .u8 Mm]] W fun e w' => e = .returned (.agg #[.int .u8 A1, .int .u8 X1, .int .u8 y, .int .u8 s, .int .u8 p1, .int .u8 M1]) ∧ Below W.heap.size W w') ∧ m = A1 :=
  ⟨_, _, _, _, _, _, _, _, fun W => do_62 a x y s m F W, fun W => do_29 a x y s m F W, fun W => do_30 m x y s m (nzF m F) W, rfl⟩
theorem grp7 (a x y s m : Int) (F : Fl) (a0 : 0 ≤ a) (a1 : a ≤ 255) (m0 : 0 ≤ m) (m1 : m ≤ 255) :
    ∃ A1 X1 p1 M1 Am Xm pm Mm : Int, (∀ W, Calls Tryd.prog 11 #[.int .i64 56, .agg #[.int .u8 a, .int .u8 x, .int .u8 y, .int .u8 s, .int .u8 (F.val : Nat), .int .u8 m]] W fun e w' => e = .returned (.agg #[.int .u8 A1, .int .u8 X1, .int .u8 y, .int .u8 s, .int .u8 p1, .int .u8 M1]) ∧ Below W.heap.size W w') ∧ (∀ W, Calls Tryd.prog 11 #[.int .i64 1, .agg #[.int .u8 a, .int .u8 x, .int .u8 y, .int .u8 s, .int .u8 (F.val : Nat), .int .u8 m]] W fun e w' => e = .returned (.agg #[.int .u8 Am, .int .u8 Xm, .int .u8 y, .int .u8 s, .int .u8 pm, .int .u8 Mm]) ∧ Below W.heap.size W w') ∧ (∀ W, Calls Tryd.prog 12 #[.int .i64 32, .agg #[.int .u8 Am, .int .u8 Xm, .int .u8 y, .int .u8 s, .int .u8 pm, .int .u8 Mm]] W fun e w' => e = .returned (.agg #[.int .u8 A1, .int .u8 X1, .int .u8 y, .int .u8 s, .int .u8 p1, .int .u8 M1]) ∧ Below W.heap.size W w') ∧ bits .and .u8 (bits .and .u8 a m / 2) 127 = A1 :=
  ⟨_, _, _, _, _, _, _, _, fun W => do_56 a x y s m F W a0 a1 m0 m1, fun W => do_1 a x y s m F W, fun W => acc_any 32 (bits .and .u8 a m) x y s m (nzF (bits .and .u8 a m) F) W (pand_bd a m a0 a1 m0 m1).1 (pand_bd a m a0 a1 m0 m1).2, and127 _ _ (pand_bd a m a0 a1 m0 m1).1 (pand_bd a m a0 a1 m0 m1).2⟩
/-- What is left of a code behind n statements; its first statement. -/
def restOf : Nat → Code → Code
  | n + 1, .seq _ b => restOf n b
  | _, c => c
def headOf : Code → Code
  | .seq a _ => a
  | c => c
end Go.Proofs.YthdmkmbgncbmgaaDoor
