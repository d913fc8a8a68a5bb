/-
  What is known of a kind of boards.
-/
import Derived.Test.YtggphgmpdanliaaYSpec
import Derived.Test.YtggphgmpdanliaaYLat
import Derived.Test.YtggphgmpdanliaaYM1a
import Derived.Test.YtggphgmpdanliaaYM1b
import Derived.Test.YtggphgmpdanliaaYM1c
import Derived.Test.YtggphgmpdanliaaYM3a
import Derived.Test.YtggphgmpdanliaaYM3b
import Derived.Test.YtggphgmpdanliaaYM3c
import Derived.Test.YtggphgmpdanliaaYM3w
set_option linter.unusedSimpArgs false
set_option linter.unusedVariables false
namespace Go.Proofs.Ytggphgmpdanliaa
open Go.RowKit
/-- What is known of a kind: how it lies in memory, which functions its methods are, and what they do. -/
structure Kn (k : Int) (T t : TypeId) (kc : Bd → Array Value) (fB fC fM fW fR : FuncId) : Prop where
  mB : ∀ (m : Nat) (w : World), (method 241 T (.pointer (some ⟨m, 0, none⟩)) "tandem/mapper.bank").run Try.prog w = .ok (fB, .pointer (some ⟨m, 0, none⟩)) w
  mC : ∀ (m : Nat) (w : World), (method 241 T (.pointer (some ⟨m, 0, none⟩)) "tandem/mapper.chrBank").run Try.prog w = .ok (fC, .pointer (some ⟨m, 0, none⟩)) w
  mM : ∀ (m : Nat) (w : World), (method 241 T (.pointer (some ⟨m, 0, none⟩)) "tandem/mapper.mirror").run Try.prog w = .ok (fM, .pointer (some ⟨m, 0, none⟩)) w
  mW : ∀ (m : Nat) (w : World), (method 241 T (.pointer (some ⟨m, 0, none⟩)) "tandem/mapper.workMode").run Try.prog w = .ok (fW, .pointer (some ⟨m, 0, none⟩)) w
  mR : ∀ (m : Nat) (w : World), (method 241 T (.pointer (some ⟨m, 0, none⟩)) "tandem/mapper.write").run Try.prog w = .ok (fR, .pointer (some ⟨m, 0, none⟩)) w
  mH : ∀ (m : Nat) (w : World), (method 241 T (.pointer (some ⟨m, 0, none⟩)) "tandem/mapper.hasWork").run Try.prog w = .ok (85, .pointer (some ⟨m, 0, none⟩)) w
  mE : ∀ (m : Nat) (w : World), (method 241 T (.pointer (some ⟨m, 0, none⟩)) "tandem/mapper.nextEpoch").run Try.prog w = .ok (87, .pointer (some ⟨m, 0, none⟩)) w
  eB : ∀ (args : Array Value) (w : World), (callFunc fB args).run Try.prog w = .ok (.enter fB args) w
  eC : ∀ (args : Array Value) (w : World), (callFunc fC args).run Try.prog w = .ok (.enter fC args) w
  eM : ∀ (args : Array Value) (w : World), (callFunc fM args).run Try.prog w = .ok (.enter fM args) w
  eW : ∀ (args : Array Value) (w : World), (callFunc fW args).run Try.prog w = .ok (.enter fW args) w
  eR : ∀ (args : Array Value) (w : World), (callFunc fR args).run Try.prog w = .ok (.enter fR args) w
  opn : ∀ b : Bd, b.Ok → b.kind = k → ∀ W, Calls Try.prog 39 #[.agg b.cells] W fun e w' => ∃ m, e = .returned (.iface T (.pointer (some ⟨m, 0, none⟩))) ∧ W.heap.size ≤ m ∧ Below W.heap.size W w' ∧ Blk w' m (kc b) t
  bnk : ∀ b : Bd, b.Ok → b.kind = k → ∀ (W : World) (m : Nat) (x : Int), 0 ≤ x → x ≤ 3 → Blk W m (kc b) t → Calls Try.prog fB #[.pointer (some ⟨m, 0, none⟩), .int .i64 x] W fun e w' => e = .returned (.int .i64 (bankB b x)) ∧ Below W.heap.size W w'
  chr : ∀ b : Bd, b.Ok → b.kind = k → ∀ (W : World) (m : Nat) (x : Int), 0 ≤ x → x ≤ 7 → Blk W m (kc b) t → Calls Try.prog fC #[.pointer (some ⟨m, 0, none⟩), .int .i64 x] W fun e w' => e = .returned (.int .i64 (chrB b x)) ∧ Below W.heap.size W w'
  mir : ∀ b : Bd, b.Ok → b.kind = k → ∀ (W : World) (m : Nat), Blk W m (kc b) t → Calls Try.prog fM #[.pointer (some ⟨m, 0, none⟩)] W fun e w' => e = .returned (.int .u8 (mirB b)) ∧ Below W.heap.size W w'
  mod : ∀ b : Bd, b.Ok → b.kind = k → ∀ (W : World) (m : Nat), Blk W m (kc b) t → Calls Try.prog fW #[.pointer (some ⟨m, 0, none⟩)] W fun e w' => e = .returned (.int .i64 (modeB b)) ∧ Below W.heap.size W w'
  has : ∀ b : Bd, b.kind = k → ∀ (W : World) (m : Nat), Blk W m (kc b) t → Calls Try.prog 85 #[.pointer (some ⟨m, 0, none⟩)] W fun e w' => e = .returned (.bool b.work) ∧ Below W.heap.size W w'
  wrt : ∀ b : Bd, b.Ok → b.kind = k → ∀ (W : World) (m : Nat) (a v u c : Int), 32768 ≤ a → a ≤ 65535 → 0 ≤ v → v ≤ 255 → 0 ≤ u → u ≤ 255 → 0 ≤ c → c ≤ 9223372036854775807 → Blk W m (kc b) t → Calls Try.prog fR #[.pointer (some ⟨m, 0, none⟩), .int .u16 a, .int .u8 v, .int .u8 u, .int .i64 c] W fun e w' => e = .returned (.tuple #[]) ∧ Only m W w' ∧ Blk w' m (kc (wrK b a v u c)) t
  nxt : ∀ b : Bd, b.kind = k → 0 ≤ b.epoch → b.epoch ≤ 4611686018427387904 → ∀ (W : World) (m : Nat), Blk W m (kc b) t → Calls Try.prog 87 #[.pointer (some ⟨m, 0, none⟩)] W fun e w' => e = .returned (.tuple #[]) ∧ Only m W w' ∧ Blk w' m (kc { b with epoch := upB b.epoch }) t
  pln : ∀ b : Bd, b.Ok → b.kind = k → ∀ (W : World) (m : Nat), Blk W m (kc b) t → Calls Try.prog 41 #[.iface T (.pointer (some ⟨m, 0, none⟩))] W fun e w' => e = .returned (.agg b.cells) ∧ Below W.heap.size W w'
theorem Bd.Wf.rget {b : Bd} (B : b.Wf) (i : Nat) : 0 ≤ b.r.getD i 0 ∧ b.r.getD i 0 ≤ 255 := by
  rw [List.getD_eq_getElem?_getD]
  cases h : b.r[i]? with
  | none => simp
  | some x => exact B.rall x (List.mem_of_getElem? h)
theorem drew_below (W w' : World) (h : ∃ n, w' = W.drewN n) : Below W.heap.size W w' := by
  obtain ⟨n, rfl⟩ := h
  exact below_drewN (Below.refl _ _) n
theorem mirB_hard {b : Bd} (h : b.kind = 0 ∨ b.kind = 2 ∨ b.kind = 3) : mirB b = b.hard := by
  unfold mirB
  (repeat' split) <;> omega
theorem sh_ofM3 {w : World} {m : Nat} {b : Bd} {t : TypeId} (K : Blk w m (k4c b) t) : Sh w m b := ⟨(K.cell 0).trans rfl, (K.cell 1).trans rfl, (K.cell 2).trans rfl, (K.cell 3).trans rfl, (K.cell 4).trans rfl, (K.cell 5).trans rfl, (K.cell 6).trans rfl⟩
theorem same_below (W w' : World) (h : w' = W) : Below W.heap.size W w' := by subst h; exact Below.refl _ _
end Go.Proofs.Ytggphgmpdanliaa
