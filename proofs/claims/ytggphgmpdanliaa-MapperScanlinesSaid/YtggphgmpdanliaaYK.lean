/-
  What is known of a kind of boards.
  What is known of each of the six kinds.
-/
import Derived.Test.YtggphgmpdanliaaYSpec
import Derived.Test.YtggphgmpdanliaaYA
import Derived.Test.YtggphgmpdanliaaYB
import Derived.Test.YtggphgmpdanliaaYC
import Derived.Test.YtggphgmpdanliaaYM3b
set_option linter.unusedSimpArgs false
set_option linter.unusedVariables false
namespace Go.Proofs.Ytggphgmpdanliaa
open Go.RowKit Classical
/-- What is known of a kind: how it lies in memory, which functions its methods are, and what they do. -/
structure Kn (k : Int) (T t : TypeId) (kc : Bd → Array Value) (fB fC fM fW fR : FuncId) : Prop where
  mB : ∀ (m : Nat) (w : World), (method 241 T (.pointer (some ⟨m, 0, none⟩)) "tandem/mapper.bank").run Try.prog w = .ok (fB, .pointer (some ⟨m, 0, none⟩)) w
  mC : ∀ (m : Nat) (w : World), (method 241 T (.pointer (some ⟨m, 0, none⟩)) "tandem/mapper.chrBank").run Try.prog w = .ok (fC, .pointer (some ⟨m, 0, none⟩)) w
  mM : ∀ (m : Nat) (w : World), (method 241 T (.pointer (some ⟨m, 0, none⟩)) "tandem/mapper.mirror").run Try.prog w = .ok (fM, .pointer (some ⟨m, 0, none⟩)) w
  mW : ∀ (m : Nat) (w : World), (method 241 T (.pointer (some ⟨m, 0, none⟩)) "tandem/mapper.workMode").run Try.prog w = .ok (fW, .pointer (some ⟨m, 0, none⟩)) w
  mR : ∀ (m : Nat) (w : World), (method 241 T (.pointer (some ⟨m, 0, none⟩)) "tandem/mapper.write").run Try.prog w = .ok (fR, .pointer (some ⟨m, 0, none⟩)) w
  mH : ∀ (m : Nat) (w : World), (method 241 T (.pointer (some ⟨m, 0, none⟩)) "tandem/mapper.hasWork").run Try.prog w = .ok (85, .pointer (some ⟨m, 0, none⟩)) w
  mE : ∀ (m : Nat) (w : World), (method 241 T (.pointer (some ⟨m, 0, none⟩)) "tandem/mapper.nextEpoch").run Try.prog w = .ok (87, .pointer (some ⟨m, 0, none⟩)) w
  eB : ∀ (args : Array Value) (w : World), (callFunc fB args).run Try.prog w = .ok (.enter fB args) w
  eC : ∀ (args : Array Value) (w : World), (callFunc fC args).run Try.prog w = .ok (.enter fC args) w
  eM : ∀ (args : Array Value) (w : World), (callFunc fM args).run Try.prog w = .ok (.enter fM args) w
  eW : ∀ (args : Array Value) (w : World), (callFunc fW args).run Try.prog w = .ok (.enter fW args) w
  eR : ∀ (args : Array Value) (w : World), (callFunc fR args).run Try.prog w = .ok (.enter fR args) w
  opn : ∀ b : Bd, b.Ok → b.kind = k → ∀ W, Calls Try.prog 39 #[.agg b.cells] W fun e w' => ∃ m, e = .returned (.iface T (.pointer (some ⟨m, 0, none⟩))) ∧ W.heap.size ≤ m ∧ Below W.heap.size W w' ∧ Blk w' m (kc b) t
  bnk : ∀ b : Bd, b.Ok → b.kind = k → ∀ (W : World) (m : Nat) (x : Int), 0 ≤ x → x ≤ 3 → Blk W m (kc b) t → Calls Try.prog fB #[.pointer (some ⟨m, 0, none⟩), .int .i64 x] W fun e w' => e = .returned (.int .i64 (bankB b x)) ∧ Below W.heap.size W w'
  chr : ∀ b : Bd, b.Ok → b.kind = k → ∀ (W : World) (m : Nat) (x : Int), 0 ≤ x → x ≤ 7 → Blk W m (kc b) t → Calls Try.prog fC #[.pointer (some ⟨m, 0, none⟩), .int .i64 x] W fun e w' => e = .returned (.int .i64 (chrB b x)) ∧ Below W.heap.size W w'
  mir : ∀ b : Bd, b.Ok → b.kind = k → ∀ (W : World) (m : Nat), Blk W m (kc b) t → Calls Try.prog fM #[.pointer (some ⟨m, 0, none⟩)] W fun e w' => e = .returned (.int .u8 (mirB b)) ∧ Below W.heap.size W w'
  mod : ∀ b : Bd, b.Ok → b.kind = k → ∀ (W : World) (m : Nat), Blk W m (kc b) t → Calls Try.prog fW #[.pointer (some ⟨m, 0, none⟩)] W fun e w' => e = .returned (.int .i64 (modeB b)) ∧ Below W.heap.size W w'
  has : ∀ b : Bd, b.kind = k → ∀ (W : World) (m : Nat), Blk W m (kc b) t → Calls Try.prog 85 #[.pointer (some ⟨m, 0, none⟩)] W fun e w' => e = .returned (.bool b.work) ∧ Below W.heap.size W w'
  wrt : ∀ b : Bd, b.Ok → b.kind = k → ∀ (W : World) (m : Nat) (a v u c : Int), 32768 ≤ a → a ≤ 65535 → 0 ≤ v → v ≤ 255 → 0 ≤ u → u ≤ 255 → 0 ≤ c → c ≤ 9223372036854775807 → Blk W m (kc b) t → Calls Try.prog fR #[.pointer (some ⟨m, 0, none⟩), .int .u16 a, .int .u8 v, .int .u8 u, .int .i64 c] W fun e w' => e = .returned (.tuple #[]) ∧ Only m W w' ∧ Blk w' m (kc (wrK b a v u c)) t
  nxt : ∀ b : Bd, b.kind = k → 0 ≤ b.epoch → b.epoch ≤ 4611686018427387904 → ∀ (W : World) (m : Nat), Blk W m (kc b) t → Calls Try.prog 87 #[.pointer (some ⟨m, 0, none⟩)] W fun e w' => e = .returned (.tuple #[]) ∧ Only m W w' ∧ Blk w' m (kc { b with epoch := upB b.epoch }) t
  pln : ∀ b : Bd, b.Ok → b.kind = k → ∀ (W : World) (m : Nat), Blk W m (kc b) t → Calls Try.prog 41 #[.iface T (.pointer (some ⟨m, 0, none⟩))] W fun e w' => e = .returned (.agg b.cells) ∧ Below W.heap.size W w'
theorem Bd.Wf.rget {b : Bd} (B : b.Wf) (i : Nat) : 0 ≤ b.r.getD i 0 ∧ b.r.getD i 0 ≤ 255 := by
  rw [List.getD_eq_getElem?_getD]
  cases h : b.r[i]? with
  | none => simp
  | some x => exact B.rall x (List.mem_of_getElem? h)
theorem drew_below (W w' : World) (h : ∃ n, w' = W.drewN n) : Below W.heap.size W w' := by
  obtain ⟨n, rfl⟩ := h
  exact below_drewN (Below.refl _ _) n
theorem mirB_hard {b : Bd} (h : b.kind = 0 ∨ b.kind = 2 ∨ b.kind = 3) : mirB b = b.hard := by
  unfold mirB
  (repeat' split) <;> omega
theorem sh_ofM3 {w : World} {m : Nat} {b : Bd} {t : TypeId} (K : Blk w m (k4c b) t) : Sh w m b := ⟨(K.cell 0).trans rfl, (K.cell 1).trans rfl, (K.cell 2).trans rfl, (K.cell 3).trans rfl, (K.cell 4).trans rfl, (K.cell 5).trans rfl, (K.cell 6).trans rfl⟩
theorem same_below (W w' : World) (h : w' = W) : Below W.heap.size W w' := by subst h; exact Below.refl _ _
end Go.Proofs.Ytggphgmpdanliaa
namespace Go.Proofs.Ytggphgmpdanliaa
open Go.RowKit Classical
theorem kind_0 : Kn 0 91 96 k0c 82 83 86 92 93 where
  mB := fun _ _ => by kernel_rfl
  mC := fun _ _ => by kernel_rfl
  mM := fun _ _ => by kernel_rfl
  mW := fun _ _ => by kernel_rfl
  mR := fun _ _ => by kernel_rfl
  mH := fun _ _ => by kernel_rfl
  mE := fun _ _ => by kernel_rfl
  eB := fun _ _ => by kernel_rfl
  eC := fun _ _ => by kernel_rfl
  eM := fun _ _ => by kernel_rfl
  eW := fun _ _ => by kernel_rfl
  eR := fun _ _ => by kernel_rfl
  opn := fun b o hk W => (open_0 W b o.wf.rlen hk (valid_lst o.val)).mono fun e w' h => by
    obtain ⟨m, h1, h2, h3⟩ := h.2.2 (valid_kk (validB_0 hk) o.val).2
    exact ⟨m, h1, h2, h.1, h3⟩
  bnk := fun b o hk W m x x0 x1 K => (bank0_any W m b x (sh_of0 K) o.p0 o.p1 x0 x1).mono fun e w' h => ⟨by rw [h.1]; simp [bankB, bankN, hk], same_below _ _ h.2⟩
  chr := fun b o hk W m x x0 x1 K => (chrBank0_any W m b x (sh_of0 K) o.c0 o.c1 x0 x1).mono fun e w' h => ⟨by rw [h.1]; simp [chrB, chrN, hk], same_below _ _ h.2⟩
  mir := fun b o hk W m K => (mirror0_any W m b (sh_of0 K)).mono fun e w' h => ⟨by rw [h.1, mirB_hard (by omega)], same_below _ _ h.2⟩
  mod := fun b o hk W m K => (mode0_any W m).mono fun e w' h => ⟨by rw [h.1]; simp [modeB, hk], same_below _ _ h.2⟩
  has := fun b _ W m K => (hasWork_any W m b (sh_of0 K)).mono fun e w' h => ⟨h.1, same_below _ _ h.2⟩
  wrt := fun b o hk W m a v u c a0 a1 v0 v1 u0 u1 c0 c1 K => (write0_any W m a v u c).mono fun e w' h => ⟨h.1, by rw [h.2]; exact Only.refl _ _, by rw [h.2, show wrK b a v u c = b by simp [wrK, hk]]; exact K⟩
  nxt := fun b _ h0 h1 W m K => (nextEpoch_any W m b.epoch h0 h1 (sh_of0 K).c6 (K.free 6)).mono fun e w' h => ⟨h.1, by rw [h.2]; exact Only.one 6 _ (Only.refl m W), by rw [h.2]; exact K.set 6 _⟩
  pln := fun b o hk W m K => by
    have h := plain_0 W b o.wf.rlen m K
    rw [o.v0 hk] at h
    exact h
theorem kind_1 : Kn 1 97 99 k1c 96 97 98 101 102 where
  mB := fun _ _ => by kernel_rfl
  mC := fun _ _ => by kernel_rfl
  mM := fun _ _ => by kernel_rfl
  mW := fun _ _ => by kernel_rfl
  mR := fun _ _ => by kernel_rfl
  mH := fun _ _ => by kernel_rfl
  mE := fun _ _ => by kernel_rfl
  eB := fun _ _ => by kernel_rfl
  eC := fun _ _ => by kernel_rfl
  eM := fun _ _ => by kernel_rfl
  eW := fun _ _ => by kernel_rfl
  eR := fun _ _ => by kernel_rfl
  opn := fun b o hk W => (open_1 W b o.wf.rlen hk (valid_lst o.val)).mono fun e w' h => by
    obtain ⟨m, h1, h2, h3⟩ := h.2.2 (valid_kk (validB_1 hk) o.val).2
    exact ⟨m, h1, h2, h.1, h3⟩
  bnk := fun b o hk W m x x0 x1 K => (bank1_any W m b x (sh_of1 K) (m1_of K) o.wf.chrA.1 o.wf.chrA.2 o.wf.prgR.1 o.wf.prgR.2 o.wf.ctrl.1 o.wf.ctrl.2 o.p0 o.p1 x0 x1 hk).mono fun e w' h => ⟨h.1, drew_below _ _ h.2⟩
  chr := fun b o hk W m x x0 x1 K => (chr1_any W m b x (sh_of1 K) (m1_of K) o.wf.chrA.1 o.wf.chrA.2 o.wf.chrB.1 o.wf.chrB.2 o.wf.ctrl.1 o.wf.ctrl.2 o.c0 o.c1 x0 x1 hk).mono fun e w' h => ⟨h.1, drew_below _ _ h.2⟩
  mir := fun b o hk W m K => mirror1_any W m b (sh_of1 K) (m1_of K) o.wf.ctrl.1 o.wf.ctrl.2 K.lt hk
  mod := fun b o hk W m K => (mode1_any W m b (m1_of K) o.wf.prgR.1 o.wf.prgR.2 hk).mono fun e w' h => ⟨h.1, drew_below _ _ h.2⟩
  has := fun b _ W m K => (hasWork_any W m b (sh_of1 K)).mono fun e w' h => ⟨h.1, same_below _ _ h.2⟩
  wrt := fun b o hk W m a v u c a0 a1 v0 v1 u0 u1 c0 c1 K => by rw [show wrK b a v u c = wr1 b a v c by simp [wrK, hk]]; exact write1_any W m b _ a v u c o.wf.shift.1 (o.r1 hk).2.1 (by omega) a1 v0 v1 c0 c1 K
  nxt := fun b _ h0 h1 W m K => (nextEpoch_any W m b.epoch h0 h1 (sh_of1 K).c6 (K.free 6)).mono fun e w' h => ⟨h.1, by rw [h.2]; exact Only.one 6 _ (Only.refl m W), by rw [h.2]; exact K.set 6 _⟩
  pln := fun b o hk W m K => by
    have h := plain_1 W b o.wf.rlen m K
    rw [o.v1 hk] at h
    exact h
theorem kind_2 : Kn 2 100 104 kLc 106 83 86 92 107 where
  mB := fun _ _ => by kernel_rfl
  mC := fun _ _ => by kernel_rfl
  mM := fun _ _ => by kernel_rfl
  mW := fun _ _ => by kernel_rfl
  mR := fun _ _ => by kernel_rfl
  mH := fun _ _ => by kernel_rfl
  mE := fun _ _ => by kernel_rfl
  eB := fun _ _ => by kernel_rfl
  eC := fun _ _ => by kernel_rfl
  eM := fun _ _ => by kernel_rfl
  eW := fun _ _ => by kernel_rfl
  eR := fun _ _ => by kernel_rfl
  opn := fun b o hk W => (open_2 W b o.wf.rlen hk (valid_lst o.val)).mono fun e w' h => by
    obtain ⟨m, h1, h2, h3⟩ := h.2.2 (valid_kk (validB_2 hk) o.val).2
    exact ⟨m, h1, h2, h.1, h3⟩
  bnk := fun b o hk W m x x0 x1 K => (bank2_any W m b x (sh_ofL K) (lt_ofL K) o.wf.latch.1 o.wf.latch.2 o.p0 o.p1 x0 x1 hk (by have := o.p0; have := o.p2; omega)).mono fun e w' h => ⟨h.1, drew_below _ _ h.2⟩
  chr := fun b o hk W m x x0 x1 K => (chrBank0_any W m b x (sh_ofL K) o.c0 o.c1 x0 x1).mono fun e w' h => ⟨by rw [h.1]; simp [chrB, chrN, hk], same_below _ _ h.2⟩
  mir := fun b o hk W m K => (mirror0_any W m b (sh_ofL K)).mono fun e w' h => ⟨by rw [h.1, mirB_hard (by omega)], same_below _ _ h.2⟩
  mod := fun b o hk W m K => (mode0_any W m).mono fun e w' h => ⟨by rw [h.1]; simp [modeB, hk], same_below _ _ h.2⟩
  has := fun b _ W m K => (hasWork_any W m b (sh_ofL K)).mono fun e w' h => ⟨h.1, same_below _ _ h.2⟩
  wrt := fun b o hk W m a v u c a0 a1 v0 v1 u0 u1 c0 c1 K => by rw [show wrK b a v u c = wrL b v u by simp [wrK, hk]]; exact writeL_any W m b _ a v u c ⟨v0, v1⟩ ⟨u0, u1⟩ K
  nxt := fun b _ h0 h1 W m K => (nextEpoch_any W m b.epoch h0 h1 (sh_ofL K).c6 (K.free 6)).mono fun e w' h => ⟨h.1, by rw [h.2]; exact Only.one 6 _ (Only.refl m W), by rw [h.2]; exact K.set 6 _⟩
  pln := fun b o hk W m K => by
    have h := plain_2 W b o.wf.rlen m K
    rw [o.v2 hk] at h
    exact h
theorem kind_3 : Kn 3 105 106 kLc 82 108 86 92 107 where
  mB := fun _ _ => by kernel_rfl
  mC := fun _ _ => by kernel_rfl
  mM := fun _ _ => by kernel_rfl
  mW := fun _ _ => by kernel_rfl
  mR := fun _ _ => by kernel_rfl
  mH := fun _ _ => by kernel_rfl
  mE := fun _ _ => by kernel_rfl
  eB := fun _ _ => by kernel_rfl
  eC := fun _ _ => by kernel_rfl
  eM := fun _ _ => by kernel_rfl
  eW := fun _ _ => by kernel_rfl
  eR := fun _ _ => by kernel_rfl
  opn := fun b o hk W => (open_3 W b o.wf.rlen hk (valid_lst o.val)).mono fun e w' h => by
    obtain ⟨m, h1, h2, h3⟩ := h.2.2 (valid_kk (validB_3 hk) o.val).2
    exact ⟨m, h1, h2, h.1, h3⟩
  bnk := fun b o hk W m x x0 x1 K => (bank0_any W m b x (sh_ofL K) o.p0 o.p1 x0 x1).mono fun e w' h => ⟨by rw [h.1]; simp [bankB, bankN, hk], same_below _ _ h.2⟩
  chr := fun b o hk W m x x0 x1 K => (chr3_any W m b x (sh_ofL K) (lt_ofL K) o.wf.latch.1 o.wf.latch.2 o.c0 o.c1 x0 x1 hk).mono fun e w' h => ⟨h.1, drew_below _ _ h.2⟩
  mir := fun b o hk W m K => (mirror0_any W m b (sh_ofL K)).mono fun e w' h => ⟨by rw [h.1, mirB_hard (by omega)], same_below _ _ h.2⟩
  mod := fun b o hk W m K => (mode0_any W m).mono fun e w' h => ⟨by rw [h.1]; simp [modeB, hk], same_below _ _ h.2⟩
  has := fun b _ W m K => (hasWork_any W m b (sh_ofL K)).mono fun e w' h => ⟨h.1, same_below _ _ h.2⟩
  wrt := fun b o hk W m a v u c a0 a1 v0 v1 u0 u1 c0 c1 K => by rw [show wrK b a v u c = wrL b v u by simp [wrK, hk]]; exact writeL_any W m b _ a v u c ⟨v0, v1⟩ ⟨u0, u1⟩ K
  nxt := fun b _ h0 h1 W m K => (nextEpoch_any W m b.epoch h0 h1 (sh_ofL K).c6 (K.free 6)).mono fun e w' h => ⟨h.1, by rw [h.2]; exact Only.one 6 _ (Only.refl m W), by rw [h.2]; exact K.set 6 _⟩
  pln := fun b o hk W m K => by
    have h := plain_3 W b o.wf.rlen m K
    rw [o.v3 hk] at h
    exact h
theorem kind_4 : Kn 4 107 111 k4c 109 110 112 116 117 where
  mB := fun _ _ => by kernel_rfl
  mC := fun _ _ => by kernel_rfl
  mM := fun _ _ => by kernel_rfl
  mW := fun _ _ => by kernel_rfl
  mR := fun _ _ => by kernel_rfl
  mH := fun _ _ => by kernel_rfl
  mE := fun _ _ => by kernel_rfl
  eB := fun _ _ => by kernel_rfl
  eC := fun _ _ => by kernel_rfl
  eM := fun _ _ => by kernel_rfl
  eW := fun _ _ => by kernel_rfl
  eR := fun _ _ => by kernel_rfl
  opn := fun b o hk W => (open_4 W b o.wf.rlen hk (valid_lst o.val)).mono fun e w' h => by
    obtain ⟨m, h1, h2, h3⟩ := h.2.2 (valid_kk (validB_4 hk) o.val).2
    exact ⟨m, h1, h2, h.1, h3⟩
  bnk := fun b o hk W m x x0 x1 K => (bank4_any W m b x (sh_ofM3 K) (m4_of o.wf.rlen K) o.wf.sel.1 o.wf.sel.2 (fun i => (o.wf.rget i).1) (fun i => (o.wf.rget i).2) o.p0 o.p1 x0 x1 hk).mono fun e w' h => ⟨h.1, drew_below _ _ h.2⟩
  chr := fun b o hk W m x x0 x1 K => (chr4_any W m b x (sh_ofM3 K) (m4_of o.wf.rlen K) o.wf.sel.1 o.wf.sel.2 (fun i => (o.wf.rget i).1) (fun i => (o.wf.rget i).2) o.c0 o.c1 x0 x1 hk).mono fun e w' h => ⟨h.1, drew_below _ _ h.2⟩
  mir := fun b o hk W m K => (mirror4_any W m b (sh_ofM3 K) (m4_of o.wf.rlen K) hk).mono fun e w' h => ⟨h.1, drew_below _ _ h.2⟩
  mod := fun b o hk W m K => (mode4_any W m b (m4_of o.wf.rlen K) o.wf.guard.1 o.wf.guard.2 hk).mono fun e w' h => ⟨h.1, drew_below _ _ h.2⟩
  has := fun b _ W m K => (hasWork_any W m b (sh_ofM3 K)).mono fun e w' h => ⟨h.1, same_below _ _ h.2⟩
  wrt := fun b o hk W m a v u c a0 a1 v0 v1 u0 u1 c0 c1 K => by rw [show wrK b a v u c = wr4 b a v by simp [wrK, hk]]; exact write4_any W m b a v u c o.wf.rlen o.wf.sel.1 o.wf.sel.2 a0 a1 v0 v1 K
  nxt := fun b _ h0 h1 W m K => (nextEpoch_any W m b.epoch h0 h1 (sh_ofM3 K).c6 (K.free 6)).mono fun e w' h => ⟨h.1, by rw [h.2]; exact Only.one 6 _ (Only.refl m W), by rw [h.2]; exact K.set 6 _⟩
  pln := fun b o hk W m K => by
    have h := plain_4 W b o.wf.rlen m K
    rw [o.v4 hk] at h
    exact h
theorem kind_7 : Kn 7 112 113 kLc 121 83 122 92 107 where
  mB := fun _ _ => by kernel_rfl
  mC := fun _ _ => by kernel_rfl
  mM := fun _ _ => by kernel_rfl
  mW := fun _ _ => by kernel_rfl
  mR := fun _ _ => by kernel_rfl
  mH := fun _ _ => by kernel_rfl
  mE := fun _ _ => by kernel_rfl
  eB := fun _ _ => by kernel_rfl
  eC := fun _ _ => by kernel_rfl
  eM := fun _ _ => by kernel_rfl
  eW := fun _ _ => by kernel_rfl
  eR := fun _ _ => by kernel_rfl
  opn := fun b o hk W => (open_7 W b o.wf.rlen hk (valid_lst o.val)).mono fun e w' h => by
    obtain ⟨m, h1, h2, h3⟩ := h.2.2 (valid_kk (validB_7 hk) o.val).2
    exact ⟨m, h1, h2, h.1, h3⟩
  bnk := fun b o hk W m x x0 x1 K => (bank7_any W m b x (sh_ofL K) (lt_ofL K) o.wf.latch.1 o.wf.latch.2 o.p0 o.p1 x0 x1 hk).mono fun e w' h => ⟨h.1, drew_below _ _ h.2⟩
  chr := fun b o hk W m x x0 x1 K => (chrBank0_any W m b x (sh_ofL K) o.c0 o.c1 x0 x1).mono fun e w' h => ⟨by rw [h.1]; simp [chrB, chrN, hk], same_below _ _ h.2⟩
  mir := fun b o hk W m K => (mirror7_any W m b (sh_ofL K) (lt_ofL K) o.wf.latch.1 o.wf.latch.2 hk).mono fun e w' h => ⟨h.1, drew_below _ _ h.2⟩
  mod := fun b o hk W m K => (mode0_any W m).mono fun e w' h => ⟨by rw [h.1]; simp [modeB, hk], same_below _ _ h.2⟩
  has := fun b _ W m K => (hasWork_any W m b (sh_ofL K)).mono fun e w' h => ⟨h.1, same_below _ _ h.2⟩
  wrt := fun b o hk W m a v u c a0 a1 v0 v1 u0 u1 c0 c1 K => by rw [show wrK b a v u c = wrL b v u by simp [wrK, hk]]; exact writeL_any W m b _ a v u c ⟨v0, v1⟩ ⟨u0, u1⟩ K
  nxt := fun b _ h0 h1 W m K => (nextEpoch_any W m b.epoch h0 h1 (sh_ofL K).c6 (K.free 6)).mono fun e w' h => ⟨h.1, by rw [h.2]; exact Only.one 6 _ (Only.refl m W), by rw [h.2]; exact K.set 6 _⟩
  pln := fun b o hk W m K => by
    have h := plain_7 W b o.wf.rlen m K
    rw [o.v7 hk] at h
    exact h
theorem kinds {b : Bd} (o : b.Ok) : ∃ T t kc fB fC fM fW fR, Kn b.kind T t kc fB fC fM fW fR := by
  rcases o.kd with h | h | h | h | h | h <;> rw [h]
  · exact ⟨_, _, _, _, _, _, _, _, kind_0⟩
  · exact ⟨_, _, _, _, _, _, _, _, kind_1⟩
  · exact ⟨_, _, _, _, _, _, _, _, kind_2⟩
  · exact ⟨_, _, _, _, _, _, _, _, kind_3⟩
  · exact ⟨_, _, _, _, _, _, _, _, kind_4⟩
  · exact ⟨_, _, _, _, _, _, _, _, kind_7⟩
end Go.Proofs.Ytggphgmpdanliaa
