/-
  What is known of a kind of boards.
  What is known of each of the six kinds.
-/
import Derived.Test.YtecaipakaaongaaYSpec
import Derived.Test.YtecaipakaaongaaXNA
import Derived.Test.YtecaipakaaongaaXNB
set_option linter.unusedSimpArgs false
set_option linter.unusedVariables false
namespace Go.Proofs.Ytecaipakaaongaa
open Go.RowKit Classical
/-- What is known of a kind: how it lies in memory, which functions its methods are, and what they do. -/
structure Kn (k : Int) (T t : TypeId) (kc : Bd → Array Value) (fC fM : FuncId) : Prop where
  mC : ∀ (m : Nat) (w : World), (method 224 T (.pointer (some ⟨m, 0, none⟩)) "tandem/mapper.chrBank").run Try.prog w = .ok (fC, .pointer (some ⟨m, 0, none⟩)) w
  mM : ∀ (m : Nat) (w : World), (method 224 T (.pointer (some ⟨m, 0, none⟩)) "tandem/mapper.mirror").run Try.prog w = .ok (fM, .pointer (some ⟨m, 0, none⟩)) w
  eC : ∀ (args : Array Value) (w : World), (callFunc fC args).run Try.prog w = .ok (.enter fC args) w
  eM : ∀ (args : Array Value) (w : World), (callFunc fM args).run Try.prog w = .ok (.enter fM args) w
  opn : ∀ b : Bd, b.Ok → b.kind = k → ∀ W, Calls Try.prog 51 #[.agg b.cells] W fun e w' => ∃ m, e = .returned (.iface T (.pointer (some ⟨m, 0, none⟩))) ∧ W.heap.size ≤ m ∧ Below W.heap.size W w' ∧ Blk w' m (kc b) t
  chr : ∀ b : Bd, b.Ok → b.kind = k → ∀ (W : World) (m : Nat) (x : Int), 0 ≤ x → x ≤ 7 → Blk W m (kc b) t → Calls Try.prog fC #[.pointer (some ⟨m, 0, none⟩), .int .i64 x] W fun e w' => e = .returned (.int .i64 (chrB b x)) ∧ Below W.heap.size W w'
  mir : ∀ b : Bd, b.Ok → b.kind = k → ∀ (W : World) (m : Nat), Blk W m (kc b) t → Calls Try.prog fM #[.pointer (some ⟨m, 0, none⟩)] W fun e w' => e = .returned (.int .u8 (mirB b)) ∧ Below W.heap.size W w'
theorem Bd.Wf.rget {b : Bd} (B : b.Wf) (i : Nat) : 0 ≤ b.r.getD i 0 ∧ b.r.getD i 0 ≤ 255 := by
  rw [List.getD_eq_getElem?_getD]
  cases h : b.r[i]? with
  | none => simp
  | some x => exact B.rall x (List.mem_of_getElem? h)
theorem drew_below (W w' : World) (h : ∃ n, w' = W.drewN n) : Below W.heap.size W w' := by
  obtain ⟨n, rfl⟩ := h
  exact below_drewN (Below.refl _ _) n
theorem mirB_hard {b : Bd} (h : b.kind = 0 ∨ b.kind = 2 ∨ b.kind = 3) : mirB b = b.hard := by
  unfold mirB
  (repeat' split) <;> omega
theorem sh_ofM3 {w : World} {m : Nat} {b : Bd} {t : TypeId} (K : Blk w m (k4c b) t) : Sh w m b := ⟨(K.cell 0).trans rfl, (K.cell 1).trans rfl, (K.cell 2).trans rfl, (K.cell 3).trans rfl, (K.cell 4).trans rfl, (K.cell 5).trans rfl, (K.cell 6).trans rfl⟩
theorem same_below (W w' : World) (h : w' = W) : Below W.heap.size W w' := by subst h; exact Below.refl _ _
end Go.Proofs.Ytecaipakaaongaa
namespace Go.Proofs.Ytecaipakaaongaa
open Go.RowKit Classical
theorem kind_0 : Kn 0 96 98 k0c 90 91 where
  mC := fun _ _ => by kernel_rfl
  mM := fun _ _ => by kernel_rfl
  eC := fun _ _ => by kernel_rfl
  eM := fun _ _ => by kernel_rfl
  opn := fun b o hk W => (open_0 W b o.wf.rlen hk (valid_lst o.val)).mono fun e w' h => by
    obtain ⟨m, h1, h2, h3⟩ := h.2.2 (valid_kk (validB_0 hk) o.val).2
    exact ⟨m, h1, h2, h.1, h3⟩
  chr := fun b o hk W m x x0 x1 K => (chrBank0_any W m b x (sh_of0 K) o.c0 o.c1 x0 x1).mono fun e w' h => ⟨by rw [h.1]; simp [chrB, chrN, hk], same_below _ _ h.2⟩
  mir := fun b o hk W m K => (mirror0_any W m b (sh_of0 K)).mono fun e w' h => ⟨by rw [h.1, mirB_hard (by omega)], same_below _ _ h.2⟩
theorem kind_1 : Kn 1 79 81 k1c 76 79 where
  mC := fun _ _ => by kernel_rfl
  mM := fun _ _ => by kernel_rfl
  eC := fun _ _ => by kernel_rfl
  eM := fun _ _ => by kernel_rfl
  opn := fun b o hk W => (open_1 W b o.wf.rlen hk (valid_lst o.val)).mono fun e w' h => by
    obtain ⟨m, h1, h2, h3⟩ := h.2.2 (valid_kk (validB_1 hk) o.val).2
    exact ⟨m, h1, h2, h.1, h3⟩
  chr := fun b o hk W m x x0 x1 K => (chr1_any W m b x (sh_of1 K) (m1_of K) o.wf.chrA.1 o.wf.chrA.2 o.wf.chrB.1 o.wf.chrB.2 o.wf.ctrl.1 o.wf.ctrl.2 o.c0 o.c1 x0 x1 hk).mono fun e w' h => ⟨h.1, drew_below _ _ h.2⟩
  mir := fun b o hk W m K => mirror1_any W m b (sh_of1 K) (m1_of K) o.wf.ctrl.1 o.wf.ctrl.2 K.lt hk
theorem kind_2 : Kn 2 82 86 kLc 90 91 where
  mC := fun _ _ => by kernel_rfl
  mM := fun _ _ => by kernel_rfl
  eC := fun _ _ => by kernel_rfl
  eM := fun _ _ => by kernel_rfl
  opn := fun b o hk W => (open_2 W b o.wf.rlen hk (valid_lst o.val)).mono fun e w' h => by
    obtain ⟨m, h1, h2, h3⟩ := h.2.2 (valid_kk (validB_2 hk) o.val).2
    exact ⟨m, h1, h2, h.1, h3⟩
  chr := fun b o hk W m x x0 x1 K => (chrBank0_any W m b x (sh_ofL K) o.c0 o.c1 x0 x1).mono fun e w' h => ⟨by rw [h.1]; simp [chrB, chrN, hk], same_below _ _ h.2⟩
  mir := fun b o hk W m K => (mirror0_any W m b (sh_ofL K)).mono fun e w' h => ⟨by rw [h.1, mirB_hard (by omega)], same_below _ _ h.2⟩
theorem kind_3 : Kn 3 87 88 kLc 97 91 where
  mC := fun _ _ => by kernel_rfl
  mM := fun _ _ => by kernel_rfl
  eC := fun _ _ => by kernel_rfl
  eM := fun _ _ => by kernel_rfl
  opn := fun b o hk W => (open_3 W b o.wf.rlen hk (valid_lst o.val)).mono fun e w' h => by
    obtain ⟨m, h1, h2, h3⟩ := h.2.2 (valid_kk (validB_3 hk) o.val).2
    exact ⟨m, h1, h2, h.1, h3⟩
  chr := fun b o hk W m x x0 x1 K => (chr3_any W m b x (sh_ofL K) (lt_ofL K) o.wf.latch.1 o.wf.latch.2 o.c0 o.c1 x0 x1 hk).mono fun e w' h => ⟨h.1, drew_below _ _ h.2⟩
  mir := fun b o hk W m K => (mirror0_any W m b (sh_ofL K)).mono fun e w' h => ⟨by rw [h.1, mirB_hard (by omega)], same_below _ _ h.2⟩
theorem kind_4 : Kn 4 89 93 k4c 99 101 where
  mC := fun _ _ => by kernel_rfl
  mM := fun _ _ => by kernel_rfl
  eC := fun _ _ => by kernel_rfl
  eM := fun _ _ => by kernel_rfl
  opn := fun b o hk W => (open_4 W b o.wf.rlen hk (valid_lst o.val)).mono fun e w' h => by
    obtain ⟨m, h1, h2, h3⟩ := h.2.2 (valid_kk (validB_4 hk) o.val).2
    exact ⟨m, h1, h2, h.1, h3⟩
  chr := fun b o hk W m x x0 x1 K => (chr4_any W m b x (sh_ofM3 K) (m4_of o.wf.rlen K) o.wf.sel.1 o.wf.sel.2 (fun i => (o.wf.rget i).1) (fun i => (o.wf.rget i).2) o.c0 o.c1 x0 x1 hk).mono fun e w' h => ⟨h.1, drew_below _ _ h.2⟩
  mir := fun b o hk W m K => (mirror4_any W m b (sh_ofM3 K) (m4_of o.wf.rlen K) hk).mono fun e w' h => ⟨h.1, drew_below _ _ h.2⟩
theorem kind_7 : Kn 7 94 95 kLc 90 109 where
  mC := fun _ _ => by kernel_rfl
  mM := fun _ _ => by kernel_rfl
  eC := fun _ _ => by kernel_rfl
  eM := fun _ _ => by kernel_rfl
  opn := fun b o hk W => (open_7 W b o.wf.rlen hk (valid_lst o.val)).mono fun e w' h => by
    obtain ⟨m, h1, h2, h3⟩ := h.2.2 (valid_kk (validB_7 hk) o.val).2
    exact ⟨m, h1, h2, h.1, h3⟩
  chr := fun b o hk W m x x0 x1 K => (chrBank0_any W m b x (sh_ofL K) o.c0 o.c1 x0 x1).mono fun e w' h => ⟨by rw [h.1]; simp [chrB, chrN, hk], same_below _ _ h.2⟩
  mir := fun b o hk W m K => (mirror7_any W m b (sh_ofL K) (lt_ofL K) o.wf.latch.1 o.wf.latch.2 hk).mono fun e w' h => ⟨h.1, drew_below _ _ h.2⟩
theorem kinds {b : Bd} (o : b.Ok) : ∃ T t kc fC fM, Kn b.kind T t kc fC fM := by
  rcases o.kd with h | h | h | h | h | h <;> rw [h]
  · exact ⟨_, _, _, _, _, kind_0⟩
  · exact ⟨_, _, _, _, _, kind_1⟩
  · exact ⟨_, _, _, _, _, kind_2⟩
  · exact ⟨_, _, _, _, _, kind_3⟩
  · exact ⟨_, _, _, _, _, kind_4⟩
  · exact ⟨_, _, _, _, _, kind_7⟩
end Go.Proofs.Ytecaipakaaongaa
