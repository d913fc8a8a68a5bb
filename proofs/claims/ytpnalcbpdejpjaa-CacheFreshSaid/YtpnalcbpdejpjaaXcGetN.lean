/-
  get of a slot without the key.
-/
import Derived.Test.YtpnalcbpdejpjaaXcTwo
set_option linter.unusedSimpArgs false
set_option linter.unusedVariables false
namespace Go.Proofs.Ytpnalcbpdejpjaa
open Go.RowKit Classical
set_option maxRecDepth 100000 in
set_option maxHeartbeats 4000000 in
theorem get_miss (base q ga kA m k N n fc sl u : Nat) (fa : Option Addr) (A : List Nat) (es : List En) (cnt : Int → Int) (pc tag : Int) (w : World) (H : Ca base q ga kA m k N (.slice fa n fc) A es cnt w) (hu : A[sl]? = some u) (hm : u = 0 ∨ ∃ x, es[u - 1]? = some x ∧ 1 ≤ u ∧ ((x.pc == pc) && (x.tag == tag)) = false) (hN : N ≤ 65536) (hn : n ≤ 65536) :
    Calls Try.prog 42 #[.pointer (some ⟨q, 0, none⟩), .int .i64 (sl : Nat), .agg #[.int .u16 pc, .int .i64 tag]] w fun e w' => e = .returned (.tuple #[.agg #[.int .u16 0, .int .i64 0, .string ⟨#[]⟩, .int .i64 0, .slice none 0 0, .int .i64 0, .int .i64 0, .int .i64 0, .int .i64 0], .bool false]) ∧ Below w.heap.size w w' := by
  have hslN : sl < N := by rw [← H.v.len]; exact (List.getElem?_eq_some_iff.1 hu).1
  obtain ⟨hne, hf0, -⟩ := H.row
  have c0 : w.cell? ⟨q, 0, none⟩ = some (.slice (some ⟨ga, 0, none⟩) N kA) := H.b.cell 0
  have c1 : w.cell? ⟨q, 1, none⟩ = some (.slice fa n fc) := H.b.cell 1
  have ca : w.cell? ⟨ga, sl, none⟩ = some (.int .i64 ((u : Nat) : Int)) := by
    rw [orow_cell H.a sl (by omega)]; simp [ints, hu]
  have hsli : (sl : Int) < (N : Int) := by omega
  have HM : Hid (u = 0 ∨ ∃ (fg i : Nat) (x : En), fa = some ⟨fg, 0, none⟩ ∧ u = i + 1 ∧ i < n ∧ (∀ t, t < 12 → w.cell? ⟨fg, i * 12 + t, none⟩ = (En.cells x)[t]?) ∧ ((x.pc == pc) && (x.tag == tag)) = false) := by
    rcases hm with h | ⟨x, hx, h1, h2⟩
    · exact .inl h
    · have hi : u - 1 < n := by rw [hne]; exact (List.getElem?_eq_some_iff.1 hx).1
      obtain ⟨fg, rfl⟩ : ∃ fg, fa = some ⟨fg, 0, none⟩ := by
        cases fa with
        | none => have := (orow_none hf0).1; omega
        | some ad => obtain ⟨g, rfl⟩ := orow_where hf0; exact ⟨g, rfl⟩
      refine .inr ⟨fg, u - 1, x, rfl, by omega, hi, fun t ht => ?_, h2⟩
      rw [orow_cell hf0 ((u - 1) * 12 + t) (by omega), eflat_at hx t ht]
  clear H hu hf0 hne hm
  go_enter Try.func42, Try.ntmps42
  go_upto_region 1 with fail
  have hb0 : Below w.heap.size w ((w.alloc (.cells #[.int .u16 pc, .int .i64 tag] 24)).alloc (.cells #[.int .u16 0, .int .i64 0, .string ⟨#[]⟩, .int .i64 0, .slice none 0 0, .int .i64 0, .int .i64 0, .int .i64 0, .int .i64 0] 84)) := ((Below.refl _ _).alloc (Nat.le_refl _) _).alloc (by simp) _
  have zk : Blk ((w.alloc (.cells #[.int .u16 pc, .int .i64 tag] 24)).alloc (.cells #[.int .u16 0, .int .i64 0, .string ⟨#[]⟩, .int .i64 0, .slice none 0 0, .int .i64 0, .int .i64 0, .int .i64 0, .int .i64 0] 84)) w.heap.size #[.int .u16 pc, .int .i64 tag] 24 := (Blk.new w #[.int .u16 pc, .int .i64 tag] 24).old _
  have zh : Blk ((w.alloc (.cells #[.int .u16 pc, .int .i64 tag] 24)).alloc (.cells #[.int .u16 0, .int .i64 0, .string ⟨#[]⟩, .int .i64 0, .slice none 0 0, .int .i64 0, .int .i64 0, .int .i64 0, .int .i64 0] 84)) (w.heap.size + 1) #[.int .u16 0, .int .i64 0, .string ⟨#[]⟩, .int .i64 0, .slice none 0 0, .int .i64 0, .int .i64 0, .int .i64 0, .int .i64 0] 84 := by
    have := Blk.new (w.alloc (.cells #[.int .u16 pc, .int .i64 tag] 24)) #[.int .u16 0, .int .i64 0, .string ⟨#[]⟩, .int .i64 0, .slice none 0 0, .int .i64 0, .int .i64 0, .int .i64 0, .int .i64 0] 84
    simpa using this
  replace c0 := (hb0.cell (p := ⟨q, 0, none⟩) (cell_lt c0)).trans c0
  replace c1 := (hb0.cell (p := ⟨q, 1, none⟩) (cell_lt c1)).trans c1
  replace ca := (hb0.cell (p := ⟨ga, sl, none⟩) (cell_lt ca)).trans ca
  have HB : Hid (Below w.heap.size w ((w.alloc (.cells #[.int .u16 pc, .int .i64 tag] 24)).alloc (.cells #[.int .u16 0, .int .i64 0, .string ⟨#[]⟩, .int .i64 0, .slice none 0 0, .int .i64 0, .int .i64 0, .int .i64 0, .int .i64 0] 84))) := hb0
  clear hb0
  generalize ((w.alloc (.cells #[.int .u16 pc, .int .i64 tag] 24)).alloc (.cells #[.int .u16 0, .int .i64 0, .string ⟨#[]⟩, .int .i64 0, .slice none 0 0, .int .i64 0, .int .i64 0, .int .i64 0, .int .i64 0] 84)) = W0 at *
  have k0 : W0.cell? ⟨w.heap.size, 0, none⟩ = some (.int .u16 pc) := zk.cell 0
  have k1 : W0.cell? ⟨w.heap.size, 1, none⟩ = some (.int .i64 tag) := zk.cell 1
  go_upto_region 2 with fail
  go_cut [31] (fun v wx => v = .bool false ∧ Blk wx (w.heap.size + 1) #[.int .u16 0, .int .i64 0, .string ⟨#[]⟩, .int .i64 0, .slice none 0 0, .int .i64 0, .int .i64 0, .int .i64 0, .int .i64 0] 84 ∧ Below w.heap.size w wx)
  case first =>
    rcases HM.out with rfl | ⟨fg, i, x, rfl, rfl, hi, hx, h2⟩
    · go_quiet (fail)
      go_wp2
      go_meet
      exact ⟨rfl, zh, below_drawsX HB.out nq⟩
    · have d1 : W0.cell? ⟨fg, i * 12 + 1, none⟩ = some (.int .u16 x.pc) := (HB.out.cell (p := ⟨fg, i * 12 + 1, none⟩) (cell_lt (hx 1 (by omega)))).trans (hx 1 (by omega))
      have d2 : W0.cell? ⟨fg, i * 12 + 2, none⟩ = some (.int .i64 x.tag) := (HB.out.cell (p := ⟨fg, i * 12 + 2, none⟩) (cell_lt (hx 2 (by omega)))).trans (hx 2 (by omega))
      have hwi : IntKind.i64.wrap (i : Int) = (i : Int) := by rw [IntKind.wrap_i64]; omega
      have hii : (i : Int) < (n : Int) := by omega
      have EK := fun W => eqlKey W x.pc x.tag pc tag
      rw [h2] at EK
      clear hx
      go_quiet (fail)
      go_wp2
      go_meet
      exact ⟨rfl, zh, below_drawsX HB.out nq⟩
  case rest =>
  clear c0 c1 ca k0 k1 zk zh HB HM
  obtain ⟨rfl, zh, hb1⟩ := hcut
  generalize wc = W1 at *
  go_upto_region 5 with fail
  have z2 : Blk (W1.alloc (.cells #[.int .u16 0, .int .i64 0, .string ⟨#[]⟩, .int .i64 0, .slice none 0 0, .int .i64 0, .int .i64 0, .int .i64 0, .int .i64 0] 84)) W1.heap.size #[.int .u16 0, .int .i64 0, .string ⟨#[]⟩, .int .i64 0, .slice none 0 0, .int .i64 0, .int .i64 0, .int .i64 0, .int .i64 0] 84 := Blk.new W1 _ _
  have z1 : Blk (W1.alloc (.cells #[.int .u16 0, .int .i64 0, .string ⟨#[]⟩, .int .i64 0, .slice none 0 0, .int .i64 0, .int .i64 0, .int .i64 0, .int .i64 0] 84)) (w.heap.size + 1) #[.int .u16 0, .int .i64 0, .string ⟨#[]⟩, .int .i64 0, .slice none 0 0, .int .i64 0, .int .i64 0, .int .i64 0, .int .i64 0] 84 := zh.old _
  have hb2 : Below w.heap.size w (W1.alloc (.cells #[.int .u16 0, .int .i64 0, .string ⟨#[]⟩, .int .i64 0, .slice none 0 0, .int .i64 0, .int .i64 0, .int .i64 0, .int .i64 0] 84)) := hb1.alloc hb1.size _
  generalize W1.alloc (.cells #[.int .u16 0, .int .i64 0, .string ⟨#[]⟩, .int .i64 0, .slice none 0 0, .int .i64 0, .int .i64 0, .int .i64 0, .int .i64 0] 84) = W2 at *
  generalize W1.heap.size = b2 at *
  clear zh hb1
  go_wp2_with (first
    | (refine wpList_load_blk rfl 84 _ rfl b2 rfl #[.int .u16 0, .int .i64 0, .string ⟨#[]⟩, .int .i64 0, .slice none 0 0, .int .i64 0, .int .i64 0, .int .i64 0, .int .i64 0] _ z2 Try.underlying84 rfl (by kernel_rfl) ?_)
    | (refine wpList_store_mid rfl 84 _ _ rfl (w.heap.size + 1) 0 #[.int .u16 0, .int .i64 0, .string ⟨#[]⟩, .int .i64 0, .slice none 0 0, .int .i64 0, .int .i64 0, .int .i64 0, .int .i64 0] rfl rfl (z1.there' 9 rfl) (by kernel_rfl) (by kernel_rfl) ?_))
  have z5 : Blk (W2.setCells (w.heap.size + 1) 0 (#[.int .u16 0, .int .i64 0, .string ⟨#[]⟩, .int .i64 0, .slice none 0 0, .int .i64 0, .int .i64 0, .int .i64 0, .int .i64 0] : Array Value).toList) (w.heap.size + 1) #[.int .u16 0, .int .i64 0, .string ⟨#[]⟩, .int .i64 0, .slice none 0 0, .int .i64 0, .int .i64 0, .int .i64 0, .int .i64 0] 84 := z1.setAll rfl
  refine ret_agg2 (m := w.heap.size + 1) (L := #[.int .u16 0, .int .i64 0, .string ⟨#[]⟩, .int .i64 0, .slice none 0 0, .int .i64 0, .int .i64 0, .int .i64 0, .int .i64 0]) (x := .bool false) Try.results42 (by kernel_rfl) (by kernel_rfl) (by kernel_rfl) z5 Try.underlying84 rfl (by kernel_rfl) ?_
  exact ⟨rfl, setCells_below' (by omega) _ _ _ _ hb2⟩
end Go.Proofs.Ytpnalcbpdejpjaa
