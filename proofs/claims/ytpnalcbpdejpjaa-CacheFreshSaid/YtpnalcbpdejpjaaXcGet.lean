/-
  get of a slot.
-/
import Derived.Test.YtpnalcbpdejpjaaXcLeaf
set_option linter.unusedSimpArgs false
set_option linter.unusedVariables false
namespace Go.Proofs.Ytpnalcbpdejpjaa
open Go.RowKit Classical
set_option maxRecDepth 100000 in
set_option maxHeartbeats 4000000 in
theorem get_same (base q ga kA m k N i n fg fc : Nat) (A : List Nat) (es : List En) (cnt : Int → Int) (x : En) (w : World) (H : Ca base q ga kA m k N (.slice (some ⟨fg, 0, none⟩) n fc) A es cnt w) (hx : es[i]? = some x) (hN : N ≤ 65536) (hn : n ≤ 65536) :
    Calls Try.prog 42 #[.pointer (some ⟨q, 0, none⟩), .int .i64 (x.slot : Nat), .agg #[.int .u16 x.pc, .int .i64 x.tag]] w fun e w' => e = .returned (.tuple #[.agg #[.int .u16 x.pc, .int .i64 x.tag, .string x.s, .int .i64 x.ni, .slice x.oa x.on x.oc, .int .i64 x.lo, .int .i64 x.hi, .int .i64 x.f, .int .i64 x.sz], .bool true]) ∧ Below w.heap.size w w' := by
  obtain ⟨hslN, hsl⟩ := H.v.e i x hx
  obtain ⟨a9, c9, e9, hfa⟩ := orow_form H.f
  have hne : n = es.length := by cases e9; rfl
  clear e9 hfa a9 c9
  have hi : i < n := by rw [hne]; exact (List.getElem?_eq_some_iff.1 hx).1
  have hf0 := H.f
  rw [← hne] at hf0
  have c0 : w.cell? ⟨q, 0, none⟩ = some (.slice (some ⟨ga, 0, none⟩) N kA) := H.b.cell 0
  have c1 : w.cell? ⟨q, 1, none⟩ = some (.slice (some ⟨fg, 0, none⟩) n fc) := H.b.cell 1
  have ca : w.cell? ⟨ga, x.slot, none⟩ = some (.int .i64 ((i + 1 : Nat) : Int)) := by
    rw [orow_cell H.a x.slot (by omega)]; simp [ints, hsl]
  have cx : ∀ t, t < 12 → w.cell? ⟨fg, i * 12 + t, none⟩ = x.cells[t]? := fun t ht => by
    rw [orow_cell hf0 (i * 12 + t) (by omega), eflat_at hx t ht]
  have d1 : w.cell? ⟨fg, i * 12 + 1, none⟩ = some (.int .u16 x.pc) := cx 1 (by omega)
  have d2 : w.cell? ⟨fg, i * 12 + 2, none⟩ = some (.int .i64 x.tag) := cx 2 (by omega)
  have hwi : IntKind.i64.wrap (i : Int) = (i : Int) := by rw [IntKind.wrap_i64]; omega
  have hsli : (x.slot : Int) < (N : Int) := by omega
  have hii : (i : Int) < (n : Int) := by omega
  have HCX : Hid (∀ t, t < 12 → w.cell? ⟨fg, i * 12 + t, none⟩ = x.cells[t]?) := cx
  clear H hsl hx hf0 hne cx
  go_enter Try.func42, Try.ntmps42
  go_upto_region 1 with fail
  have hb0 : Below w.heap.size w ((w.alloc (.cells #[.int .u16 x.pc, .int .i64 x.tag] 24)).alloc (.cells #[.int .u16 0, .int .i64 0, .string ⟨#[]⟩, .int .i64 0, .slice none 0 0, .int .i64 0, .int .i64 0, .int .i64 0, .int .i64 0] 84)) := ((Below.refl _ _).alloc (Nat.le_refl _) _).alloc (by simp) _
  have zk : Blk ((w.alloc (.cells #[.int .u16 x.pc, .int .i64 x.tag] 24)).alloc (.cells #[.int .u16 0, .int .i64 0, .string ⟨#[]⟩, .int .i64 0, .slice none 0 0, .int .i64 0, .int .i64 0, .int .i64 0, .int .i64 0] 84)) w.heap.size #[.int .u16 x.pc, .int .i64 x.tag] 24 := (Blk.new w #[.int .u16 x.pc, .int .i64 x.tag] 24).old _
  have zh : Blk ((w.alloc (.cells #[.int .u16 x.pc, .int .i64 x.tag] 24)).alloc (.cells #[.int .u16 0, .int .i64 0, .string ⟨#[]⟩, .int .i64 0, .slice none 0 0, .int .i64 0, .int .i64 0, .int .i64 0, .int .i64 0] 84)) (w.heap.size + 1) #[.int .u16 0, .int .i64 0, .string ⟨#[]⟩, .int .i64 0, .slice none 0 0, .int .i64 0, .int .i64 0, .int .i64 0, .int .i64 0] 84 := by
    have := Blk.new (w.alloc (.cells #[.int .u16 x.pc, .int .i64 x.tag] 24)) #[.int .u16 0, .int .i64 0, .string ⟨#[]⟩, .int .i64 0, .slice none 0 0, .int .i64 0, .int .i64 0, .int .i64 0, .int .i64 0] 84
    simpa using this
  replace c0 := (hb0.cell (p := ⟨q, 0, none⟩) (cell_lt c0)).trans c0
  replace c1 := (hb0.cell (p := ⟨q, 1, none⟩) (cell_lt c1)).trans c1
  replace ca := (hb0.cell (p := ⟨ga, x.slot, none⟩) (cell_lt ca)).trans ca
  have HB : Hid (Below w.heap.size w ((w.alloc (.cells #[.int .u16 x.pc, .int .i64 x.tag] 24)).alloc (.cells #[.int .u16 0, .int .i64 0, .string ⟨#[]⟩, .int .i64 0, .slice none 0 0, .int .i64 0, .int .i64 0, .int .i64 0, .int .i64 0] 84))) := hb0
  have hfw : fg < w.heap.size := cell_lt d1
  replace d1 := (hb0.cell (p := ⟨fg, i * 12 + 1, none⟩) (cell_lt d1)).trans d1
  replace d2 := (hb0.cell (p := ⟨fg, i * 12 + 2, none⟩) (cell_lt d2)).trans d2
  clear hb0
  generalize ((w.alloc (.cells #[.int .u16 x.pc, .int .i64 x.tag] 24)).alloc (.cells #[.int .u16 0, .int .i64 0, .string ⟨#[]⟩, .int .i64 0, .slice none 0 0, .int .i64 0, .int .i64 0, .int .i64 0, .int .i64 0] 84)) = W0 at *
  have k0 : W0.cell? ⟨w.heap.size, 0, none⟩ = some (.int .u16 x.pc) := zk.cell 0
  have k1 : W0.cell? ⟨w.heap.size, 1, none⟩ = some (.int .i64 x.tag) := zk.cell 1
  have EK := fun W => eqlKey W x.pc x.tag x.pc x.tag
  rw [show ((x.pc == x.pc) && (x.tag == x.tag)) = true by simp] at EK
  go_upto_region 2 with fail
  go_quiet (fail)
  replace zh : Blk (W0.drewN nq) (w.heap.size + 1) #[.int .u16 0, .int .i64 0, .string ⟨#[]⟩, .int .i64 0, .slice none 0 0, .int .i64 0, .int .i64 0, .int .i64 0, .int .i64 0] 84 := zh
  replace c1 : (W0.drewN nq).cell? ⟨q, 1, none⟩ = some (.slice (some ⟨fg, 0, none⟩) n fc) := c1
  have hb1 : Below w.heap.size w (W0.drewN nq) := below_drawsX HB.out nq
  have RX : (W0.drewN nq).rangeAt fg (i * 12 + 3) (#[.int .u16 x.pc, .int .i64 x.tag, .string x.s, .int .i64 x.ni, .slice x.oa x.on x.oc, .int .i64 x.lo, .int .i64 x.hi, .int .i64 x.f, .int .i64 x.sz] : Array Value).toList := fun t v hv => by
    have ht : t < 9 := (List.getElem?_eq_some_iff.1 hv).1
    rw [hb1.cell (p := ⟨fg, i * 12 + 3 + t, none⟩) hfw, Nat.add_assoc, HCX.out (3 + t) (by omega), ← hv]
    rcases (show t = 0 ∨ t = 1 ∨ t = 2 ∨ t = 3 ∨ t = 4 ∨ t = 5 ∨ t = 6 ∨ t = 7 ∨ t = 8 by omega) with rfl | rfl | rfl | rfl | rfl | rfl | rfl | rfl | rfl <;> rfl
  clear c0 ca d1 d2 k0 k1 EK zk HB
  generalize W0.drewN nq = W1 at *
  go_upto_region 3 with fail
  go_wp2_with (first
    | (refine wpList_load_mid rfl 84 _ rfl fg (i * 12 + 3) rfl (#[.int .u16 x.pc, .int .i64 x.tag, .string x.s, .int .i64 x.ni, .slice x.oa x.on x.oc, .int .i64 x.lo, .int .i64 x.hi, .int .i64 x.f, .int .i64 x.sz] : Array Value).toList _ RX Try.underlying84 rfl (by kernel_rfl) ?_; rw [Array.toArray_toList])
    | (refine wpList_store_mid rfl 84 _ _ rfl (w.heap.size + 1) 0 #[.int .u16 x.pc, .int .i64 x.tag, .string x.s, .int .i64 x.ni, .slice x.oa x.on x.oc, .int .i64 x.lo, .int .i64 x.hi, .int .i64 x.f, .int .i64 x.sz] rfl rfl (zh.there' 9 rfl) (by kernel_rfl) (by kernel_rfl) ?_))
  have z5 : Blk (W1.setCells (w.heap.size + 1) 0 (#[.int .u16 x.pc, .int .i64 x.tag, .string x.s, .int .i64 x.ni, .slice x.oa x.on x.oc, .int .i64 x.lo, .int .i64 x.hi, .int .i64 x.f, .int .i64 x.sz] : Array Value).toList) (w.heap.size + 1) #[.int .u16 x.pc, .int .i64 x.tag, .string x.s, .int .i64 x.ni, .slice x.oa x.on x.oc, .int .i64 x.lo, .int .i64 x.hi, .int .i64 x.f, .int .i64 x.sz] 84 := zh.setAll rfl
  refine ret_agg2 (m := w.heap.size + 1) (L := #[.int .u16 x.pc, .int .i64 x.tag, .string x.s, .int .i64 x.ni, .slice x.oa x.on x.oc, .int .i64 x.lo, .int .i64 x.hi, .int .i64 x.f, .int .i64 x.sz]) (x := .bool true) Try.results42 (by kernel_rfl) (by kernel_rfl) (by kernel_rfl) z5 Try.underlying84 rfl (by kernel_rfl) ?_
  exact ⟨rfl, setCells_below' (by omega) _ _ _ _ hb1⟩
end Go.Proofs.Ytpnalcbpdejpjaa
