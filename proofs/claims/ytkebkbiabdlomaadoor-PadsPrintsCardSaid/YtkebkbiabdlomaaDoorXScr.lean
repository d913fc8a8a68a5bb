/-
  What a script's text is, and what Print hands back.
-/
import Derived.Test.YtkebkbiabdlomaaDoorXRec
import Derived.Test.YtkebkbiabdlomaaDoorXRun
set_option linter.unusedSimpArgs false
set_option linter.unusedVariables false
namespace Go.Proofs.YtkebkbiabdlomaaDoor
open Go.RowKit Classical
/-- The first line. -/
def head : List UInt8 := [115, 99, 114, 105, 112, 116, 32, 49, 10]
/-- l is the records' text from turn i on. -/
def SR (q : Nat → TuE) (len i : Nat) (l : List UInt8) : Prop :=
  ∀ P : Nat → List UInt8 → Prop, P len [] → (∀ i n l, RunIs (fun j => q (i + j)) (len - i) n → P (i + n) l → P i (recT (q i) n ++ l)) → P i l
theorem SR.done {q : Nat → TuE} {len : Nat} : SR q len len [] := fun _ h _ => h
theorem SR.step {q : Nat → TuE} {len i n : Nat} {l : List UInt8} (r : RunIs (fun j => q (i + j)) (len - i) n) (h : SR q len (i + n) l) : SR q len i (recT (q i) n ++ l) := fun P a b => b _ _ _ r (h P a b)
theorem SR.inv {q : Nat → TuE} {len i : Nat} {l : List UInt8} (h : SR q len i l) : SR q len i l ∧ ((i = len ∧ l = []) ∨ ∃ n m, RunIs (fun j => q (i + j)) (len - i) n ∧ SR q len (i + n) m ∧ l = recT (q i) n ++ m) :=
  h (fun i l => SR q len i l ∧ ((i = len ∧ l = []) ∨ ∃ n m, RunIs (fun j => q (i + j)) (len - i) n ∧ SR q len (i + n) m ∧ l = recT (q i) n ++ m))
    ⟨SR.done, .inl ⟨rfl, rfl⟩⟩ (fun _ n m r g => ⟨SR.step r g.1, .inr ⟨n, m, r, g.1, rfl⟩⟩)
theorem SR.same {q : Nat → TuE} {len i : Nat} {l : List UInt8} (h : SR q len i l) : ∀ m, SR q len i m → l = m := by
  refine h (fun i l => ∀ m, SR q len i m → l = m) ?_ ?_
  · intro m g
    rcases g.inv.2 with ⟨_, rfl⟩ | ⟨n, m', r, _, _⟩
    · rfl
    · have := r.one
      have := r.le
      omega
  · intro i n l r ih m g
    rcases g.inv.2 with ⟨rfl, rfl⟩ | ⟨n', m', r', g', rfl⟩
    · have := r.one
      have := r.le
      omega
    · obtain rfl := r.same r'
      rw [ih _ g']
theorem recT_len (t : TuE) (n : Nat) (ok : t.Ok) (hn : n ≤ 9223372036854775807) : (recT t n).length ≤ 100 := by
  have d0 := dec_len (flg t) (by unfold flg; split <;> split <;> omega)
  have d1 := dec_len t.bu.toNat (by have := ok.bu0; have := ok.bu1; omega)
  have d2 := dec_len n (by omega)
  unfold recT
  split <;> (simp only [List.length_append, padT_len, List.length_cons, List.length_nil]; omega)
theorem Tu.drop {W : World} {a : Option Addr} {L : Nat} {q : Nat → TuE} {b o : Nat} (h : Tu W a L q b o) (n : Nat) (a' : Option Addr) (ha : n < L → a' = some ⟨b, o + n * 5, none⟩) : Tu W a' (L - n) (fun j => q (n + j)) b (o + n * 5) :=
  ⟨fun hl => ⟨ha (by omega), (h.at_ (by omega)).2⟩, fun i hi j v hv => by
    have := h.cells (n + i) (by omega) j v hv
    rw [show o + n * 5 + i * 5 + j = o + (n + i) * 5 + j by omega]
    exact this, fun i hi => h.ok (n + i) (by omega)⟩
theorem Txm.len {w : World} {base : Nat} {v : Value} {l : List UInt8} (h : Txm w base v l) : ∃ a cap, v = .slice a l.length cap := by
  rcases h with h | ⟨g, fz, e, _⟩
  · exact h.len
  · exact ⟨_, _, e⟩
theorem Txm.str {w : World} {base : Nat} {v : Value} {l : List UInt8} (h : Txm w base v l) (hl : 0 < l.length) : (convert 42 9 v).run Tryd.prog w = .ok (.string ⟨l.toArray⟩) w := by
  rcases h with h | ⟨g, fz, e, _, hh⟩
  · exact h.str hl
  · rw [e]
    refine run_convert_bytes_back w 42 9 5 ⟨g, 0, none⟩ l.length l (by kernel_rfl) (by kernel_rfl) (by kernel_rfl) fun j hj => ?_
    have hc := cell_of_row w g j _ _ fz hh
    simp [Lib.byteCells, hj] at hc
    by_cases hj0 : j = 0
    · subst hj0; simpa [Addr.add] using hc
    · simpa [Addr.add, hj0] using hc
/-- What Print hands back. -/
structure PrIs (q : Nat → TuE) (len : Nat) (s : List UInt8) (e : Int) : Prop where
  many : 4096 < len → s = [] ∧ e = 95
  long : len ≤ 4096 → ∀ l, SR q len 0 l → 65536 < 9 + l.length → s = [] ∧ e = 1
  text : len ≤ 4096 → ∀ l, SR q len 0 l → 9 + l.length ≤ 65536 → s = head ++ l ∧ e = 0
  some : len ≤ 4096 → ∃ l, SR q len 0 l
theorem PrIs.same {q : Nat → TuE} {len : Nat} {s t : List UInt8} {e f : Int} (h : PrIs q len s e) (g : PrIs q len t f) : s = t ∧ e = f := by
  by_cases hm : 4096 < len
  · obtain ⟨rfl, rfl⟩ := h.many hm
    obtain ⟨rfl, rfl⟩ := g.many hm
    exact ⟨rfl, rfl⟩
  · obtain ⟨l, hl⟩ := h.some (by omega)
    by_cases hs : 9 + l.length ≤ 65536
    · obtain ⟨rfl, rfl⟩ := h.text (by omega) l hl hs
      obtain ⟨rfl, rfl⟩ := g.text (by omega) l hl hs
      exact ⟨rfl, rfl⟩
    · obtain ⟨rfl, rfl⟩ := h.long (by omega) l hl (by omega)
      obtain ⟨rfl, rfl⟩ := g.long (by omega) l hl (by omega)
      exact ⟨rfl, rfl⟩
end Go.Proofs.YtkebkbiabdlomaaDoor
