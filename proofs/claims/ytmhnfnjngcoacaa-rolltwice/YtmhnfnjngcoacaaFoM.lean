/- Write. -/
import Derived.Test.YtmhnfnjngcoacaaFoL
namespace Go.Proofs.Ytmhnfnjngcoacaa
open Go.RowKit
set_option linter.unusedVariables false
set_option linter.unusedSimpArgs false

/-- Texts as the cells of a slice. -/
def tl (l : List ByteArray) : List Value := l.map Value.string
theorem tl_snoc (l : List ByteArray) (k : ByteArray) : tl (l ++ [k]) = tl l ++ [.string k] := by simp [tl]
theorem infoStr : (Try.prog.info? 9).map (fun i => (i.zero, i.size, i.bytes)) = some (some (.string ⟨#[]⟩), 1, 16) := by kernel_rfl
theorem info_parts3 {P : Program} {t : TypeId} {z : Value} {n b : Nat} (h : (P.info? t).map (fun i => (i.zero, i.size, i.bytes)) = some (some z, n, b)) :
    ∃ i, P.info? t = some i ∧ i.zero = some z ∧ i.size = n ∧ i.bytes = b := by
  cases hq : P.info? t with
  | none => simp [hq] at h
  | some i => simp [hq] at h; exact ⟨i, rfl, h.1, h.2.1, h.2.2⟩
/-- A slice of texts of the call's own. -/
def OwnsT (w : World) (base : Nat) (v : Value) (l : List ByteArray) : Prop := w.ownsRow base 9 1 v l.length (tl l)
theorem OwnsT.kept {w w' : World} {base : Nat} {v : Value} {l : List ByteArray} (h : OwnsT w base v l) (k : Kept w w') : OwnsT w' base v l := by
  obtain ⟨h1, h2⟩ := h
  refine ⟨h1, ?_⟩
  rcases h2 with h2 | ⟨b, cap, cur, e1, e2, e3, e4⟩
  · exact .inl h2
  · exact .inr ⟨b, cap, cur, e1, e2, k.heap e3, e4⟩
theorem OwnsT.all {w : World} {base : Nat} {v : Value} {l : List ByteArray} (h : OwnsT w base v l) (hl : 0 < l.length) :
    ∃ g cap, v = .slice (some ⟨g, 0, none⟩) l.length cap ∧ l.length ≤ cap ∧ g < w.heap.size ∧ ∀ (j : Nat) x, l[j]? = some x → w.cell? ⟨g, 0 + j, none⟩ = some (.string x) := by
  rcases h.2 with ⟨e, h0⟩ | ⟨g, cap', cur, e, hb, hh, hnc, _, hcs, ht⟩
  · omega
  · refine ⟨g, cap', e, hnc, lt_of_heap hh, fun j x hx => ?_⟩
    have hj : j < l.length := by
      obtain ⟨hj, _⟩ := List.getElem?_eq_some_iff.1 hx
      exact hj
    rw [Nat.zero_add, cell_of_row w g j cur _ (0, 0) hh]
    have h2 : (cur.toList.take (l.length * 1))[j]? = (tl l)[j]? := by rw [ht]
    rw [List.getElem?_take, if_pos (by omega)] at h2
    simp only [Array.getElem?_toList] at h2
    rw [h2]
    simp [tl, hx]
theorem Below.toKept {w w' : World} (h : Below w.heap.size w w') : Kept w w' := ⟨h.os, h.output, h.size, h.block⟩
def rowsT (B : List Int) (k : Nat) : List ByteArray := (List.range k).map fun i => ⟨(rowT B (7 - i)).toArray⟩
theorem rowsT_len (B : List Int) (k : Nat) : (rowsT B k).length = k := by simp [rowsT]
theorem rowsT_succ (B : List Int) (k : Nat) : rowsT B (k + 1) = rowsT B k ++ [⟨(rowT B (7 - k)).toArray⟩] := by simp [rowsT, List.range_succ]
theorem rowsT_join (B : List Int) : Lib.join ((rowsT B 8).map (·.data.toList)) [47] = writeT B := by
  rw [← writeT_join]
  congr 1
end Go.Proofs.Ytmhnfnjngcoacaa
