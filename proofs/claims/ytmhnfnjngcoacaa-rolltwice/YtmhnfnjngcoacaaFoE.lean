/- Read. -/
import Derived.Test.YtmhnfnjngcoacaaFoD
namespace Go.Proofs.Ytmhnfnjngcoacaa
open Go.RowKit
set_option linter.unusedVariables false
set_option linter.unusedSimpArgs false

theorem iterAt_other {w : World} {i j : Nat} (s : ByteArray) (p : Nat) (h : j ≠ i) : (iterAt w i s p).heap[j]? = w.heap[j]? := by
  show (w.heap.setIfInBounds i _)[j]? = _
  rw [Array.getElem?_setIfInBounds_ne (by omega)]
theorem Kept.iterAt {a w : World} (h : Kept a w) {i : Nat} (hi : a.heap.size ≤ i) (s : ByteArray) (p : Nat) : Kept a (iterAt w i s p) := by
  refine ⟨h.os, h.output, ?_, fun k hk => ?_⟩
  · show a.heap.size ≤ (w.heap.setIfInBounds i _).size
    simpa using h.size
  · rw [iterAt_other s p (by omega)]; exact h.block k hk
theorem results_board_tmp2 {fn : Func} {p t u : Tmp} (h : fn.results = #[.cell p 24, .tmp t, .tmp u]) (tmps : Array Value) (w : World) (g : Nat) (B : List Int) (hB : B.length = 64)
    (hp : tmps.getD p undef = .pointer (some ⟨g, 0, none⟩)) (hg : w.heap[g]? = some (.cells (cl B).toArray 24 (0, 0))) :
    (results fn tmps).run Try.prog w = .ok (.tuple #[.agg (cl B).toArray, tmps.getD t undef, tmps.getD u undef]) w := by
  have hp' : tmps[p]?.getD undef = .pointer (some ⟨g, 0, none⟩) := by simpa using hp
  simp [results, h, hp', asAddr, run_load_cl hB hg]
theorem len_size (t : ByteArray) : t.data.toList.length = t.size := Array.length_toList
theorem at_size (t : ByteArray) (pos : Nat) (h : pos < t.size) : t.data.toList[pos]'(by rw [len_size]; exact h) = t[pos]'h := by simp; rfl
end Go.Proofs.Ytmhnfnjngcoacaa
