/- The reader of a Forsyth text in memory: the contracts of its small steps. -/
import Derived.Test.YtmhnfnjngcoacaaFoA
namespace Go.Proofs.Ytmhnfnjngcoacaa
open Go.RowKit
set_option linter.unusedVariables false
set_option linter.unusedSimpArgs false

/-- Of what was there when w stood nothing has turned in w' but block g. -/
structure KeptB (g : Nat) (w w' : World) : Prop where
  os : w'.os = w.os
  output : w'.output = w.output
  size : w.heap.size ≤ w'.heap.size
  block : ∀ k, k < w.heap.size → k ≠ g → w'.heap[k]? = w.heap[k]?
theorem KeptB.of {g : Nat} {w w' : World} (h : Kept w w') : KeptB g w w' := ⟨h.os, h.output, h.size, fun k hk _ => h.block k hk⟩
theorem KeptB.refl (g : Nat) (w : World) : KeptB g w w := KeptB.of (Kept.refl w)
theorem KeptB.trans {g : Nat} {a b c : World} (h : KeptB g a b) (k : KeptB g b c) : KeptB g a c :=
  ⟨k.os.trans h.os, k.output.trans h.output, Nat.le_trans h.size k.size, fun i hi hn => (k.block i (Nat.lt_of_lt_of_le hi h.size) hn).trans (h.block i hi hn)⟩
theorem KeptB.setCell {g : Nat} {a w : World} (h : KeptB g a w) (k : Nat) (u : Value) : KeptB g a (w.setCell ⟨g, k, none⟩ u) :=
  ⟨h.os, h.output, by simpa [World.setCell] using h.size, fun i hi hn => (Below.heap_setCell w ⟨g, k, none⟩ u i (by exact fun e => hn e)).trans (h.block i hi hn)⟩
theorem KeptB.setCells {g : Nat} {a : World} : ∀ (vs : List Value) (w : World) (k : Nat), KeptB g a w → KeptB g a (w.setCells g k vs)
  | [], w, k, h => by simpa [World.setCells] using h
  | v :: vs, w, k, h => by rw [World.setCells]; exact KeptB.setCells vs _ _ (h.setCell k v)
theorem KeptB.kept {g : Nat} {a w w' : World} (k : KeptB g w w') (h : Kept a w) (hg : a.heap.size ≤ g) : Kept a w' :=
  ⟨k.os.trans h.os, k.output.trans h.output, Nat.le_trans h.size k.size, fun i hi => (k.block i (Nat.lt_of_lt_of_le hi h.size) (by omega)).trans (h.block i hi)⟩
theorem KeptB.heap {g : Nat} {w w' : World} (k : KeptB g w w') {j : Nat} {o : Obj} (hj : j ≠ g) (h : w.heap[j]? = some o) : w'.heap[j]? = some o :=
  (k.block j (lt_of_heap h) hj).trans h
/-- Cells written one behind the other in the midst of a block. -/
theorem heap_setCells (g : Nat) (t : TypeId) : ∀ (vs old pre post : List Value) (w : World), old.length = vs.length → w.heap[g]? = some (.cells (pre ++ old ++ post).toArray t (0, 0)) →
    (w.setCells g pre.length vs).heap[g]? = some (.cells (pre ++ vs ++ post).toArray t (0, 0))
  | [], [], pre, post, w, _, h => by simpa [World.setCells] using h
  | [], _ :: _, pre, post, w, hl, _ => by simp at hl
  | _ :: _, [], pre, post, w, hl, _ => by simp at hl
  | v :: vs, o :: old, pre, post, w, hl, h => by
    rw [World.setCells]
    have h1 : (w.setCell ⟨g, pre.length, none⟩ v).heap[g]? = some (.cells ((pre ++ [v]) ++ old ++ post).toArray t (0, 0)) := by
      rw [heap_setCell_same w g pre.length _ t _ h]
      congr 2
      simp
    have := heap_setCells g t vs old (pre ++ [v]) post _ (by simpa using hl) h1
    simpa using this
/-- The reader's cells: its board, its file, its rank. -/
def rc (B : List Int) (f r : Int) : List Value := cl B ++ [.int .i64 f, .int .i64 r]
theorem sizeB : (Try.prog.info? 24).map (·.size) = some 64 := size24

end Go.Proofs.Ytmhnfnjngcoacaa
