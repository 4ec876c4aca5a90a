/- The reader of a Forsyth text in memory: the contracts of its small steps. -/
import Derived.Test.YtkfjpecehighlaaDoorFoA
namespace Go.Proofs.YtkfjpecehighlaaDoor
open Go.RowKit
set_option linter.unusedVariables false
set_option linter.unusedSimpArgs false

/-- Of what was there when w stood nothing has turned in w' but block g. -/
structure KeptB (g : Nat) (w w' : World) : Prop where
  os : w'.os = w.os
  output : w'.output = w.output
  size : w.heap.size ≤ w'.heap.size
  block : ∀ k, k < w.heap.size → k ≠ g → w'.heap[k]? = w.heap[k]?
theorem KeptB.of {g : Nat} {w w' : World} (h : Kept w w') : KeptB g w w' := ⟨h.os, h.output, h.size, fun k hk _ => h.block k hk⟩
theorem KeptB.refl (g : Nat) (w : World) : KeptB g w w := KeptB.of (Kept.refl w)
theorem KeptB.trans {g : Nat} {a b c : World} (h : KeptB g a b) (k : KeptB g b c) : KeptB g a c :=
  ⟨k.os.trans h.os, k.output.trans h.output, Nat.le_trans h.size k.size, fun i hi hn => (k.block i (Nat.lt_of_lt_of_le hi h.size) hn).trans (h.block i hi hn)⟩
theorem KeptB.setCell {g : Nat} {a w : World} (h : KeptB g a w) (k : Nat) (u : Value) : KeptB g a (w.setCell ⟨g, k, none⟩ u) :=
  ⟨h.os, h.output, by simpa [World.setCell] using h.size, fun i hi hn => (Below.heap_setCell w ⟨g, k, none⟩ u i (by exact fun e => hn e)).trans (h.block i hi hn)⟩
theorem KeptB.setCells {g : Nat} {a : World} : ∀ (vs : List Value) (w : World) (k : Nat), KeptB g a w → KeptB g a (w.setCells g k vs)
  | [], w, k, h => by simpa [World.setCells] using h
  | v :: vs, w, k, h => by rw [World.setCells]; exact KeptB.setCells vs _ _ (h.setCell k v)
theorem KeptB.kept {g : Nat} {a w w' : World} (k : KeptB g w w') (h : Kept a w) (hg : a.heap.size ≤ g) : Kept a w' :=
  ⟨k.os.trans h.os, k.output.trans h.output, Nat.le_trans h.size k.size, fun i hi => (k.block i (Nat.lt_of_lt_of_le hi h.size) (by omega)).trans (h.block i hi)⟩
theorem KeptB.heap {g : Nat} {w w' : World} (k : KeptB g w w') {j : Nat} {o : Obj} (hj : j ≠ g) (h : w.heap[j]? = some o) : w'.heap[j]? = some o :=
  (k.block j (lt_of_heap h) hj).trans h
/-- Cells written one behind the other in the midst of a block. -/
theorem heap_setCells (g : Nat) (t : TypeId) : ∀ (vs old pre post : List Value) (w : World), old.length = vs.length → w.heap[g]? = some (.cells (pre ++ old ++ post).toArray t (0, 0)) →
    (w.setCells g pre.length vs).heap[g]? = some (.cells (pre ++ vs ++ post).toArray t (0, 0))
  | [], [], pre, post, w, _, h => by simpa [World.setCells] using h
  | [], _ :: _, pre, post, w, hl, _ => by simp at hl
  | _ :: _, [], pre, post, w, hl, _ => by simp at hl
  | v :: vs, o :: old, pre, post, w, hl, h => by
    rw [World.setCells]
    have h1 : (w.setCell ⟨g, pre.length, none⟩ v).heap[g]? = some (.cells ((pre ++ [v]) ++ old ++ post).toArray t (0, 0)) := by
      rw [heap_setCell_same w g pre.length _ t _ h]
      congr 2
      simp
    have := heap_setCells g t vs old (pre ++ [v]) post _ (by simpa using hl) h1
    simpa using this
/-- The reader's cells: its board, its file, its rank. -/
def rc (B : List Int) (f r : Int) : List Value := cl B ++ [.int .i64 f, .int .i64 r]
structure Rd (w : World) (g : Nat) (B : List Int) (f r : Int) : Prop where
  len : B.length = 64
  at_ : w.heap[g]? = some (.cells (rc B f r).toArray 42 (0, 0))
theorem Rd.cell {w : World} {g : Nat} {B : List Int} {f r : Int} (h : Rd w g B f r) (k : Nat) : w.cell? ⟨g, k, none⟩ = (rc B f r)[k]? := by
  rw [cell_of_row _ _ k _ _ (0, 0) h.at_]; simp
theorem Rd.file {w : World} {g : Nat} {B : List Int} {f r : Int} (h : Rd w g B f r) : w.cell? ⟨g, 64, none⟩ = some (.int .i64 f) := by
  rw [h.cell]
  have := cl_length B
  have := h.len
  unfold rc
  rw [List.getElem?_append_right (by omega), show 64 - (cl B).length = 0 by omega]; rfl
theorem Rd.rank {w : World} {g : Nat} {B : List Int} {f r : Int} (h : Rd w g B f r) : w.cell? ⟨g, 65, none⟩ = some (.int .i64 r) := by
  rw [h.cell]
  have := cl_length B
  have := h.len
  unfold rc
  rw [List.getElem?_append_right (by omega), show 65 - (cl B).length = 1 by omega]; rfl
theorem Rd.frozen {w : World} {g : Nat} {B : List Int} {f r : Int} (h : Rd w g B f r) (k : Nat) : w.frozen? ⟨g, k, none⟩ = false :=
  frozen_of_row w g k _ _ h.at_
theorem Rd.setFile {w : World} {g : Nat} {B : List Int} {f r : Int} (h : Rd w g B f r) (x : Int) : Rd (w.setCell ⟨g, 64, none⟩ (.int .i64 x)) g B x r := by
  refine ⟨h.len, ?_⟩
  have hl : (cl B).length = 64 := by rw [cl_length, h.len]
  rw [heap_setCell_same w g 64 _ _ _ h.at_]
  congr 2
  simp [rc, hl]
theorem Rd.setRank {w : World} {g : Nat} {B : List Int} {f r : Int} (h : Rd w g B f r) (x : Int) : Rd (w.setCell ⟨g, 65, none⟩ (.int .i64 x)) g B f x := by
  refine ⟨h.len, ?_⟩
  have hl : (cl B).length = 64 := by rw [cl_length, h.len]
  rw [heap_setCell_same w g 65 _ _ _ h.at_]
  congr 2
  simp [rc, hl]
theorem Rd.range {w : World} {g : Nat} {B : List Int} {f r : Int} (h : Rd w g B f r) : w.rangeAt g 0 (cl B) := by
  intro j v hv
  rw [Nat.zero_add, h.cell]
  unfold rc
  have : j < (cl B).length := by
    obtain ⟨hj, _⟩ := List.getElem?_eq_some_iff.1 hv
    exact hj
  rw [List.getElem?_append_left this, hv]
theorem Rd.there {w : World} {g : Nat} {B : List Int} {f r : Int} (h : Rd w g B f r) : w.there g 0 64 := by
  intro j hj
  refine ⟨?_, h.frozen _⟩
  rw [h.cell]
  have := cl_length B
  have := h.len
  simp [rc]; omega
theorem Rd.setBoard {w : World} {g : Nat} {B : List Int} {f r : Int} (h : Rd w g B f r) (B' : List Int) (hB' : B'.length = 64) : Rd (w.setCells g 0 (cl B').toArray.toList) g B' f r := by
  refine ⟨hB', ?_⟩
  have := heap_setCells g 42 (cl B') (cl B) [] [.int .i64 f, .int .i64 r] w (by rw [cl_length, cl_length, h.len, hB']) (by simpa [rc] using h.at_)
  simpa [rc] using this
theorem Rd.heap {w w' : World} {g : Nat} {B : List Int} {f r : Int} (h : Rd w g B f r) (k : Kept w w') : Rd w' g B f r := ⟨h.len, k.heap h.at_⟩
theorem sizeB : (Tryd.prog.info? 24).map (·.size) = some 64 := size24

theorem whole_is (w : World) (g : Nat) (B : List Int) (f r : Int) (h : Rd w g B f r) (h0 : 0 ≤ f) (h1 : f ≤ 8) (h2 : 0 ≤ r) (h3 : r ≤ 7) :
    Calls Tryd.prog 16 #[.pointer (some ⟨g, 0, none⟩)] w fun e w' => e = .returned (.bool ((f == 8) && (r == 0))) ∧ w = w' := by
  have c1 := h.file
  have c2 := h.rank
  clear h
  by_cases e : (f == 8) = true
  · by_cases e' : (r == 0) = true
    · rw [e, e']
      go_enter Tryd.func16, Tryd.ntmps16
      go_wp2
      go_ret
      exact ⟨rfl, rfl⟩
    · have e'' : (r == 0) = false := by simpa using e'
      rw [e, e'']
      clear e'
      go_enter Tryd.func16, Tryd.ntmps16
      go_wp2
      go_ret
      exact ⟨rfl, rfl⟩
  · have e'' : (f == 8) = false := by simpa using e
    rw [e'', Bool.false_and]
    clear e
    go_enter Tryd.func16, Tryd.ntmps16
    go_wp2
    go_ret
    exact ⟨rfl, rfl⟩
theorem down_no (w : World) (g : Nat) (B : List Int) (f r : Int) (h : Rd w g B f r) (hn : f < 8 ∨ r = 0) :
    Calls Tryd.prog 26 #[.pointer (some ⟨g, 0, none⟩)] w fun e w' => e = .returned (.bool false) ∧ w = w' := by
  have c1 := h.file
  have c2 := h.rank
  clear h
  by_cases e : f < 8
  · clear hn
    go_enter Tryd.func26, Tryd.ntmps26
    go_wp2
    go_ret
    exact ⟨rfl, rfl⟩
  · obtain rfl : r = 0 := hn.resolve_left e
    clear hn
    go_enter Tryd.func26, Tryd.ntmps26
    go_wp2
    go_ret
    exact ⟨rfl, rfl⟩
theorem down_yes (w : World) (g : Nat) (B : List Int) (f r : Int) (h : Rd w g B f r) (h0 : 8 ≤ f) (h1 : 0 < r) (h2 : r ≤ 7) :
    Calls Tryd.prog 26 #[.pointer (some ⟨g, 0, none⟩)] w fun e w' => e = .returned (.bool true) ∧ Rd w' g B 0 (r - 1) ∧ KeptB g w w' := by
  have c1 := h.file
  have c2 := h.rank
  have f1 := h.frozen 64
  have f2 := h.frozen 65
  have H := Lib.hid h
  have H1 := Lib.hid (h.setFile 0)
  have c3 := H1.out.rank
  have f3 := H1.out.frozen 65
  have b1 : ¬ f < 8 := by omega
  have b2 : (r == 0) = false := beq_eq_false_iff_ne.2 (by omega)
  clear h
  go_enter Tryd.func26, Tryd.ntmps26
  go_wp2
  go_ret
  exact ⟨rfl, H1.out.setRank _, ((KeptB.refl g w).setCell 64 _).setCell 65 _⟩
theorem skip_no (w : World) (g : Nat) (B : List Int) (f r m : Int) (h : Rd w g B f r) (h0 : 0 ≤ f) (h1 : f ≤ 8) (hm : 0 ≤ m) (hm' : m ≤ 8) (hn : 8 < f + m) :
    Calls Tryd.prog 27 #[.pointer (some ⟨g, 0, none⟩), .int .i64 m] w fun e w' => e = .returned (.bool false) ∧ w = w' := by
  have c1 := h.file
  clear h
  have hx : 8 - f < m := by omega
  go_enter Tryd.func27, Tryd.ntmps27
  go_wp2
  go_ret
  exact ⟨rfl, rfl⟩
theorem skip_yes (w : World) (g : Nat) (B : List Int) (f r m : Int) (h : Rd w g B f r) (h0 : 0 ≤ f) (h1 : f ≤ 8) (hm : 0 ≤ m) (hm' : m ≤ 8) (hn : f + m ≤ 8) :
    Calls Tryd.prog 27 #[.pointer (some ⟨g, 0, none⟩), .int .i64 m] w fun e w' => e = .returned (.bool true) ∧ Rd w' g B (f + m) r ∧ KeptB g w w' := by
  have c1 := h.file
  have f1 := h.frozen 64
  have H := Lib.hid h
  clear h
  have hx : ¬ 8 - f < m := by omega
  go_enter Tryd.func27, Tryd.ntmps27
  go_wp2
  go_ret
  exact ⟨rfl, H.out.setFile _, (KeptB.refl g w).setCell 64 _⟩
end Go.Proofs.YtkfjpecehighlaaDoor
