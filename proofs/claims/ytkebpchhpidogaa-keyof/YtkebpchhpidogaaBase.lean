/- Small facts that the other texts share: memory that only grows, ranges over strings, texts that are unlike. -/
import Derived.Test.YtkebpchhpidogaaRows
import Derived.WalkKit
import Derived.ProofKit
import Derived.OpenShut
import Derived.LoopTactic
import Derived.WalkLawsBesides
import Derived.Outline
import Derived.Lib.Hide
import Derived.Deep.QuietTactic
import Derived.BigQuiet
import Derived.Laws.Cover4
import Derived.WalkSpells
import Derived.Laws.RangeAny
namespace Go.Proofs.Ytkebpchhpidogaa
open Go.RowKit
set_option linter.unusedVariables false

theorem Qh {p : Prop} (h : p) : Hid p := h

theorem ret_int {k : IntKind} {a b : Int} (h : a = b) : Ending.returned (.int k a) = .returned (.int k b) := by rw [h]
theorem grown_trans {a b c : World} (h : Grown a b) (k : Grown b c) : Grown a c :=
  ⟨World.keptBut_trans h.1 k.1, fun x => (k.2.1 x).trans (h.2.1 x), Nat.le_trans h.2.2 k.2.2⟩
theorem grown_drewN (w : World) (n : Nat) : Grown w (w.drewN n) := Grown.refl w
theorem frozen_alloc_iter (w : World) (s : ByteArray) (p : Nat) (a : Addr) : (w.iter s p).frozen? a = w.frozen? a := by
  by_cases h : a.block = w.heap.size
  · have e1 : (w.iter s p).heap[a.block]? = some (.stringIter s p) := by rw [h]; exact World.iter_heap w s p
    have e2 : w.heap[a.block]? = none := by rw [h]; simp
    simp [World.frozen?, e1, e2]
  · exact World.frozen?_alloc_old _ _ _ h
theorem kept_iter (w : World) (s : ByteArray) (p : Nat) : w.keptBut (w.iter s p) (fun _ => False) := by
  refine ⟨rfl, rfl, fun i hi => ?_⟩
  have e : (w.iter s p).heap[i]? = w.heap[i]? := by
    show (w.heap.push _)[i]? = _
    rw [Array.getElem?_push, if_neg (by omega)]
  rw [e]
  split <;> simp_all
theorem grown_iter (w : World) (s : ByteArray) (p : Nat) : Grown w (w.iter s p) :=
  ⟨kept_iter w s p, fun a => frozen_alloc_iter w s p a, by show w.heap.size ≤ (w.heap.push _).size; simp⟩
theorem width_pos (s : ByteArray) (pos : Nat) (h : pos < s.size) : 1 ≤ (Utf8.decode s pos).2 := by
  by_cases ha : (s[pos]'h).toNat < 128
  · rw [decode_ascii s pos h ha]
    exact Nat.le_refl _
  · exact (decode_high s pos h (by omega)).2
theorem str_eq_false {a b : ByteArray} (h : a ≠ b) : (a.toList == b.toList) = false := by
  rw [beq_eq_false_iff_ne]
  intro e
  rw [ByteArray.toList_eq, ByteArray.toList_eq] at e
  exact h (WideShapes.bytes_inj e)
/-- A string's iterator at block i, moved on. -/
def iterAt (w : World) (i : Nat) (s : ByteArray) (p : Nat) : World := { w with heap := w.heap.setIfInBounds i (.stringIter s p) }
theorem lt_of_heap {w : World} {i : Nat} {o : Obj} (h : w.heap[i]? = some o) : i < w.heap.size := by
  obtain ⟨h, _⟩ := Array.getElem?_eq_some_iff.1 h
  exact h
theorem grown_heap_iter {a b : World} (g : Grown a b) {i : Nat} {s : ByteArray} {p : Nat} (h : a.heap[i]? = some (.stringIter s p)) : b.heap[i]? = some (.stringIter s p) := by
  have hk := g.1.2.2 i (lt_of_heap h)
  rw [h] at hk
  split at hk <;> simp_all
theorem iterAt_heap {w : World} {i : Nat} {o : Obj} (h : w.heap[i]? = some o) (s : ByteArray) (p : Nat) : (iterAt w i s p).heap[i]? = some (.stringIter s p) := by
  have := lt_of_heap h
  show (w.heap.setIfInBounds i _)[i]? = _
  simp [this]
theorem next_at {P : Program} (w : World) (i : Nat) (s : ByteArray) (pos : Nat) (ty : TypeId) (hi : w.heap[i]? = some (.stringIter s pos)) (h : pos < s.size) :
    (Instr.next (.pointer (some ⟨i, 0, none⟩)) true ty).run P w = .ok (.tuple #[.bool true, .int .i64 pos, .int .i32 (Utf8.decode s pos).1]) (iterAt w i s (pos + (Utf8.decode s pos).2)) := by
  simp only [Instr.next, getObj, setObj, Sem.run_bind, Sem.run, hi, Result.andThen, h, if_true]
  simp [goInt, iterAt]
theorem next_at_end {P : Program} (w : World) (i : Nat) (s : ByteArray) (pos : Nat) (ty : TypeId) (hi : w.heap[i]? = some (.stringIter s pos)) (h : ¬ pos < s.size) :
    (Instr.next (.pointer (some ⟨i, 0, none⟩)) true ty).run P w = .ok (.tuple #[.bool false]) w := by
  simp [Instr.next, getObj, Sem.run, hi, h]
theorem grown_iterAt {a b : World} (g : Grown a b) {i : Nat} (hi : a.heap.size ≤ i) {s : ByteArray} {p : Nat} (h : b.heap[i]? = some (.stringIter s p)) (q : Nat) : Grown a (iterAt b i s q) := by
  refine ⟨⟨g.1.1, g.1.2.1, fun j hj => ?_⟩, fun x => ?_, ?_⟩
  · have e : (iterAt b i s q).heap[j]? = b.heap[j]? := by
      show (b.heap.setIfInBounds i _)[j]? = _
      rw [Array.getElem?_setIfInBounds_ne (by omega)]
    rw [e]
    exact g.1.2.2 j hj
  · rw [← g.2.1 x]
    by_cases hx : x.block = i
    · have e1 := iterAt_heap h s q
      subst hx
      simp [World.frozen?, e1, h]
    · have e : (iterAt b i s q).heap[x.block]? = b.heap[x.block]? := by
        show (b.heap.setIfInBounds i _)[x.block]? = _
        rw [Array.getElem?_setIfInBounds_ne (by omega)]
      simp [World.frozen?, e]
  · show a.heap.size ≤ (b.heap.setIfInBounds i _).size
    simp [g.2.2]
theorem grown_cell {a b : World} (g : Grown a b) {i off : Nat} {v : Value} (h : a.cell? ⟨i, off, none⟩ = some v) : b.cell? ⟨i, off, none⟩ = some v := by
  have hi : i < a.heap.size := by
    by_cases hi : i < a.heap.size
    · exact hi
    · have e : a.heap[i]? = none := by simp; omega
      simp [World.cell?, e] at h
  rw [World.keptBut.cell g.1 hi (fun h => h), h]
theorem iterAt_iter (w : World) (s : ByteArray) (p q : Nat) : iterAt (w.iter s p) w.heap.size s q = w.iter s q := World.iter_set w s p q
end Go.Proofs.Ytkebpchhpidogaa
