/- A table, laid: blocks of 1024 cells. -/
import Derived.Test.YtkliefojegjhhaaDoorRaT
import Derived.Deep.WholeRow
namespace Go.Proofs.YtkliefojegjhhaaDoor
open Go.RowKit
set_option linter.unusedVariables false
set_option linter.unusedSimpArgs false

/-- A table's cells ahead of all. -/
def tz : Array Value := ((List.range 1024).map fun _ => Value.slice none 0 0).toArray
/-- The lengths of the first n lists. -/
def lenC (n i : Nat) : Value := .int .i64 (if i < n then ((listAt i).length : Int) else 0)
def lensA (n : Nat) : Array Value := ((List.range 1024).map (lenC n)).toArray
theorem tz_size : tz.size = 1024 := by simp [tz]
theorem lensA_size (n : Nat) : (lensA n).size = 1024 := by simp [lensA]
theorem lensA_at (n i : Nat) (h : i < 1024) : (lensA n)[i]? = some (lenC n i) := by simp [lensA, h]
theorem lensA_set (n : Nat) (h : n < 1024) : (lensA n).setIfInBounds n (.int .i64 ((listAt n).length : Int)) = lensA (n + 1) := by
  apply Array.ext_getElem?
  intro i
  rw [Array.getElem?_setIfInBounds, lensA_size]
  by_cases hi : i < 1024
  · rw [lensA_at _ i hi, lensA_at _ i hi]
    by_cases e : n = i
    · subst e
      simp [h, lenC]
    · rw [if_neg e]
      unfold lenC
      by_cases h2 : i < n
      · rw [if_pos h2, if_pos (by omega)]
      · rw [if_neg h2, if_neg (by omega)]
  · rw [if_neg (by omega)]
    simp [lensA, hi]
theorem zeroT : (Tryd.prog.info? 52).map (fun i => (i.zero, i.size)) = some (some (.agg tz), 1024) := by kernel_rfl
theorem zeroN : (Tryd.prog.info? 54).map (fun i => (i.zero, i.size)) = some (some (.agg (lensA 0)), 1024) := by kernel_rfl
theorem run_zero_t (w : World) : (zeroValue 52).run Tryd.prog w = .ok (.agg tz) w := (zero_of_info zeroT).1 w
theorem run_zero_n (w : World) : (zeroValue 54).run Tryd.prog w = .ok (.agg (lensA 0)) w := (zero_of_info zeroN).1 w
theorem size_lists : (Tryd.prog.info? 50).map (·.size) = some 1024 := by kernel_rfl
theorem run_build_t (w : World) : (Instr.build 52 #[]).run Tryd.prog w = .ok (.agg tz) w := by
  obtain ⟨i, hi, hs⟩ : ∃ i, Tryd.prog.info? 50 = some i ∧ i.size = 1024 := by
    cases hq : Tryd.prog.info? 50 with
    | none => have := size_lists; simp [hq] at this
    | some i => exact ⟨i, rfl, by have := size_lists; simpa [hq] using this⟩
  simp [Instr.build, run_zero_t, run_underlying Tryd.underlying52, Instr.fill, Value.cells, sizeOf, typeInfo, hi] <;> kernel_rfl
theorem wpList_build_t {ops : Array Oper} {rest : List Oper} {o : Oper} {a : Act} {w : World} {Q : Exit → Act → World → Prop} (hgd : o.guard = none) (ho : o.op = .build 52 #[])
    (h : wpList Tryd.prog ops Q rest (a.put o.dst (.agg tz)) w) : wpList Tryd.prog ops Q (o :: rest) a w := by
  refine wpList_plain hgd fun _ hK => ?_
  unfold Oper.wp execOp
  simp only [ho, Array.map_empty, run_build_t, Sem.run_bind, Result.andThen_ok, Sem.run_pure]
  exact hK _ _ h
theorem wpList_box_t {ops : Array Oper} {rest : List Oper} {o : Oper} {a : Act} {w : World} {Q : Exit → Act → World → Prop} (hgd : o.guard = none) (x : Operand) (ho : o.op = .box 52 x) (hx : a.eval x = .agg tz)
    (h : wpList Tryd.prog ops Q rest (a.put o.dst (.pointer (some ⟨w.heap.size, 0, none⟩))) (w.alloc (.cells tz 52))) : wpList Tryd.prog ops Q (o :: rest) a w := by
  refine wpList_plain hgd fun _ hK => ?_
  unfold Oper.wp execOp
  simp only [ho, hx, Instr.box, Sem.run_bind, Result.andThen_ok, Sem.run_pure, newVar, newRow, Value.cells]
  exact hK _ _ h
theorem wpList_new_n {ops : Array Oper} {rest : List Oper} {o : Oper} {a : Act} {w : World} {Q : Exit → Act → World → Prop} (hgd : o.guard = none) (ho : o.op = .alloc 54)
    (h : wpList Tryd.prog ops Q rest (a.put o.dst (.pointer (some ⟨w.heap.size, 0, none⟩))) (w.alloc (.cells (lensA 0) 54))) : wpList Tryd.prog ops Q (o :: rest) a w := by
  refine wpList_plain hgd fun _ hK => ?_
  unfold Oper.wp execOp
  simp only [ho, Instr.alloc, Sem.run_bind, run_zero_n, Result.andThen_ok, newVar, newRow, Value.cells]
  exact hK _ _ h
/-- A slice stays as it is where its block does, or there is nothing to read. -/
theorem LsZ.other {w w' : World} {g : Nat} {v : Value} {l : List Int} (h : LsZ w g v l) (k : 0 < l.length → w'.heap[g]? = w.heap[g]?) : LsZ w' g v l := by
  by_cases hl : 0 < l.length
  · exact h.block (k hl)
  · have : l = [] := List.eq_nil_of_length_eq_zero (by omega)
    subst this
    rcases h with h | ⟨off, cap, e, h1, h2, h3⟩
    · exact .inl h
    · exact .inr ⟨off, cap, e, h1, h2, fun i x hx => by simp at hx⟩
/-- The table at g. -/
def Tab (w : World) (g : Nat) : Prop := ∃ gA, ∀ i, i < 1024 → ∃ u, w.cell? ⟨g, i, none⟩ = some u ∧ LsZ w gA u (listAt i)
theorem Tab.kept {w w' : World} {g : Nat} (h : Tab w g) (k : Kept w w') : Tab w' g := by
  obtain ⟨gA, h⟩ := h
  exact ⟨gA, fun i hi => by obtain ⟨u, h1, h2⟩ := h i hi; exact ⟨u, kept_cell k h1, h2.kept k⟩⟩
/-- While the lists are gathered. -/
structure Mk1 (w wr : World) (v : Value) (n : Nat) : Prop where
  tab : wr.heap[w.heap.size]? = some (.cells tz 52 (0, 0))
  len : wr.heap[w.heap.size + 1]? = some (.cells (lensA n) 54 (0, 0))
  own : OwnZ wr (w.heap.size + 1 + 1) v (flatN n)
  kept : Kept w wr
theorem Mk1.start (w : World) : Mk1 w ((w.alloc (.cells tz 52)).alloc (.cells (lensA 0) 54)) (.slice none 0 0) 0 := by
  refine ⟨?_, ?_, OwnZ.nil _ _, ((Kept.refl w).alloc _).alloc _⟩
  · rw [Below.heap_alloc _ _ _ (by simp)]; exact heap_alloc_new _ _
  · have := heap_alloc_new (w.alloc (.cells tz 52)) (.cells (lensA 0) 54)
    simpa using this
theorem Mk1.on {w wr w2 : World} {v : Value} {n : Nat} (h : Mk1 w wr v n) (k : Kept wr w2) : Mk1 w w2 v n :=
  ⟨k.heap h.tab, k.heap h.len, h.own.kept k, h.kept.trans k⟩
theorem Mk1.cell {w wr : World} {v : Value} {n : Nat} (h : Mk1 w wr v n) (i : Nat) (hi : i < 1024) : wr.cell? ⟨w.heap.size + 1, i, none⟩ = some (lenC n i) := by
  rw [cell_of_row _ _ i _ _ (0, 0) h.len, lensA_at n i hi]
theorem Mk1.frozen {w wr : World} {v : Value} {n : Nat} (h : Mk1 w wr v n) (i : Nat) : wr.frozen? ⟨w.heap.size + 1, i, none⟩ = false := frozen_of_row _ _ _ _ _ h.len
/-- One list more: its length is laid, its squares are put behind the others. -/
theorem Mk1.next {w wr w2 : World} {v v' : Value} {n : Nat} (h : Mk1 w wr v n) (hn : n < 1024)
    (hown : OwnZ w2 (w.heap.size + 1 + 1) v' (flatN n ++ listAt n)) (hg : (wr.setCell ⟨w.heap.size + 1, n, none⟩ (.int .i64 ((listAt n).length : Int))).grownBy w2 v.ownBlock) : Mk1 w w2 v' (n + 1) := by
  have hne : ∀ k, k ≤ w.heap.size + 1 → some k ≠ v.ownBlock := fun k hk e => by have := (World.ownsRow.lt h.own k e.symm).1; omega
  have hs : (wr.setCell ⟨w.heap.size + 1, n, none⟩ (.int .i64 ((listAt n).length : Int))).heap.size = wr.heap.size := by simp [World.setCell]
  have hb : ∀ k, k ≤ w.heap.size + 1 → w2.heap[k]? = (wr.setCell ⟨w.heap.size + 1, n, none⟩ (.int .i64 ((listAt n).length : Int))).heap[k]? := fun k hk =>
    hg.block k (by rw [hs]; have := lt_of_heap h.len; omega) (hne k hk)
  refine ⟨?_, ?_, by rw [flatN_succ]; exact hown, ?_⟩
  · rw [hb _ (by omega), heap_setCell_other _ _ _ _ (by simp)]; exact h.tab
  · rw [hb _ (by omega), heap_setCell_same _ _ _ _ _ _ h.len, lensA_set n hn]
  · refine (h.kept.setCell (p := ⟨w.heap.size + 1, n, none⟩) (by simp) _).grownBy hg (fun k e => ?_)
    have := (World.ownsRow.lt h.own k e).1
    omega
/-- While the lists are cut. -/
structure Mk2 (w wr : World) (gA off N cap n : Nat) : Prop where
  tab : ∃ tab, wr.heap[w.heap.size]? = some (.cells tab 52 (0, 0)) ∧ tab.size = 1024 ∧ ∀ i, i < n → ∃ u, tab[i]? = some u ∧ LsZ wr gA u (listAt i)
  len : wr.heap[w.heap.size + 1]? = some (.cells (lensA 1024) 54 (0, 0))
  far : w.heap.size + 1 + 1 ≤ gA
  num : N = (restN n).length
  cap0 : N ≤ cap
  cap1 : cap ≤ maxLen
  all : ∀ i x, (restN n)[i]? = some x → wr.cell? ⟨gA, off + i, none⟩ = some (.int .i64 x)
  kept : Kept w wr
theorem rest_pos : 0 < (flatN 1024).length := by
  rw [← restN_zero, restN_step 0 (by omega), List.length_append]
  have : (listAt 0).length = 7 := by decide +kernel
  omega
theorem Mk1.cut {w wr : World} {v : Value} (h : Mk1 w wr v 1024) : ∃ gA N cap, v = .slice (some ⟨gA, 0, none⟩) N cap ∧ Mk2 w wr gA 0 N cap 0 := by
  obtain ⟨g, hl, hb⟩ := h.own.ls
  obtain ⟨b0, b1⟩ := hb rest_pos
  clear hb
  rcases h.own.2 with ⟨e, h0⟩ | ⟨g', cap, cur, e, hb, hh, hnc, hcm, hcs, ht⟩
  · have := rest_pos; omega
  · rcases hl with ⟨e', _⟩ | ⟨off, cap', e', h1, h2, h3⟩
    · rw [e] at e'; simp at e'
    · rw [e] at e'
      injection e' with e1 e2 e3
      injection e1 with e1
      injection e1 with e1 e4
      subst e1 e4 e3
      refine ⟨g', _, cap, e, ⟨tz, h.tab, tz_size, fun i hi => by omega⟩, h.len, b0, by rw [restN_zero], h1, h2, ?_, h.kept⟩
      rw [restN_zero]
      exact h3
theorem Mk2.cell {w wr : World} {gA off N cap n : Nat} (h : Mk2 w wr gA off N cap n) (i : Nat) (hi : i < 1024) : wr.cell? ⟨w.heap.size + 1, i, none⟩ = some (.int .i64 ((listAt i).length : Int)) := by
  rw [cell_of_row _ _ i _ _ (0, 0) h.len, lensA_at _ i hi]
  simp [lenC, hi]
theorem Mk2.tcell {w wr : World} {gA off N cap n : Nat} (h : Mk2 w wr gA off N cap n) (i : Nat) (hi : i < 1024) : (∃ u, wr.cell? ⟨w.heap.size, i, none⟩ = some u) ∧ wr.frozen? ⟨w.heap.size, i, none⟩ = false := by
  obtain ⟨tab, h1, h2, _⟩ := h.tab
  exact ⟨by rw [cell_of_row _ _ i _ _ (0, 0) h1]; exact ⟨_, Array.getElem?_eq_getElem (by omega)⟩, frozen_of_row _ _ _ _ _ h1⟩
theorem Mk2.more {w wr : World} {gA off N cap n : Nat} (h : Mk2 w wr gA off N cap n) (hn : n < 1024) : (listAt n).length ≤ N := by
  have := h.num
  rw [restN_step n hn, List.length_append] at this
  omega
/-- What is left behind the next list: its place. -/
def offOn (off m cap : Nat) : Nat := if cap = m then off else off + m
theorem Mk2.next {w wr : World} {gA off N cap n m : Nat} (h : Mk2 w wr gA off N cap n) (hn : n < 1024) (hm : (listAt n).length = m) :
    Mk2 w (wr.setCell ⟨w.heap.size, n, none⟩ (.slice (some ⟨gA, off, none⟩) m m)) gA (offOn off m cap) (N - m) (cap - m) (n + 1) := by
  obtain ⟨tab, h1, h2, h3⟩ := h.tab
  have hfar := h.far
  have hnum := h.num
  have hr := restN_step n hn
  rw [hr, List.length_append, hm] at hnum
  have hc0 := h.cap0
  have hA : (wr.setCell ⟨w.heap.size, n, none⟩ (.slice (some ⟨gA, off, none⟩) m m)).heap[gA]? = wr.heap[gA]? := heap_setCell_other _ _ _ _ (by simp; omega)
  have hcell : ∀ i, (wr.setCell ⟨w.heap.size, n, none⟩ (.slice (some ⟨gA, off, none⟩) m m)).cell? ⟨gA, i, none⟩ = wr.cell? ⟨gA, i, none⟩ := fun i => World.cell?_of_block hA
  refine ⟨⟨tab.setIfInBounds n (.slice (some ⟨gA, off, none⟩) m m), heap_setCell_same _ _ _ _ _ _ h1, by simpa using h2, fun i hi => ?_⟩, ?_, hfar, by omega, by omega, by have := h.cap1; omega, fun i x hx => ?_, h.kept.setCell (p := ⟨w.heap.size, n, none⟩) (by simp) _⟩
  · rw [Array.getElem?_setIfInBounds]
    by_cases e : n = i
    · subst e
      rw [if_pos rfl, if_pos (by omega)]
      refine ⟨_, rfl, .inr ⟨off, m, by rw [hm], by omega, by have := h.cap1; omega, fun i x hx => ?_⟩⟩
      rw [hcell]
      refine h.all i x ?_
      rw [hr, List.getElem?_append_left]
      · exact hx
      · obtain ⟨hi, _⟩ := List.getElem?_eq_some_iff.1 hx
        exact hi
    · rw [if_neg e]
      obtain ⟨u, e1, e2⟩ := h3 i (by omega)
      exact ⟨u, e1, e2.block hA⟩
  · rw [heap_setCell_other _ _ _ _ (by simp)]; exact h.len
  · rw [hcell]
    have hi : i < (restN (n + 1)).length := by
      obtain ⟨hi, _⟩ := List.getElem?_eq_some_iff.1 hx
      exact hi
    unfold offOn
    rw [if_neg (by omega), Nat.add_assoc]
    refine h.all (m + i) x ?_
    rw [hr, List.getElem?_append_right (by omega), hm, Nat.add_sub_cancel_left]
    exact hx
theorem Mk2.done {w wr : World} {gA off N cap : Nat} (h : Mk2 w wr gA off N cap 1024) : Tab wr w.heap.size := by
  obtain ⟨tab, h1, h2, h3⟩ := h.tab
  refine ⟨gA, fun i hi => ?_⟩
  obtain ⟨u, e1, e2⟩ := h3 i hi
  exact ⟨u, by rw [cell_of_row _ _ i _ _ (0, 0) h1, e1], e2⟩
end Go.Proofs.YtkliefojegjhhaaDoor
