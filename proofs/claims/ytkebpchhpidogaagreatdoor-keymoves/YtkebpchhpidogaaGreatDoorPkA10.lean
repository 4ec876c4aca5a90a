/- By, Struck · along · A table, laid: blocks of 1024 cells · Make. -/
import Derived.Test.YtkebpchhpidogaaGreatDoorPkA08
import Derived.Test.YtkebpchhpidogaaGreatDoorPkA09
import Derived.Deep.WholeRow
namespace Go.Proofs.YtkebpchhpidogaaGreatDoor
open Go.RowKit
set_option linter.unusedVariables false
set_option linter.unusedSimpArgs false

theorem tell_len (B : List Int) (s side : Int) : (tellL B s side).length ≤ 200 := by
  unfold tellL lookL
  have h1 := List.length_filter_le (toldW B side) (lookN ansW B s 16)
  have h2 := lookN_len ansW B s 16
  omega
/-- The box of a bool. -/
structure YesBox (W : World) (go : Nat) (b : Bool) (w : World) : Prop where
  kb : KB W go w
  low : go < W.heap.size
  box : w.heap[go]? = some (.cells #[.bool b] 4 (0, 0))
theorem YesBox.kept {W w w' : World} {go : Nat} {b : Bool} (h : YesBox W go b w) (k : Kept w w') : YesBox W go b w' := ⟨h.kb.kept k, h.low, k.heap h.box⟩
theorem YesBox.set {W w : World} {go : Nat} {b : Bool} (h : YesBox W go b w) (c : Bool) : YesBox W go c (w.setCell ⟨go, 0, none⟩ (.bool c)) := by
  refine ⟨⟨h.kb.os, h.kb.output, ?_, fun i hi hne => ?_⟩, h.low, ?_⟩
  · have := h.kb.size; simpa [World.setCell] using this
  · rw [heap_setCell_other _ _ _ _ (by simpa using hne)]; exact h.kb.block i hi hne
  · rw [heap_setCell_same _ _ _ _ _ _ h.box]; rfl
theorem struck1_is (W : World) (go : Nat) (b : Bool) (t way far : Nat) (w : World) (hO : YesBox W go b w) :
    Calls Tryz.prog 102 #[.int .i64 (t : Int), .int .i64 (way : Int), .int .i64 (far : Int), .pointer (some ⟨go, 0, none⟩)] w fun e w' =>
      e = .returned (.tuple #[]) ∧ YesBox W go true w' := by
  have hc := cell_box hO.box
  have hf := frozen_box hO.box
  have HO := Lib.hid (hO.set true)
  clear hO
  go_enter Tryz.func102, Tryz.ntmps102
  go_wp2
  refine bodyPost_end (results_none rfl _ _ _) rfl ?_
  exact ⟨rfl, HO.out⟩
theorem tells_struck (s : Int) (go : Nat) : Tells s go 102 #[.pointer (some ⟨go, 0, none⟩)] (fun W l w => YesBox W go (!l.isEmpty) w) := by
  refine ⟨fun args w => fun_enters Tryz.func102 (by kernel_rfl) rfl args w, fun W l w w' h k => h.kept k, fun W l w h => h.kb, ?_⟩
  intro W l t way far w hI hl ht hw hf hf8 hr
  rw [show (!(l ++ [((t : Int), way, far)]).isEmpty) = true by simp]
  exact struck1_is W go _ t way far w hI
def struckB (B : List Int) (s side : Int) : Bool := okS s && rightB B && !(tellL B s side).isEmpty
theorem tell_by (B : List Int) (s side : Int) (h0 : 0 ≤ s) (h1 : s < 64) : (tellL B s side).length = (byN B s side).length := by
  have h := congrArg List.length (sort_outW B s side h0 h1)
  rw [List.length_mergeSort] at h
  simpa [outW, zn] using h
set_option maxRecDepth 100000 in
set_option maxHeartbeats 2000000 in
theorem struck_is (a : Addr) (B : List Int) (hB : Brd B) (s side : Int) (w : World) (hS : Steps w) :
    Calls Tryz.prog 87 #[.pointer (some a), .agg (cl B).toArray, .int .i64 s, .int .i64 side] w fun e w' => e = .returned (.bool (struckB B s side)) ∧ Kept w w' := by
  have hz := Lib.hid (size_cl hB.1)
  have hbl := Lib.hid (heap_alloc_new w (.cells (cl B).toArray 24))
  have HB := Lib.hid hB
  have HSt := Lib.hid hS
  have hSee := Lib.hid (sees_is a B hB s)
  clear hS
  unfold struckB
  cases hc : okS s && rightB B
  · rw [hc] at hSee
    clear hB hc
    rw [Bool.false_and]
    go_enter Tryz.func87, Tryz.ntmps87
    go_wp2_with (refine wpList_load_w (by rfl) _ rfl _ rfl _ (hbl.out) hz.out ?_)
    refine (hSee.out _).mono ?_
    rintro e w1 ⟨rfl, k1⟩
    have HK := Lib.hid (((Kept.refl w).alloc _).trans k1)
    clear k1
    go_wp2
    go_ret
    exact ⟨rfl, HK.out⟩
  · rw [hc] at hSee
    rw [Bool.true_and]
    clear hc
    go_enter Tryz.func87, Tryz.ntmps87
    go_wp2_with (refine wpList_load_w (by rfl) _ rfl _ rfl _ (hbl.out) hz.out ?_)
    refine (hSee.out _).mono ?_
    rintro e w1 ⟨rfl, k1⟩
    have hb1' := k1.heap hbl.out
    have hwlt : w.heap.size < w1.heap.size := lt_of_heap hb1'
    obtain ⟨W1, eW⟩ : ∃ W, W = w1.alloc (.cells #[.bool false] 4) := ⟨_, rfl⟩
    have HW := Lib.hid eW
    have hKW : Kept w1 W1 := by rw [eW]; exact (Kept.refl _).alloc _
    have hgo : W1.heap[w1.heap.size]? = some (.cells #[.bool false] 4 (0, 0)) := by rw [eW]; exact heap_alloc_new w1 _
    have hKw : Kept w W1 := ((Kept.refl w).alloc _).trans (k1.trans hKW)
    have hStW := HSt.out.kept hKw
    have hlowG := HSt.out.low
    have HStr := Lib.hid (strikers_is B HB.out s side w.heap.size w1.heap.size _ _ _ (tells_struck s w1.heap.size) W1 (hKW.heap hb1') hStW (by omega) (by omega) (lt_of_heap hgo) (fun w2 k => ⟨KB.refl _ _, Nat.lt_of_lt_of_le (lt_of_heap hgo) k.size, k.heap hgo⟩))
    have HKw := Lib.hid hKw
    have Hlt := Lib.hid (Nat.le_of_lt hwlt)
    clear hStW hKw hgo hKW eW k1 hb1' hwlt hlowG hB
    go_wp2_with fail
    rw [← HW.out]
    refine HStr.out.mono ?_
    rintro e w3 ⟨rfl, W, hKW, hI3⟩
    have c3 := cell_box hI3.box
    have HK4 := Lib.hid (hI3.kb.below (HKw.out.trans hKW) Hlt.out)
    clear hI3 hKW
    go_wp2
    go_ret
    exact ⟨rfl, HK4.out⟩
theorem struck_nil (B : List Int) (hB : Brd B) (s side : Int) (w : World) :
    Calls Tryz.prog 87 #[.pointer none, .agg (cl B).toArray, .int .i64 s, .int .i64 side] w fun e w' => e = .returned (.bool false) ∧ Kept w w' := by
  have hz := Lib.hid (size_cl hB.1)
  have hbl := Lib.hid (heap_alloc_new w (.cells (cl B).toArray 24))
  clear hB
  go_enter Tryz.func87, Tryz.ntmps87
  go_wp2_with (refine wpList_load_w (by rfl) _ rfl _ rfl _ (hbl.out) hz.out ?_)
  refine (sees_nil B s _).mono ?_
  rintro e w1 ⟨rfl, k1⟩
  have HK := Lib.hid (((Kept.refl w).alloc _).trans k1)
  clear k1
  go_wp2
  go_ret
  exact ⟨rfl, HK.out⟩
end Go.Proofs.YtkebpchhpidogaaGreatDoor
namespace Go.Proofs.YtkebpchhpidogaaGreatDoor
open Go.RowKit
set_option linter.unusedVariables false
set_option linter.unusedSimpArgs false

/-- A slice that reads so, in memory of its own, is told. -/
def NewL (w : World) (l : List Int) (e : Ending) (w' : World) : Prop := ∃ v g, e = .returned v ∧ LsZ w' g v l ∧ (0 < l.length → w.heap.size ≤ g) ∧ Kept w w'
end Go.Proofs.YtkebpchhpidogaaGreatDoor
namespace Go.Proofs.YtkebpchhpidogaaGreatDoor
open Go.RowKit
set_option linter.unusedVariables false
set_option linter.unusedSimpArgs false

/-- A table's cells ahead of all. -/
def tz : Array Value := ((List.range 1024).map fun _ => Value.slice none 0 0).toArray
/-- The lengths of the first n lists. -/
def lenC (n i : Nat) : Value := .int .i64 (if i < n then ((listAt i).length : Int) else 0)
def lensA (n : Nat) : Array Value := ((List.range 1024).map (lenC n)).toArray
theorem tz_size : tz.size = 1024 := by simp [tz]
theorem lensA_size (n : Nat) : (lensA n).size = 1024 := by simp [lensA]
theorem lensA_at (n i : Nat) (h : i < 1024) : (lensA n)[i]? = some (lenC n i) := by simp [lensA, h]
theorem lensA_set (n : Nat) (h : n < 1024) : (lensA n).setIfInBounds n (.int .i64 ((listAt n).length : Int)) = lensA (n + 1) := by
  apply Array.ext_getElem?
  intro i
  rw [Array.getElem?_setIfInBounds, lensA_size]
  by_cases hi : i < 1024
  · rw [lensA_at _ i hi, lensA_at _ i hi]
    by_cases e : n = i
    · subst e
      simp [h, lenC]
    · rw [if_neg e]
      unfold lenC
      by_cases h2 : i < n
      · rw [if_pos h2, if_pos (by omega)]
      · rw [if_neg h2, if_neg (by omega)]
  · rw [if_neg (by omega)]
    simp [lensA, hi]
/-- A slice stays as it is where its block does, or there is nothing to read. -/
theorem LsZ.other {w w' : World} {g : Nat} {v : Value} {l : List Int} (h : LsZ w g v l) (k : 0 < l.length → w'.heap[g]? = w.heap[g]?) : LsZ w' g v l := by
  by_cases hl : 0 < l.length
  · exact h.block (k hl)
  · have : l = [] := List.eq_nil_of_length_eq_zero (by omega)
    subst this
    rcases h with h | ⟨off, cap, e, h1, h2, h3⟩
    · exact .inl h
    · exact .inr ⟨off, cap, e, h1, h2, fun i x hx => by simp at hx⟩
/-- The table at g. -/
def Tab (w : World) (g : Nat) : Prop := ∃ gA, ∀ i, i < 1024 → ∃ u, w.cell? ⟨g, i, none⟩ = some u ∧ LsZ w gA u (listAt i)
theorem Tab.kept {w w' : World} {g : Nat} (h : Tab w g) (k : Kept w w') : Tab w' g := by
  obtain ⟨gA, h⟩ := h
  exact ⟨gA, fun i hi => by obtain ⟨u, h1, h2⟩ := h i hi; exact ⟨u, kept_cell k h1, h2.kept k⟩⟩
theorem rest_pos : 0 < (flatN 1024).length := by
  rw [← restN_zero, restN_step 0 (by omega), List.length_append]
  have : (listAt 0).length = 7 := by decide +kernel
  omega
/-- What is left behind the next list: its place. -/
def offOn (off m cap : Nat) : Nat := if cap = m then off else off + m
end Go.Proofs.YtkebpchhpidogaaGreatDoor
namespace Go.Proofs.YtkebpchhpidogaaGreatDoor
open Go.RowKit
set_option linter.unusedVariables false
set_option linter.unusedSimpArgs false

theorem OwnZ.set {w : World} {base : Nat} {v : Value} {l : List Int} (h : OwnZ w base v l) {p : Addr} (hp : p.block < base) (u : Value) : OwnZ (w.setCell p u) base v l := by
  obtain ⟨h1, h2⟩ := h
  refine ⟨h1, ?_⟩
  rcases h2 with h2 | ⟨g, cap, cur, e1, e2, e3, e4⟩
  · exact .inl h2
  · exact .inr ⟨g, cap, cur, e1, e2, by rw [heap_setCell_other _ _ _ _ (by omega)]; exact e3, e4⟩
theorem run_cut (gA off N cap m : Nat) (h : m ≤ cap) (w : World) :
    (Instr.sliceAt 93 (.slice (some ⟨gA, off, none⟩) N cap) none (some (.int .i64 (m : Int))) (some (.int .i64 (m : Int)))).run Tryz.prog w = .ok (.slice (some ⟨gA, off, none⟩) m m) w := by
  obtain ⟨i0, hi0, hz0, hz1, hz2⟩ := partsZ infoZ
  have ht := Tryz.underlying93
  have he : Tryz.prog.elem 93 = 3 := by kernel_rfl
  rw [run_sliceAt_slice w _ _ _ _ _ (by rw [he]; exact ht), run_slice_hm w _ _ _ _ (by rw [he]; exact ht) _ _ _ _ (by omega) (by omega) (by omega), he]
  simp [sizeOf, typeInfo, hi0, hz1, sliced, Addr.add]
theorem run_rest (gA off N cap m : Nat) (h : m ≤ N) (w : World) :
    (Instr.sliceAt 93 (.slice (some ⟨gA, off, none⟩) N cap) (some (.int .i64 (m : Int))) none none).run Tryz.prog w = .ok (.slice (some ⟨gA, offOn off m cap, none⟩) (N - m) (cap - m)) w := by
  obtain ⟨i0, hi0, hz0, hz1, hz2⟩ := partsZ infoZ
  have ht := Tryz.underlying93
  have he : Tryz.prog.elem 93 = 3 := by kernel_rfl
  rw [run_sliceAt_slice w _ _ _ _ _ (by rw [he]; exact ht), run_slice_l w _ _ _ _ (by rw [he]; exact ht) _ _ (by omega) (by omega), he]
  unfold offOn
  split <;> simp_all [sizeOf, typeInfo, hi0, hz1, sliced, Addr.add]
end Go.Proofs.YtkebpchhpidogaaGreatDoor
