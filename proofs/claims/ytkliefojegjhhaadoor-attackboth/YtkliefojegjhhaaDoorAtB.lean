/- What is kept while squares are told; the sort; the functions that are told. -/
import Derived.Test.YtkliefojegjhhaaDoorAtA
import Derived.Test.YtkliefojegjhhaaDoorShelf
import Derived.Sort.OwnSortedInts
namespace Go.Proofs.YtkliefojegjhhaaDoor
open Go.RowKit
set_option linter.unusedVariables false
set_option linter.unusedSimpArgs false

/-- All that was there is as it was, but for block g. -/
structure KB (W : World) (g : Nat) (w : World) : Prop where
  os : w.os = W.os
  output : w.output = W.output
  size : W.heap.size ≤ w.heap.size
  block : ∀ k, k < W.heap.size → k ≠ g → w.heap[k]? = W.heap[k]?
theorem KB.refl (W : World) (g : Nat) : KB W g W := ⟨rfl, rfl, Nat.le_refl _, fun _ _ _ => rfl⟩
theorem KB.kept {W w w' : World} {g : Nat} (h : KB W g w) (k : Kept w w') : KB W g w' :=
  ⟨k.os.trans h.os, k.output.trans h.output, Nat.le_trans h.size k.size, fun i hi hne => (k.block i (Nat.lt_of_lt_of_le hi h.size)).trans (h.block i hi hne)⟩
theorem KB.heap {W w : World} {g k : Nat} {o : Obj} (h : KB W g w) (hne : k ≠ g) (hk : W.heap[k]? = some o) : w.heap[k]? = some o :=
  (h.block k (lt_of_heap hk) hne).trans hk
theorem KB.cell {W w : World} {g : Nat} {a : Addr} {v : Value} (h : KB W g w) (hne : a.block ≠ g) (hk : W.cell? a = some v) : w.cell? a = some v :=
  (World.cell?_of_block (h.block a.block (World.block_lt_of_cell? W a hk) hne)).trans hk
theorem KB.steps {W w : World} {g : Nat} (h : KB W g w) (hne : 0 ≠ g) (hk : Steps W) : Steps w :=
  fun i hi => ⟨h.cell hne (hk i hi).1, h.cell hne (hk i hi).2⟩
/-- From a world below: the block is new. -/
theorem KB.below {V W w : World} {g : Nat} (h : KB W g w) (k : Kept V W) (hg : V.heap.size ≤ g) : Kept V w :=
  ⟨h.os.trans k.os, h.output.trans k.output, Nat.le_trans k.size h.size, fun i hi => (h.block i (Nat.lt_of_lt_of_le hi k.size) (by omega)).trans (k.block i hi)⟩
/-- The box of a slice that grows. -/
structure OutBox (W : World) (go : Nat) (l : List Int) (w : World) : Prop where
  kb : KB W go w
  low : go < W.heap.size
  box : ∃ v, w.heap[go]? = some (.cells #[v] 30 (0, 0)) ∧ OwnZ w W.heap.size v l
theorem OutBox.kept {W w w' : World} {go : Nat} {l : List Int} (h : OutBox W go l w) (k : Kept w w') : OutBox W go l w' := by
  obtain ⟨v, h1, h2⟩ := h.box
  exact ⟨h.kb.kept k, h.low, v, k.heap h1, h2.kept k⟩
theorem OutBox.start {W : World} {go : Nat} (h : W.heap[go]? = some (.cells #[.slice none 0 0] 30 (0, 0))) : OutBox W go [] W :=
  ⟨KB.refl _ _, lt_of_heap h, _, h, OwnZ.nil _ _⟩
theorem cell_box {w : World} {g : Nat} {v : Value} {e : TypeId} (h : w.heap[g]? = some (.cells #[v] e (0, 0))) : w.cell? ⟨g, 0, none⟩ = some v := by
  rw [cell_of_row _ _ 0 _ _ (0, 0) h]; rfl
theorem frozen_box {w : World} {g : Nat} {v : Value} {e : TypeId} (h : w.heap[g]? = some (.cells #[v] e (0, 0))) : w.frozen? ⟨g, 0, none⟩ = false := by
  simp [World.frozen?, h]
theorem OwnZ.other {w w' : World} {base : Nat} {v : Value} {l : List Int} (h : OwnZ w base v l) (hb : ∀ k, base ≤ k → k < w.heap.size → w'.heap[k]? = w.heap[k]?) : OwnZ w' base v l := by
  obtain ⟨h1, h2⟩ := h
  refine ⟨h1, ?_⟩
  rcases h2 with h2 | ⟨b, cap, cur, e1, e2, e3, e4⟩
  · exact .inl h2
  · exact .inr ⟨b, cap, cur, e1, e2, (hb b e2 (lt_of_heap e3)).trans e3, e4⟩
/-- One is put behind, and the box holds it. -/
theorem OutBox.push {W w w1 w2 : World} {go : Nat} {l l' : List Int} {v v' : Value} (h : OutBox W go l w) (k : Kept w w1) (hv : OwnZ w1 W.heap.size v l) (hg : w1.grownBy w2 v.ownBlock)
    (hown : OwnZ w2 W.heap.size v' l') : OutBox W go l' (w2.setCell ⟨go, 0, none⟩ v') := by
  obtain ⟨v0, h1, h2⟩ := h.box
  have hlo : ∀ g, v.ownBlock = some g → W.heap.size ≤ g := fun g hg' => (World.ownsRow.lt hv g hg').1
  have k1 := h.kb.kept k
  have hlow := h.low
  have hgo : w2.heap[go]? = some (.cells #[v0] 30 (0, 0)) :=
    (hg.block go (Nat.lt_of_lt_of_le h.low k1.size) (fun e => by have := hlo go e.symm; omega)).trans (k.heap h1)
  refine ⟨⟨hg.os.trans k1.os, hg.output.trans k1.output, ?_, fun i hi hne => ?_⟩, h.low, v', ?_, ?_⟩
  · have := hg.size; have := k1.size; simp [World.setCell]; omega
  · rw [heap_setCell_other _ _ _ _ (by simpa using hne), hg.block i (Nat.lt_of_lt_of_le hi k1.size) (fun e => by have := hlo i e.symm; omega)]
    exact k1.block i hi hne
  · rw [heap_setCell_same _ _ _ _ _ _ hgo]; rfl
  · exact hown.other fun b hb _ => heap_setCell_other _ _ _ _ (by simp; omega)
/-- Another slice of the call's own is put into the box. -/
theorem OutBox.put {W w w2 : World} {go : Nat} {l l' : List Int} {v' : Value} (h : OutBox W go l w) (k : Kept w w2) (hown : OwnZ w2 w.heap.size v' l') : OutBox W go l' (w2.setCell ⟨go, 0, none⟩ v') := by
  obtain ⟨v0, h1, h2⟩ := h.box
  have k1 := h.kb.kept k
  have hlow := h.low
  have hsz := h.kb.size
  refine ⟨⟨k1.os, k1.output, ?_, fun i hi hne => ?_⟩, h.low, v', ?_, ?_⟩
  · have := k1.size; simpa [World.setCell] using this
  · rw [heap_setCell_other _ _ _ _ (by simpa using hne)]; exact k1.block i hi hne
  · rw [heap_setCell_same _ _ _ _ _ _ (k.heap h1)]; rfl
  · exact (hown.low hsz).other fun b hb _ => heap_setCell_other _ _ _ _ (by simp; omega)
def srt (l : List Int) : List Int := l.mergeSort fun x y => decide (x ≤ y)
theorem srt_len (l : List Int) : (srt l).length = l.length := (List.mergeSort_perm l _).length_eq
theorem sort_own (w : World) (base : Nat) (v : Value) (l : List Int) (h : OwnZ w base v l) (hl : l.length ≤ 1000) :
    Calls Tryd.prog 49 #[v] w fun e w' => e = .returned (.tuple #[]) ∧ OwnZ w' base v (srt l) ∧ w.grownBy w' v.ownBlock := by
  rcases h.2 with ⟨rfl, h0⟩ | ⟨g, cap, cur, rfl, hb, hh, h1, h2, h3, h4⟩
  · refine (Tryd.slices_Sort_int_none none 0 w).mono ?_
    rintro e w' ⟨rfl, rfl⟩
    have : l = [] := List.eq_nil_of_length_eq_zero h0
    subst this
    exact ⟨rfl, by simpa [srt] using h, rfl, rfl, rfl, Nat.le_refl _, fun _ _ _ => rfl⟩
  · have hH := holds_of_blockI (ss := l) hh (by rw [Nat.mul_one] at h4; exact h4)
    refine (Tryd.slices_Sort_int g 0 cap l w hH (lt_of_heap hh) (by omega)).mono ?_
    rintro e w' ⟨rfl, n, os, rfl⟩
    refine ⟨rfl, ?_, grownBy_sortedI _⟩
    have := ownsRow_sortedI (n := n) (os := os) (ss := l) (ts := srt l) (base := base) (srt_len l) hb hh h1 h2 h3
    unfold OwnZ zl
    rw [srt_len]
    exact this
/-- The box behind the sort. -/
theorem OutBox.sorted {W w w' : World} {go : Nat} {l : List Int} {v : Value} (h : OutBox W go l w) (h1 : w.heap[go]? = some (.cells #[v] 30 (0, 0))) (h2 : OwnZ w W.heap.size v l) (hs : OwnZ w' W.heap.size v (srt l)) (hg : w.grownBy w' v.ownBlock) :
    w'.heap[go]? = some (.cells #[v] 30 (0, 0)) ∧ KB W go w' := by
  have hlo : ∀ g, v.ownBlock = some g → W.heap.size ≤ g := fun g hg' => (World.ownsRow.lt h2 g hg').1
  have hsz := h.kb.size
  have hlow := h.low
  refine ⟨(hg.block go (by omega) (fun e => by have := hlo go e.symm; omega)).trans h1, hg.os.trans h.kb.os, hg.output.trans h.kb.output, Nat.le_trans h.kb.size hg.size, fun i hi hne => ?_⟩
  rw [hg.block i (by omega) (fun e => by have := hlo i e.symm; omega)]
  exact h.kb.block i hi hne
set_option maxHeartbeats 1000000 in
/-- A square that is struck is put behind. -/
theorem strikes1_is (W : World) (go gm : Nat) (m : Int) (l : List Int) (t way far : Nat) (w : World) (hO : OutBox W go l w) (hl : l.length ≤ 1000) (hm : w.cell? ⟨gm, 0, none⟩ = some (.int .i64 m)) (hS : Steps w) (hw : way < 16) (hf : 1 ≤ far) (hf8 : far ≤ 8) :
    Calls Tryd.prog 48 #[.int .i64 (t : Int), .int .i64 (way : Int), .int .i64 (far : Int), .pointer (some ⟨gm, 0, none⟩), .pointer (some ⟨go, 0, none⟩)] w fun e w' =>
      e = .returned (.bool (reachB m way far)) ∧ OutBox W go (if reachB m way far = true then l ++ [(t : Int)] else l) w' := by
  have HR := Lib.hid (wreach_is m way far hw hf (by omega) w hS)
  have HO := Lib.hid hO
  clear hO hS
  generalize reachB m way far = b at *
  cases b
  · go_enter Tryd.func48, Tryd.ntmps48
    go_wp2_with fail
    refine HR.out.mono ?_
    rintro e w1 ⟨rfl, k1⟩
    have HO1 := Lib.hid (HO.out.kept k1)
    clear k1
    go_wp2
    go_ret
    exact ⟨rfl, HO1.out⟩
  · go_enter Tryd.func48, Tryd.ntmps48
    go_wp2_with fail
    refine HR.out.mono ?_
    rintro e w1 ⟨rfl, k1⟩
    have hO1 := HO.out.kept k1
    obtain ⟨v, h1, h2⟩ := hO1.box
    have hc := cell_box h1
    have HO1 := Lib.hid hO1
    have H2 := Lib.hid h2
    have hsz := Lib.hid hO1.kb.size
    clear k1 hO1 h1 h2 hm
    obtain ⟨a, cap, rfl⟩ := H2.out.slice
    have KA := Lib.hid ((Kept.refl w1).alloc (.cells #[.int .i64 (t : Int)] 3))
    have HA := Lib.hid (H2.out.kept KA.out)
    go_wp2_with (at_builtin; refine wpList_append_z rfl _ _ rfl W.heap.size w1.heap.size _ _ l [(t : Int)] rfl rfl HA.out (LsZ.lit _ [(t : Int)] (by simp)) ?c1 ?c2 ?_)
    case c1 => simp; omega
    case c2 => have := hsz.out; simp; omega
    intro v' w2 hown hg
    have hP := HO1.out.push KA.out HA.out hg hown
    have hgo := Lib.hid hP
    have hq : w2.frozen? ⟨go, 0, none⟩ = false := by
      have hlow := HO1.out.low
      have := (World.ownsRow.lt HA.out)
      obtain ⟨v0, q1, q2⟩ := (HO1.out.kept KA.out).box
      have hb := hg.block go (by have := hsz.out; simp; omega) (fun e => by have := (this go e.symm).1; omega)
      exact frozen_box (hb.trans q1)
    have hq2 : ∃ u, w2.cell? ⟨go, 0, none⟩ = some u := by
      have hlow := HO1.out.low
      have := (World.ownsRow.lt HA.out)
      obtain ⟨v0, q1, q2⟩ := (HO1.out.kept KA.out).box
      have hb := hg.block go (by have := hsz.out; simp; omega) (fun e => by have := (this go e.symm).1; omega)
      exact ⟨v0, cell_box (hb.trans q1)⟩
    obtain ⟨u, hq2⟩ := hq2
    obtain ⟨a', cap', rfl⟩ := hown.slice
    clear hown hg hP
    go_wp2
    go_ret
    exact ⟨rfl, by have h := hgo.out; rw [List.length_append, List.length_singleton] at h; exact h⟩
end Go.Proofs.YtkliefojegjhhaaDoor
