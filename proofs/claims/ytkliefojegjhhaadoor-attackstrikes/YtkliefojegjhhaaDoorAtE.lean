/- By, Struck. -/
import Derived.Test.YtkliefojegjhhaaDoorAtD
namespace Go.Proofs.YtkliefojegjhhaaDoor
open Go.RowKit
set_option linter.unusedVariables false
set_option linter.unusedSimpArgs false

set_option maxHeartbeats 1000000 in
theorem by1_is (W : World) (go : Nat) (l : List Int) (t way far : Nat) (w : World) (hO : OutBox W go l w) (hl : l.length ≤ 1000) :
    Calls Tryd.prog 51 #[.int .i64 (t : Int), .int .i64 (way : Int), .int .i64 (far : Int), .pointer (some ⟨go, 0, none⟩)] w fun e w' =>
      e = .returned (.tuple #[]) ∧ OutBox W go (l ++ [(t : Int)]) w' := by
  obtain ⟨v, h1, h2⟩ := hO.box
  have hc := cell_box h1
  have HO1 := Lib.hid hO
  have H2 := Lib.hid h2
  have hsz := Lib.hid hO.kb.size
  clear hO h1 h2
  obtain ⟨a, cap, rfl⟩ := H2.out.slice
  have KA := Lib.hid ((Kept.refl w).alloc (.cells #[.int .i64 (t : Int)] 3))
  have HA := Lib.hid (H2.out.kept KA.out)
  go_enter Tryd.func51, Tryd.ntmps51
  go_wp2_with (at_builtin; refine wpList_append_z rfl _ _ rfl W.heap.size w.heap.size _ _ l [(t : Int)] rfl rfl HA.out (LsZ.lit _ [(t : Int)] (by simp)) ?c1 ?c2 ?_)
  case c1 => simp; omega
  case c2 => have := hsz.out; simp; omega
  intro v' w2 hown hg
  have hP := HO1.out.push KA.out HA.out hg hown
  have hgo := Lib.hid hP
  have hq3 : ∃ u, w2.heap[go]? = some (.cells #[u] 30 (0, 0)) := by
    have hlow := HO1.out.low
    have := (World.ownsRow.lt HA.out)
    obtain ⟨v0, q1, q2⟩ := (HO1.out.kept KA.out).box
    exact ⟨v0, (hg.block go (by have := hsz.out; simp; omega) (fun e => by have := (this go e.symm).1; omega)).trans q1⟩
  obtain ⟨u, hq3⟩ := hq3
  have hq := frozen_box hq3
  have hq2 := cell_box hq3
  obtain ⟨a', cap', rfl⟩ := hown.slice
  clear hown hg hP hq3
  go_wp2
  refine bodyPost_end (results_none rfl _ _ _) rfl ?_
  exact ⟨rfl, by have h := hgo.out; rw [List.length_append, List.length_singleton] at h; exact h⟩
/-- What is told to By. -/
theorem tells_by (s : Int) (go : Nat) : Tells s go 51 #[.pointer (some ⟨go, 0, none⟩)] (fun W l w => OutBox W go (l.map (·.1)) w) := by
  refine ⟨fun args w => fun_enters Tryd.func51 (by kernel_rfl) rfl args w, fun W l w w' h k => h.kept k, fun W l w h => h.kb, ?_⟩
  intro W l t way far w hI hl ht hw hf hf8 hr
  rw [List.map_append]
  exact by1_is W go _ t way far w hI (by rw [List.length_map]; omega)
theorem tell_len (B : List Int) (s side : Int) : (tellL B s side).length ≤ 200 := by
  unfold tellL lookL
  have h1 := List.length_filter_le (toldW B side) (lookN ansW B s 16)
  have h2 := lookN_len ansW B s 16
  omega
set_option maxRecDepth 100000 in
set_option maxHeartbeats 2000000 in
theorem by_is (a : Addr) (B : List Int) (hB : Brd B) (s side : Int) (w : World) (hS : Steps w) :
    Calls Tryd.prog 27 #[.pointer (some a), .agg (cl B).toArray, .int .i64 s, .int .i64 side] w (NewZ w (if okS s && rightB B then zn (byN B s side) else [])) := by
  have hz := Lib.hid (size_cl hB.1)
  have hbl := Lib.hid (heap_alloc_new w (.cells (cl B).toArray 40))
  have HB := Lib.hid hB
  have HSt := Lib.hid hS
  have hSee := Lib.hid (sees_is a B hB s)
  clear hS
  cases hc : okS s && rightB B
  · rw [hc] at hSee
    clear hB hc
    rw [if_neg (by simp)]
    go_enter Tryd.func27, Tryd.ntmps27
    go_wp2_with (refine wpList_load_w (by rfl) _ rfl _ rfl _ (hbl.out) hz.out ?_)
    refine (hSee.out _).mono ?_
    rintro e w1 ⟨rfl, k1⟩
    have HK := Lib.hid (((Kept.refl w).alloc _).trans k1)
    clear k1
    go_wp2
    go_ret
    exact ⟨_, rfl, OwnZ.nil _ _, HK.out⟩
  · rw [hc] at hSee
    rw [if_pos rfl]
    obtain ⟨h0, h1⟩ := okS_iff.1 (Bool.and_eq_true _ _ ▸ hc).1
    have hOut := Lib.hid (sort_outW B s side h0 h1)
    have HLen := Lib.hid (show (outW B s side).length ≤ 1000 by unfold outW; rw [List.length_map]; have := tell_len B s side; omega)
    clear hc
    go_enter Tryd.func27, Tryd.ntmps27
    go_wp2_with (refine wpList_load_w (by rfl) _ rfl _ rfl _ (hbl.out) hz.out ?_)
    refine (hSee.out _).mono ?_
    rintro e w1 ⟨rfl, k1⟩
    have hb1' := k1.heap hbl.out
    have hwlt : w.heap.size < w1.heap.size := lt_of_heap hb1'
    obtain ⟨W1, eW⟩ : ∃ W, W = w1.alloc (.cells #[.slice none 0 0] 30) := ⟨_, rfl⟩
    have HW := Lib.hid eW
    have hKW : Kept w1 W1 := by rw [eW]; exact (Kept.refl _).alloc _
    have hgo : W1.heap[w1.heap.size]? = some (.cells #[.slice none 0 0] 30 (0, 0)) := by rw [eW]; exact heap_alloc_new w1 _
    have hKw : Kept w W1 := ((Kept.refl w).alloc _).trans (k1.trans hKW)
    have hStW := HSt.out.kept hKw
    have hlowG := HSt.out.low
    have HStr := Lib.hid (strikers_is B HB.out s side w.heap.size w1.heap.size _ _ _ (tells_by s w1.heap.size) W1 (hKW.heap hb1') hStW (by omega) (by omega) (lt_of_heap hgo) (fun w1 k => OutBox.start (k.heap hgo)))
    have HKw := Lib.hid hKw
    have Hlt := Lib.hid (Nat.le_of_lt hwlt)
    clear hStW hKw hgo hKW eW k1 hb1' hwlt hlowG hB
    go_wp2_with fail
    rw [← HW.out]
    refine HStr.out.mono ?_
    rintro e w3 ⟨rfl, W, hKW, hI3⟩
    obtain ⟨v, q1, q2⟩ := hI3.box
    have c3 := cell_box q1
    have HI3 := Lib.hid hI3
    have Q1 := Lib.hid q1
    have Q2 := Lib.hid q2
    have HKw2 := Lib.hid (HKw.out.trans hKW)
    clear hI3 q1 q2 hKW
    go_wp2_with fail
    refine (sort_own w3 W.heap.size v _ Q2.out HLen.out).mono ?_
    rintro e w4 ⟨rfl, ho4, hg4⟩
    obtain ⟨q4, kb4⟩ := HI3.out.sorted Q1.out Q2.out ho4 hg4
    have c4 := cell_box q4
    have HO4 := Lib.hid ho4
    have HK4 := Lib.hid (kb4.below HKw2.out Hlt.out)
    clear ho4 hg4 q4 kb4
    go_wp2
    go_ret
    exact ⟨_, rfl, by rw [← hOut.out]; exact HO4.out.low HKw2.out.size, HK4.out⟩
theorem by_nil (B : List Int) (hB : Brd B) (s side : Int) (w : World) :
    Calls Tryd.prog 27 #[.pointer none, .agg (cl B).toArray, .int .i64 s, .int .i64 side] w (NewZ w []) := by
  have hz := Lib.hid (size_cl hB.1)
  have hbl := Lib.hid (heap_alloc_new w (.cells (cl B).toArray 40))
  clear hB
  go_enter Tryd.func27, Tryd.ntmps27
  go_wp2_with (refine wpList_load_w (by rfl) _ rfl _ rfl _ (hbl.out) hz.out ?_)
  refine (sees_nil B s _).mono ?_
  rintro e w1 ⟨rfl, k1⟩
  have HK := Lib.hid (((Kept.refl w).alloc _).trans k1)
  clear k1
  go_wp2
  go_ret
  exact ⟨_, rfl, OwnZ.nil _ _, HK.out⟩
/-- The box of a bool. -/
structure YesBox (W : World) (go : Nat) (b : Bool) (w : World) : Prop where
  kb : KB W go w
  low : go < W.heap.size
  box : w.heap[go]? = some (.cells #[.bool b] 4 (0, 0))
theorem YesBox.kept {W w w' : World} {go : Nat} {b : Bool} (h : YesBox W go b w) (k : Kept w w') : YesBox W go b w' := ⟨h.kb.kept k, h.low, k.heap h.box⟩
theorem YesBox.set {W w : World} {go : Nat} {b : Bool} (h : YesBox W go b w) (c : Bool) : YesBox W go c (w.setCell ⟨go, 0, none⟩ (.bool c)) := by
  refine ⟨⟨h.kb.os, h.kb.output, ?_, fun i hi hne => ?_⟩, h.low, ?_⟩
  · have := h.kb.size; simpa [World.setCell] using this
  · rw [heap_setCell_other _ _ _ _ (by simpa using hne)]; exact h.kb.block i hi hne
  · rw [heap_setCell_same _ _ _ _ _ _ h.box]; rfl
theorem struck1_is (W : World) (go : Nat) (b : Bool) (t way far : Nat) (w : World) (hO : YesBox W go b w) :
    Calls Tryd.prog 52 #[.int .i64 (t : Int), .int .i64 (way : Int), .int .i64 (far : Int), .pointer (some ⟨go, 0, none⟩)] w fun e w' =>
      e = .returned (.tuple #[]) ∧ YesBox W go true w' := by
  have hc := cell_box hO.box
  have hf := frozen_box hO.box
  have HO := Lib.hid (hO.set true)
  clear hO
  go_enter Tryd.func52, Tryd.ntmps52
  go_wp2
  refine bodyPost_end (results_none rfl _ _ _) rfl ?_
  exact ⟨rfl, HO.out⟩
theorem tells_struck (s : Int) (go : Nat) : Tells s go 52 #[.pointer (some ⟨go, 0, none⟩)] (fun W l w => YesBox W go (!l.isEmpty) w) := by
  refine ⟨fun args w => fun_enters Tryd.func52 (by kernel_rfl) rfl args w, fun W l w w' h k => h.kept k, fun W l w h => h.kb, ?_⟩
  intro W l t way far w hI hl ht hw hf hf8 hr
  rw [show (!(l ++ [((t : Int), way, far)]).isEmpty) = true by simp]
  exact struck1_is W go _ t way far w hI
def struckB (B : List Int) (s side : Int) : Bool := okS s && rightB B && !(tellL B s side).isEmpty
theorem tell_by (B : List Int) (s side : Int) (h0 : 0 ≤ s) (h1 : s < 64) : (tellL B s side).length = (byN B s side).length := by
  have h := congrArg List.length (sort_outW B s side h0 h1)
  rw [List.length_mergeSort] at h
  simpa [outW, zn] using h
set_option maxRecDepth 100000 in
set_option maxHeartbeats 2000000 in
theorem struck_is (a : Addr) (B : List Int) (hB : Brd B) (s side : Int) (w : World) (hS : Steps w) :
    Calls Tryd.prog 28 #[.pointer (some a), .agg (cl B).toArray, .int .i64 s, .int .i64 side] w fun e w' => e = .returned (.bool (struckB B s side)) ∧ Kept w w' := by
  have hz := Lib.hid (size_cl hB.1)
  have hbl := Lib.hid (heap_alloc_new w (.cells (cl B).toArray 40))
  have HB := Lib.hid hB
  have HSt := Lib.hid hS
  have hSee := Lib.hid (sees_is a B hB s)
  clear hS
  unfold struckB
  cases hc : okS s && rightB B
  · rw [hc] at hSee
    clear hB hc
    rw [Bool.false_and]
    go_enter Tryd.func28, Tryd.ntmps28
    go_wp2_with (refine wpList_load_w (by rfl) _ rfl _ rfl _ (hbl.out) hz.out ?_)
    refine (hSee.out _).mono ?_
    rintro e w1 ⟨rfl, k1⟩
    have HK := Lib.hid (((Kept.refl w).alloc _).trans k1)
    clear k1
    go_wp2
    go_ret
    exact ⟨rfl, HK.out⟩
  · rw [hc] at hSee
    rw [Bool.true_and]
    clear hc
    go_enter Tryd.func28, Tryd.ntmps28
    go_wp2_with (refine wpList_load_w (by rfl) _ rfl _ rfl _ (hbl.out) hz.out ?_)
    refine (hSee.out _).mono ?_
    rintro e w1 ⟨rfl, k1⟩
    have hb1' := k1.heap hbl.out
    have hwlt : w.heap.size < w1.heap.size := lt_of_heap hb1'
    obtain ⟨W1, eW⟩ : ∃ W, W = w1.alloc (.cells #[.bool false] 4) := ⟨_, rfl⟩
    have HW := Lib.hid eW
    have hKW : Kept w1 W1 := by rw [eW]; exact (Kept.refl _).alloc _
    have hgo : W1.heap[w1.heap.size]? = some (.cells #[.bool false] 4 (0, 0)) := by rw [eW]; exact heap_alloc_new w1 _
    have hKw : Kept w W1 := ((Kept.refl w).alloc _).trans (k1.trans hKW)
    have hStW := HSt.out.kept hKw
    have hlowG := HSt.out.low
    have HStr := Lib.hid (strikers_is B HB.out s side w.heap.size w1.heap.size _ _ _ (tells_struck s w1.heap.size) W1 (hKW.heap hb1') hStW (by omega) (by omega) (lt_of_heap hgo) (fun w2 k => ⟨KB.refl _ _, Nat.lt_of_lt_of_le (lt_of_heap hgo) k.size, k.heap hgo⟩))
    have HKw := Lib.hid hKw
    have Hlt := Lib.hid (Nat.le_of_lt hwlt)
    clear hStW hKw hgo hKW eW k1 hb1' hwlt hlowG hB
    go_wp2_with fail
    rw [← HW.out]
    refine HStr.out.mono ?_
    rintro e w3 ⟨rfl, W, hKW, hI3⟩
    have c3 := cell_box hI3.box
    have HK4 := Lib.hid (hI3.kb.below (HKw.out.trans hKW) Hlt.out)
    clear hI3 hKW
    go_wp2
    go_ret
    exact ⟨rfl, HK4.out⟩
theorem struck_nil (B : List Int) (hB : Brd B) (s side : Int) (w : World) :
    Calls Tryd.prog 28 #[.pointer none, .agg (cl B).toArray, .int .i64 s, .int .i64 side] w fun e w' => e = .returned (.bool false) ∧ Kept w w' := by
  have hz := Lib.hid (size_cl hB.1)
  have hbl := Lib.hid (heap_alloc_new w (.cells (cl B).toArray 40))
  clear hB
  go_enter Tryd.func28, Tryd.ntmps28
  go_wp2_with (refine wpList_load_w (by rfl) _ rfl _ rfl _ (hbl.out) hz.out ?_)
  refine (sees_nil B s _).mono ?_
  rintro e w1 ⟨rfl, k1⟩
  have HK := Lib.hid (((Kept.refl w).alloc _).trans k1)
  clear k1
  go_wp2
  go_ret
  exact ⟨rfl, HK.out⟩
end Go.Proofs.YtkliefojegjhhaaDoor
