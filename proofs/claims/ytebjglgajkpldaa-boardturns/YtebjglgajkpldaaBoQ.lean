/- Turned: the board's and the document's. -/
import Derived.Test.YtebjglgajkpldaaBoP
namespace Go.Proofs.Ytebjglgajkpldaa
open Go.RowKit
set_option linter.unusedVariables false
set_option linter.unusedSimpArgs false

theorem flip_n (k : Nat) (hk : k < 64) (w : World) :
    Calls Try.prog 33 #[.int .i64 k] w fun e w' => e = .returned (.int .i64 (flipN k : Nat)) ∧ w = w' := by
  have := flip_yes (k : Int) w (by omega) (by omega)
  rwa [← flipN_int hk] at this
theorem rto_n (k : Nat) (hk : k < 64) (w : World) :
    Calls Try.prog 34 #[.int .i64 ((k : Int) % 8), .int .i64 (7 - (k : Int) / 8)] w fun e w' => e = .returned (.int .i64 (flipN k : Nat)) ∧ w = w' := by
  have := rfind_yes ((k : Int) % 8) (7 - (k : Int) / 8) w (by omega) (by omega) (by omega) (by omega)
  rwa [← flipN_int hk] at this
theorem heap3 (w : World) (A B C : Obj) : (((w.alloc A).alloc B).alloc C).heap[w.heap.size]? = some A ∧ (((w.alloc A).alloc B).alloc C).heap[w.heap.size + 1]? = some B ∧ (((w.alloc A).alloc B).alloc C).heap[w.heap.size + 2]? = some C := by
  have e1 : (w.alloc A).heap.size = w.heap.size + 1 := by simp
  have e2 : ((w.alloc A).alloc B).heap.size = w.heap.size + 2 := by simp
  refine ⟨?_, ?_, ?_⟩
  · rw [Below.heap_alloc _ C _ (by omega)]; exact heap_alloc2_old w A B
  · rw [Below.heap_alloc _ C _ (by omega)]; exact heap_alloc2_new w A B
  · rw [← e2]; exact heap_alloc_new _ C
theorem turned_is (B : List Int) (hB : Brd B) (w : World) :
    Calls Try.prog 22 #[.agg (cl B).toArray] w (RetB w (turnL B)) := by
  obtain ⟨i0, i1, i2⟩ := heap3 w (.cells (cl B).toArray 24) (.cells (cl Zb).toArray 24) (.cells (cl Zb).toArray 24)
  have h00 := Lib.hid i0
  have h01 := Lib.hid i1
  have h02 := Lib.hid i2
  have H := Lib.hid hB
  have hz := Lib.hid (size_cl hB.1)
  clear hB i0 i1 i2
  go_enter Try.func22, Try.ntmps22
  go_wp2_with (first | (with_reducible refine wpList_new_b rfl rfl ?_) | (with_reducible refine wpList_load_row rfl 24 _ rfl _ rfl _ _ _ _ h00.out Try.underlying24 rfl hz.out ?_))
  go_loopw [7] (fun i wr => ∃ k : Nat, k ≤ 64 ∧ i = .int .i64 k ∧ Hid (wr.heap[w.heap.size + 2]? = some (.cells (cl (tab (tk B k))).toArray 24 (0, 0))) ∧ Hid (wr.heap[w.heap.size + 1]? = some (.cells (cl Zb).toArray 24 (0, 0))) ∧ Kept w wr) (fun i _ => 64 - (intOf i).toNat)
  case atStart => exact ⟨0, by omega, rfl, by rw [tk_zero]; exact h02, h01, (((Kept.refl _).alloc _).alloc _).alloc _⟩
  case round =>
    obtain ⟨k, hk, rfl, g0, g1, hK⟩ := hrel
    by_cases hlt : k < 64
    · have hx := run_index_cl B H.out.1 k hlt
      obtain ⟨hb1, hb2⟩ := H.out.2 k hlt
      obtain ⟨x, ex⟩ : ∃ x, x = B.getD k 0 := ⟨_, rfl⟩
      rw [← ex] at hx hb1 hb2
      have hj := flipN_lt hlt
      have hcall := Lib.hid (flip_n k hlt)
      obtain ⟨j, ej⟩ : ∃ j, j = flipN k := ⟨_, rfl⟩
      rw [← ej] at hj hcall
      have hset : Hid ((tab (tk B k)).set j (negI x) = tab (tk B (k + 1))) := by rw [ex, ej]; exact tk_set hlt
      clear ex ej
      have hc := cell_cl (tab_length _) g0.out j hj
      have hf := frozen_of_row wr (w.heap.size + 2) j _ _ g0.out
      have hg : Hid _ := heap_set_cl (k := j) (negI x) g0.out
      have hg' : Hid _ := (heap_setCell_other wr ⟨w.heap.size + 2, j, none⟩ (w.heap.size + 1) (.int .i8 (negI x)) (by simp)).trans g1.out
      have hK' := hK.setCell (p := ⟨w.heap.size + 2, j, none⟩) (by show w.heap.size ≤ w.heap.size + 2; omega) (.int .i8 (negI x))
      have hneg : IntKind.i8.wrap (-x) = negI x := rfl
      generalize (tab (tk B k)).getD j 0 = y at hc
      go_wp2_with fail
      refine (hcall.out _).mono ?_
      rintro e w' ⟨rfl, rfl⟩
      go_wp2
      go_roundw
      case rel => exact ⟨k + 1, by omega, by go_num, by rw [← hset.out]; exact hg, hg', hK'⟩
      case measure => simp [intOf]; omega
    · have hz' := Lib.hid (size_cl (tab_length (tk B k)))
      go_wp2_with (first
        | (with_reducible refine wpList_load_row rfl 24 _ rfl _ rfl _ _ _ _ g0.out Try.underlying24 rfl hz'.out ?_)
        | (refine wpList_store_row rfl 24 _ _ rfl (w.heap.size + 1) (cl (tab (tk B k))).toArray rfl rfl 24 _ g1.out hz'.out (by rw [cl_size _ Zb_brd.1, cl_size _ (tab_length _)]) (cl_one _) ?_))
      refine bodyPost_ret (v := .agg (cl (tab (tk B k))).toArray) ?_ rfl ⟨?_, ?_⟩
      · exact results_cell_row rfl _ _ (w.heap.size + 1) 24 _ (0, 0) _ rfl (setRow_heap _ _ _ _ _ _ g1.out) Try.underlying24 rfl hz'.out
      · rw [tk_end _ _ hlt]
      · exact hK.setRow (by omega) _
theorem rturned_is (B : List Int) (hB : Brd B) (w : World) :
    Calls Try.prog 23 #[.agg (cl B).toArray] w (RetB w (turnL B)) := by
  obtain ⟨i0, i1, i2⟩ := heap3 w (.cells (cl B).toArray 24) (.cells (cl Zb).toArray 24) (.cells (cl Zb).toArray 24)
  have h00 := Lib.hid i0
  have h01 := Lib.hid i1
  have h02 := Lib.hid i2
  have H := Lib.hid hB
  clear hB i0 i1 i2
  go_enter Try.func23, Try.ntmps23
  go_wp2_with (first | (with_reducible refine wpList_new_b rfl rfl ?_))
  go_loopw [4] (fun i wr => ∃ k : Nat, k ≤ 64 ∧ i = .int .i64 k ∧ Hid (wr.heap[w.heap.size + 2]? = some (.cells (cl (tab (tk B k))).toArray 24 (0, 0))) ∧ Hid (wr.heap[w.heap.size + 1]? = some (.cells (cl Zb).toArray 24 (0, 0))) ∧ Hid (wr.heap[w.heap.size]? = some (.cells (cl B).toArray 24 (0, 0))) ∧ Kept w wr) (fun i _ => 64 - (intOf i).toNat)
  case atStart => exact ⟨0, by omega, rfl, by rw [tk_zero]; exact h02, h01, h00, (((Kept.refl _).alloc _).alloc _).alloc _⟩
  case round =>
    obtain ⟨k, hk, rfl, g0, g1, g2, hK⟩ := hrel
    by_cases hlt : k < 64
    · have hx := cell_cl H.out.1 g2.out k hlt
      obtain ⟨hb1, hb2⟩ := H.out.2 k hlt
      obtain ⟨x, ex⟩ : ∃ x, x = B.getD k 0 := ⟨_, rfl⟩
      rw [← ex] at hx hb1 hb2
      have hj := flipN_lt hlt
      have hcall := Lib.hid (rto_n k hlt)
      obtain ⟨j, ej⟩ : ∃ j, j = flipN k := ⟨_, rfl⟩
      rw [← ej] at hj hcall
      have hset : Hid ((tab (tk B k)).set j (negI x) = tab (tk B (k + 1))) := by rw [ex, ej]; exact tk_set hlt
      clear ex ej
      have hc := cell_cl (tab_length _) g0.out j hj
      have hf := frozen_of_row wr (w.heap.size + 2) j _ _ g0.out
      have hg : Hid _ := heap_set_cl (k := j) (negI x) g0.out
      have hg' : Hid _ := (heap_setCell_other wr ⟨w.heap.size + 2, j, none⟩ (w.heap.size + 1) (.int .i8 (negI x)) (by simp)).trans g1.out
      have hg'' : Hid _ := (heap_setCell_other wr ⟨w.heap.size + 2, j, none⟩ w.heap.size (.int .i8 (negI x)) (by simp)).trans g2.out
      have hK' := hK.setCell (p := ⟨w.heap.size + 2, j, none⟩) (by show w.heap.size ≤ w.heap.size + 2; omega) (.int .i8 (negI x))
      have hneg : IntKind.i8.wrap (-x) = negI x := rfl
      have hneg' : IntKind.i8.wrap (0 - x) = negI x := by unfold negI; rw [Int.zero_sub]
      generalize (tab (tk B k)).getD j 0 = y at hc
      go_wp2_with fail
      refine (rfile_yes _ _ (by omega) (by omega)).mono ?_
      rintro e w' ⟨rfl, rfl⟩
      go_wp2_with fail
      refine (rrank_yes _ _ (by omega) (by omega)).mono ?_
      rintro e w' ⟨rfl, rfl⟩
      go_wp2_with fail
      refine (hcall.out _).mono ?_
      rintro e w' ⟨rfl, rfl⟩
      go_wp2
      go_roundw
      case rel => exact ⟨k + 1, by omega, by go_num, by rw [← hset.out]; exact hg, hg', hg'', hK'⟩
      case measure => simp [intOf]; omega
    · have hz' := Lib.hid (size_cl (tab_length (tk B k)))
      go_wp2_with (first
        | (with_reducible refine wpList_load_row rfl 24 _ rfl _ rfl _ _ _ _ g0.out Try.underlying24 rfl hz'.out ?_)
        | (refine wpList_store_row rfl 24 _ _ rfl (w.heap.size + 1) (cl (tab (tk B k))).toArray rfl rfl 24 _ g1.out hz'.out (by rw [cl_size _ Zb_brd.1, cl_size _ (tab_length _)]) (cl_one _) ?_))
      refine bodyPost_ret (v := .agg (cl (tab (tk B k))).toArray) ?_ rfl ⟨?_, ?_⟩
      · exact results_cell_row rfl _ _ (w.heap.size + 1) 24 _ (0, 0) _ rfl (setRow_heap _ _ _ _ _ _ g1.out) Try.underlying24 rfl hz'.out
      · rw [tk_end _ _ hlt]
      · exact hK.setRow (by omega) _
end Go.Proofs.Ytebjglgajkpldaa
