/- The walk of BoardPuts. -/
import Derived.Test.YtebjglgajkpldaaBoM
namespace Go.Proofs.Ytebjglgajkpldaa
open Go.RowKit
set_option linter.unusedVariables false
set_option linter.unusedSimpArgs false

theorem two_size (w : World) (o : Obj) : (w.alloc o).heap.size = w.heap.size + 1 := by simp
theorem Zb_len : Zb.length = 64 := Zb_brd.1
/-- A whole board into the variable that was laid last. -/
theorem wpList_store_new {ops : Array Oper} {rest : List Oper} {o : Oper} {a : Act} {w : World} {Q : Exit → Act → World → Prop} (hgd : o.guard = none) (x y : Operand) (ho : o.op = .store 24 x y)
    (A B : List Int) (hA : A.length = 64) (hB : B.length = 64) (hx : a.eval x = .pointer (some ⟨w.heap.size, 0, none⟩)) (hy : a.eval y = .agg (cl B).toArray)
    (h : wpList Try.prog ops Q rest (a.put o.dst undef) (w.alloc (.cells (cl B).toArray 24))) : wpList Try.prog ops Q (o :: rest) a (w.alloc (.cells (cl A).toArray 24)) := by
  refine wpList_store_row hgd 24 x y ho w.heap.size (cl B).toArray hx hy 24 _ (heap_alloc_new w _) (size_cl hB) (by rw [cl_size _ hA, cl_size _ hB]) (cl_one _) ?_
  rw [World.setRow_alloc_new]
  exact h
theorem walkPutsNo (B : List Int) (hB : Brd B) (s m : Int) (h : (s < 0 ∨ 64 ≤ s) ∨ (m ≠ 0 ∧ manB m = false)) (w : World) :
    Calls Try.prog 5 #[.agg (cl B).toArray, .int .i64 s, .int .i64 m] w fun e w' => e = .returned (.bool true) ∧ Kept w w' := by
  have hbl := Lib.hid (heap_alloc_new w (.cells (cl B).toArray 24))
  have hk0 := (Kept.refl w).alloc (.cells (cl B).toArray 24)
  have hz := Lib.hid (size_cl hB.1)
  have hzz := Lib.hid (size_cl Zb_brd.1)
  have HB := Lib.hid hB
  clear hB
  by_cases hs : s < 0 ∨ 64 ≤ s
  · go_enter Try.func5, Try.ntmps5
    go_wp2_with fail
    refine (bwakes _).mono ?_
    rintro e w0 ⟨rfl, g0⟩
    go_wp2_with (refine wpList_load_w (by rfl) _ rfl _ rfl _ (g0.heap hbl.out) hz.out ?_)
    refine (put_no B s m h _).mono ?_
    rintro e w1 ⟨rfl, g1⟩
    have hb7 := Lib.hid (heap_alloc_new w1 (.cells (cl Zb).toArray 24))
    go_wp2_with (first | (with_reducible refine wpList_new_b rfl rfl ?_) | ((with_reducible refine wpList_store_new rfl _ _ rfl Zb Zb Zb_len Zb_len ?_ ?_ ?_); exact rfl; exact rfl))
    refine (rright_no _ _ hs).mono ?_
    rintro e w' ⟨rfl, rfl⟩
    go_wp2_with (first | (refine wpList_load_w (by rfl) _ rfl _ rfl _ hb7.out hzz.out ?_) | (refine wpList_zero_w (by rfl) rfl ?_) | (refine wpList_eql_w (by rfl) _ _ _ rfl Zb Zb rfl rfl ⟨Zb_brd.1, Zb_brd.1, beqB_refl Zb⟩ ?_))
    go_ret
    exact ⟨rfl, ((hk0.trans g0).trans g1).alloc _⟩
  · have hm := h.resolve_left hs
    have b0 : (m != 0) = true := bne_iff_ne.2 hm.1
    have hk : (kindI m == 0) = true := by
      rw [beq_iff_eq]; unfold kindI; rw [if_neg (by rw [hm.2]; decide)]
    have H := Lib.hid h
    clear h hm
    go_enter Try.func5, Try.ntmps5
    go_wp2_with fail
    refine (bwakes _).mono ?_
    rintro e w0 ⟨rfl, g0⟩
    go_wp2_with (refine wpList_load_w (by rfl) _ rfl _ rfl _ (g0.heap hbl.out) hz.out ?_)
    refine (put_no B s m H.out _).mono ?_
    rintro e w1 ⟨rfl, g1⟩
    have hb7 := Lib.hid (heap_alloc_new w1 (.cells (cl Zb).toArray 24))
    go_wp2_with (first | (with_reducible refine wpList_new_b rfl rfl ?_) | ((with_reducible refine wpList_store_new rfl _ _ rfl Zb Zb Zb_len Zb_len ?_ ?_ ?_); exact rfl; exact rfl))
    refine (rright_yes _ _ (by omega) (by omega)).mono ?_
    rintro e w' ⟨rfl, rfl⟩
    go_wp2_with fail
    refine (rkind_any _ _).mono ?_
    rintro e w' ⟨rfl, rfl⟩
    go_wp2_with (first | (refine wpList_load_w (by rfl) _ rfl _ rfl _ hb7.out hzz.out ?_) | (refine wpList_zero_w (by rfl) rfl ?_) | (refine wpList_eql_w (by rfl) _ _ _ rfl Zb Zb rfl rfl ⟨Zb_brd.1, Zb_brd.1, beqB_refl Zb⟩ ?_))
    go_ret
    exact ⟨rfl, ((hk0.trans g0).trans g1).alloc _⟩
theorem walkPutsYes (B : List Int) (hB : Brd B) (k : Nat) (m : Int) (hk : k < 64) (hm : okB m = true) (w : World) :
    Calls Try.prog 5 #[.agg (cl B).toArray, .int .i64 k, .int .i64 m] w fun e w' => e = .returned (.bool true) ∧ Kept w w' := by
  have hbl := Lib.hid (heap_alloc_new w (.cells (cl B).toArray 24))
  have hk0 := (Kept.refl w).alloc (.cells (cl B).toArray 24)
  have hz := Lib.hid (size_cl hB.1)
  have hl := Lib.hid (show (B.set k m).length = 64 by simpa using hB.1)
  have hzc := Lib.hid (size_cl hl.out)
  have HB := Lib.hid hB
  have HM := Lib.hid hm
  have hBl := Lib.hid hB.1
  have hset := cl_set B k m
  have hbd : -6 ≤ m ∧ m ≤ 6 := by
    unfold okB at hm
    rw [Bool.or_eq_true, beq_iff_eq] at hm
    rcases hm with rfl | hm
    · omega
    · exact ((manB_iff m).1 hm).2
  have hwr : IntKind.i8.wrap m = m := by
    have : m = -6 ∨ m = -5 ∨ m = -4 ∨ m = -3 ∨ m = -2 ∨ m = -1 ∨ m = 0 ∨ m = 1 ∨ m = 2 ∨ m = 3 ∨ m = 4 ∨ m = 5 ∨ m = 6 := by omega
    rcases this with rfl | rfl | rfl | rfl | rfl | rfl | rfl | rfl | rfl | rfl | rfl | rfl | rfl <;> decide
  obtain ⟨hbl1, hbl2⟩ := hbd
  have hcase : ((m != 0) = false) ∨ ((m != 0) = true ∧ (kindI m == 0) = false) := by
    by_cases h0 : (m != 0) = true
    · refine .inr ⟨h0, ?_⟩
      have hmm : manB m = true := by
        unfold okB at hm
        have : (m == 0) = false := by simpa using h0
        simpa [this] using hm
      have := (manB_iff m).1 hmm
      rw [beq_eq_false_iff_ne]; unfold kindI; rw [if_pos hmm]; split <;> omega
    · exact .inl (by simpa using h0)
  clear hB hm
  go_enter Try.func5, Try.ntmps5
  go_wp2_with fail
  refine (bwakes _).mono ?_
  rintro e w0 ⟨rfl, g0⟩
  go_wp2_with (refine wpList_load_w (by rfl) _ rfl _ rfl _ (g0.heap hbl.out) hz.out ?_)
  refine (put_yes B HB.out k m hk HM.out _).mono ?_
  rintro e w1 ⟨rfl, g1⟩
  have hK1 := (hk0.trans g0).trans g1
  have hb1 := Lib.hid ((((Kept.refl w1).alloc (.cells (cl (B.set k m)).toArray 24)).heap ((g0.trans g1).heap hbl.out)))
  have hb7 := Lib.hid (heap_alloc2_old w1 (.cells (cl (B.set k m)).toArray 24) (.cells (cl (B.set k m)).toArray 24))
  have hb9 := Lib.hid (heap_alloc2_new w1 (.cells (cl (B.set k m)).toArray 24) (.cells (cl (B.set k m)).toArray 24))
  have h9 := heap_alloc2_new w1 (.cells (cl (B.set k m)).toArray 24) (.cells (cl B).toArray 24)
  have hc := cell_cl HB.out.1 h9 k hk
  have hf := frozen_of_row _ (w1.heap.size + 1) k _ _ h9
  generalize B.getD k 0 = y at hc
  clear h9
  go_wp2_with (first | (with_reducible refine wpList_new_b rfl rfl ?_) | ((with_reducible refine wpList_store_new rfl _ _ rfl Zb (B.set k m) Zb_len hl.out ?_ ?_ ?_); exact rfl; exact rfl))
  refine (rright_yes _ _ (by omega) (by omega)).mono ?_
  rintro e w' ⟨rfl, rfl⟩
  rcases hcase with h0 | ⟨h0, h00⟩
  · go_wp2_with (first | (with_reducible refine wpList_new_b rfl rfl ?_) | (refine wpList_load_w (by rfl) _ rfl w.heap.size rfl B hb1.out hz.out ?_) | ((with_reducible refine wpList_store_new rfl _ _ rfl Zb B Zb_len hBl.out ?_ ?_ ?_); exact rfl; exact rfl) | (refine wpList_load_w (by rfl) _ rfl w1.heap.size rfl (B.set k m) hb7.out hzc.out ?_) | (refine wpList_load_w (by rfl) _ rfl (w1.heap.size + 1) rfl (B.set k m) hb9.out hzc.out ?_) | (refine wpList_eql_w (by rfl) _ _ _ rfl (B.set k m) (B.set k m) rfl rfl ⟨hl.out, hl.out, beqB_refl _⟩ ?_))
    go_ret
    exact ⟨rfl, (hK1.alloc _).alloc _⟩
  · skip
    go_wp2_with fail
    refine (rkind_any _ _).mono ?_
    rintro e w' ⟨rfl, rfl⟩
    go_wp2_with (first | (with_reducible refine wpList_new_b rfl rfl ?_) | (refine wpList_load_w (by rfl) _ rfl w.heap.size rfl B hb1.out hz.out ?_) | ((with_reducible refine wpList_store_new rfl _ _ rfl Zb B Zb_len hBl.out ?_ ?_ ?_); exact rfl; exact rfl) | (refine wpList_load_w (by rfl) _ rfl w1.heap.size rfl (B.set k m) hb7.out hzc.out ?_) | (refine wpList_load_w (by rfl) _ rfl (w1.heap.size + 1) rfl (B.set k m) hb9.out hzc.out ?_) | (refine wpList_eql_w (by rfl) _ _ _ rfl (B.set k m) (B.set k m) rfl rfl ⟨hl.out, hl.out, beqB_refl _⟩ ?_))
    go_ret
    exact ⟨rfl, (hK1.alloc _).alloc _⟩
theorem walkBoardPuts (B : List Int) (hB : Brd B) (s : Int) (ws : (Lit.int .i64 s).wf = true) (m : Int) (wm : (Lit.int .i64 m).wf = true) (w : World) :
    Calls Try.prog 5 #[.agg (cl B).toArray, .int .i64 s, .int .i64 m] w fun e w' => e = .returned (.bool true) ∧ Kept w w' := by
  by_cases h : (s < 0 ∨ 64 ≤ s) ∨ (m ≠ 0 ∧ manB m = false)
  · exact walkPutsNo B hB s m h w
  · have hs : 0 ≤ s ∧ s < 64 := by omega
    have hm : okB m = true := by
      unfold okB
      rw [Bool.or_eq_true, beq_iff_eq]
      by_cases h0 : m = 0
      · exact .inl h0
      · refine .inr ?_
        cases hh : manB m
        · exact absurd (.inr ⟨h0, hh⟩) h
        · rfl
    have := walkPutsYes B hB s.toNat m (by omega) hm w
    rwa [show ((s.toNat : Nat) : Int) = s by omega] at this
end Go.Proofs.Ytebjglgajkpldaa
