/- Put; the walk of BoardPuts. -/
import Derived.Test.YtmhnfnjngcoacaaBoL
namespace Go.Proofs.Ytmhnfnjngcoacaa
open Go.RowKit
set_option linter.unusedVariables false
set_option linter.unusedSimpArgs false

theorem wpList_eql_w {ops : Array Oper} {rest : List Oper} {o : Oper} {a : Act} {w : World} {Q : Exit → Act → World → Prop} {b : Bool} (hw : Region.wanted o (yielded ops a.tmps) = true) (x y : Operand) (ty : TypeId) (ho : o.op = .binOp .eql 24 x y ty)
    (A B : List Int) (hx : a.eval x = .agg (cl A).toArray) (hy : a.eval y = .agg (cl B).toArray) (hb : A.length = 64 ∧ B.length = 64 ∧ beqB A B = b)
    (h : wpList Try.prog ops Q rest (a.put o.dst (.bool b)) w) : wpList Try.prog ops Q (o :: rest) a w :=
  wpList_step fun _ hK => by
    rw [if_pos hw]
    unfold Oper.wp execOp
    simp only [ho, hx, hy, Sem.run_bind, run_eqGuard_cl, run_eql_cl A B hb.1 hb.2.1, Result.andThen_ok, Sem.run_pure, hb.2.2, Oper.upon_value]
    exact hK _ _ h
/-- Two results, the first of them a board in its variable. -/
theorem results_board_tmp {fn : Func} {p t : Tmp} (h : fn.results = #[.cell p 24, .tmp t]) (tmps : Array Value) (w : World) (g : Nat) (B : List Int) (hB : B.length = 64)
    (hp : tmps.getD p undef = .pointer (some ⟨g, 0, none⟩)) (hg : w.heap[g]? = some (.cells (cl B).toArray 24 (0, 0))) :
    (results fn tmps).run Try.prog w = .ok (.tuple #[.agg (cl B).toArray, tmps.getD t undef]) w := by
  have hp' : tmps[p]?.getD undef = .pointer (some ⟨g, 0, none⟩) := by simpa using hp
  simp [results, h, hp', asAddr, run_load_cl hB hg]
theorem put_no (B : List Int) (s m : Int) (h : (s < 0 ∨ 64 ≤ s) ∨ (m ≠ 0 ∧ manB m = false)) (w : World) :
    Calls Try.prog 50 #[.agg (cl B).toArray, .int .i64 s, .int .i64 m] w fun e w' => e = .returned (.tuple #[.agg (cl Zb).toArray, .int .i64 5]) ∧ Kept w w' := by
  have h01 := Lib.hid (heap_alloc2_new w (.cells (cl B).toArray 24) (.cells (cl Zb).toArray 24))
  have hz := Lib.hid (size_cl Zb_brd.1)
  have hfin : Kept w (((w.alloc (.cells (cl B).toArray 24)).alloc (.cells (cl Zb).toArray 24)).setRow (w.heap.size + 1) (cl Zb).toArray) := (((Kept.refl w).alloc _).alloc _).setRow (by omega) _
  by_cases hs : s < 0 ∨ 64 ≤ s
  · go_enter Try.func50, Try.ntmps50
    go_wp2_with (first | (with_reducible refine wpList_new_b rfl rfl ?_))
    refine (right_no _ _ hs).mono ?_
    rintro e w' ⟨rfl, rfl⟩
    go_wp2_with (first | (refine wpList_zero_w (by rfl) rfl ?_) | (refine wpList_store_row rfl 24 _ _ rfl (w.heap.size + 1) (cl Zb).toArray rfl rfl 24 _ h01.out hz.out rfl (cl_one _) ?_))
    refine bodyPost_ret (v := .tuple #[.agg (cl Zb).toArray, .int .i64 5]) ?_ rfl ⟨rfl, hfin⟩
    exact (results_board_tmp (p := 6) (t := 7) rfl _ _ (w.heap.size + 1) Zb Zb_brd.1 rfl (setRow_heap _ _ _ _ _ _ h01.out)).trans rfl
  · have hm : m ≠ 0 ∧ manB m = false := h.resolve_left hs
    obtain ⟨hm0, hmn⟩ := hm
    have b0 : (m != 0) = true := bne_iff_ne.2 hm0
    have hs0 : 0 ≤ s := by omega
    have hs1 : s < 64 := by omega
    clear h hs hm0
    go_enter Try.func50, Try.ntmps50
    go_wp2_with (first | (with_reducible refine wpList_new_b rfl rfl ?_))
    refine (right_yes _ _ hs0 hs1).mono ?_
    rintro e w' ⟨rfl, rfl⟩
    go_wp2_with fail
    refine (mright_any _ _).mono ?_
    rintro e w' ⟨rfl, rfl⟩
    go_wp2_with (first | (refine wpList_zero_w (by rfl) rfl ?_) | (refine wpList_store_row rfl 24 _ _ rfl (w.heap.size + 1) (cl Zb).toArray rfl rfl 24 _ h01.out hz.out rfl (cl_one _) ?_))
    refine bodyPost_ret (v := .tuple #[.agg (cl Zb).toArray, .int .i64 5]) ?_ rfl ⟨rfl, hfin⟩
    exact (results_board_tmp (p := 6) (t := 7) rfl _ _ (w.heap.size + 1) Zb Zb_brd.1 rfl (setRow_heap _ _ _ _ _ _ h01.out)).trans rfl
theorem put_yes (B : List Int) (hB : Brd B) (k : Nat) (m : Int) (hk : k < 64) (hm : okB m = true) (w : World) :
    Calls Try.prog 50 #[.agg (cl B).toArray, .int .i64 k, .int .i64 m] w fun e w' => e = .returned (.tuple #[.agg (cl (B.set k m)).toArray, .int .i64 0]) ∧ Kept w w' := by
  have h00 := heap_alloc2_old w (.cells (cl B).toArray 24) (.cells (cl Zb).toArray 24)
  have h01 := heap_alloc2_new w (.cells (cl B).toArray 24) (.cells (cl Zb).toArray 24)
  have hlen : (B.set k m).length = 64 := by simpa using hB.1
  have hz := Lib.hid (size_cl hlen)
  have hc := cell_cl hB.1 h00 k hk
  have hf := frozen_of_row _ w.heap.size k _ _ h00
  have hset := cl_set B k m
  have hg0 := Lib.hid (heap_alloc2_old w (.cells (cl (B.set k m)).toArray 24) (.cells (cl Zb).toArray 24))
  have hg1 := Lib.hid (heap_alloc2_new w (.cells (cl (B.set k m)).toArray 24) (.cells (cl Zb).toArray 24))
  have hK := Lib.hid ((((Kept.refl w).alloc (.cells (cl (B.set k m)).toArray 24)).alloc (.cells (cl Zb).toArray 24)).setRow (g := w.heap.size + 1) (by omega) (cl (B.set k m)).toArray)
  have hlen' := Lib.hid hlen
  generalize B.getD k 0 = y at hc
  clear h00 h01 hlen hB
  by_cases h0 : (m != 0) = true
  · have hmm : manB m = true := by
      unfold okB at hm
      have : (m == 0) = false := by simpa using h0
      simpa [this] using hm
    have hbd := (manB_iff m).1 hmm
    obtain ⟨_, hbl, hbh⟩ := hbd
    have hwr : IntKind.i8.wrap m = m := by
      have : m = -6 ∨ m = -5 ∨ m = -4 ∨ m = -3 ∨ m = -2 ∨ m = -1 ∨ m = 0 ∨ m = 1 ∨ m = 2 ∨ m = 3 ∨ m = 4 ∨ m = 5 ∨ m = 6 := by omega
      rcases this with rfl | rfl | rfl | rfl | rfl | rfl | rfl | rfl | rfl | rfl | rfl | rfl | rfl <;> decide
    clear hm
    go_enter Try.func50, Try.ntmps50
    go_wp2_with (first | (with_reducible refine wpList_new_b rfl rfl ?_))
    refine (right_yes _ _ (by omega) (by omega)).mono ?_
    rintro e w' ⟨rfl, rfl⟩
    go_wp2_with fail
    refine (mright_any _ _).mono ?_
    rintro e w' ⟨rfl, rfl⟩
    go_wp2_with (first | (refine wpList_load_w (by rfl) _ rfl _ rfl _ hg0.out hz.out ?_) | (refine wpList_store_row rfl 24 _ _ rfl (w.heap.size + 1) (cl (B.set k m)).toArray rfl rfl 24 _ hg1.out hz.out (by rw [cl_size _ hlen'.out]; rfl) (cl_one _) ?_))
    refine bodyPost_ret (v := .tuple #[.agg (cl (B.set k m)).toArray, .int .i64 0]) ?_ rfl ⟨rfl, hK.out⟩
    exact (results_board_tmp (p := 6) (t := 7) rfl _ _ (w.heap.size + 1) _ hlen'.out rfl (setRow_heap _ _ _ _ _ _ hg1.out)).trans rfl
  · have h0' : (m != 0) = false := by simpa using h0
    obtain rfl : m = 0 := by simpa using h0'
    clear h0 h0' hm
    go_enter Try.func50, Try.ntmps50
    go_wp2_with (first | (with_reducible refine wpList_new_b rfl rfl ?_))
    refine (right_yes _ _ (by omega) (by omega)).mono ?_
    rintro e w' ⟨rfl, rfl⟩
    go_wp2_with (first | (refine wpList_load_w (by rfl) _ rfl _ rfl _ hg0.out hz.out ?_) | (refine wpList_store_row rfl 24 _ _ rfl (w.heap.size + 1) (cl (B.set k 0)).toArray rfl rfl 24 _ hg1.out hz.out (by rw [cl_size _ hlen'.out]; rfl) (cl_one _) ?_))
    refine bodyPost_ret (v := .tuple #[.agg (cl (B.set k 0)).toArray, .int .i64 0]) ?_ rfl ⟨rfl, hK.out⟩
    exact (results_board_tmp (p := 6) (t := 7) rfl _ _ (w.heap.size + 1) _ hlen'.out rfl (setRow_heap _ _ _ _ _ _ hg1.out)).trans rfl
end Go.Proofs.Ytmhnfnjngcoacaa
