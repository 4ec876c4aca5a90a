/- Boards compared, laid anew, stored: the laws; First; menAlone and Right. -/
import Derived.Test.YtkebpchhpidogaaBoF
namespace Go.Proofs.Ytkebpchhpidogaa
open Go.RowKit
set_option linter.unusedVariables false
set_option linter.unusedSimpArgs false
set_option maxRecDepth 100000

/-- Are two boards the same, square by square? -/
def beqB (A B : List Int) : Bool := (List.range 64).all fun i => A.getD i 0 == B.getD i 0
theorem beqB_iff {A B : List Int} (hA : A.length = 64) (hB : B.length = 64) : beqB A B = true ↔ A = B := by
  unfold beqB
  rw [List.all_eq_true]
  constructor
  · intro h
    refine List.ext_getElem (by omega) fun i h1 h2 => ?_
    have := h i (by simp; omega)
    rw [getD_at _ _ h1, getD_at _ _ h2] at this
    simpa using this
  · rintro rfl i _
    simp
theorem beqB_refl (A : List Int) : beqB A A = true := by unfold beqB; simp
theorem run_part_cl (A : List Int) (hA : A.length = 64) (i : Nat) (hi : i < 64) (w : World) : (part 26 (cl A).toArray (i * 1)).run Try.prog w = .ok (.int .i8 (A.getD i 0)) w := by
  have h2 := cl_get A i (by omega)
  simp [part, isAgg, run_underlying Try.underlying26, h2]
theorem run_eqItems_cl (d : Nat) (A B : List Int) (hA : A.length = 64) (hB : B.length = 64) (w : World) : ∀ is : List Nat, (∀ i ∈ is, i < 64) →
    (Op.eqItems (d + 1) 26 1 (cl A).toArray (cl B).toArray is).run Try.prog w = .ok (is.all fun i => A.getD i 0 == B.getD i 0) w
  | [], _ => by simp [Op.eqItems]
  | i :: is, h => by
    have h1 := run_part_cl A hA i (h i (by simp)) w
    have h2 := run_part_cl B hB i (h i (by simp)) w
    have ih := run_eqItems_cl d A B hA hB w is (fun j hj => h j (by simp [hj]))
    simp only [Op.eqItems, Sem.run_bind, h1, h2, Result.andThen_ok]
    have h3 : ∀ a b : Int, (Op.equalIn (d + 1) 26 (.int .i8 a) (.int .i8 b)).run Try.prog w = .ok (a == b) w := fun a b => by
      simp [Op.equalIn, run_underlying Try.underlying26]
    rw [h3]
    simp only [Result.andThen_ok, List.all_cons]
    cases hab : (A.getD i 0 == B.getD i 0)
    · rfl
    · rw [Bool.true_and, ← ih]; rfl
theorem run_equal_cl (A B : List Int) (hA : A.length = 64) (hB : B.length = 64) (w : World) :
    (Op.equal 28 (.agg (cl A).toArray) (.agg (cl B).toArray)).run Try.prog w = .ok (beqB A B) w := by
  obtain ⟨i, hi⟩ : ∃ i, Try.prog.info? 26 = some i := by
    cases hq : Try.prog.info? 26 with
    | none => have := info22; simp [hq] at this
    | some i => exact ⟨i, rfl⟩
  have h : ∀ d : Nat, (Op.equalIn (d + 1 + 1) 28 (.agg (cl A).toArray) (.agg (cl B).toArray)).run Try.prog w = .ok (beqB A B) w := fun d => by
    rw [run_equalIn_array w (d + 1) _ _ Try.underlying28 hi, cells22]
    exact run_eqItems_cl d A B hA hB w _ (fun i hi => by simpa using hi)
  exact h 9998
theorem eqGuard24 : Try.prog.eqGuardType Try.prog.depth 28 = false := by kernel_rfl
theorem run_eqGuard_cl (op : BinOp) (x y : Operand) (a b : Array Value) (w : World) : (eqGuard op 28 x y (.agg a) (.agg b)).run Try.prog w = .ok () w := by
  unfold eqGuard
  cases op <;> simp [eqGuard24, Sem.run_bind]
theorem run_eql_cl (A B : List Int) (hA : A.length = 64) (hB : B.length = 64) (w : World) :
    (binOp .eql 28 (.agg (cl A).toArray) (.agg (cl B).toArray)).run Try.prog w = .ok (.bool (beqB A B)) w := by
  simp only [binOp, Sem.run_bind, run_equal_cl A B hA hB w, Result.andThen_ok, Sem.run_pure]
theorem run_neq_cl (A B : List Int) (hA : A.length = 64) (hB : B.length = 64) (w : World) :
    (binOp .neq 28 (.agg (cl A).toArray) (.agg (cl B).toArray)).run Try.prog w = .ok (.bool (!beqB A B)) w := by
  simp only [binOp, Sem.run_bind, run_equal_cl A B hA hB w, Result.andThen_ok, Sem.run_pure]
/-- The empty board. -/
def Zb : List Int := List.replicate 64 0
theorem Zb_brd : Brd Zb := by
  refine ⟨rfl, fun i hi => ?_⟩
  have : Zb.getD i 0 = 0 := by unfold Zb; rw [List.getD, List.getElem?_replicate]; split <;> rfl
  omega
theorem zeroB : (Try.prog.info? 28).map (fun i => (i.zero, i.size)) = some (some (.agg (cl Zb).toArray), 64) := by kernel_rfl
theorem run_zero_b (w : World) : (zeroValue 28).run Try.prog w = .ok (.agg (cl Zb).toArray) w := (zero_of_info zeroB).1 w
theorem wpList_new_b {ops : Array Oper} {rest : List Oper} {o : Oper} {a : Act} {w : World} {Q : Exit → Act → World → Prop} (hgd : o.guard = none) (ho : o.op = .alloc 28)
    (h : wpList Try.prog ops Q rest (a.put o.dst (.pointer (some ⟨w.heap.size, 0, none⟩))) (w.alloc (.cells (cl Zb).toArray 28))) : wpList Try.prog ops Q (o :: rest) a w := by
  refine wpList_plain hgd fun _ hK => ?_
  unfold Oper.wp execOp
  simp only [ho, Instr.alloc, Sem.run_bind, run_zero_b, Result.andThen_ok, newVar, newRow, Value.cells]
  exact hK _ _ h
end Go.Proofs.Ytkebpchhpidogaa
