/- Boards: how they lie in memory, and the contracts of the small questions on them. -/
import Derived.Test.YtkebpchhpidogaaSqB
import Derived.Test.YtkebpchhpidogaaMeA
import Derived.Test.YtkebpchhpidogaaKp
import Derived.Deep.WholeRow
import Derived.Deep.MidRow
import Derived.Deep.RegionHeld3
import Derived.Deep.AppendLies
import Derived.OwnWalk
import Derived.ChangeKeysEq
namespace Go.Proofs.Ytkebpchhpidogaa
set_option maxRecDepth 100000
open Go.RowKit
set_option linter.unusedVariables false

/-- A board's numbers as the cells of its array. -/
def cl (B : List Int) : List Value := B.map (Value.int .i8)
theorem cl_length (B : List Int) : (cl B).length = B.length := by simp [cl]
theorem cl_get (B : List Int) (i : Nat) (h : i < B.length) : (cl B)[i]? = some (.int .i8 (B.getD i 0)) := by
  simp [cl, List.getD, List.getElem?_eq_getElem h]
theorem cl_set (B : List Int) (i : Nat) (x : Int) : (cl B).set i (.int .i8 x) = cl (B.set i x) := by
  simp [cl, List.map_set]
theorem cl_inj {A B : List Int} (h : cl A = cl B) : A = B := by
  unfold cl at h
  exact (List.map_inj_right (fun _ _ h => by injection h)).1 h
/-- Sixty-four numbers of eight bits. -/
def Brd (B : List Int) : Prop := B.length = 64 ∧ ∀ i, i < 64 → -128 ≤ B.getD i 0 ∧ B.getD i 0 ≤ 127
theorem size24 : (Try.prog.info? 28).map (·.size) = some 64 := by kernel_rfl
theorem info22 : (Try.prog.info? 26).map (fun i => (i.zero, i.size)) = some (some (.int .i8 0), 1) := by kernel_rfl
theorem cells22 : Try.prog.cellsOf 26 = 1 := by kernel_rfl
theorem cells24 : Try.prog.cellsOf 28 = 64 := by kernel_rfl
/-- One number of a board that is at hand as a value. -/
theorem run_index_cl (B : List Int) (hB : B.length = 64) (k : Nat) (hk : k < 64) (w : World) :
    (Instr.index 28 (.agg (cl B).toArray) (.int .i64 k)).run Try.prog w = .ok (.int .i8 (B.getD k 0)) w := by
  have h1 : (0 : Int) ≤ (k : Int) ∧ (k : Int) < ((64 : Nat) : Int) := by omega
  have h2 := cl_get B k (by omega)
  have hs : (sizeOf 26).run Try.prog w = .ok 1 w := by
    cases hq : Try.prog.info? 26 with
    | none => have := info22; simp [hq] at this
    | some i => have := info22; simp [hq] at this; simp [sizeOf, typeInfo, hq, this.2]
  simp only [Instr.index, asIntOf, Sem.run_bind, Sem.run_pure, Result.andThen_ok, run_underlying Try.underlying28, if_pos h1, hs]
  simp [part, isAgg, run_underlying Try.underlying26, h2]
theorem size_cl {B : List Int} (hB : B.length = 64) : (Try.prog.info? 28).map (·.size) = some (cl B).toArray.size := by rw [size24]; simp [cl_length, hB]
/-- The load of a whole board, in a region in the text's order, guarded or not. -/
theorem wpList_load_w {ops : Array Oper} {rest : List Oper} {o : Oper} {a : Act} {w : World} {Q : Exit → Act → World → Prop} (hw : Region.wanted o (yielded ops a.tmps) = true) (x : Operand) (ho : o.op = .load 28 x)
    (g : Nat) (hx : a.eval x = .pointer (some ⟨g, 0, none⟩)) (B : List Int) (hg : w.heap[g]? = some (.cells (cl B).toArray 28 (0, 0)))
    (hi : (Try.prog.info? 28).map (·.size) = some (cl B).toArray.size)
    (h : wpList Try.prog ops Q rest (a.put o.dst (.agg (cl B).toArray)) w) : wpList Try.prog ops Q (o :: rest) a w :=
  wpList_step fun _ hK => by
    rw [if_pos hw]
    exact wp_load_row 28 x ho g hx _ _ (0, 0) _ hg Try.underlying28 rfl hi (hK _ _ h)
theorem run_load_cl {w : World} {g : Nat} {B : List Int} {t : TypeId} (hB : B.length = 64) (hg : w.heap[g]? = some (.cells (cl B).toArray t (0, 0))) :
    (loadVar 28 ⟨g, 0, none⟩).run Try.prog w = .ok (.agg (cl B).toArray) w :=
  run_loadVar_row w g t _ (cl B).toArray (0, 0) _ hg Try.underlying28 rfl (by rw [size24]; simp [cl_length, hB])
/-- Is it a man? Of which kind and side? -/
def manB (x : Int) : Bool := x != 0 && decide (-6 ≤ x) && decide (x ≤ 6)
def kindI (x : Int) : Int := if manB x then (if 0 < x then x else -x) else 0
def sideI (x : Int) : Int := if manB x then (if 0 < x then 0 else 1) else -1
theorem manB_iff (x : Int) : manB x = true ↔ x ≠ 0 ∧ -6 ≤ x ∧ x ≤ 6 := by simp [manB, and_assoc]
theorem manB_not (x : Int) : manB x = false ↔ x < -6 ∨ x = 0 ∨ 6 < x := by
  rw [← Bool.not_eq_true, manB_iff]; omega
theorem kindI_bd (x : Int) : 0 ≤ kindI x ∧ kindI x ≤ 6 := by
  unfold kindI
  by_cases h : manB x = true
  · have := (manB_iff x).1 h
    rw [if_pos h]; split <;> omega
  · rw [if_neg h]; omega
theorem kindI_one (x : Int) : (kindI x == 1) = (x == 1 || x == -1) := by
  rw [Bool.eq_iff_iff]
  simp only [beq_iff_eq, Bool.or_eq_true]
  unfold kindI
  by_cases h : manB x = true
  · rw [if_pos h]; split <;> omega
  · rw [if_neg h]; have := (manB_not x).1 (by simpa using h); omega
/-- Does a pawn stand on the first or the last rank? -/
def edge (B : List Int) (i : Nat) : Bool := (kindI (B.getD i 0) == 1) && (((i : Int) / 8 == 0) || ((i : Int) / 8 == 7))
end Go.Proofs.Ytkebpchhpidogaa
