/- Boards: how they lie in memory, and the contracts of the small questions on them. -/
import Derived.Test.YtkliefojegjhhaaDoorSqB
import Derived.Test.YtkliefojegjhhaaDoorMeA
import Derived.Test.YtkliefojegjhhaaDoorKp
import Derived.Deep.WholeRow
import Derived.Deep.MidRow
import Derived.Deep.RegionHeld3
import Derived.Deep.AppendLies
import Derived.OwnWalk
import Derived.ChangeKeysEq
namespace Go.Proofs.YtkliefojegjhhaaDoor
open Go.RowKit
set_option linter.unusedVariables false

/-- A board's numbers as the cells of its array. -/
def cl (B : List Int) : List Value := B.map (Value.int .i8)
theorem cl_length (B : List Int) : (cl B).length = B.length := by simp [cl]
theorem cl_get (B : List Int) (i : Nat) (h : i < B.length) : (cl B)[i]? = some (.int .i8 (B.getD i 0)) := by
  simp [cl, List.getD, List.getElem?_eq_getElem h]
theorem cl_set (B : List Int) (i : Nat) (x : Int) : (cl B).set i (.int .i8 x) = cl (B.set i x) := by
  simp [cl, List.map_set]
theorem cl_inj {A B : List Int} (h : cl A = cl B) : A = B := by
  unfold cl at h
  exact (List.map_inj_right (fun _ _ h => by injection h)).1 h
/-- Sixty-four numbers of eight bits. -/
def Brd (B : List Int) : Prop := B.length = 64 ∧ ∀ i, i < 64 → -128 ≤ B.getD i 0 ∧ B.getD i 0 ≤ 127
theorem size24 : (Tryd.prog.info? 40).map (·.size) = some 64 := by kernel_rfl
theorem info22 : (Tryd.prog.info? 38).map (fun i => (i.zero, i.size)) = some (some (.int .i8 0), 1) := by kernel_rfl
theorem cells22 : Tryd.prog.cellsOf 38 = 1 := by kernel_rfl
theorem cells24 : Tryd.prog.cellsOf 40 = 64 := by kernel_rfl
/-- One number of a board that is at hand as a value. -/
theorem run_index_cl (B : List Int) (hB : B.length = 64) (k : Nat) (hk : k < 64) (w : World) :
    (Instr.index 40 (.agg (cl B).toArray) (.int .i64 k)).run Tryd.prog w = .ok (.int .i8 (B.getD k 0)) w := by
  have h1 : (0 : Int) ≤ (k : Int) ∧ (k : Int) < ((64 : Nat) : Int) := by omega
  have h2 := cl_get B k (by omega)
  have hs : (sizeOf 38).run Tryd.prog w = .ok 1 w := by
    cases hq : Tryd.prog.info? 38 with
    | none => have := info22; simp [hq] at this
    | some i => have := info22; simp [hq] at this; simp [sizeOf, typeInfo, hq, this.2]
  simp only [Instr.index, asIntOf, Sem.run_bind, Sem.run_pure, Result.andThen_ok, run_underlying Tryd.underlying40, if_pos h1, hs]
  simp [part, isAgg, run_underlying Tryd.underlying38, h2]
theorem size_cl {B : List Int} (hB : B.length = 64) : (Tryd.prog.info? 40).map (·.size) = some (cl B).toArray.size := by rw [size24]; simp [cl_length, hB]
/-- The load of a whole board, in a region in the text's order, guarded or not. -/
theorem wpList_load_w {ops : Array Oper} {rest : List Oper} {o : Oper} {a : Act} {w : World} {Q : Exit → Act → World → Prop} (hw : Region.wanted o (yielded ops a.tmps) = true) (x : Operand) (ho : o.op = .load 40 x)
    (g : Nat) (hx : a.eval x = .pointer (some ⟨g, 0, none⟩)) (B : List Int) (hg : w.heap[g]? = some (.cells (cl B).toArray 40 (0, 0)))
    (hi : (Tryd.prog.info? 40).map (·.size) = some (cl B).toArray.size)
    (h : wpList Tryd.prog ops Q rest (a.put o.dst (.agg (cl B).toArray)) w) : wpList Tryd.prog ops Q (o :: rest) a w :=
  wpList_step fun _ hK => by
    rw [if_pos hw]
    exact wp_load_row 40 x ho g hx _ _ (0, 0) _ hg Tryd.underlying40 rfl hi (hK _ _ h)
theorem run_load_cl {w : World} {g : Nat} {B : List Int} {t : TypeId} (hB : B.length = 64) (hg : w.heap[g]? = some (.cells (cl B).toArray t (0, 0))) :
    (loadVar 40 ⟨g, 0, none⟩).run Tryd.prog w = .ok (.agg (cl B).toArray) w :=
  run_loadVar_row w g t _ (cl B).toArray (0, 0) _ hg Tryd.underlying40 rfl (by rw [size24]; simp [cl_length, hB])
/-- Is it a man? Of which kind and side? -/
def manB (x : Int) : Bool := x != 0 && decide (-6 ≤ x) && decide (x ≤ 6)
def kindI (x : Int) : Int := if manB x then (if 0 < x then x else -x) else 0
def sideI (x : Int) : Int := if manB x then (if 0 < x then 0 else 1) else -1
theorem manB_iff (x : Int) : manB x = true ↔ x ≠ 0 ∧ -6 ≤ x ∧ x ≤ 6 := by simp [manB, and_assoc]
theorem manB_not (x : Int) : manB x = false ↔ x < -6 ∨ x = 0 ∨ 6 < x := by
  rw [← Bool.not_eq_true, manB_iff]; omega
theorem mright_any (m : Int) (w : World) :
    Calls Tryd.prog 78 #[.int .i64 m] w fun e w' => e = .returned (.bool (manB m)) ∧ w = w' := by
  by_cases h : manB m = true
  · have := (manB_iff m).1 h
    rw [h]; exact mright_yes m w this.1 this.2.1 this.2.2
  · have h' : manB m = false := by simpa using h
    rw [h']; exact mright_no m w ((manB_not m).1 h')
theorem mkind_any (m : Int) (w : World) :
    Calls Tryd.prog 56 #[.int .i64 m] w fun e w' => e = .returned (.int .i64 (kindI m)) ∧ w = w' := by
  unfold kindI
  by_cases h : manB m = true
  · have := (manB_iff m).1 h
    rw [if_pos h]
    by_cases h0 : 0 < m
    · rw [if_pos h0]; exact mkind_w m w h0 this.2.2
    · rw [if_neg h0]; exact mkind_b m w (by omega) this.2.1
  · rw [if_neg h]; exact mkind_no m w ((manB_not m).1 (by simpa using h))
theorem mside_any (m : Int) (w : World) :
    Calls Tryd.prog 57 #[.int .i64 m] w fun e w' => e = .returned (.int .i64 (sideI m)) ∧ w = w' := by
  unfold sideI
  by_cases h : manB m = true
  · have := (manB_iff m).1 h
    rw [if_pos h]
    by_cases h0 : 0 < m
    · rw [if_pos h0]; exact mside_w m w h0 this.2.2
    · rw [if_neg h0]; exact mside_b m w (by omega) this.2.1
  · rw [if_neg h]; exact mside_no m w ((manB_not m).1 (by simpa using h))
theorem rkind_any (m : Int) (w : World) :
    Calls Tryd.prog 63 #[.int .i64 m] w fun e w' => e = .returned (.int .i64 (kindI m)) ∧ w = w' := by
  unfold kindI
  by_cases h : manB m = true
  · have := (manB_iff m).1 h
    rw [if_pos h]
    by_cases h0 : 0 < m
    · rw [if_pos h0]; exact rkind_yes m m w (.inl rfl) (by omega) this.2.2
    · rw [if_neg h0]; exact rkind_yes m (-m) w (.inr (by omega)) (by omega) (by omega)
  · rw [if_neg h]; exact rkind_no m w ((manB_not m).1 (by simpa using h))
theorem kindI_bd (x : Int) : 0 ≤ kindI x ∧ kindI x ≤ 6 := by
  unfold kindI
  by_cases h : manB x = true
  · have := (manB_iff x).1 h
    rw [if_pos h]; split <;> omega
  · rw [if_neg h]; omega
theorem kindI_one (x : Int) : (kindI x == 1) = (x == 1 || x == -1) := by
  rw [Bool.eq_iff_iff]
  simp only [beq_iff_eq, Bool.or_eq_true]
  unfold kindI
  by_cases h : manB x = true
  · rw [if_pos h]; split <;> omega
  · rw [if_neg h]; have := (manB_not x).1 (by simpa using h); omega
/-- Does a pawn stand on the first or the last rank? -/
def edge (B : List Int) (i : Nat) : Bool := (kindI (B.getD i 0) == 1) && (((i : Int) / 8 == 0) || ((i : Int) / 8 == 7))
end Go.Proofs.YtkliefojegjhhaaDoor
