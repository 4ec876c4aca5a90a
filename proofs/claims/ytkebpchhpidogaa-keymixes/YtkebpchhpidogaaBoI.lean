/- menAlone, Right, Put. -/
import Derived.Test.YtkebpchhpidogaaBoH
namespace Go.Proofs.Ytkebpchhpidogaa
open Go.RowKit
set_option linter.unusedVariables false
set_option linter.unusedSimpArgs false
set_option maxRecDepth 100000

/-- A man stays, what is none goes. -/
def al (x : Int) : Int := if manB x then x else 0
/-- b with nothing where a number stands that is no man. -/
def aloneL (B : List Int) : List Int := tab fun i => al (B.getD i 0)
def mid (f : Int → Int) (B : List Int) (k : Nat) : Nat → Int := fun i => if i < k then f (B.getD i 0) else B.getD i 0
theorem mid_zero (f : Int → Int) (B : List Int) (h : B.length = 64) : tab (mid f B 0) = B := by
  exact (tab_ext fun i hi => by simp [mid]).trans (tab_of B h)
theorem mid_same {f : Int → Int} {B : List Int} {k : Nat} (h : f (B.getD k 0) = B.getD k 0) : tab (mid f B (k + 1)) = tab (mid f B k) := by
  refine tab_ext fun i hi => ?_
  unfold mid
  by_cases e : i = k
  · subst e; rw [if_pos (by omega), if_neg (by omega), h]
  · by_cases l : i < k
    · rw [if_pos (by omega), if_pos l]
    · rw [if_neg (by omega), if_neg l]
theorem mid_set {f : Int → Int} {B : List Int} {k : Nat} {y : Int} (h : f (B.getD k 0) = y) : (tab (mid f B k)).set k y = tab (mid f B (k + 1)) := by
  rw [tab_set]
  refine tab_ext fun i hi => ?_
  unfold mid
  by_cases e : i = k
  · subst e; rw [if_pos rfl, if_pos (by omega), h]
  · rw [if_neg e]
    by_cases l : i < k
    · rw [if_pos l, if_pos (by omega)]
    · rw [if_neg l, if_neg (by omega)]
theorem mid_end (f : Int → Int) (B : List Int) (k : Nat) (h : ¬ k < 64) : tab (mid f B k) = tab (fun i => f (B.getD i 0)) :=
  tab_ext fun i hi => by unfold mid; rw [if_pos (by omega)]
/-- Behind a call that gives a board. -/
def RetB (w : World) (A : List Int) (e : Ending) (w' : World) : Prop := e = .returned (.agg (cl A).toArray) ∧ Kept w w'
theorem alone_eq (B : List Int) (hB : Brd B) : beqB B (aloneL B) = rightB B := by
  unfold aloneL
  rw [Bool.eq_iff_iff, beqB_iff hB.1 (tab_length _), rightB_iff B hB.1]
  have hal : ∀ x, al x = x ↔ okB x = true := by
    intro x
    unfold al okB
    by_cases h : manB x = true
    · simp [h]
    · rw [if_neg h, Bool.or_eq_true, beq_iff_eq]
      exact ⟨fun e => .inl e.symm, fun e => e.elim (fun e => e.symm) (fun e => absurd e h)⟩
  constructor
  · intro h i hi
    have : B.getD i 0 = al (B.getD i 0) := by
      have := congrArg (fun l : List Int => l.getD i 0) h
      simpa only [tab_get _ i hi] using this
    exact (hal _).1 this.symm
  · intro h
    rw [← tab_of B hB.1]
    refine (tab_ext fun i hi => ?_)
    rw [tab_of B hB.1]
    exact ((hal _).2 (h i hi)).symm
theorem al_brd (B : List Int) (hB : Brd B) : Brd (aloneL B) :=
  tab_brd fun i hi => by have := hB.2 i hi; unfold al; split <;> omega
/-- In a region that draws its order: the load of a board whose block is there in every world of S. -/
theorem take_load {ops : Array Oper} {S : World → Prop} {op : Oper} {a : Act} (hw : Region.wanted op (yielded ops a.tmps) = true) (x : Operand) (ho : op.op = .load 28 x)
    (g : Nat) (hx : a.eval x = .pointer (some ⟨g, 0, none⟩)) (B : List Int) (hB : B.length = 64) (hS : ∀ w, S w → w.heap[g]? = some (.cells (cl B).toArray 28 (0, 0))) :
    YieldsIf Try.prog ops S op (.agg (cl B).toArray) a :=
  yieldsIf_load_mid hw 28 x ho g 0 hx (cl B) _ (fun w h j v hv => by rw [cell_of_row _ _ _ _ _ (0, 0) (hS w h)]; simpa using hv) Try.underlying28 rfl (by rw [size24, cl_length, hB])
theorem take_eql {ops : Array Oper} {S : World → Prop} {op : Oper} {a : Act} {b : Bool} (hw : Region.wanted op (yielded ops a.tmps) = true) (x y : Operand) (ty : TypeId) (ho : op.op = .binOp .eql 28 x y ty)
    (A B : List Int) (hx : a.eval x = .agg (cl A).toArray) (hy : a.eval y = .agg (cl B).toArray) (h : A.length = 64 ∧ B.length = 64 ∧ beqB A B = b) : YieldsIf Try.prog ops S op (.bool b) a :=
  .inl ⟨hw, fun w _ => by
    unfold execOp
    simp only [ho, hx, hy, Sem.run_bind, run_eqGuard_cl, run_eql_cl A B h.1 h.2.1, Result.andThen_ok, Sem.run_pure, h.2.2]⟩
theorem take_neq {ops : Array Oper} {S : World → Prop} {op : Oper} {a : Act} {b : Bool} (hw : Region.wanted op (yielded ops a.tmps) = true) (x y : Operand) (ty : TypeId) (ho : op.op = .binOp .neq 28 x y ty)
    (A B : List Int) (hx : a.eval x = .agg (cl A).toArray) (hy : a.eval y = .agg (cl B).toArray) (h : A.length = 64 ∧ B.length = 64 ∧ (!beqB A B) = b) : YieldsIf Try.prog ops S op (.bool b) a :=
  .inl ⟨hw, fun w _ => by
    unfold execOp
    simp only [ho, hx, hy, Sem.run_bind, run_eqGuard_cl, run_neq_cl A B h.1 h.2.1, Result.andThen_ok, Sem.run_pure, h.2.2]⟩
end Go.Proofs.Ytkebpchhpidogaa
