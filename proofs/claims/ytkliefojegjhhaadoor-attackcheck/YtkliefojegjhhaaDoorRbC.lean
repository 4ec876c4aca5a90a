/- What the row lists of the table of steps, as the walks take it. -/
import Derived.Test.YtkliefojegjhhaaDoorRaS
import Derived.Lib.LaidTab
import Derived.Deep.DeepHandedRow
namespace Go.Proofs.YtkliefojegjhhaaDoor
open Go.RowKit Go.ChangeShapes
set_option linter.unusedVariables false

/-- An array of pairs of numbers that reads as told holds them, cell for cell. -/
theorem pairs_at {H : Type} {enc : TypeId × Value → H} {P : Program} {w : World} {base : Nat} {sp : Nat → Bool} {held : Bool} {fuel : Nat} {t e : TypeId} {n : Nat} {k : IntKind} {f0 f1 : Field} {cs : List Value} {D : List (DataW H)} {p : List MemPlace}
    (ht : P.underlying t = some (.array n e)) (he : P.underlying e = some (.struct #[f0, f1])) (o0 : f0.offset = 0) (o1 : f1.offset = 1) (h0 : P.underlying f0.type = some (.int k)) (h1 : P.underlying f1.type = some (.int k)) (c0 : P.cellsOf f0.type = 1) (c1 : P.cellsOf f1.type = 1) (ce : P.cellsOf e = 2)
    (h : DataW.trod enc P w base sp held fuel t cs = some (.agg D, p)) (i : Nat) (hi : i < n) (a b : Int) (hD : D[i]? = some (.agg [.lit (.int k a), .lit (.int k b)])) : cs[i * 2]? = some (.int k a) ∧ cs[i * 2 + 1]? = some (.int k b) := by
  cases fuel with
  | zero => simp [DataW.trod] at h
  | succ fuel =>
    simp only [DataW.trod, ht, ce] at h
    split at h
    · obtain ⟨xs, hm, hx⟩ := Option.map_eq_some_iff.1 h
      have hxs : xs.map (·.1) = D := by
        have := congrArg Prod.fst hx
        simpa using this
      obtain ⟨y, hy, hf⟩ := Lib.mapM_at hm i i (by simp [hi])
      obtain ⟨y0, y1, m, rfl, hl, g0, g1⟩ := trod_struct2 he hf
      obtain ⟨a', e0, rfl, _⟩ := DataW.trod_int h0 g0
      obtain ⟨b', e1, rfl, _⟩ := DataW.trod_int h1 g1
      have h2 : (xs.map (·.1))[i]? = some (DataW.agg [.lit (.int k a'), .lit (.int k b')] : DataW H) := by simp [hy]
      rw [hxs, hD] at h2
      simp at h2
      obtain ⟨rfl, rfl⟩ := h2
      have q0 := congrArg (·[0]?) e0
      have q1 := congrArg (·[0]?) e1
      simp [c0, c1, o0, o1, List.getElem?_drop] at q0 q1
      exact ⟨q0, q1⟩
    · cases h
theorem gSteps : Tryd.prog.globalNamed "alfil/ways.steps" = some 0 := by kernel_rfl
theorem gStepsType : (Tryd.prog.globals[0]?).map (·.type) = some 75 := by kernel_rfl
theorem cellsStep : Tryd.prog.cellsOf 74 = 2 := by kernel_rfl
theorem cellsInt : Tryd.prog.cellsOf 3 = 1 := by kernel_rfl
def stepsD : List (DataW Unit) := (List.range 16).map fun i => .agg [.lit (.int .i64 (wayF i)), .lit (.int .i64 (wayR i))]
theorem stepsD_is : (Rows.laid_alfil_ways_steps : DataW Unit) = .agg stepsD := by rfl
theorem steps_of {W : World} (h : laidMetH Tryd.prog [("alfil/ways.steps", Rows.laid_alfil_ways_steps)] W) : Steps W := by
  obtain ⟨ps, ⟨g', t', cs, fuel, p, q, hg', ht', hvar, hd, _, _⟩, _⟩ := h
  obtain rfl := Option.some.inj (gSteps.symm.trans hg')
  obtain rfl := Option.some.inj (gStepsType.symm.trans ht')
  intro i hi
  have hD : stepsD[i]? = some (.agg [.lit (.int .i64 (wayF i)), .lit (.int .i64 (wayR i))]) := by simp [stepsD, hi]
  obtain ⟨q1, q2⟩ := pairs_at Tryd.underlying75 Tryd.underlying74 rfl rfl Tryd.underlying3 Tryd.underlying3 cellsInt cellsInt cellsStep hd i hi _ _ hD
  have v1 := World.var?_cell gSteps hvar (i * 2)
  have v2 := World.var?_cell gSteps hvar (i * 2 + 1)
  rw [v1, v2]
  exact ⟨by simpa using q1, by simpa using q2⟩
end Go.Proofs.YtkliefojegjhhaaDoor
