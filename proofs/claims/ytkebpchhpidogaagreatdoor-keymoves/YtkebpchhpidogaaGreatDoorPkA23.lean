/- The tables of layer 10, as the program's text lays them. -/
import Derived.Test.YtkebpchhpidogaaGreatDoorPkA18
import Derived.Test.YtkebpchhpidogaaGreatDoorPkA22
namespace Go.Proofs.YtkebpchhpidogaaGreatDoor
open Go.ChangeShapes Go.WideShapes Go.ChangeAt Go.RowKit Go.Deep
set_option linter.unusedVariables false
set_option linter.unusedSimpArgs false

theorem trips_at {H : Type} {enc : TypeId × Value → H} {P : Program} {w : World} {base : Nat} {sp : Nat → Bool} {held : Bool} {fuel : Nat} {t e : TypeId} {n : Nat} {k : IntKind} {f0 f1 f2 : Field} {cs : List Value} {D : List (DataW H)} {p : List MemPlace}
    (ht : P.underlying t = some (.array n e)) (he : P.underlying e = some (.struct #[f0, f1, f2])) (o0 : f0.offset = 0) (o1 : f1.offset = 1) (o2 : f2.offset = 2)
    (h0 : P.underlying f0.type = some (.int k)) (h1 : P.underlying f1.type = some (.int k)) (h2 : P.underlying f2.type = some (.int k)) (c0 : P.cellsOf f0.type = 1) (c1 : P.cellsOf f1.type = 1) (c2 : P.cellsOf f2.type = 1) (ce : P.cellsOf e = 3)
    (h : DataW.trod enc P w base sp held fuel t cs = some (.agg D, p)) (i : Nat) (hi : i < n) (a b c : Int) (hD : D[i]? = some (.agg [.lit (.int k a), .lit (.int k b), .lit (.int k c)])) :
    cs[i * 3]? = some (.int k a) ∧ cs[i * 3 + 1]? = some (.int k b) ∧ cs[i * 3 + 2]? = some (.int k c) := by
  cases fuel with
  | zero => simp [DataW.trod] at h
  | succ fuel =>
    simp only [DataW.trod, ht, ce] at h
    split at h
    · obtain ⟨xs, hm, hx⟩ := Option.map_eq_some_iff.1 h
      have hxs : xs.map (·.1) = D := by
        have := congrArg Prod.fst hx
        simpa using this
      obtain ⟨y, hy, hf⟩ := Lib.mapM_at hm i i (by simp [hi])
      obtain ⟨y0, y1, y2, m, rfl, hl, g0, g1, g2⟩ := trod_struct3 he hf
      obtain ⟨a', e0, rfl, _⟩ := DataW.trod_int h0 g0
      obtain ⟨b', e1, rfl, _⟩ := DataW.trod_int h1 g1
      obtain ⟨c', e2, rfl, _⟩ := DataW.trod_int h2 g2
      have h2 : (xs.map (·.1))[i]? = some (DataW.agg [.lit (.int k a'), .lit (.int k b'), .lit (.int k c')] : DataW H) := by simp [hy]
      rw [hxs, hD] at h2
      simp at h2
      obtain ⟨rfl, rfl, rfl⟩ := h2
      have q0 := congrArg (·[0]?) e0
      have q1 := congrArg (·[0]?) e1
      have q2 := congrArg (·[0]?) e2
      simp [c0, c1, c2, o0, o1, o2, List.getElem?_drop] at q0 q1 q2
      exact ⟨q0, q1, q2⟩
    · cases h
theorem gGp : Tryz.prog.globalNamed "alfil/gen.promos" = some 7 := by kernel_rfl
theorem gGpType : (Tryz.prog.globals[7]?).map (·.type) = some 119 := by kernel_rfl
theorem gSw : Tryz.prog.globalNamed "alfil/gen.sideways" = some 4 := by kernel_rfl
theorem gSwType : (Tryz.prog.globals[4]?).map (·.type) = some 69 := by kernel_rfl
theorem gMa : Tryz.prog.globalNamed "alfil/gen.marches" = some 6 := by kernel_rfl
theorem gMaType : (Tryz.prog.globals[6]?).map (·.type) = some 118 := by kernel_rfl
theorem cellsMarch : Tryz.prog.cellsOf 117 = 3 := by kernel_rfl
def gpD : List (DataW Unit) := (List.range 4).map fun i => .lit (.int .i64 (gpL.getD i 0))
theorem gpD_is : (Rows.laid_alfil_gen_promos : DataW Unit) = .agg gpD := by rfl
def swD : List (DataW Unit) := (List.range 2).map fun i => .lit (.int .i64 (swL.getD i 0))
theorem swD_is : (Rows.laid_alfil_gen_sideways : DataW Unit) = .agg swD := by rfl
def maD : List (DataW Unit) := (List.range 2).map fun i => .agg [.lit (.int .i64 (maL.getD (i * 3) 0)), .lit (.int .i64 (maL.getD (i * 3 + 1) 0)), .lit (.int .i64 (maL.getD (i * 3 + 2) 0))]
theorem maD_is : (Rows.laid_alfil_gen_marches : DataW Unit) = .agg maD := by rfl
theorem ma_of {W : World} (h : laidMetH Tryz.prog [("alfil/gen.marches", Rows.laid_alfil_gen_marches)] W) : ∀ i, i < 6 → W.cell? ⟨6, i, none⟩ = some (.int .i64 (maL.getD i 0)) := by
  obtain ⟨ps, ⟨g', t', cs, fuel, p, q, hg', ht', hvar, hd, _, _⟩, _⟩ := h
  obtain rfl := Option.some.inj (gMa.symm.trans hg')
  obtain rfl := Option.some.inj (gMaType.symm.trans ht')
  intro j hj
  obtain ⟨i, r, hi, hr, rfl⟩ : ∃ i r, i < 2 ∧ r < 3 ∧ j = i * 3 + r := ⟨j / 3, j % 3, by omega, by omega, by omega⟩
  have hD : maD[i]? = some (.agg [.lit (.int .i64 (maL.getD (i * 3) 0)), .lit (.int .i64 (maL.getD (i * 3 + 1) 0)), .lit (.int .i64 (maL.getD (i * 3 + 2) 0))]) := by simp [maD, hi]
  obtain ⟨q1, q2, q3⟩ := trips_at Tryz.underlying118 Tryz.underlying117 rfl rfl rfl Tryz.underlying3 Tryz.underlying3 Tryz.underlying3 cellsInt cellsInt cellsInt cellsMarch hd i hi _ _ _ hD
  rw [World.var?_cell gMa hvar (i * 3 + r)]
  have : r = 0 ∨ r = 1 ∨ r = 2 := by omega
  rcases this with rfl | rfl | rfl
  · simpa using q1
  · simpa using q2
  · simpa using q3
theorem gp_of {W : World} (h : laidMetH Tryz.prog [("alfil/gen.promos", Rows.laid_alfil_gen_promos)] W) : ∀ i, i < 4 → W.cell? ⟨7, i, none⟩ = some (.int .i64 (gpL.getD i 0)) := by
  obtain ⟨ps, ⟨g', t', cs, fuel, p, q, hg', ht', hvar, hd, _, _⟩, _⟩ := h
  obtain rfl := Option.some.inj (gGp.symm.trans hg')
  obtain rfl := Option.some.inj (gGpType.symm.trans ht')
  intro j hj
  have hD : gpD[j]? = some (.lit (.int .i64 (gpL.getD j 0))) := by simp [gpD, hj]
  have q1 := ints_at Tryz.underlying119 Tryz.underlying3 cellsInt hd j hj _ hD
  rw [World.var?_cell gGp hvar j]
  simpa using q1
theorem sw_of {W : World} (h : laidMetH Tryz.prog [("alfil/gen.sideways", Rows.laid_alfil_gen_sideways)] W) : ∀ i, i < 2 → W.cell? ⟨4, i, none⟩ = some (.int .i64 (swL.getD i 0)) := by
  obtain ⟨ps, ⟨g', t', cs, fuel, p, q, hg', ht', hvar, hd, _, _⟩, _⟩ := h
  obtain rfl := Option.some.inj (gSw.symm.trans hg')
  obtain rfl := Option.some.inj (gSwType.symm.trans ht')
  intro j hj
  have hD : swD[j]? = some (.lit (.int .i64 (swL.getD j 0))) := by simp [swD, hj]
  have q1 := ints_at Tryz.underlying69 Tryz.underlying3 cellsInt hd j hj _ hD
  rw [World.var?_cell gSw hvar j]
  simpa using q1
theorem tabG_of {W : World} (h : laidMetH Tryz.prog [("alfil/ways.steps", Rows.laid_alfil_ways_steps), ("alfil/pos.homes", Rows.laid_alfil_pos_homes), ("alfil/pos.views", Rows.laid_alfil_pos_views), ("alfil/move.promos", Rows.laid_alfil_move_promos), ("alfil/move.lastRanks", Rows.laid_alfil_move_lastRanks), ("alfil/move.wings", Rows.laid_alfil_move_wings), ("alfil/gen.promos", Rows.laid_alfil_gen_promos), ("alfil/gen.marches", Rows.laid_alfil_gen_marches), ("alfil/gen.sideways", Rows.laid_alfil_gen_sideways)] W) : TabG W := by
  refine ⟨tabM_of ?_, gp_of ?_, ma_of ?_, sw_of ?_⟩
  · exact h.filter fun x => x.1 == "alfil/ways.steps" || x.1 == "alfil/pos.homes" || x.1 == "alfil/pos.views" || x.1 == "alfil/move.promos" || x.1 == "alfil/move.lastRanks" || x.1 == "alfil/move.wings"
  · exact h.filter fun x => x.1 == "alfil/gen.promos"
  · exact h.filter fun x => x.1 == "alfil/gen.marches"
  · exact h.filter fun x => x.1 == "alfil/gen.sideways"
end Go.Proofs.YtkebpchhpidogaaGreatDoor
