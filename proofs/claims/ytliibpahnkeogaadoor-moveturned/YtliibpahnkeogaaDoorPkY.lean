/- A move that comes in: opened to its numbers, and read again as it was; the tables that the rows list. -/
import Derived.Test.YtliibpahnkeogaaDoorPkF
import Derived.Test.YtliibpahnkeogaaDoorPkI
import Derived.Deep.Strs
namespace Go.Proofs.YtliibpahnkeogaaDoor
open Go.ChangeShapes Go.WideShapes Go.ChangeAt Go.RowKit
open Go.Joins Go.Deep
set_option linter.unusedVariables false
set_option linter.unusedSimpArgs false
set_option maxRecDepth 100000

section
variable {H : Type} {enc : TypeId × Value → H}
def dM (H : Type) (m : Mv) : DataW H := .agg [.lit (.int .i64 m.f), .lit (.int .i64 m.t), .lit (.int .i64 m.p)]
structure MvW (m : Mv) : Prop where
  f : (Lit.int .i64 m.f).wf = true
  t : (Lit.int .i64 m.t).wf = true
  p : (Lit.int .i64 m.p).wf = true
theorem cells28 : Tryd.prog.cellsOf 28 = 3 := by kernel_rfl
theorem open_move {W : World} {base : Nat} {r : Reach} {b0 : Nat} {sp : Nat → Bool} {hd : Bool} {v : Value} {d : DataW H} {q : List MemPlace}
    (hv : Value.okWide Tryd.prog W r b0 28 v) (h : DataW.Trod enc Tryd.prog W base sp hd 28 v d q) :
    ∃ m, MvW m ∧ v = .agg (ml m).toArray ∧ d = dM H m ∧ q = [] := by
  obtain ⟨cs, rfl, hsz, _⟩ : ∃ cs, v = .agg cs ∧ cs.size = Tryd.prog.cellsOf 28 ∧ Row.okWide Tryd.prog W r b0 28 cs := by
    simpa [Value.okWide, Tryd.underlying28] using hv
  obtain ⟨l⟩ := cs
  have hl : l.length = 3 := by simpa [cells28] using hsz
  obtain ⟨fuel, hf⟩ := h
  obtain ⟨y0, y1, y2, n, hx, hlen, h0, h1, h2⟩ := trod_struct3 Tryd.underlying28 hf
  rw [cellsInt] at h0 h1 h2
  have hc : (Value.agg ⟨l⟩).cells.toList = l := rfl
  rw [hc] at h0 h1 h2
  obtain ⟨f, e0, rfl, w0⟩ := DataW.trod_int Tryd.underlying3 h0
  obtain ⟨t, e1, rfl, w1⟩ := DataW.trod_int Tryd.underlying3 h1
  obtain ⟨p, e2, rfl, w2⟩ := DataW.trod_int Tryd.underlying3 h2
  refine ⟨⟨f, t, p⟩, ⟨w0, w1, w2⟩, ?_, ?_, ?_⟩
  · match l, hl with
    | [a, b, c], _ =>
      have q0 : a = .int .i64 f := by simpa using e0
      have q1 : b = .int .i64 t := by simpa using e1
      have q2 : c = .int .i64 p := by simpa using e2
      rw [q0, q1, q2]; rfl
  · simp only [Prod.mk.injEq] at hx
    rw [hx.1]; rfl
  · simp only [Prod.mk.injEq] at hx
    rw [hx.2]; rfl
theorem shut_move {W : World} {base : Nat} {sp : Nat → Bool} {hd : Bool} (m : Mv) (h : MvW m) : DataW.Trod enc Tryd.prog W base sp hd 28 (.agg (ml m).toArray) (dM H m) [] := by
  refine ⟨3, ?_⟩
  have hc : (Value.agg (ml m).toArray).cells.toList = ml m := rfl
  rw [hc]
  have := trod_struct3_mk (enc := enc) (w := W) (base := base) (spare := sp) (held := hd) (n := 2) (cs := ml m) (y0 := (.lit (.int .i64 m.f), [])) (y1 := (.lit (.int .i64 m.t), [])) (y2 := (.lit (.int .i64 m.p), []))
    Tryd.underlying28 (by rw [cells28]; rfl) (by rw [cellsInt]; show DataW.trod enc Tryd.prog W base sp hd 2 3 [.int .i64 m.f] = _; exact trod_int_mk h.f)
    (by rw [cellsInt]; show DataW.trod enc Tryd.prog W base sp hd 2 3 [.int .i64 m.t] = _; exact trod_int_mk h.t) (by rw [cellsInt]; show DataW.trod enc Tryd.prog W base sp hd 2 3 [.int .i64 m.p] = _; exact trod_int_mk h.p)
  exact this
end
/-- An array of numbers that reads as told holds them, cell for cell. -/
theorem ints_at {H : Type} {enc : TypeId × Value → H} {P : Program} {w : World} {base : Nat} {sp : Nat → Bool} {held : Bool} {fuel : Nat} {t e : TypeId} {n : Nat} {k : IntKind} {cs : List Value} {D : List (DataW H)} {p : List MemPlace}
    (ht : P.underlying t = some (.array n e)) (he : P.underlying e = some (.int k)) (ce : P.cellsOf e = 1)
    (h : DataW.trod enc P w base sp held fuel t cs = some (.agg D, p)) (i : Nat) (hi : i < n) (a : Int) (hD : D[i]? = some (.lit (.int k a))) : cs[i]? = some (.int k a) := by
  cases fuel with
  | zero => simp [DataW.trod] at h
  | succ fuel =>
    simp only [DataW.trod, ht, ce] at h
    split at h
    · obtain ⟨xs, hm, hx⟩ := Option.map_eq_some_iff.1 h
      have hxs : xs.map (·.1) = D := by
        have := congrArg Prod.fst hx
        simpa using this
      obtain ⟨y, hy, hf⟩ := Lib.mapM_at hm i i (by simp [hi])
      obtain ⟨a', e0, rfl, _⟩ := DataW.trod_int he hf
      have h2 : (xs.map (·.1))[i]? = some (DataW.lit (.int k a') : DataW H) := by simp [hy]
      rw [hxs, hD] at h2
      simp at h2
      obtain rfl := h2
      have q0 := congrArg (·[0]?) e0
      simp [List.getElem?_drop] at q0
      exact q0
    · cases h
theorem gProms : Tryd.prog.globalNamed "alfil/move.promos" = some 2 := by kernel_rfl
theorem gPromsType : (Tryd.prog.globals[2]?).map (·.type) = some 82 := by kernel_rfl
theorem gLasts : Tryd.prog.globalNamed "alfil/move.lastRanks" = some 0 := by kernel_rfl
theorem gLastsType : (Tryd.prog.globals[0]?).map (·.type) = some 72 := by kernel_rfl
theorem gWings : Tryd.prog.globalNamed "alfil/move.wings" = some 1 := by kernel_rfl
theorem gWingsType : (Tryd.prog.globals[1]?).map (·.type) = some 74 := by kernel_rfl
theorem cellsWing : Tryd.prog.cellsOf 53 = 4 := by kernel_rfl
def wingsD : List (DataW Unit) := (List.range 4).map fun i => .agg [.lit (.int .i64 (wiL.getD (i * 4) 0)), .lit (.int .i64 (wiL.getD (i * 4 + 1) 0)), .lit (.int .i64 (wiL.getD (i * 4 + 2) 0)), .lit (.int .i64 (wiL.getD (i * 4 + 3) 0))]
theorem wingsD_is : (Rows.laid_alfil_move_wings : DataW Unit) = .agg wingsD := by rfl
def promsD : List (DataW Unit) := (List.range 5).map fun i => .lit (.int .i64 (prL.getD i 0))
theorem promsD_is : (Rows.laid_alfil_move_promos : DataW Unit) = .agg promsD := by rfl
def lastsD : List (DataW Unit) := (List.range 2).map fun i => .lit (.int .i64 (laL.getD i 0))
theorem lastsD_is : (Rows.laid_alfil_move_lastRanks : DataW Unit) = .agg lastsD := by rfl
theorem wings_of {W : World} (h : laidMetH Tryd.prog [("alfil/move.wings", Rows.laid_alfil_move_wings)] W) : Wings W := by
  obtain ⟨ps, ⟨g', t', cs, fuel, p, q, hg', ht', hvar, hd, _, _⟩, _⟩ := h
  obtain rfl := Option.some.inj (gWings.symm.trans hg')
  obtain rfl := Option.some.inj (gWingsType.symm.trans ht')
  intro j hj
  obtain ⟨i, r, hi, hr, rfl⟩ : ∃ i r, i < 4 ∧ r < 4 ∧ j = i * 4 + r := ⟨j / 4, j % 4, by omega, by omega, by omega⟩
  have hD : wingsD[i]? = some (.agg [.lit (.int .i64 (wiL.getD (i * 4) 0)), .lit (.int .i64 (wiL.getD (i * 4 + 1) 0)), .lit (.int .i64 (wiL.getD (i * 4 + 2) 0)), .lit (.int .i64 (wiL.getD (i * 4 + 3) 0))]) := by simp [wingsD, hi]
  obtain ⟨q1, q2, q3, q4⟩ := quads_at Tryd.underlying74 Tryd.underlying53 rfl rfl rfl rfl Tryd.underlying3 Tryd.underlying3 Tryd.underlying3 Tryd.underlying3 cellsInt cellsInt cellsInt cellsInt cellsWing hd i hi _ _ _ _ hD
  rw [World.var?_cell gWings hvar (i * 4 + r)]
  have : r = 0 ∨ r = 1 ∨ r = 2 ∨ r = 3 := by omega
  rcases this with rfl | rfl | rfl | rfl
  · simpa using q1
  · simpa using q2
  · simpa using q3
  · simpa using q4
theorem proms_of {W : World} (h : laidMetH Tryd.prog [("alfil/move.promos", Rows.laid_alfil_move_promos)] W) : Proms W := by
  obtain ⟨ps, ⟨g', t', cs, fuel, p, q, hg', ht', hvar, hd, _, _⟩, _⟩ := h
  obtain rfl := Option.some.inj (gProms.symm.trans hg')
  obtain rfl := Option.some.inj (gPromsType.symm.trans ht')
  intro j hj
  have hD : promsD[j]? = some (.lit (.int .i64 (prL.getD j 0))) := by simp [promsD, hj]
  have q1 := ints_at Tryd.underlying82 Tryd.underlying3 cellsInt hd j hj _ hD
  rw [World.var?_cell gProms hvar j]
  simpa using q1
theorem lasts_of {W : World} (h : laidMetH Tryd.prog [("alfil/move.lastRanks", Rows.laid_alfil_move_lastRanks)] W) : Lasts W := by
  obtain ⟨ps, ⟨g', t', cs, fuel, p, q, hg', ht', hvar, hd, _, _⟩, _⟩ := h
  obtain rfl := Option.some.inj (gLasts.symm.trans hg')
  obtain rfl := Option.some.inj (gLastsType.symm.trans ht')
  intro j hj
  have hD : lastsD[j]? = some (.lit (.int .i64 (laL.getD j 0))) := by simp [lastsD, hj]
  have q1 := ints_at Tryd.underlying72 Tryd.underlying3 cellsInt hd j hj _ hD
  rw [World.var?_cell gLasts hvar j]
  simpa using q1
theorem tabM_of {W : World} (h : laidMetH Tryd.prog [("alfil/ways.steps", Rows.laid_alfil_ways_steps), ("alfil/pos.homes", Rows.laid_alfil_pos_homes), ("alfil/pos.views", Rows.laid_alfil_pos_views), ("alfil/move.promos", Rows.laid_alfil_move_promos), ("alfil/move.lastRanks", Rows.laid_alfil_move_lastRanks), ("alfil/move.wings", Rows.laid_alfil_move_wings)] W) : TabM W := by
  refine ⟨tabs_of ?_, proms_of ?_, lasts_of ?_, wings_of ?_⟩
  · exact h.filter fun x => x.1 == "alfil/ways.steps" || x.1 == "alfil/pos.homes" || x.1 == "alfil/pos.views"
  · exact h.filter fun x => x.1 == "alfil/move.promos"
  · exact h.filter fun x => x.1 == "alfil/move.lastRanks"
  · exact h.filter fun x => x.1 == "alfil/move.wings"
end Go.Proofs.YtliibpahnkeogaaDoor
