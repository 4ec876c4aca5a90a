/- A position that comes in: opened to its numbers, and read again as it was · What the row lists of the table of steps, as the walks take it · The tables that the row of a law on positions lists · A move that comes in: opened to its numbers, and read again as it was; the tables that the rows list. -/
import Derived.Test.YtkebpchhpidogaaGreatDoorPkA05
import Derived.Test.YtkebpchhpidogaaGreatDoorPkA08
import Derived.Test.YtkebpchhpidogaaGreatDoorPkA13
import Derived.Test.YtkebpchhpidogaaGreatDoorPkA21
import Derived.Lib.SmallJoins
import Derived.Lib.LaidTab
import Derived.Deep.DeepHandedRow
import Derived.LaidSub
import Derived.Deep.Strs
namespace Go.Proofs.YtkebpchhpidogaaGreatDoor
open Go.ChangeShapes Go.WideShapes Go.ChangeAt Go.RowKit
open Go.Joins
set_option linter.unusedVariables false
set_option maxRecDepth 100000
set_option linter.unusedSimpArgs false

section
variable {H : Type} {enc : TypeId × Value → H}
theorem trod_board {W : World} {base : Nat} {sp : Nat → Bool} {hd : Bool} {fuel : Nat} {l : List Value} {x : DataW H × List MemPlace}
    (hf : DataW.trod enc Tryz.prog W base sp hd fuel 24 l = some x) : ∃ B, Brd B ∧ l = cl B ∧ x = (dB H B, []) := by
  obtain ⟨d, p⟩ := x
  obtain ⟨xs, m, rfl, hx, hl, hn, hi⟩ := DataW.trod_array Tryz.underlying24 hf
  have hl64 : l.length = 64 := by simpa [Value.cells, cells24] using hl
  have hall : ∀ i (hi64 : i < 64), ∃ n, l[i]'(by omega) = .int .i8 n ∧ xs[i]? = some (.lit (.int .i8 n), []) ∧ (Lit.int .i8 n).wf = true := by
    intro i hi64
    have h1 := hi i hi64
    have hlt : i < xs.length := by omega
    rw [cells22, List.getElem?_eq_getElem hlt] at h1
    have h2 : (l.drop (i * 1)).take 1 = [l[i]'(by omega)] := chunk (cs := l) (by omega)
    rw [h2] at h1
    obtain ⟨n, e1, e2, e3⟩ := DataW.trod_int Tryz.underlying22 h1
    exact ⟨n, by simpa using e1, by rw [List.getElem?_eq_getElem hlt, e2], e3⟩
  have hlen : (l.map intOf).length = 64 := by simp [hl64]
  have hget : ∀ i (hi64 : i < 64), (Lit.int .i8 ((l.map intOf).getD i 0)).wf = true ∧ l[i]'(by omega) = .int .i8 ((l.map intOf).getD i 0) ∧ xs[i]? = some (.lit (.int .i8 ((l.map intOf).getD i 0)), []) := by
    intro i hi64
    obtain ⟨n, e1, e2, e3⟩ := hall i hi64
    have : (l.map intOf).getD i 0 = n := by
      have : i < l.length := by omega
      simp [List.getD, List.getElem?_eq_getElem this, e1, intOf]
    rw [this]
    exact ⟨e3, e1, e2⟩
  simp only [Prod.mk.injEq] at hx
  refine ⟨l.map intOf, ⟨hlen, fun i hi64 => (wf_i8 _).1 (hget i hi64).1⟩, ?_, ?_⟩
  · refine List.ext_getElem (by rw [cl_length, hlen, hl64]) fun i h1 h2 => ?_
    have h3 := cl_get (l.map intOf) i (by omega)
    rw [List.getElem?_eq_getElem h2] at h3
    rw [(hget i (by omega)).2.1]
    exact (Option.some.inj h3).symm
  · have e : xs.map (·.1) = (l.map intOf).map fun x => DataW.lit (.int .i8 x) := by
      refine List.ext_getElem (by simp [hn, hl64]) fun i h1 h2 => ?_
      have h3 := (hget i (by simpa [hn] using h1)).2.2
      have hlt : i < xs.length := by simpa using h1
      rw [List.getElem?_eq_getElem hlt] at h3
      have h4 := Option.some.inj h3
      have h5 : i < (l.map intOf).length := by omega
      simp only [List.getElem_map, h4]
      simp [List.getD, List.getElem?_eq_getElem (show i < l.length by omega)]
    have e2 : xs.flatMap (·.2) = [] := by
      rw [List.flatMap_eq_nil_iff]
      intro x hxs
      obtain ⟨i, hlt, rfl⟩ := List.getElem_of_mem hxs
      have h3 := (hget i (by omega)).2.2
      rw [List.getElem?_eq_getElem hlt] at h3
      rw [Option.some.inj h3]
    rw [hx.1, hx.2, e, e2]; rfl
set_option maxRecDepth 100000 in
theorem trod_board_mk {W : World} {base : Nat} {sp : Nat → Bool} {hd : Bool} (B : List Int) (hB : Brd B) : DataW.trod enc Tryz.prog W base sp hd 2 24 (cl B) = some (dB H B, []) := by
  obtain ⟨n, hn⟩ := shut_board (enc := enc) (W := W) (base := base) (sp := sp) (hd := hd) B hB
  have hc : (Value.agg (cl B).toArray).cells.toList = cl B := rfl
  rw [hc] at hn
  have step : ∀ i ∈ List.range 64, DataW.trod enc Tryz.prog W base sp hd 1 22 (((cl B).drop (i * Tryz.prog.cellsOf 22)).take (Tryz.prog.cellsOf 22)) = some ((DataW.lit (.int .i8 (B.getD i 0)), []) : DataW H × List MemPlace) := by
    intro i hi
    have hi64 : i < 64 := by simpa using hi
    have hlt : i < (cl B).length := by rw [cl_length, hB.1]; exact hi64
    rw [cells22, chunk hlt]
    have h3 := cl_get B i (by rw [hB.1]; exact hi64)
    rw [List.getElem?_eq_getElem hlt] at h3
    rw [Option.some.inj h3]
    have hw := (wf_i8 _).2 (hB.2 i hi64)
    unfold DataW.trod
    rw [Tryz.underlying22]
    simp only [hw, and_self, if_true]
  have hm := mapM_some_of_forall (f := fun i => DataW.trod enc Tryz.prog W base sp hd 1 22 (((cl B).drop (i * Tryz.prog.cellsOf 22)).take (Tryz.prog.cellsOf 22))) (List.range 64) step
  unfold DataW.trod
  rw [Tryz.underlying24]
  simp only [cl_length, hB.1, cells24, if_true, hm, Option.map_some, Option.some.injEq, Prod.mk.injEq]
  refine ⟨?_, ?_⟩
  · unfold dB
    congr 1
    refine List.ext_getElem (by simp [hB.1]) fun i h1 h2 => ?_
    have h3 : i < B.length := by simpa using h2
    simp [List.getD, List.getElem?_eq_getElem h3]
  · rw [List.flatMap_eq_nil_iff]
    intro x hx
    simp only [List.mem_map] at hx
    obtain ⟨i, _, rfl⟩ := hx
    rfl
/-- The numbers of a position as data. -/
def dP (H : Type) (p : Ps) : DataW H := .agg [dB H p.B, .lit (.int .i64 p.t), .lit (.int .i64 p.c), .lit (.int .i64 p.e)]
/-- Numbers such as a position's may be, by their bits. -/
structure PsW (p : Ps) : Prop where
  brd : Brd p.B
  t : (Lit.int .i64 p.t).wf = true
  c : (Lit.int .i64 p.c).wf = true
  e : (Lit.int .i64 p.e).wf = true
theorem cells26 : Tryz.prog.cellsOf 26 = 67 := by kernel_rfl
theorem open_pos {W : World} {base : Nat} {r : Reach} {b0 : Nat} {sp : Nat → Bool} {hd : Bool} {v : Value} {d : DataW H} {q : List MemPlace}
    (hv : Value.okWide Tryz.prog W r b0 26 v) (h : DataW.Trod enc Tryz.prog W base sp hd 26 v d q) :
    ∃ p, PsW p ∧ v = .agg (pl p).toArray ∧ d = dP H p ∧ q = [] := by
  obtain ⟨cs, rfl, hsz, _⟩ : ∃ cs, v = .agg cs ∧ cs.size = Tryz.prog.cellsOf 26 ∧ Row.okWide Tryz.prog W r b0 26 cs := by
    simpa [Value.okWide, Tryz.underlying26] using hv
  obtain ⟨l⟩ := cs
  have hl : l.length = 67 := by simpa [cells26] using hsz
  obtain ⟨fuel, hf⟩ := h
  obtain ⟨y0, y1, y2, y3, n, hx, hlen, h0, h1, h2, h3⟩ := trod_struct4 Tryz.underlying26 hf
  rw [cells24] at h0
  rw [cellsInt] at h1 h2 h3
  have hc : (Value.agg ⟨l⟩).cells.toList = l := rfl
  rw [hc] at h0 h1 h2 h3
  obtain ⟨B, hB, e0, rfl⟩ := trod_board h0
  obtain ⟨t, e1, rfl, wt⟩ := DataW.trod_int Tryz.underlying3 h1
  obtain ⟨c, e2, rfl, wc⟩ := DataW.trod_int Tryz.underlying3 h2
  obtain ⟨e, e3, rfl, we⟩ := DataW.trod_int Tryz.underlying3 h3
  refine ⟨⟨B, t, c, e⟩, ⟨hB, wt, wc, we⟩, ?_, ?_, ?_⟩
  · have : l = cl B ++ [.int .i64 t, .int .i64 c, .int .i64 e] := by
      have q1 := congrArg (·[0]?) e1
      have q2 := congrArg (·[0]?) e2
      have q3 := congrArg (·[0]?) e3
      simp [List.getElem?_take, List.getElem?_drop] at q1 q2 q3
      refine List.ext_getElem? fun i => ?_
      have hcl : (cl B).length = 64 := by rw [cl_length, hB.1]
      by_cases hi : i < 64
      · rw [List.getElem?_append_left (by omega), ← e0]
        simp [List.getElem?_take, hi]
      · rw [List.getElem?_append_right (by omega), hcl]
        by_cases h64 : i = 64
        · subst h64; simpa using q1
        · by_cases h65 : i = 65
          · subst h65; simpa using q2
          · by_cases h66 : i = 66
            · subst h66; simpa using q3
            · rw [List.getElem?_eq_none (by omega), List.getElem?_eq_none (by simp; omega)]
    rw [this]; rfl
  · simp only [Prod.mk.injEq] at hx
    rw [hx.1]; rfl
  · simp only [Prod.mk.injEq] at hx
    rw [hx.2]; rfl
theorem trod_int_mk {W : World} {base : Nat} {sp : Nat → Bool} {hd : Bool} {x : Int} (hw : (Lit.int .i64 x).wf = true) : DataW.trod enc Tryz.prog W base sp hd 2 3 [.int .i64 x] = some ((DataW.lit (.int .i64 x), []) : DataW H × List MemPlace) := by
  unfold DataW.trod
  rw [Tryz.underlying3]
  simp only [hw, and_self, if_true]
theorem shut_pos {W : World} {base : Nat} {sp : Nat → Bool} {hd : Bool} (p : Ps) (h : PsW p) : DataW.Trod enc Tryz.prog W base sp hd 26 (.agg (pl p).toArray) (dP H p) [] := by
  refine ⟨3, ?_⟩
  have hc : (Value.agg (pl p).toArray).cells.toList = pl p := rfl
  rw [hc]
  have hcl : (cl p.B).length = 64 := by rw [cl_length, h.brd.1]
  have g1 : ((pl p).drop 64).take 1 = [.int .i64 p.t] := by unfold pl tlP; rw [List.drop_append, hcl, List.drop_eq_nil_of_le (by omega)]; rfl
  have g2 : ((pl p).drop 65).take 1 = [.int .i64 p.c] := by unfold pl tlP; rw [List.drop_append, hcl, List.drop_eq_nil_of_le (by omega)]; rfl
  have g3 : ((pl p).drop 66).take 1 = [.int .i64 p.e] := by unfold pl tlP; rw [List.drop_append, hcl, List.drop_eq_nil_of_le (by omega)]; rfl
  have g0 : ((pl p).drop 0).take 64 = cl p.B := by unfold pl; rw [List.drop_zero, List.take_append, hcl, List.take_of_length_le (by omega)]; simp
  have := trod_struct4_mk (enc := enc) (w := W) (base := base) (spare := sp) (held := hd) (n := 2) (cs := pl p) (y0 := (dB H p.B, [])) (y1 := (.lit (.int .i64 p.t), [])) (y2 := (.lit (.int .i64 p.c), [])) (y3 := (.lit (.int .i64 p.e), []))
    Tryz.underlying26 (by rw [pl_length h.brd.1, cells26]) (by rw [cells24]; show DataW.trod enc Tryz.prog W base sp hd 2 24 (((pl p).drop 0).take 64) = _; rw [g0]; exact trod_board_mk p.B h.brd)
    (by rw [cellsInt]; show DataW.trod enc Tryz.prog W base sp hd 2 3 (((pl p).drop 64).take 1) = _; rw [g1]; exact trod_int_mk h.t) (by rw [cellsInt]; show DataW.trod enc Tryz.prog W base sp hd 2 3 (((pl p).drop 65).take 1) = _; rw [g2]; exact trod_int_mk h.c) (by rw [cellsInt]; show DataW.trod enc Tryz.prog W base sp hd 2 3 (((pl p).drop 66).take 1) = _; rw [g3]; exact trod_int_mk h.e)
  exact this
end
end Go.Proofs.YtkebpchhpidogaaGreatDoor
namespace Go.Proofs.YtkebpchhpidogaaGreatDoor
open Go.RowKit Go.ChangeShapes
set_option linter.unusedVariables false

/-- An array of pairs of numbers that reads as told holds them, cell for cell. -/
theorem pairs_at {H : Type} {enc : TypeId × Value → H} {P : Program} {w : World} {base : Nat} {sp : Nat → Bool} {held : Bool} {fuel : Nat} {t e : TypeId} {n : Nat} {k : IntKind} {f0 f1 : Field} {cs : List Value} {D : List (DataW H)} {p : List MemPlace}
    (ht : P.underlying t = some (.array n e)) (he : P.underlying e = some (.struct #[f0, f1])) (o0 : f0.offset = 0) (o1 : f1.offset = 1) (h0 : P.underlying f0.type = some (.int k)) (h1 : P.underlying f1.type = some (.int k)) (c0 : P.cellsOf f0.type = 1) (c1 : P.cellsOf f1.type = 1) (ce : P.cellsOf e = 2)
    (h : DataW.trod enc P w base sp held fuel t cs = some (.agg D, p)) (i : Nat) (hi : i < n) (a b : Int) (hD : D[i]? = some (.agg [.lit (.int k a), .lit (.int k b)])) : cs[i * 2]? = some (.int k a) ∧ cs[i * 2 + 1]? = some (.int k b) := by
  cases fuel with
  | zero => simp [DataW.trod] at h
  | succ fuel =>
    simp only [DataW.trod, ht, ce] at h
    split at h
    · obtain ⟨xs, hm, hx⟩ := Option.map_eq_some_iff.1 h
      have hxs : xs.map (·.1) = D := by
        have := congrArg Prod.fst hx
        simpa using this
      obtain ⟨y, hy, hf⟩ := Lib.mapM_at hm i i (by simp [hi])
      obtain ⟨y0, y1, m, rfl, hl, g0, g1⟩ := trod_struct2 he hf
      obtain ⟨a', e0, rfl, _⟩ := DataW.trod_int h0 g0
      obtain ⟨b', e1, rfl, _⟩ := DataW.trod_int h1 g1
      have h2 : (xs.map (·.1))[i]? = some (DataW.agg [.lit (.int k a'), .lit (.int k b')] : DataW H) := by simp [hy]
      rw [hxs, hD] at h2
      simp at h2
      obtain ⟨rfl, rfl⟩ := h2
      have q0 := congrArg (·[0]?) e0
      have q1 := congrArg (·[0]?) e1
      simp [c0, c1, o0, o1, List.getElem?_drop] at q0 q1
      exact ⟨q0, q1⟩
    · cases h
theorem gSteps : Tryz.prog.globalNamed "alfil/ways.steps" = some 8 := by kernel_rfl
theorem gStepsType : (Tryz.prog.globals[8]?).map (·.type) = some 137 := by kernel_rfl
theorem cellsStep : Tryz.prog.cellsOf 136 = 2 := by kernel_rfl
def stepsD : List (DataW Unit) := (List.range 16).map fun i => .agg [.lit (.int .i64 (wayF i)), .lit (.int .i64 (wayR i))]
theorem stepsD_is : (Rows.laid_alfil_ways_steps : DataW Unit) = .agg stepsD := by rfl
theorem steps_of {W : World} (h : laidMetH Tryz.prog [("alfil/ways.steps", Rows.laid_alfil_ways_steps)] W) : Steps W := by
  obtain ⟨ps, ⟨g', t', cs, fuel, p, q, hg', ht', hvar, hd, _, _⟩, _⟩ := h
  obtain rfl := Option.some.inj (gSteps.symm.trans hg')
  obtain rfl := Option.some.inj (gStepsType.symm.trans ht')
  intro i hi
  have hD : stepsD[i]? = some (.agg [.lit (.int .i64 (wayF i)), .lit (.int .i64 (wayR i))]) := by simp [stepsD, hi]
  obtain ⟨q1, q2⟩ := pairs_at Tryz.underlying137 Tryz.underlying136 rfl rfl Tryz.underlying3 Tryz.underlying3 cellsInt cellsInt cellsStep hd i hi _ _ hD
  have v1 := World.var?_cell gSteps hvar (i * 2)
  have v2 := World.var?_cell gSteps hvar (i * 2 + 1)
  rw [v1, v2]
  exact ⟨by simpa using q1, by simpa using q2⟩
end Go.Proofs.YtkebpchhpidogaaGreatDoor
namespace Go.Proofs.YtkebpchhpidogaaGreatDoor
open Go.ChangeShapes Go.WideShapes Go.ChangeAt Go.RowKit
open Go.Joins
set_option linter.unusedVariables false
set_option maxRecDepth 100000
set_option linter.unusedSimpArgs false

/-- An array of structs of four numbers that reads as told holds them, cell for cell. -/
theorem quads_at {H : Type} {enc : TypeId × Value → H} {P : Program} {w : World} {base : Nat} {sp : Nat → Bool} {held : Bool} {fuel : Nat} {t e : TypeId} {n : Nat} {k : IntKind} {f0 f1 f2 f3 : Field} {cs : List Value} {D : List (DataW H)} {p : List MemPlace}
    (ht : P.underlying t = some (.array n e)) (he : P.underlying e = some (.struct #[f0, f1, f2, f3])) (o0 : f0.offset = 0) (o1 : f1.offset = 1) (o2 : f2.offset = 2) (o3 : f3.offset = 3)
    (h0 : P.underlying f0.type = some (.int k)) (h1 : P.underlying f1.type = some (.int k)) (h2 : P.underlying f2.type = some (.int k)) (h3 : P.underlying f3.type = some (.int k)) (c0 : P.cellsOf f0.type = 1) (c1 : P.cellsOf f1.type = 1) (c2 : P.cellsOf f2.type = 1) (c3 : P.cellsOf f3.type = 1) (ce : P.cellsOf e = 4)
    (h : DataW.trod enc P w base sp held fuel t cs = some (.agg D, p)) (i : Nat) (hi : i < n) (a b c d : Int) (hD : D[i]? = some (.agg [.lit (.int k a), .lit (.int k b), .lit (.int k c), .lit (.int k d)])) :
    cs[i * 4]? = some (.int k a) ∧ cs[i * 4 + 1]? = some (.int k b) ∧ cs[i * 4 + 2]? = some (.int k c) ∧ cs[i * 4 + 3]? = some (.int k d) := by
  cases fuel with
  | zero => simp [DataW.trod] at h
  | succ fuel =>
    simp only [DataW.trod, ht, ce] at h
    split at h
    · obtain ⟨xs, hm, hx⟩ := Option.map_eq_some_iff.1 h
      have hxs : xs.map (·.1) = D := by
        have := congrArg Prod.fst hx
        simpa using this
      obtain ⟨y, hy, hf⟩ := Lib.mapM_at hm i i (by simp [hi])
      obtain ⟨y0, y1, y2, y3, m, rfl, hl, g0, g1, g2, g3⟩ := trod_struct4 he hf
      obtain ⟨a', e0, rfl, _⟩ := DataW.trod_int h0 g0
      obtain ⟨b', e1, rfl, _⟩ := DataW.trod_int h1 g1
      obtain ⟨c', e2, rfl, _⟩ := DataW.trod_int h2 g2
      obtain ⟨d', e3, rfl, _⟩ := DataW.trod_int h3 g3
      have h2 : (xs.map (·.1))[i]? = some (DataW.agg [.lit (.int k a'), .lit (.int k b'), .lit (.int k c'), .lit (.int k d')] : DataW H) := by simp [hy]
      rw [hxs, hD] at h2
      simp at h2
      obtain ⟨rfl, rfl, rfl, rfl⟩ := h2
      have q0 := congrArg (·[0]?) e0
      have q1 := congrArg (·[0]?) e1
      have q2 := congrArg (·[0]?) e2
      have q3 := congrArg (·[0]?) e3
      simp [c0, c1, c2, c3, o0, o1, o2, o3, List.getElem?_drop] at q0 q1 q2 q3
      exact ⟨q0, q1, q2, q3⟩
    · cases h
theorem gHomes : Tryz.prog.globalNamed "alfil/pos.homes" = some 2 := by kernel_rfl
theorem gHomesType : (Tryz.prog.globals[2]?).map (·.type) = some 88 := by kernel_rfl
theorem cellsHome : Tryz.prog.cellsOf 87 = 4 := by kernel_rfl
theorem gViews : Tryz.prog.globalNamed "alfil/pos.views" = some 5 := by kernel_rfl
theorem gViewsType : (Tryz.prog.globals[5]?).map (·.type) = some 115 := by kernel_rfl
theorem cellsView : Tryz.prog.cellsOf 114 = 2 := by kernel_rfl
def homesD : List (DataW Unit) := (List.range 4).map fun i => .agg [.lit (.int .i64 (hmL.getD (i * 4) 0)), .lit (.int .i64 (hmL.getD (i * 4 + 1) 0)), .lit (.int .i64 (hmL.getD (i * 4 + 2) 0)), .lit (.int .i64 (hmL.getD (i * 4 + 3) 0))]
theorem homesD_is : (Rows.laid_alfil_pos_homes : DataW Unit) = .agg homesD := by rfl
def viewsD : List (DataW Unit) := (List.range 2).map fun i => .agg [.lit (.int .i64 (vwL.getD (i * 2) 0)), .lit (.int .i64 (vwL.getD (i * 2 + 1) 0))]
theorem viewsD_is : (Rows.laid_alfil_pos_views : DataW Unit) = .agg viewsD := by rfl
theorem homes_of {W : World} (h : laidMetH Tryz.prog [("alfil/pos.homes", Rows.laid_alfil_pos_homes)] W) : Homes W := by
  obtain ⟨ps, ⟨g', t', cs, fuel, p, q, hg', ht', hvar, hd, _, _⟩, _⟩ := h
  obtain rfl := Option.some.inj (gHomes.symm.trans hg')
  obtain rfl := Option.some.inj (gHomesType.symm.trans ht')
  intro j hj
  obtain ⟨i, r, hi, hr, rfl⟩ : ∃ i r, i < 4 ∧ r < 4 ∧ j = i * 4 + r := ⟨j / 4, j % 4, by omega, by omega, by omega⟩
  have hD : homesD[i]? = some (.agg [.lit (.int .i64 (hmL.getD (i * 4) 0)), .lit (.int .i64 (hmL.getD (i * 4 + 1) 0)), .lit (.int .i64 (hmL.getD (i * 4 + 2) 0)), .lit (.int .i64 (hmL.getD (i * 4 + 3) 0))]) := by simp [homesD, hi]
  obtain ⟨q1, q2, q3, q4⟩ := quads_at Tryz.underlying88 Tryz.underlying87 rfl rfl rfl rfl Tryz.underlying3 Tryz.underlying3 Tryz.underlying3 Tryz.underlying3 cellsInt cellsInt cellsInt cellsInt cellsHome hd i hi _ _ _ _ hD
  rw [World.var?_cell gHomes hvar (i * 4 + r)]
  have : r = 0 ∨ r = 1 ∨ r = 2 ∨ r = 3 := by omega
  rcases this with rfl | rfl | rfl | rfl
  · simpa using q1
  · simpa using q2
  · simpa using q3
  · simpa using q4
theorem views_of {W : World} (h : laidMetH Tryz.prog [("alfil/pos.views", Rows.laid_alfil_pos_views)] W) : Views W := by
  obtain ⟨ps, ⟨g', t', cs, fuel, p, q, hg', ht', hvar, hd, _, _⟩, _⟩ := h
  obtain rfl := Option.some.inj (gViews.symm.trans hg')
  obtain rfl := Option.some.inj (gViewsType.symm.trans ht')
  intro j hj
  obtain ⟨i, r, hi, hr, rfl⟩ : ∃ i r, i < 2 ∧ r < 2 ∧ j = i * 2 + r := ⟨j / 2, j % 2, by omega, by omega, by omega⟩
  have hD : viewsD[i]? = some (.agg [.lit (.int .i64 (vwL.getD (i * 2) 0)), .lit (.int .i64 (vwL.getD (i * 2 + 1) 0))]) := by simp [viewsD, hi]
  obtain ⟨q1, q2⟩ := pairs_at Tryz.underlying115 Tryz.underlying114 rfl rfl Tryz.underlying3 Tryz.underlying3 cellsInt cellsInt cellsView hd i hi _ _ hD
  rw [World.var?_cell gViews hvar (i * 2 + r)]
  have : r = 0 ∨ r = 1 := by omega
  rcases this with rfl | rfl
  · simpa using q1
  · simpa using q2
theorem tabs_of {W : World} (h : laidMetH Tryz.prog [("alfil/ways.steps", Rows.laid_alfil_ways_steps), ("alfil/pos.homes", Rows.laid_alfil_pos_homes), ("alfil/pos.views", Rows.laid_alfil_pos_views)] W) : Tabs W := by
  refine ⟨steps_of ?_, homes_of ?_, views_of ?_⟩
  · exact h.filter fun x => x.1 == "alfil/ways.steps"
  · exact h.filter fun x => x.1 == "alfil/pos.homes"
  · exact h.filter fun x => x.1 == "alfil/pos.views"
end Go.Proofs.YtkebpchhpidogaaGreatDoor
namespace Go.Proofs.YtkebpchhpidogaaGreatDoor
open Go.ChangeShapes Go.WideShapes Go.ChangeAt Go.RowKit
open Go.Joins Go.Deep
set_option linter.unusedVariables false
set_option linter.unusedSimpArgs false
set_option maxRecDepth 100000

section
variable {H : Type} {enc : TypeId × Value → H}
def dM (H : Type) (m : Mv) : DataW H := .agg [.lit (.int .i64 m.f), .lit (.int .i64 m.t), .lit (.int .i64 m.p)]
structure MvW (m : Mv) : Prop where
  f : (Lit.int .i64 m.f).wf = true
  t : (Lit.int .i64 m.t).wf = true
  p : (Lit.int .i64 m.p).wf = true
theorem cells28 : Tryz.prog.cellsOf 35 = 3 := by kernel_rfl
theorem open_move {W : World} {base : Nat} {r : Reach} {b0 : Nat} {sp : Nat → Bool} {hd : Bool} {v : Value} {d : DataW H} {q : List MemPlace}
    (hv : Value.okWide Tryz.prog W r b0 35 v) (h : DataW.Trod enc Tryz.prog W base sp hd 35 v d q) :
    ∃ m, MvW m ∧ v = .agg (ml m).toArray ∧ d = dM H m ∧ q = [] := by
  obtain ⟨cs, rfl, hsz, _⟩ : ∃ cs, v = .agg cs ∧ cs.size = Tryz.prog.cellsOf 35 ∧ Row.okWide Tryz.prog W r b0 35 cs := by
    simpa [Value.okWide, Tryz.underlying35] using hv
  obtain ⟨l⟩ := cs
  have hl : l.length = 3 := by simpa [cells28] using hsz
  obtain ⟨fuel, hf⟩ := h
  obtain ⟨y0, y1, y2, n, hx, hlen, h0, h1, h2⟩ := trod_struct3 Tryz.underlying35 hf
  rw [cellsInt] at h0 h1 h2
  have hc : (Value.agg ⟨l⟩).cells.toList = l := rfl
  rw [hc] at h0 h1 h2
  obtain ⟨f, e0, rfl, w0⟩ := DataW.trod_int Tryz.underlying3 h0
  obtain ⟨t, e1, rfl, w1⟩ := DataW.trod_int Tryz.underlying3 h1
  obtain ⟨p, e2, rfl, w2⟩ := DataW.trod_int Tryz.underlying3 h2
  refine ⟨⟨f, t, p⟩, ⟨w0, w1, w2⟩, ?_, ?_, ?_⟩
  · match l, hl with
    | [a, b, c], _ =>
      have q0 : a = .int .i64 f := by simpa using e0
      have q1 : b = .int .i64 t := by simpa using e1
      have q2 : c = .int .i64 p := by simpa using e2
      rw [q0, q1, q2]; rfl
  · simp only [Prod.mk.injEq] at hx
    rw [hx.1]; rfl
  · simp only [Prod.mk.injEq] at hx
    rw [hx.2]; rfl
theorem shut_move {W : World} {base : Nat} {sp : Nat → Bool} {hd : Bool} (m : Mv) (h : MvW m) : DataW.Trod enc Tryz.prog W base sp hd 35 (.agg (ml m).toArray) (dM H m) [] := by
  refine ⟨3, ?_⟩
  have hc : (Value.agg (ml m).toArray).cells.toList = ml m := rfl
  rw [hc]
  have := trod_struct3_mk (enc := enc) (w := W) (base := base) (spare := sp) (held := hd) (n := 2) (cs := ml m) (y0 := (.lit (.int .i64 m.f), [])) (y1 := (.lit (.int .i64 m.t), [])) (y2 := (.lit (.int .i64 m.p), []))
    Tryz.underlying35 (by rw [cells28]; rfl) (by rw [cellsInt]; show DataW.trod enc Tryz.prog W base sp hd 2 3 [.int .i64 m.f] = _; exact trod_int_mk h.f)
    (by rw [cellsInt]; show DataW.trod enc Tryz.prog W base sp hd 2 3 [.int .i64 m.t] = _; exact trod_int_mk h.t) (by rw [cellsInt]; show DataW.trod enc Tryz.prog W base sp hd 2 3 [.int .i64 m.p] = _; exact trod_int_mk h.p)
  exact this
end
/-- An array of numbers that reads as told holds them, cell for cell. -/
theorem ints_at {H : Type} {enc : TypeId × Value → H} {P : Program} {w : World} {base : Nat} {sp : Nat → Bool} {held : Bool} {fuel : Nat} {t e : TypeId} {n : Nat} {k : IntKind} {cs : List Value} {D : List (DataW H)} {p : List MemPlace}
    (ht : P.underlying t = some (.array n e)) (he : P.underlying e = some (.int k)) (ce : P.cellsOf e = 1)
    (h : DataW.trod enc P w base sp held fuel t cs = some (.agg D, p)) (i : Nat) (hi : i < n) (a : Int) (hD : D[i]? = some (.lit (.int k a))) : cs[i]? = some (.int k a) := by
  cases fuel with
  | zero => simp [DataW.trod] at h
  | succ fuel =>
    simp only [DataW.trod, ht, ce] at h
    split at h
    · obtain ⟨xs, hm, hx⟩ := Option.map_eq_some_iff.1 h
      have hxs : xs.map (·.1) = D := by
        have := congrArg Prod.fst hx
        simpa using this
      obtain ⟨y, hy, hf⟩ := Lib.mapM_at hm i i (by simp [hi])
      obtain ⟨a', e0, rfl, _⟩ := DataW.trod_int he hf
      have h2 : (xs.map (·.1))[i]? = some (DataW.lit (.int k a') : DataW H) := by simp [hy]
      rw [hxs, hD] at h2
      simp at h2
      obtain rfl := h2
      have q0 := congrArg (·[0]?) e0
      simp [List.getElem?_drop] at q0
      exact q0
    · cases h
theorem gProms : Tryz.prog.globalNamed "alfil/move.promos" = some 3 := by kernel_rfl
theorem gPromsType : (Tryz.prog.globals[3]?).map (·.type) = some 91 := by kernel_rfl
theorem gLasts : Tryz.prog.globalNamed "alfil/move.lastRanks" = some 0 := by kernel_rfl
theorem gLastsType : (Tryz.prog.globals[0]?).map (·.type) = some 69 := by kernel_rfl
theorem gWings : Tryz.prog.globalNamed "alfil/move.wings" = some 1 := by kernel_rfl
theorem gWingsType : (Tryz.prog.globals[1]?).map (·.type) = some 78 := by kernel_rfl
theorem cellsWing : Tryz.prog.cellsOf 73 = 4 := by kernel_rfl
def wingsD : List (DataW Unit) := (List.range 4).map fun i => .agg [.lit (.int .i64 (wiL.getD (i * 4) 0)), .lit (.int .i64 (wiL.getD (i * 4 + 1) 0)), .lit (.int .i64 (wiL.getD (i * 4 + 2) 0)), .lit (.int .i64 (wiL.getD (i * 4 + 3) 0))]
theorem wingsD_is : (Rows.laid_alfil_move_wings : DataW Unit) = .agg wingsD := by rfl
def promsD : List (DataW Unit) := (List.range 5).map fun i => .lit (.int .i64 (prL.getD i 0))
theorem promsD_is : (Rows.laid_alfil_move_promos : DataW Unit) = .agg promsD := by rfl
def lastsD : List (DataW Unit) := (List.range 2).map fun i => .lit (.int .i64 (laL.getD i 0))
theorem lastsD_is : (Rows.laid_alfil_move_lastRanks : DataW Unit) = .agg lastsD := by rfl
theorem wings_of {W : World} (h : laidMetH Tryz.prog [("alfil/move.wings", Rows.laid_alfil_move_wings)] W) : Wings W := by
  obtain ⟨ps, ⟨g', t', cs, fuel, p, q, hg', ht', hvar, hd, _, _⟩, _⟩ := h
  obtain rfl := Option.some.inj (gWings.symm.trans hg')
  obtain rfl := Option.some.inj (gWingsType.symm.trans ht')
  intro j hj
  obtain ⟨i, r, hi, hr, rfl⟩ : ∃ i r, i < 4 ∧ r < 4 ∧ j = i * 4 + r := ⟨j / 4, j % 4, by omega, by omega, by omega⟩
  have hD : wingsD[i]? = some (.agg [.lit (.int .i64 (wiL.getD (i * 4) 0)), .lit (.int .i64 (wiL.getD (i * 4 + 1) 0)), .lit (.int .i64 (wiL.getD (i * 4 + 2) 0)), .lit (.int .i64 (wiL.getD (i * 4 + 3) 0))]) := by simp [wingsD, hi]
  obtain ⟨q1, q2, q3, q4⟩ := quads_at Tryz.underlying78 Tryz.underlying73 rfl rfl rfl rfl Tryz.underlying3 Tryz.underlying3 Tryz.underlying3 Tryz.underlying3 cellsInt cellsInt cellsInt cellsInt cellsWing hd i hi _ _ _ _ hD
  rw [World.var?_cell gWings hvar (i * 4 + r)]
  have : r = 0 ∨ r = 1 ∨ r = 2 ∨ r = 3 := by omega
  rcases this with rfl | rfl | rfl | rfl
  · simpa using q1
  · simpa using q2
  · simpa using q3
  · simpa using q4
theorem proms_of {W : World} (h : laidMetH Tryz.prog [("alfil/move.promos", Rows.laid_alfil_move_promos)] W) : Proms W := by
  obtain ⟨ps, ⟨g', t', cs, fuel, p, q, hg', ht', hvar, hd, _, _⟩, _⟩ := h
  obtain rfl := Option.some.inj (gProms.symm.trans hg')
  obtain rfl := Option.some.inj (gPromsType.symm.trans ht')
  intro j hj
  have hD : promsD[j]? = some (.lit (.int .i64 (prL.getD j 0))) := by simp [promsD, hj]
  have q1 := ints_at Tryz.underlying91 Tryz.underlying3 cellsInt hd j hj _ hD
  rw [World.var?_cell gProms hvar j]
  simpa using q1
theorem lasts_of {W : World} (h : laidMetH Tryz.prog [("alfil/move.lastRanks", Rows.laid_alfil_move_lastRanks)] W) : Lasts W := by
  obtain ⟨ps, ⟨g', t', cs, fuel, p, q, hg', ht', hvar, hd, _, _⟩, _⟩ := h
  obtain rfl := Option.some.inj (gLasts.symm.trans hg')
  obtain rfl := Option.some.inj (gLastsType.symm.trans ht')
  intro j hj
  have hD : lastsD[j]? = some (.lit (.int .i64 (laL.getD j 0))) := by simp [lastsD, hj]
  have q1 := ints_at Tryz.underlying69 Tryz.underlying3 cellsInt hd j hj _ hD
  rw [World.var?_cell gLasts hvar j]
  simpa using q1
theorem tabM_of {W : World} (h : laidMetH Tryz.prog [("alfil/ways.steps", Rows.laid_alfil_ways_steps), ("alfil/pos.homes", Rows.laid_alfil_pos_homes), ("alfil/pos.views", Rows.laid_alfil_pos_views), ("alfil/move.promos", Rows.laid_alfil_move_promos), ("alfil/move.lastRanks", Rows.laid_alfil_move_lastRanks), ("alfil/move.wings", Rows.laid_alfil_move_wings)] W) : TabM W := by
  refine ⟨tabs_of ?_, proms_of ?_, lasts_of ?_, wings_of ?_⟩
  · exact h.filter fun x => x.1 == "alfil/ways.steps" || x.1 == "alfil/pos.homes" || x.1 == "alfil/pos.views"
  · exact h.filter fun x => x.1 == "alfil/move.promos"
  · exact h.filter fun x => x.1 == "alfil/move.lastRanks"
  · exact h.filter fun x => x.1 == "alfil/move.wings"
end Go.Proofs.YtkebpchhpidogaaGreatDoor
