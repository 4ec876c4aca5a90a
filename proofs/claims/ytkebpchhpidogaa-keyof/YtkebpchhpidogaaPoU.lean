/- A position that comes in: opened to its numbers, and read again as it was. -/
import Derived.Test.YtkebpchhpidogaaBoO
import Derived.Test.YtkebpchhpidogaaPoA
import Derived.Lib.SmallJoins
namespace Go.Proofs.Ytkebpchhpidogaa
open Go.ChangeShapes Go.WideShapes Go.ChangeAt Go.RowKit
open Go.Joins
set_option linter.unusedVariables false
set_option maxRecDepth 100000
set_option linter.unusedSimpArgs false

section
variable {H : Type} {enc : TypeId × Value → H}
theorem trod_board {W : World} {base : Nat} {sp : Nat → Bool} {hd : Bool} {fuel : Nat} {l : List Value} {x : DataW H × List MemPlace}
    (hf : DataW.trod enc Try.prog W base sp hd fuel 28 l = some x) : ∃ B, Brd B ∧ l = cl B ∧ x = (dB H B, []) := by
  obtain ⟨d, p⟩ := x
  obtain ⟨xs, m, rfl, hx, hl, hn, hi⟩ := DataW.trod_array Try.underlying28 hf
  have hl64 : l.length = 64 := by simpa [Value.cells, cells24] using hl
  have hall : ∀ i (hi64 : i < 64), ∃ n, l[i]'(by omega) = .int .i8 n ∧ xs[i]? = some (.lit (.int .i8 n), []) ∧ (Lit.int .i8 n).wf = true := by
    intro i hi64
    have h1 := hi i hi64
    have hlt : i < xs.length := by omega
    rw [cells22, List.getElem?_eq_getElem hlt] at h1
    have h2 : (l.drop (i * 1)).take 1 = [l[i]'(by omega)] := chunk (cs := l) (by omega)
    rw [h2] at h1
    obtain ⟨n, e1, e2, e3⟩ := DataW.trod_int Try.underlying26 h1
    exact ⟨n, by simpa using e1, by rw [List.getElem?_eq_getElem hlt, e2], e3⟩
  have hlen : (l.map intOf).length = 64 := by simp [hl64]
  have hget : ∀ i (hi64 : i < 64), (Lit.int .i8 ((l.map intOf).getD i 0)).wf = true ∧ l[i]'(by omega) = .int .i8 ((l.map intOf).getD i 0) ∧ xs[i]? = some (.lit (.int .i8 ((l.map intOf).getD i 0)), []) := by
    intro i hi64
    obtain ⟨n, e1, e2, e3⟩ := hall i hi64
    have : (l.map intOf).getD i 0 = n := by
      have : i < l.length := by omega
      simp [List.getD, List.getElem?_eq_getElem this, e1, intOf]
    rw [this]
    exact ⟨e3, e1, e2⟩
  simp only [Prod.mk.injEq] at hx
  refine ⟨l.map intOf, ⟨hlen, fun i hi64 => (wf_i8 _).1 (hget i hi64).1⟩, ?_, ?_⟩
  · refine List.ext_getElem (by rw [cl_length, hlen, hl64]) fun i h1 h2 => ?_
    have h3 := cl_get (l.map intOf) i (by omega)
    rw [List.getElem?_eq_getElem h2] at h3
    rw [(hget i (by omega)).2.1]
    exact (Option.some.inj h3).symm
  · have e : xs.map (·.1) = (l.map intOf).map fun x => DataW.lit (.int .i8 x) := by
      refine List.ext_getElem (by simp [hn, hl64]) fun i h1 h2 => ?_
      have h3 := (hget i (by simpa [hn] using h1)).2.2
      have hlt : i < xs.length := by simpa using h1
      rw [List.getElem?_eq_getElem hlt] at h3
      have h4 := Option.some.inj h3
      have h5 : i < (l.map intOf).length := by omega
      simp only [List.getElem_map, h4]
      simp [List.getD, List.getElem?_eq_getElem (show i < l.length by omega)]
    have e2 : xs.flatMap (·.2) = [] := by
      rw [List.flatMap_eq_nil_iff]
      intro x hxs
      obtain ⟨i, hlt, rfl⟩ := List.getElem_of_mem hxs
      have h3 := (hget i (by omega)).2.2
      rw [List.getElem?_eq_getElem hlt] at h3
      rw [Option.some.inj h3]
    rw [hx.1, hx.2, e, e2]; rfl
set_option maxRecDepth 100000 in
theorem trod_board_mk {W : World} {base : Nat} {sp : Nat → Bool} {hd : Bool} (B : List Int) (hB : Brd B) : DataW.trod enc Try.prog W base sp hd 2 28 (cl B) = some (dB H B, []) := by
  obtain ⟨n, hn⟩ := shut_board (enc := enc) (W := W) (base := base) (sp := sp) (hd := hd) B hB
  have hc : (Value.agg (cl B).toArray).cells.toList = cl B := rfl
  rw [hc] at hn
  have step : ∀ i ∈ List.range 64, DataW.trod enc Try.prog W base sp hd 1 26 (((cl B).drop (i * Try.prog.cellsOf 26)).take (Try.prog.cellsOf 26)) = some ((DataW.lit (.int .i8 (B.getD i 0)), []) : DataW H × List MemPlace) := by
    intro i hi
    have hi64 : i < 64 := by simpa using hi
    have hlt : i < (cl B).length := by rw [cl_length, hB.1]; exact hi64
    rw [cells22, chunk hlt]
    have h3 := cl_get B i (by rw [hB.1]; exact hi64)
    rw [List.getElem?_eq_getElem hlt] at h3
    rw [Option.some.inj h3]
    have hw := (wf_i8 _).2 (hB.2 i hi64)
    unfold DataW.trod
    rw [Try.underlying26]
    simp only [hw, and_self, if_true]
  have hm := mapM_some_of_forall (f := fun i => DataW.trod enc Try.prog W base sp hd 1 26 (((cl B).drop (i * Try.prog.cellsOf 26)).take (Try.prog.cellsOf 26))) (List.range 64) step
  unfold DataW.trod
  rw [Try.underlying28]
  simp only [cl_length, hB.1, cells24, if_true, hm, Option.map_some, Option.some.injEq, Prod.mk.injEq]
  refine ⟨?_, ?_⟩
  · unfold dB
    congr 1
    refine List.ext_getElem (by simp [hB.1]) fun i h1 h2 => ?_
    have h3 : i < B.length := by simpa using h2
    simp [List.getD, List.getElem?_eq_getElem h3]
  · rw [List.flatMap_eq_nil_iff]
    intro x hx
    simp only [List.mem_map] at hx
    obtain ⟨i, _, rfl⟩ := hx
    rfl
/-- The numbers of a position as data. -/
def dP (H : Type) (p : Ps) : DataW H := .agg [dB H p.B, .lit (.int .i64 p.t), .lit (.int .i64 p.c), .lit (.int .i64 p.e)]
/-- Numbers such as a position's may be, by their bits. -/
structure PsW (p : Ps) : Prop where
  brd : Brd p.B
  t : (Lit.int .i64 p.t).wf = true
  c : (Lit.int .i64 p.c).wf = true
  e : (Lit.int .i64 p.e).wf = true
theorem cells26 : Try.prog.cellsOf 30 = 67 := by kernel_rfl
theorem open_pos {W : World} {base : Nat} {r : Reach} {b0 : Nat} {sp : Nat → Bool} {hd : Bool} {v : Value} {d : DataW H} {q : List MemPlace}
    (hv : Value.okWide Try.prog W r b0 30 v) (h : DataW.Trod enc Try.prog W base sp hd 30 v d q) :
    ∃ p, PsW p ∧ v = .agg (pl p).toArray ∧ d = dP H p ∧ q = [] := by
  obtain ⟨cs, rfl, hsz, _⟩ : ∃ cs, v = .agg cs ∧ cs.size = Try.prog.cellsOf 30 ∧ Row.okWide Try.prog W r b0 30 cs := by
    simpa [Value.okWide, Try.underlying30] using hv
  obtain ⟨l⟩ := cs
  have hl : l.length = 67 := by simpa [cells26] using hsz
  obtain ⟨fuel, hf⟩ := h
  obtain ⟨y0, y1, y2, y3, n, hx, hlen, h0, h1, h2, h3⟩ := trod_struct4 Try.underlying30 hf
  rw [cells24] at h0
  rw [cellsInt] at h1 h2 h3
  have hc : (Value.agg ⟨l⟩).cells.toList = l := rfl
  rw [hc] at h0 h1 h2 h3
  obtain ⟨B, hB, e0, rfl⟩ := trod_board h0
  obtain ⟨t, e1, rfl, wt⟩ := DataW.trod_int Try.underlying3 h1
  obtain ⟨c, e2, rfl, wc⟩ := DataW.trod_int Try.underlying3 h2
  obtain ⟨e, e3, rfl, we⟩ := DataW.trod_int Try.underlying3 h3
  refine ⟨⟨B, t, c, e⟩, ⟨hB, wt, wc, we⟩, ?_, ?_, ?_⟩
  · have : l = cl B ++ [.int .i64 t, .int .i64 c, .int .i64 e] := by
      have q1 := congrArg (·[0]?) e1
      have q2 := congrArg (·[0]?) e2
      have q3 := congrArg (·[0]?) e3
      simp [List.getElem?_take, List.getElem?_drop] at q1 q2 q3
      refine List.ext_getElem? fun i => ?_
      have hcl : (cl B).length = 64 := by rw [cl_length, hB.1]
      by_cases hi : i < 64
      · rw [List.getElem?_append_left (by omega), ← e0]
        simp [List.getElem?_take, hi]
      · rw [List.getElem?_append_right (by omega), hcl]
        by_cases h64 : i = 64
        · subst h64; simpa using q1
        · by_cases h65 : i = 65
          · subst h65; simpa using q2
          · by_cases h66 : i = 66
            · subst h66; simpa using q3
            · rw [List.getElem?_eq_none (by omega), List.getElem?_eq_none (by simp; omega)]
    rw [this]; rfl
  · simp only [Prod.mk.injEq] at hx
    rw [hx.1]; rfl
  · simp only [Prod.mk.injEq] at hx
    rw [hx.2]; rfl
theorem trod_int_mk {W : World} {base : Nat} {sp : Nat → Bool} {hd : Bool} {x : Int} (hw : (Lit.int .i64 x).wf = true) : DataW.trod enc Try.prog W base sp hd 2 3 [.int .i64 x] = some ((DataW.lit (.int .i64 x), []) : DataW H × List MemPlace) := by
  unfold DataW.trod
  rw [Try.underlying3]
  simp only [hw, and_self, if_true]
theorem shut_pos {W : World} {base : Nat} {sp : Nat → Bool} {hd : Bool} (p : Ps) (h : PsW p) : DataW.Trod enc Try.prog W base sp hd 30 (.agg (pl p).toArray) (dP H p) [] := by
  refine ⟨3, ?_⟩
  have hc : (Value.agg (pl p).toArray).cells.toList = pl p := rfl
  rw [hc]
  have hcl : (cl p.B).length = 64 := by rw [cl_length, h.brd.1]
  have g1 : ((pl p).drop 64).take 1 = [.int .i64 p.t] := by unfold pl tlP; rw [List.drop_append, hcl, List.drop_eq_nil_of_le (by omega)]; rfl
  have g2 : ((pl p).drop 65).take 1 = [.int .i64 p.c] := by unfold pl tlP; rw [List.drop_append, hcl, List.drop_eq_nil_of_le (by omega)]; rfl
  have g3 : ((pl p).drop 66).take 1 = [.int .i64 p.e] := by unfold pl tlP; rw [List.drop_append, hcl, List.drop_eq_nil_of_le (by omega)]; rfl
  have g0 : ((pl p).drop 0).take 64 = cl p.B := by unfold pl; rw [List.drop_zero, List.take_append, hcl, List.take_of_length_le (by omega)]; simp
  have := trod_struct4_mk (enc := enc) (w := W) (base := base) (spare := sp) (held := hd) (n := 2) (cs := pl p) (y0 := (dB H p.B, [])) (y1 := (.lit (.int .i64 p.t), [])) (y2 := (.lit (.int .i64 p.c), [])) (y3 := (.lit (.int .i64 p.e), []))
    Try.underlying30 (by rw [pl_length h.brd.1, cells26]) (by rw [cells24]; show DataW.trod enc Try.prog W base sp hd 2 28 (((pl p).drop 0).take 64) = _; rw [g0]; exact trod_board_mk p.B h.brd)
    (by rw [cellsInt]; show DataW.trod enc Try.prog W base sp hd 2 3 (((pl p).drop 64).take 1) = _; rw [g1]; exact trod_int_mk h.t) (by rw [cellsInt]; show DataW.trod enc Try.prog W base sp hd 2 3 (((pl p).drop 65).take 1) = _; rw [g2]; exact trod_int_mk h.c) (by rw [cellsInt]; show DataW.trod enc Try.prog W base sp hd 2 3 (((pl p).drop 66).take 1) = _; rw [g3]; exact trod_int_mk h.e)
  exact this
end
end Go.Proofs.Ytkebpchhpidogaa
