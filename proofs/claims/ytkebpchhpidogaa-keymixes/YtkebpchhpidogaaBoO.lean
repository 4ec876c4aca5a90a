/- A board that comes in: opened to its numbers, and read again as it was. -/
import Derived.Test.YtkebpchhpidogaaBoA
import Derived.ProofKit
import Derived.OpenShut
import Derived.DataBytes
namespace Go.Proofs.Ytkebpchhpidogaa
set_option maxRecDepth 100000
open Go.ChangeShapes Go.WideShapes Go.ChangeAt Go.RowKit
set_option linter.unusedVariables false

section
variable {H : Type} {enc : TypeId × Value → H}
/-- The board's numbers as data. -/
def dB (H : Type) (B : List Int) : DataW H := .agg (B.map fun x => .lit (.int .i8 x))
theorem wf_i8 (x : Int) : (Lit.int .i8 x).wf = true ↔ -128 ≤ x ∧ x ≤ 127 := by
  have e1 : IntKind.i8.min = -128 := by decide
  have e2 : IntKind.i8.max = 127 := by decide
  simp [Lit.wf, e1, e2]
theorem chunk {cs : List Value} {i : Nat} (h : i < cs.length) : (cs.drop (i * 1)).take 1 = [cs[i]] := by
  rw [Nat.mul_one, List.drop_eq_getElem_cons h]; rfl
theorem open_board {W : World} {base : Nat} {r : Reach} {b0 : Nat} {sp : Nat → Bool} {hd : Bool} {v : Value} {d : DataW H} {p : List MemPlace}
    (hv : Value.okWide Try.prog W r b0 28 v) (h : DataW.Trod enc Try.prog W base sp hd 28 v d p) :
    ∃ B, Brd B ∧ v = .agg (cl B).toArray ∧ d = dB H B ∧ p = [] := by
  obtain ⟨cs, rfl, hsz, _⟩ : ∃ cs, v = .agg cs ∧ cs.size = Try.prog.cellsOf 28 ∧ Row.okWide Try.prog W r b0 28 cs := by
    simpa [Value.okWide, Try.underlying28] using hv
  obtain ⟨fuel, hf⟩ := h
  obtain ⟨xs, m, rfl, hx, hl, hn, hi⟩ := DataW.trod_array Try.underlying28 hf
  obtain ⟨l⟩ := cs
  have hl64 : l.length = 64 := by simpa [Value.cells, cells24] using hl
  have hall : ∀ i (hi64 : i < 64), ∃ n, l[i]'(by omega) = .int .i8 n ∧ xs[i]? = some (.lit (.int .i8 n), []) ∧ (Lit.int .i8 n).wf = true := by
    intro i hi64
    have h1 := hi i hi64
    have hlt : i < xs.length := by omega
    rw [cells22, List.getElem?_eq_getElem hlt] at h1
    have h2 : ((Value.agg ⟨l⟩).cells.toList.drop (i * 1)).take 1 = [l[i]'(by omega)] := chunk (cs := l) (by omega)
    rw [h2] at h1
    obtain ⟨n, e1, e2, e3⟩ := DataW.trod_int Try.underlying26 h1
    exact ⟨n, by simpa using e1, by rw [List.getElem?_eq_getElem hlt, e2], e3⟩
  have hlen : (l.map intOf).length = 64 := by simp [hl64]
  have hget : ∀ i (hi64 : i < 64), (Lit.int .i8 ((l.map intOf).getD i 0)).wf = true ∧ l[i]'(by omega) = .int .i8 ((l.map intOf).getD i 0) ∧ xs[i]? = some (.lit (.int .i8 ((l.map intOf).getD i 0)), []) := by
    intro i hi64
    obtain ⟨n, e1, e2, e3⟩ := hall i hi64
    have : (l.map intOf).getD i 0 = n := by
      have : i < l.length := by omega
      simp [List.getD, List.getElem?_eq_getElem this, e1, intOf]
    rw [this]
    exact ⟨e3, e1, e2⟩
  refine ⟨l.map intOf, ⟨hlen, fun i hi64 => (wf_i8 _).1 (hget i hi64).1⟩, ?_, ?_, ?_⟩
  · congr 1
    have : l = cl (l.map intOf) := by
      refine List.ext_getElem (by rw [cl_length, hlen, hl64]) fun i h1 h2 => ?_
      have h3 := cl_get (l.map intOf) i (by omega)
      rw [List.getElem?_eq_getElem h2] at h3
      rw [(hget i (by omega)).2.1]
      exact (Option.some.inj h3).symm
    exact congrArg List.toArray this
  · have e : xs.map (·.1) = (l.map intOf).map fun x => DataW.lit (.int .i8 x) := by
      refine List.ext_getElem (by simp [hn, hl64]) fun i h1 h2 => ?_
      have h3 := (hget i (by simpa [hn] using h1)).2.2
      have hlt : i < xs.length := by simpa using h1
      rw [List.getElem?_eq_getElem hlt] at h3
      have h4 := Option.some.inj h3
      have h5 : i < (l.map intOf).length := by omega
      simp only [List.getElem_map, h4]
      simp [List.getD, List.getElem?_eq_getElem (show i < l.length by omega)]
    simp only [Prod.mk.injEq] at hx
    rw [hx.1, e]; rfl
  · simp only [Prod.mk.injEq] at hx
    rw [hx.2, List.flatMap_eq_nil_iff]
    intro x hxs
    obtain ⟨i, hlt, rfl⟩ := List.getElem_of_mem hxs
    have h3 := (hget i (by omega)).2.2
    rw [List.getElem?_eq_getElem hlt] at h3
    rw [Option.some.inj h3]
set_option maxRecDepth 100000 in
theorem shut_board {W : World} {base : Nat} {sp : Nat → Bool} {hd : Bool} (B : List Int) (hB : Brd B) : DataW.Trod enc Try.prog W base sp hd 28 (.agg (cl B).toArray) (dB H B) [] := by
  refine ⟨2, ?_⟩
  have hc : (Value.agg (cl B).toArray).cells.toList = cl B := rfl
  rw [hc]
  have step : ∀ i ∈ List.range 64, DataW.trod enc Try.prog W base sp hd 1 26 (((cl B).drop (i * Try.prog.cellsOf 26)).take (Try.prog.cellsOf 26)) = some ((DataW.lit (.int .i8 (B.getD i 0)), []) : DataW H × List MemPlace) := by
    intro i hi
    have hi64 : i < 64 := by simpa using hi
    have hlt : i < (cl B).length := by rw [cl_length, hB.1]; exact hi64
    rw [cells22, chunk hlt]
    have h3 := cl_get B i (by rw [hB.1]; exact hi64)
    rw [List.getElem?_eq_getElem hlt] at h3
    rw [Option.some.inj h3]
    have hw := (wf_i8 _).2 (hB.2 i hi64)
    unfold DataW.trod
    rw [Try.underlying26]
    simp only [hw, and_self, if_true]
  have hm := mapM_some_of_forall (f := fun i => DataW.trod enc Try.prog W base sp hd 1 26 (((cl B).drop (i * Try.prog.cellsOf 26)).take (Try.prog.cellsOf 26))) (List.range 64) step
  unfold DataW.trod
  rw [Try.underlying28]
  simp only [cl_length, hB.1, cells24, if_true, hm, Option.map_some, Option.some.injEq, Prod.mk.injEq]
  refine ⟨?_, ?_⟩
  · unfold dB
    congr 1
    refine List.ext_getElem (by simp [hB.1]) fun i h1 h2 => ?_
    have h3 : i < B.length := by simpa using h2
    simp [List.getD, List.getElem?_eq_getElem h3]
  · rw [List.flatMap_eq_nil_iff]
    intro x hx
    simp only [List.mem_map] at hx
    obtain ⟨i, _, rfl⟩ := hx
    rfl
end
end Go.Proofs.Ytkebpchhpidogaa
