/- A stipulation that comes in: opened to its numbers, and read again as it was; the tables that the rows list. -/
import Derived.Test.YtnlgjakohoimhaaDoorSiG
import Derived.Lib.SmallJoins
import Derived.LaidSub
import Derived.Deep.Strs
namespace Go.Proofs.YtnlgjakohoimhaaDoor
open Go.ChangeShapes Go.WideShapes Go.ChangeAt Go.RowKit
open Go.Joins Go.Deep
set_option linter.unusedVariables false
set_option linter.unusedSimpArgs false
set_option maxRecDepth 100000

section
variable {H : Type} {enc : TypeId × Value → H}
def dQ (H : Type) (s : Stp) : DataW H := .agg [.lit (.int .i64 s.k), .lit (.int .i64 s.g), .lit (.int .i64 s.n), .lit (.bool s.h)]
structure StW (s : Stp) : Prop where
  k : (Lit.int .i64 s.k).wf = true
  g : (Lit.int .i64 s.g).wf = true
  n : (Lit.int .i64 s.n).wf = true
theorem cellsQ : Tryd.prog.cellsOf 24 = 4 := by kernel_rfl
theorem cellsQi : Tryd.prog.cellsOf 3 = 1 := by kernel_rfl
theorem cellsQb : Tryd.prog.cellsOf 4 = 1 := by kernel_rfl
theorem cellsQs : Tryd.prog.cellsOf 9 = 1 := by kernel_rfl
theorem open_stip {W : World} {base : Nat} {r : Reach} {b0 : Nat} {sp : Nat → Bool} {hd : Bool} {v : Value} {d : DataW H} {q : List MemPlace}
    (hv : Value.okWide Tryd.prog W r b0 24 v) (h : DataW.Trod enc Tryd.prog W base sp hd 24 v d q) :
    ∃ s, StW s ∧ v = qv s ∧ d = dQ H s ∧ q = [] := by
  obtain ⟨cs, rfl, hsz, _⟩ : ∃ cs, v = .agg cs ∧ cs.size = Tryd.prog.cellsOf 24 ∧ Row.okWide Tryd.prog W r b0 24 cs := by
    simpa [Value.okWide, Tryd.underlying24] using hv
  obtain ⟨l⟩ := cs
  have hl : l.length = 4 := by simpa [cellsQ] using hsz
  obtain ⟨fuel, hf⟩ := h
  obtain ⟨y0, y1, y2, y3, n, hx, hlen, h0, h1, h2, h3⟩ := trod_struct4 Tryd.underlying24 hf
  rw [cellsQi] at h0 h1 h2
  rw [cellsQb] at h3
  have hc : (Value.agg ⟨l⟩).cells.toList = l := rfl
  rw [hc] at h0 h1 h2 h3
  obtain ⟨k, e0, rfl, w0⟩ := DataW.trod_int Tryd.underlying3 h0
  obtain ⟨g, e1, rfl, w1⟩ := DataW.trod_int Tryd.underlying3 h1
  obtain ⟨m, e2, rfl, w2⟩ := DataW.trod_int Tryd.underlying3 h2
  obtain ⟨b, e3, rfl⟩ := DataW.trod_bool Tryd.underlying4 h3
  refine ⟨⟨k, g, m, b⟩, ⟨w0, w1, w2⟩, ?_, ?_, ?_⟩
  · match l, hl with
    | [a, b', c, d'], _ =>
      have q0 : a = .int .i64 k := by simpa using e0
      have q1 : b' = .int .i64 g := by simpa using e1
      have q2 : c = .int .i64 m := by simpa using e2
      have q3 : d' = .bool b := by simpa using e3
      rw [q0, q1, q2, q3]; rfl
  · simp only [Prod.mk.injEq] at hx
    rw [hx.1]; rfl
  · simp only [Prod.mk.injEq] at hx
    rw [hx.2]; rfl
theorem trod_int_q {W : World} {base : Nat} {sp : Nat → Bool} {hd : Bool} {n : Int} (h : (Lit.int .i64 n).wf = true) : DataW.trod enc Tryd.prog W base sp hd 2 3 [.int .i64 n] = some ((DataW.lit (.int .i64 n), []) : DataW H × List MemPlace) := by
  unfold DataW.trod
  rw [Tryd.underlying3]
  simp only [h, and_self, if_true]
theorem trod_bool_q {W : World} {base : Nat} {sp : Nat → Bool} {hd : Bool} {b : Bool} : DataW.trod enc Tryd.prog W base sp hd 2 4 [.bool b] = some ((DataW.lit (.bool b), []) : DataW H × List MemPlace) := by
  unfold DataW.trod
  rw [Tryd.underlying4]
theorem shut_stip {W : World} {base : Nat} {sp : Nat → Bool} {hd : Bool} (s : Stp) (h : StW s) : DataW.Trod enc Tryd.prog W base sp hd 24 (qv s) (dQ H s) [] := by
  refine ⟨3, ?_⟩
  have hc : (qv s).cells.toList = ql s := rfl
  rw [hc]
  have := trod_struct4_mk (enc := enc) (w := W) (base := base) (spare := sp) (held := hd) (n := 2) (cs := ql s) (y0 := (.lit (.int .i64 s.k), [])) (y1 := (.lit (.int .i64 s.g), [])) (y2 := (.lit (.int .i64 s.n), [])) (y3 := (.lit (.bool s.h), []))
    Tryd.underlying24 (by rw [cellsQ]; rfl) (by rw [cellsQi]; exact trod_int_q h.k) (by rw [cellsQi]; exact trod_int_q h.g) (by rw [cellsQi]; exact trod_int_q h.n) (by rw [cellsQb]; exact trod_bool_q)
  exact this
end
/-- An array of texts that reads as told holds them. -/
theorem texts_at {H : Type} {enc : TypeId × Value → H} {P : Program} {w : World} {base : Nat} {sp : Nat → Bool} {held : Bool} {fuel : Nat} {t e : TypeId} {n : Nat} {cs : List Value} {D : List (DataW H)} {p : List MemPlace}
    (ht : P.underlying t = some (.array n e)) (he : P.underlying e = some .string) (ce : P.cellsOf e = 1)
    (h : DataW.trod enc P w base sp held fuel t cs = some (.agg D, p)) (i : Nat) (hi : i < n) (a : List UInt8) (hD : D[i]? = some (.lit (.string a))) : cs[i]? = some (.string ⟨a.toArray⟩) := by
  cases fuel with
  | zero => simp [DataW.trod] at h
  | succ fuel =>
    simp only [DataW.trod, ht, ce] at h
    split at h
    · obtain ⟨xs, hm, hx⟩ := Option.map_eq_some_iff.1 h
      have hxs : xs.map (·.1) = D := by
        have := congrArg Prod.fst hx
        simpa using this
      obtain ⟨y, hy, hf⟩ := Lib.mapM_at hm i i (by simp [hi])
      obtain ⟨s, e0, rfl, _⟩ := DataW.trod_string he hf
      have h2 : (xs.map (·.1))[i]? = some (DataW.lit (.string s.data.toList) : DataW H) := by simp [hy]
      rw [hxs, hD] at h2
      simp at h2
      have q0 := congrArg (·[0]?) e0
      simp [List.getElem?_drop] at q0
      rw [q0, h2]
    · cases h
theorem gKinds : Tryd.prog.globalNamed "alfil/stip.kinds" = some 0 := by kernel_rfl
theorem gKindsType : (Tryd.prog.globals[0]?).map (·.type) = some 58 := by kernel_rfl
theorem gGoals : Tryd.prog.globalNamed "alfil/stip.goals" = some 1 := by kernel_rfl
theorem gGoalsType : (Tryd.prog.globals[1]?).map (·.type) = some 59 := by kernel_rfl
def kindsD : List (DataW Unit) := (List.range 7).map fun (i : Nat) => .lit (.string (bs (kT ((i : Int) + 1))))
theorem kindsD_is : (Rows.laid_alfil_stip_kinds : DataW Unit) = .agg kindsD := by rfl
def goalsD : List (DataW Unit) := (List.range 2).map fun (i : Nat) => .lit (.string (bs (gT ((i : Int) + 1))))
theorem goalsD_is : (Rows.laid_alfil_stip_goals : DataW Unit) = .agg goalsD := by rfl
theorem tabS_of {W : World} (h : laidMetH Tryd.prog [("alfil/stip.kinds", Rows.laid_alfil_stip_kinds), ("alfil/stip.goals", Rows.laid_alfil_stip_goals)] W) : TabS W := by
  refine ⟨?_, ?_⟩
  · have h1 : laidMetH Tryd.prog [("alfil/stip.kinds", Rows.laid_alfil_stip_kinds)] W := h.filter fun x => x.1 == "alfil/stip.kinds"
    obtain ⟨ps, ⟨g', t', cs, fuel, p, q, hg', ht', hvar, hd, _, _⟩, _⟩ := h1
    obtain rfl := Option.some.inj (gKinds.symm.trans hg')
    obtain rfl := Option.some.inj (gKindsType.symm.trans ht')
    rw [kindsD_is] at hd
    intro j hj
    have hD : kindsD[j]? = some (.lit (.string (bs (kT ((j : Int) + 1))))) := by simp [kindsD, hj]
    have q1 := texts_at Tryd.underlying58 Tryd.underlying9 cellsQs hd j hj _ hD
    rw [World.var?_cell gKinds hvar j]
    simpa [bs] using q1
  · have h1 : laidMetH Tryd.prog [("alfil/stip.goals", Rows.laid_alfil_stip_goals)] W := h.filter fun x => x.1 == "alfil/stip.goals"
    obtain ⟨ps, ⟨g', t', cs, fuel, p, q, hg', ht', hvar, hd, _, _⟩, _⟩ := h1
    obtain rfl := Option.some.inj (gGoals.symm.trans hg')
    obtain rfl := Option.some.inj (gGoalsType.symm.trans ht')
    rw [goalsD_is] at hd
    intro j hj
    have hD : goalsD[j]? = some (.lit (.string (bs (gT ((j : Int) + 1))))) := by simp [goalsD, hj]
    have q1 := texts_at Tryd.underlying59 Tryd.underlying9 cellsQs hd j hj _ hD
    rw [World.var?_cell gGoals hvar j]
    simpa [bs] using q1
theorem tabS_of5 {W : World} {d32 d64 p10 : DataW Unit} (h : laidMetH Tryd.prog [("math/bits.deBruijn32tab", d32), ("math/bits.deBruijn64tab", d64), ("internal/strconv.uint64pow10", p10), ("alfil/stip.kinds", Rows.laid_alfil_stip_kinds), ("alfil/stip.goals", Rows.laid_alfil_stip_goals)] W) : TabS W :=
  tabS_of (h.filter fun x => x.1 == "alfil/stip.kinds" || x.1 == "alfil/stip.goals")
end Go.Proofs.YtnlgjakohoimhaaDoor
