/- MvY: my texts, in their order. -/
import Derived.Test.YtfekipadkenhpaaGreatDoorPkA
import Derived.Test.YtfekipadkenhpaaGreatDoorPkB
import Derived.Test.YtfekipadkenhpaaGreatDoorPkC
import Derived.Test.YtfekipadkenhpaaGreatDoorPkD
import Derived.Test.YtfekipadkenhpaaGreatDoorPkF
import Derived.Test.YtfekipadkenhpaaGreatDoorPkI
import Derived.Test.YtfekipadkenhpaaGreatDoorPkY
import Derived.Deep.Strs
namespace Go.Proofs.YtfekipadkenhpaaGreatDoor
open Go.ChangeShapes Go.WideShapes Go.ChangeAt Go.RowKit
open Go.Joins Go.Deep
set_option linter.unusedVariables false
set_option linter.unusedSimpArgs false
set_option maxRecDepth 100000
section
variable {H : Type} {enc : TypeId × Value → H}
def dM (H : Type) (m : Mv) : DataW H := .agg [.lit (.int .i64 m.f), .lit (.int .i64 m.t), .lit (.int .i64 m.p)]
structure MvW (m : Mv) : Prop where
 f : (Lit.int .i64 m.f).wf = true
 t : (Lit.int .i64 m.t).wf = true
 p : (Lit.int .i64 m.p).wf = true
theorem cells28 : Tryz.prog.cellsOf 36 = 3 := by kernel_rfl
theorem open_move {W : World} {base : Nat} {r : Reach} {b0 : Nat} {sp : Nat → Bool} {hd : Bool} {v : Value} {d : DataW H} {q : List MemPlace}
  (hv : Value.okWide Tryz.prog W r b0 36 v) (h : DataW.Trod enc Tryz.prog W base sp hd 36 v d q) :
  ∃ m, MvW m ∧ v = .agg (ml m).toArray ∧ d = dM H m ∧ q = [] := by
 obtain ⟨cs, rfl, hsz, _⟩ : ∃ cs, v = .agg cs ∧ cs.size = Tryz.prog.cellsOf 36 ∧ Row.okWide Tryz.prog W r b0 36 cs := by
  simpa [Value.okWide, Tryz.underlying36] using hv
 obtain ⟨l⟩ := cs
 have hl : l.length = 3 := by simpa [cells28] using hsz
 obtain ⟨fuel, hf⟩ := h
 obtain ⟨y0, y1, y2, n, hx, hlen, h0, h1, h2⟩ := trod_struct3 Tryz.underlying36 hf
 rw [cellsInt] at h0 h1 h2
 have hc : (Value.agg ⟨l⟩).cells.toList = l := rfl
 rw [hc] at h0 h1 h2
 obtain ⟨f, e0, rfl, w0⟩ := DataW.trod_int Tryz.underlying3 h0
 obtain ⟨t, e1, rfl, w1⟩ := DataW.trod_int Tryz.underlying3 h1
 obtain ⟨p, e2, rfl, w2⟩ := DataW.trod_int Tryz.underlying3 h2
 refine ⟨⟨f, t, p⟩, ⟨w0, w1, w2⟩, ?_, ?_, ?_⟩
 ·match l, hl with
  | [a, b, c], _ =>
   have q0 : a = .int .i64 f := by simpa using e0
   have q1 : b = .int .i64 t := by simpa using e1
   have q2 : c = .int .i64 p := by simpa using e2
   rw [q0, q1, q2]; rfl
 ·simp only [Prod.mk.injEq] at hx
  rw [hx.1]; rfl
 ·simp only [Prod.mk.injEq] at hx
  rw [hx.2]; rfl
theorem shut_move {W : World} {base : Nat} {sp : Nat → Bool} {hd : Bool} (m : Mv) (h : MvW m) : DataW.Trod enc Tryz.prog W base sp hd 36 (.agg (ml m).toArray) (dM H m) [] := by
 refine ⟨3, ?_⟩
 have hc : (Value.agg (ml m).toArray).cells.toList = ml m := rfl
 rw [hc]
 have := trod_struct3_mk (enc := enc) (w := W) (base := base) (spare := sp) (held := hd) (n := 2) (cs := ml m) (y0 := (.lit (.int .i64 m.f), [])) (y1 := (.lit (.int .i64 m.t), [])) (y2 := (.lit (.int .i64 m.p), []))
  Tryz.underlying36 (by rw [cells28]; rfl) (by rw [cellsInt]; show DataW.trod enc Tryz.prog W base sp hd 2 3 [.int .i64 m.f] = _; exact trod_int_mk h.f)
  (by rw [cellsInt]; show DataW.trod enc Tryz.prog W base sp hd 2 3 [.int .i64 m.t] = _; exact trod_int_mk h.t) (by rw [cellsInt]; show DataW.trod enc Tryz.prog W base sp hd 2 3 [.int .i64 m.p] = _; exact trod_int_mk h.p)
 exact this
end
end Go.Proofs.YtfekipadkenhpaaGreatDoor
