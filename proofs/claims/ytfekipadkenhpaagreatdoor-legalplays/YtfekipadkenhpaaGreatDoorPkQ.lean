/- MvL: my texts, in their order. -/
import Derived.Test.YtfekipadkenhpaaGreatDoorPkE
import Derived.Test.YtfekipadkenhpaaGreatDoorPkH
import Derived.Test.YtfekipadkenhpaaGreatDoorPkL
namespace Go.Proofs.YtfekipadkenhpaaGreatDoor
open Go.RowKit
set_option linter.unusedVariables false
set_option linter.unusedSimpArgs false
set_option maxRecDepth 100000
/-- How the memory stands while the document makes a position. -/
structure Qb (w0 : World) (p : Ps) (m : Mv) (f t : Nat) (W : World) (q : Ps) : Prop where
 hp : PAt W w0.heap.size p
 hm : MAt W (w0.heap.size + 1) m
 ef : m.f = f
 et : m.t = t
 hr : PAt W (w0.heap.size + 2) Zp
 hq : PAt W (w0.heap.size + 3) q
 hk : Kept w0 W
theorem Qb.kept {w0 W W' : World} {p : Ps} {m : Mv} {f t : Nat} {q : Ps} (h : Qb w0 p m f t W q) (k : Kept W W') : Qb w0 p m f t W' q :=
 ⟨h.hp.kept k, h.hm.kept k, h.ef, h.et, h.hr.kept k, h.hq.kept k, h.hk.trans k⟩
theorem Qb.cf {w0 W : World} {p : Ps} {m : Mv} {f t : Nat} {q : Ps} (h : Qb w0 p m f t W q) : W.cell? ⟨w0.heap.size + 1, 0, none⟩ = some (.int .i64 (f : Int)) := by rw [← h.ef]; exact h.hm.f
theorem Qb.ct {w0 W : World} {p : Ps} {m : Mv} {f t : Nat} {q : Ps} (h : Qb w0 p m f t W q) : W.cell? ⟨w0.heap.size + 1, 1, none⟩ = some (.int .i64 (t : Int)) := by rw [← h.et]; exact h.hm.t
theorem Qb.upd {w0 W : World} {p : Ps} {m : Mv} {f t : Nat} {q q' : Ps} (h : Qb w0 p m f t W q) (k : Nat) (u : Value) (hq : PAt (W.setCell ⟨w0.heap.size + 3, k, none⟩ u) (w0.heap.size + 3) q') : Qb w0 p m f t (W.setCell ⟨w0.heap.size + 3, k, none⟩ u) q' := by
 have hn : ∀ j, j < w0.heap.size + 3 → (W.setCell ⟨w0.heap.size + 3, k, none⟩ u).heap[j]? = W.heap[j]? := fun j hj => heap_setCell_other W ⟨w0.heap.size + 3, k, none⟩ j u (by show j ≠ w0.heap.size + 3; omega)
 exact ⟨⟨h.hp.len, (hn _ (by omega)).trans h.hp.at_⟩, ⟨(hn _ (by omega)).trans h.hm.at_⟩, h.ef, h.et, ⟨h.hr.len, (hn _ (by omega)).trans h.hr.at_⟩, hq, h.hk.setCell (p := ⟨w0.heap.size + 3, k, none⟩) (by show w0.heap.size ≤ w0.heap.size + 3; omega) _⟩
theorem Qb.cas {w0 W : World} {p : Ps} {m : Mv} {f t : Nat} {B : List Int} {a c e : Int} (h : Qb w0 p m f t W ⟨B, a, c, e⟩) (x : Int) : Qb w0 p m f t (W.setCell ⟨w0.heap.size + 3, 65, none⟩ (.int .i64 x)) ⟨B, a, x, e⟩ := h.upd 65 _ (h.hq.set 1 _ rfl rfl)
theorem Qb.ep {w0 W : World} {p : Ps} {m : Mv} {f t : Nat} {B : List Int} {a c e : Int} (h : Qb w0 p m f t W ⟨B, a, c, e⟩) (x : Int) : Qb w0 p m f t (W.setCell ⟨w0.heap.size + 3, 66, none⟩ (.int .i64 x)) ⟨B, a, c, x⟩ := h.upd 66 _ (h.hq.set 2 _ rfl rfl)
end Go.Proofs.YtfekipadkenhpaaGreatDoor
