/- MvF · MvG · MvM: my texts, in their order. -/
import Derived.Test.YtgcippicdhaaeaaGreatDoorPkF
import Derived.Test.YtgcippicdhaaeaaGreatDoorPkH
import Derived.Test.YtgcippicdhaaeaaGreatDoorPkK
import Derived.Deep.Cut
namespace Go.Proofs.YtgcippicdhaaeaaGreatDoor
open Go.RowKit
set_option linter.unusedVariables false
set_option linter.unusedSimpArgs false
set_option maxRecDepth 100000

/-- How the memory stands while a board is made: the position, the move, where the answer will be, the board. -/
structure Bb (w0 : World) (p : Ps) (m : Mv) (f t : Nat) (W : World) (B : List Int) : Prop where
  hp : PAt W w0.heap.size p
  hm : MAt W (w0.heap.size + 1) m
  ef : m.f = f
  et : m.t = t
  hr : W.heap[w0.heap.size + 2]? = some (.cells (cl Zb).toArray 24 (0, 0))
  hb : W.heap[w0.heap.size + 3]? = some (.cells (cl B).toArray 24 (0, 0))
  len : B.length = 64
  hk : Kept w0 W
theorem Bb.kept {w0 W W' : World} {p : Ps} {m : Mv} {f t : Nat} {B : List Int} (h : Bb w0 p m f t W B) (k : Kept W W') : Bb w0 p m f t W' B :=
  ⟨h.hp.kept k, h.hm.kept k, h.ef, h.et, k.heap h.hr, k.heap h.hb, h.len, h.hk.trans k⟩
theorem Bb.cf {w0 W : World} {p : Ps} {m : Mv} {f t : Nat} {B : List Int} (h : Bb w0 p m f t W B) : W.cell? ⟨w0.heap.size + 1, 0, none⟩ = some (.int .i64 (f : Int)) := by rw [← h.ef]; exact h.hm.f
theorem Bb.ct {w0 W : World} {p : Ps} {m : Mv} {f t : Nat} {B : List Int} (h : Bb w0 p m f t W B) : W.cell? ⟨w0.heap.size + 1, 1, none⟩ = some (.int .i64 (t : Int)) := by rw [← h.et]; exact h.hm.t
theorem Bb.cell {w0 W : World} {p : Ps} {m : Mv} {f t : Nat} {B : List Int} (h : Bb w0 p m f t W B) (k : Nat) (hk : k < 64) : W.cell? ⟨w0.heap.size + 3, k, none⟩ = some (.int .i8 (B.getD k 0)) := cell_cl h.len h.hb k hk
theorem Bb.frozen {w0 W : World} {p : Ps} {m : Mv} {f t : Nat} {B : List Int} (h : Bb w0 p m f t W B) (k : Nat) : W.frozen? ⟨w0.heap.size + 3, k, none⟩ = false := frozen_of_row W _ k _ _ h.hb
theorem Bb.set {w0 W : World} {p : Ps} {m : Mv} {f t : Nat} {B : List Int} (h : Bb w0 p m f t W B) (k : Nat) (x : Int) : Bb w0 p m f t (W.setCell ⟨w0.heap.size + 3, k, none⟩ (.int .i8 x)) (B.set k x) := by
  have hn : ∀ j, j < w0.heap.size + 3 → (W.setCell ⟨w0.heap.size + 3, k, none⟩ (.int .i8 x)).heap[j]? = W.heap[j]? := fun j hj => heap_setCell_other W ⟨w0.heap.size + 3, k, none⟩ j (.int .i8 x) (by show j ≠ w0.heap.size + 3; omega)
  exact ⟨⟨h.hp.len, (hn _ (by omega)).trans h.hp.at_⟩, ⟨(hn _ (by omega)).trans h.hm.at_⟩, h.ef, h.et, (hn _ (by omega)).trans h.hr, heap_set_cl (k := k) x h.hb, by simpa using h.len, h.hk.setCell (p := ⟨w0.heap.size + 3, k, none⟩) (by show w0.heap.size ≤ w0.heap.size + 3; omega) _⟩
end Go.Proofs.YtgcippicdhaaeaaGreatDoor
namespace Go.Proofs.YtgcippicdhaaeaaGreatDoor
open Go.RowKit
set_option linter.unusedVariables false
set_option linter.unusedSimpArgs false
set_option maxRecDepth 100000

theorem form_promo {p : Ps} {m : Mv} (h : formB p m = true) : promoB m.p = true := by
  unfold formB at h
  rw [Bool.and_eq_true] at h
  exact h.2
end Go.Proofs.YtgcippicdhaaeaaGreatDoor
namespace Go.Proofs.YtgcippicdhaaeaaGreatDoor
open Go.RowKit
set_option linter.unusedVariables false
set_option linter.unusedSimpArgs false
set_option maxRecDepth 100000

theorem promo_turn (n : Int) : ((true == (n != 0)) && promoB n) = (decide (2 ≤ n) && decide (n ≤ 5)) := by
  rw [Bool.eq_iff_iff]
  simp only [promoB, Bool.and_eq_true, Bool.or_eq_true, beq_iff_eq, decide_eq_true_eq, bne_iff_ne]
  constructor
  · rintro ⟨h1, h2⟩
    have h1' : n ≠ 0 := bne_iff_ne.1 h1.symm
    exact h2.resolve_left h1'
  · intro h
    exact ⟨(bne_iff_ne.2 (by omega)).symm, .inr h⟩
theorem promo_stay (n : Int) : ((false == (n != 0)) && promoB n) = (n == 0) := by
  rw [Bool.eq_iff_iff]
  simp only [promoB, Bool.and_eq_true, Bool.or_eq_true, beq_iff_eq, decide_eq_true_eq, bne_iff_ne]
  constructor
  · rintro ⟨h1, h2⟩
    by_cases h : n = 0
    · exact h
    · have := (bne_iff_ne (a := n) (b := 0)).2 h
      rw [← h1] at this; cases this
  · intro h
    subst h
    exact ⟨rfl, .inl rfl⟩
/-- The king that has the kth right. -/
def kgm (k : Nat) : Int := [6, 6, -6, -6].getD k 0
theorem cas_king {p : Ps} (h : casB p = true) {k : Nat} (hk : k < 4) (hr : rgtB p.c (hR k) = true) : p.B.getD (hKg k) 0 = kgm k ∧ p.B.getD (hRk k) 0 = mkI 4 (hS k) := by
  have ho : okC p k = true := by
    unfold casB at h
    simp only [Bool.and_eq_true] at h
    have : k = 0 ∨ k = 1 ∨ k = 2 ∨ k = 3 := by omega
    rcases this with rfl | rfl | rfl | rfl
    · exact h.1.1.1
    · exact h.1.1.2
    · exact h.1.2
    · exact h.2
  unfold okC at ho
  rw [hr, Bool.not_true, Bool.false_or, back_at p.B k hk, Bool.and_eq_true, beq_iff_eq, beq_iff_eq] at ho
  refine ⟨ho.1.trans ?_, ho.2⟩
  have : k = 0 ∨ k = 1 ∨ k = 2 ∨ k = 3 := by omega
  rcases this with rfl | rfl | rfl | rfl <;> rfl
theorem promo_five' {n : Int} (h : promoB n = true) : n = 0 ∨ n = 2 ∨ n = 3 ∨ n = 4 ∨ n = 5 := by
  unfold promoB at h
  simp only [Bool.or_eq_true, Bool.and_eq_true, beq_iff_eq, decide_eq_true_eq] at h
  omega
theorem other_at {t : Int} (h : t = 0 ∨ t = 1) : otherI t = 1 - t := by unfold otherI; split <;> first | omega | (split <;> omega)
/-- What a formed move says. -/
structure Fm (p : Ps) (m : Mv) (f t : Nat) : Prop where
  hf : m.f = f
  ht : m.t = t
  f1 : f < 64
  t1 : t < 64
  brd : Brd p.B
  right : pwI p = 0
  t01 : p.t = 0 ∨ p.t = 1
  own : sideI (p.B.getD f 0) = p.t
  oth : sideI (p.B.getD t 0) ≠ p.t
  pro : ((kindI (p.B.getD f 0) == 1) && ((t : Int) / 8 == lastI p.t)) = (m.p != 0)
  prm : promoB m.p = true
theorem form_of {p : Ps} {m : Mv} (hB : Brd p.B) (h : okM p m = true) : ∃ f t : Nat, Fm p m f t := by
  obtain ⟨hw, hf⟩ := okM_right h
  have ho := okM_on h
  obtain ⟨f, ef⟩ := Int.eq_ofNat_of_zero_le ho.f0
  obtain ⟨t, et⟩ := Int.eq_ofNat_of_zero_le ho.t0
  have f1 : f < 64 := by have := ho.f1; omega
  have t1 : t < 64 := by have := ho.t1; omega
  have em : manA p.B m.f = p.B.getD f 0 := by unfold manA bAt; rw [if_pos ⟨ho.f0, ho.f1⟩, ef, Int.toNat_natCast]
  have en : manA p.B m.t = p.B.getD t 0 := by unfold manA bAt; rw [if_pos ⟨ho.t0, ho.t1⟩, et, Int.toNat_natCast]
  unfold formB turnsB at hf
  rw [em, en, et] at hf
  simp only [Bool.and_eq_true, beq_iff_eq, Bool.not_eq_true'] at hf
  obtain ⟨⟨⟨⟨h1, h2⟩, h3⟩, h4⟩, h5⟩ := hf
  exact ⟨f, t, ef, et, f1, t1, hB, hw, (right_t hw).1, h1, by simpa using h3, h4, h5⟩
theorem side_man {x t : Int} (ht : t = 0 ∨ t = 1) (h : sideI x = t) : manB x = true ∧ (t = 0 ↔ 0 < x) := by
  unfold sideI at h
  cases hb : manB x
  · rw [hb] at h; simp at h; omega
  · rw [hb, if_pos rfl] at h
    refine ⟨rfl, ?_⟩
    split at h <;> omega
/-- Castling: who castles is the king, at home; the rook stands at home; between them nobody. -/
structure Cs (p : Ps) (m : Mv) (f t k : Nat) : Prop where
  k4 : k < 4
  ef : f = hKg k
  et : t = wTo k
  king : p.B.getD f 0 = kgm k
  rook : p.B.getD (hRk k) 0 = mkI 4 p.t
  free : freeB p.B k = true
  side : p.t = hS k
theorem cast_of {p : Ps} {m : Mv} {f t : Nat} (h : Fm p m f t) {k : Nat} (hk : k < 4) (hc : castN p m = k) : Cs p m f t k := by
  have hb := cast_is hk hc
  unfold castB at hb
  simp only [Bool.and_eq_true, beq_iff_eq] at hb
  obtain ⟨⟨⟨h1, h2⟩, h3⟩, h4⟩ := hb
  have ef : f = hKg k := by have := h.hf; omega
  have et : t = wTo k := by have := h.ht; omega
  obtain ⟨q1, q2⟩ := cas_king (right_pos h.right).2.2.2.1 hk h1
  have hs : p.t = hS k := by
    have ho := h.own
    rw [ef, q1] at ho
    have : k = 0 ∨ k = 1 ∨ k = 2 ∨ k = 3 := by omega
    rcases this with rfl | rfl | rfl | rfl <;> exact ho.symm
  exact ⟨hk, ef, et, by rw [ef]; exact q1, by rw [hs]; exact q2, h4, hs⟩
theorem king_kind (k : Nat) (hk : k < 4) : (kindI (kgm k) == 1) = false ∧ kgm k ≠ 0 := by
  have : k = 0 ∨ k = 1 ∨ k = 2 ∨ k = 3 := by omega
  rcases this with rfl | rfl | rfl | rfl <;> exact ⟨rfl, by decide⟩
theorem Cs.no_promo {p : Ps} {m : Mv} {f t k : Nat} (c : Cs p m f t k) (h : Fm p m f t) : m.p = 0 := by
  have := h.pro
  rw [c.king, (king_kind k c.k4).1] at this
  have h2 := this.symm
  simpa using h2
theorem getD_set (B : List Int) (i j : Nat) (x : Int) (h : i < B.length) : (B.set i x).getD j 0 = if i = j then x else B.getD j 0 := by
  rw [List.getD_eq_getElem?_getD, List.getElem?_set, List.getD_eq_getElem?_getD]
  split
  · rfl
  · rfl
end Go.Proofs.YtgcippicdhaaeaaGreatDoor
