/- MvO · MvP: my texts, in their order. -/
import Derived.Test.YtgcippicdhaaeaaGreatDoorPkE
import Derived.Test.YtgcippicdhaaeaaGreatDoorPkH
import Derived.Test.YtgcippicdhaaeaaGreatDoorPkL
namespace Go.Proofs.YtgcippicdhaaeaaGreatDoor
open Go.RowKit
set_option linter.unusedVariables false
set_option linter.unusedSimpArgs false
set_option maxRecDepth 100000

theorem Fm.on {p : Ps} {m : Mv} {f t : Nat} (h : Fm p m f t) : On m :=
  ⟨by have := h.hf; omega, by have := h.hf; have := h.f1; omega, by have := h.ht; omega, by have := h.ht; have := h.t1; omega⟩
end Go.Proofs.YtgcippicdhaaeaaGreatDoor
namespace Go.Proofs.YtgcippicdhaaeaaGreatDoor
open Go.RowKit
set_option linter.unusedVariables false
set_option linter.unusedSimpArgs false
set_option maxRecDepth 100000

/-- The move as the other side sees it. -/
def turnM (m : Mv) : Mv := ⟨flI m.f, flI m.t, m.p⟩
theorem flI_cast {k : Nat} (h : k < 64) : flI (k : Int) = (flipN k : Nat) := by
  have a := flI_on (s := (k : Int)) (by omega) (by omega)
  have b := (flI_nat (s := (k : Int)) (by omega) (by omega)).2
  rw [Int.toNat_natCast] at b
  omega
theorem flipN_div {k : Nat} (h : k < 64) : flipN k / 8 = 7 - k / 8 ∧ flipN k % 8 = k % 8 := by unfold flipN; omega
/-- Boards whose men are men. -/
def OkL (B : List Int) : Prop := B.length = 64 ∧ ∀ j, j < 64 → -6 ≤ B.getD j 0 ∧ B.getD j 0 ≤ 6
theorem OkL.brd {B : List Int} (h : OkL B) : Brd B := ⟨h.1, fun i hi => by have := h.2 i hi; omega⟩
theorem okL_of {p : Ps} (hB : Brd p.B) (h : pwI p = 0) : OkL p.B := by
  obtain ⟨a0, _⟩ := right_pos h
  obtain ⟨hr, _⟩ := king_one a0
  exact ⟨hB.1, fun j hj => okB_bd ((rightB_iff p.B hB.1).1 hr j hj)⟩
theorem OkL.turn {B : List Int} (h : OkL B) {j : Nat} (hj : j < 64) : (turnL B).getD j 0 = - B.getD (flipN j) 0 := by
  rw [turn_get B j hj]
  have := h.2 _ (flipN_lt hj)
  exact negI_is _ (by omega) (by omega)
theorem OkL.set {B : List Int} (h : OkL B) {i : Nat} (hi : i < 64) {x : Int} (h0 : -6 ≤ x) (h1 : x ≤ 6) : OkL (B.set i x) := by
  refine ⟨by simpa using h.1, fun j hj => ?_⟩
  rw [getD_set _ _ _ _ (by rw [h.1]; omega)]
  split
  · exact ⟨h0, h1⟩
  · exact h.2 j hj
theorem Fm.okL {p : Ps} {m : Mv} {f t : Nat} (h : Fm p m f t) : OkL p.B := okL_of h.brd h.right
theorem kind_mi {x : Int} : kindI (-x) = kindI x := by
  have hm : manB (-x) = manB x := by
    rw [Bool.eq_iff_iff, manB_iff, manB_iff]; omega
  unfold kindI
  rw [hm]
  split
  · next hb =>
    have := (manB_iff x).1 hb
    split <;> split <;> omega
  · rfl
theorem side_negT {x t : Int} (ht : t = 0 ∨ t = 1) : (sideI (-x) = 1 - t) ↔ sideI x = t := by
  have hm : manB (-x) = manB x := by
    rw [Bool.eq_iff_iff, manB_iff, manB_iff]; omega
  unfold sideI
  rw [hm]
  split
  · next hb =>
    have := (manB_iff x).1 hb
    split <;> split <;> omega
  · omega
theorem turnP_t {p : Ps} (h : p.t = 0 ∨ p.t = 1) : (turnP p).t = 1 - p.t := other_at h
theorem last_turn {t : Nat} (ht : t < 64) {s : Int} (hs : s = 0 ∨ s = 1) : (((flipN t : Nat) : Int) / 8 == lastI (1 - s)) = ((t : Int) / 8 == lastI s) := by
  have := flipN_div ht
  rw [Bool.eq_iff_iff, beq_iff_eq, beq_iff_eq]
  unfold lastI
  rcases hs with rfl | rfl
  · simp; omega
  · simp; omega
/-- The turned move is formed in the turned position. -/
theorem Fm.turn {p : Ps} {m : Mv} {f t : Nat} (h : Fm p m f t) : Fm (turnP p) (turnM m) (flipN f) (flipN t) := by
  have ok := h.okL
  have tf : (turnP p).B.getD (flipN f) 0 = - p.B.getD f 0 := by
    show (turnL p.B).getD (flipN f) 0 = _
    rw [ok.turn (flipN_lt h.f1), flipN_flip h.f1]
  have tt : (turnP p).B.getD (flipN t) 0 = - p.B.getD t 0 := by
    show (turnL p.B).getD (flipN t) 0 = _
    rw [ok.turn (flipN_lt h.t1), flipN_flip h.t1]
  have et := turnP_t h.t01
  refine ⟨?_, ?_, flipN_lt h.f1, flipN_lt h.t1, turn_brd h.brd, turnP_right h.brd h.right, by rw [et]; have := h.t01; omega, ?_, ?_, ?_, h.prm⟩
  · show flI m.f = _; rw [h.hf]; exact flI_cast h.f1
  · show flI m.t = _; rw [h.ht]; exact flI_cast h.t1
  · rw [tf, et]; exact (side_negT h.t01).2 h.own
  · rw [tt, et]; exact fun e => h.oth ((side_negT h.t01).1 e)
  · rw [tf, et, kind_mi, last_turn h.t1 h.t01]; exact h.pro
theorem Fm.ok {p : Ps} {m : Mv} {f t : Nat} (h : Fm p m f t) : okM p m = true := by
  have ho := h.on
  have em : manA p.B m.f = p.B.getD f 0 := by unfold manA bAt; rw [if_pos ⟨ho.f0, ho.f1⟩, h.hf, Int.toNat_natCast]
  have en : manA p.B m.t = p.B.getD t 0 := by unfold manA bAt; rw [if_pos ⟨ho.t0, ho.t1⟩, h.ht, Int.toNat_natCast]
  unfold okM formB turnsB
  rw [h.right, em, en, h.ht, h.own, h.pro, h.prm]
  have o1 : onB ((t : Nat) : Int) = true := by unfold onB; have := h.t1; simp; omega
  have o2 : (sideI (p.B.getD t 0) == p.t) = false := beq_eq_false_iff_ne.2 h.oth
  rw [o1, o2]
  simp
end Go.Proofs.YtgcippicdhaaeaaGreatDoor
