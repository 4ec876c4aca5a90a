/- The document's Wrong; the examples; the walk of BoardWrong. -/
import Derived.Test.YtkebpchhpidogaaBoJ
namespace Go.Proofs.Ytkebpchhpidogaa
open Go.RowKit
set_option linter.unusedVariables false
set_option linter.unusedSimpArgs false
set_option maxRecDepth 100000

theorem hit_w (x : Int) : hit 6 0 x = (x == 6) := by
  rw [Bool.eq_iff_iff, beq_iff_eq]
  unfold hit sideI kindI
  by_cases h : manB x = true
  · have := (manB_iff x).1 h
    by_cases h0 : 0 < x
    · simp [h, h0]
    · simp [h, h0]; omega
  · have := (manB_not x).1 (by simpa using h)
    simp [h]; omega
theorem hit_b (x : Int) : hit 6 1 x = (x == -6) := by
  rw [Bool.eq_iff_iff, beq_iff_eq]
  unfold hit sideI kindI
  by_cases h : manB x = true
  · have := (manB_iff x).1 h
    by_cases h0 : 0 < x
    · simp [h, h0]; omega
    · simp [h, h0]; omega
  · have := (manB_not x).1 (by simpa using h)
    simp [h]; omega
theorem kings_w (B : List Int) : ((whereL B 6).length : Int) = manyI B 6 0 := by
  unfold manyI many whereL cnt
  simp only [hit_w]
theorem kings_b (B : List Int) : ((whereL B (-6)).length : Int) = manyI B 6 1 := by
  unfold manyI many whereL cnt
  simp only [hit_b]
/-- Does the document find a pawn on that file's first or last square? -/
def rEdge (B : List Int) (f : Nat) : Bool := B.getD f 0 == 1 || B.getD f 0 == -1 || B.getD (56 + f) 0 == 1 || B.getD (56 + f) 0 == -1
theorem edge_low (B : List Int) (f : Nat) (h : f < 8) : edge B f = (B.getD f 0 == 1 || B.getD f 0 == -1) := by
  unfold edge
  have e : (((f : Int) / 8 == 0)) = true := by rw [beq_iff_eq]; omega
  rw [e, kindI_one]; simp
theorem edge_high (B : List Int) (f : Nat) (h : f < 8) : edge B (56 + f) = (B.getD (56 + f) 0 == 1 || B.getD (56 + f) 0 == -1) := by
  unfold edge
  have e : ((((56 + f : Nat) : Int) / 8 == 7)) = true := by rw [beq_iff_eq]; omega
  rw [e, kindI_one]; simp
theorem edge_mid (B : List Int) (i : Nat) (h0 : 8 ≤ i) (h1 : i < 56) : edge B i = false := by
  unfold edge
  have e1 : (((i : Int) / 8 == 0)) = false := by rw [beq_eq_false_iff_ne]; omega
  have e2 : (((i : Int) / 8 == 7)) = false := by rw [beq_eq_false_iff_ne]; omega
  rw [e1, e2]; simp
theorem rEdge_edge (B : List Int) (f : Nat) (h : f < 8) : rEdge B f = (edge B f || edge B (56 + f)) := by
  rw [edge_low B f h, edge_high B f h]
  unfold rEdge
  simp only [Bool.or_assoc]
theorem edgeB_false (B : List Int) (h : ∀ f, f < 8 → rEdge B f = false) : edgeB B = false := by
  unfold edgeB
  rw [List.any_eq_false]
  intro i hi
  have hi : i < 64 := by simpa using hi
  by_cases h0 : i < 8
  · have := h i h0
    rw [rEdge_edge B i h0, Bool.or_eq_false_iff] at this
    rw [this.1]; decide
  · by_cases h1 : i < 56
    · rw [edge_mid B i (by omega) h1]; decide
    · have := h (i - 56) (by omega)
      rw [rEdge_edge B _ (by omega), Bool.or_eq_false_iff, show 56 + (i - 56) = i by omega] at this
      rw [this.2]; decide
theorem edgeB_true (B : List Int) (f : Nat) (hf : f < 8) (h : rEdge B f = true) : edgeB B = true := by
  unfold edgeB
  rw [List.any_eq_true]
  rw [rEdge_edge B f hf, Bool.or_eq_true] at h
  rcases h with h | h
  · exact ⟨f, by simp; omega, h⟩
  · exact ⟨56 + f, by simp; omega, h⟩
end Go.Proofs.Ytkebpchhpidogaa
