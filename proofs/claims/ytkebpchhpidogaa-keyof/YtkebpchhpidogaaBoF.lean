/- Index and King. -/
import Derived.Test.YtkebpchhpidogaaBoE
namespace Go.Proofs.Ytkebpchhpidogaa
set_option maxRecDepth 100000
open Go.RowKit
set_option linter.unusedVariables false

/-- The first of a list of squares; -1 of none. -/
def headI : List Nat → Int
  | [] => -1
  | a :: _ => a
theorem sel_none {p : Nat → Bool} {n : Nat} (h : ∀ i, i < n → p i = false) : sel p n = [] := by
  unfold sel
  rw [List.filter_eq_nil_iff]
  intro i hi
  rw [h i (by simpa using hi)]
  decide
theorem sel_first {p : Nat → Bool} {k : Nat} (h1 : p k = true) (h2 : ∀ i, i < k → p i = false) (n : Nat) (hn : k < n) : ∃ t, sel p n = k :: t := by
  induction n with
  | zero => omega
  | succ n ih =>
    by_cases hk : k < n
    · obtain ⟨t, ht⟩ := ih hk
      cases hp : p n
      · exact ⟨t, by rw [sel_no hp, ht]⟩
      · exact ⟨t ++ [n], by rw [sel_yes hp, ht]; rfl⟩
    · have : k = n := by omega
      subst this
      exact ⟨[], by rw [sel_yes h1, sel_none h2]; rfl⟩
theorem headI_bd (B : List Int) (x : Int) : -1 ≤ headI (whereL B x) ∧ headI (whereL B x) < 64 := by
  cases h : whereL B x with
  | nil => exact ⟨by decide, by decide⟩
  | cons a t =>
    have : a ∈ whereL B x := by rw [h]; simp
    simp [whereL, sel] at this
    show -1 ≤ (a : Int) ∧ (a : Int) < 64
    omega
end Go.Proofs.Ytkebpchhpidogaa
