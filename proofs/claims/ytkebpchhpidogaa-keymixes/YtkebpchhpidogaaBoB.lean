/- Counting and seeking on boards: Many, Where, the document's Right and Where. -/
import Derived.Test.YtkebpchhpidogaaBoA
namespace Go.Proofs.Ytkebpchhpidogaa
set_option maxRecDepth 100000
open Go.RowKit
set_option linter.unusedVariables false

/-- The numbers below n that p holds for, rising. -/
def sel (p : Nat → Bool) (n : Nat) : List Nat := (List.range n).filter p
theorem sel_yes {p : Nat → Bool} {n : Nat} (h : p n = true) : sel p (n + 1) = sel p n ++ [n] := by
  simp [sel, List.range_succ, List.filter_append, h]
theorem sel_no {p : Nat → Bool} {n : Nat} (h : p n = false) : sel p (n + 1) = sel p n := by
  simp [sel, List.range_succ, List.filter_append, h]
theorem sel_le (p : Nat → Bool) (n : Nat) : (sel p n).length ≤ n := by
  have := List.length_filter_le p (List.range n)
  simpa [sel] using this
/-- How many of them there are. -/
def cnt (p : Nat → Bool) (n : Nat) : Nat := (sel p n).length
theorem cnt_yes {p : Nat → Bool} {n : Nat} (h : p n = true) : cnt p (n + 1) = cnt p n + 1 := by simp [cnt, sel_yes h]
theorem cnt_no {p : Nat → Bool} {n : Nat} (h : p n = false) : cnt p (n + 1) = cnt p n := by simp [cnt, sel_no h]
theorem cnt_le (p : Nat → Bool) (n : Nat) : cnt p n ≤ n := sel_le p n
/-- Is it a man of that kind (0: any) and side? -/
def hit (kind side x : Int) : Bool := manB x && (sideI x == side) && (kind == 0 || kindI x == kind)
def many (B : List Int) (kind side : Int) : Nat := cnt (fun i => hit kind side (B.getD i 0)) 64
/-- May a number stand on a board? May all of them? -/
def okB (x : Int) : Bool := x == 0 || manB x
def rightB (B : List Int) : Bool := B.all okB
/-- The first number below n that p holds for, or none. -/
theorem first_or (p : Nat → Bool) (n : Nat) : (∀ i, i < n → p i = false) ∨ ∃ k, k < n ∧ p k = true ∧ ∀ i, i < k → p i = false := by
  induction n with
  | zero => exact .inl (fun i hi => by omega)
  | succ n ih =>
    rcases ih with h | ⟨k, hk, h1, h2⟩
    · by_cases hp : p n = true
      · exact .inr ⟨n, by omega, hp, h⟩
      · refine .inl (fun i hi => ?_)
        by_cases he : i = n
        · subst he; simpa using hp
        · exact h i (by omega)
    · exact .inr ⟨k, by omega, h1, h2⟩
theorem getD_at (B : List Int) (i : Nat) (h : i < B.length) : B.getD i 0 = B[i] := by simp [List.getD, List.getElem?_eq_getElem h]
theorem rightB_iff (B : List Int) (hB : B.length = 64) : rightB B = true ↔ ∀ i, i < 64 → okB (B.getD i 0) = true := by
  unfold rightB
  rw [List.all_eq_true]
  constructor
  · intro h i hi
    have : i < B.length := by omega
    rw [getD_at _ _ this]
    exact h _ (List.getElem_mem this)
  · intro h x hx
    obtain ⟨i, hi, rfl⟩ := List.getElem_of_mem hx
    have := h i (by omega)
    rwa [getD_at _ _ hi] at this
def edgeB (B : List Int) : Bool := (List.range 64).any (edge B)
end Go.Proofs.Ytkebpchhpidogaa
