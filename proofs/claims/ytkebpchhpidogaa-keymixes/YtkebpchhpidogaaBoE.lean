/- The document's Many, and that it counts as the board's does; Index and King. -/
import Derived.Test.YtkebpchhpidogaaBoD
namespace Go.Proofs.Ytkebpchhpidogaa
set_option maxRecDepth 100000
open Go.RowKit
set_option linter.unusedVariables false

/-- How many of the kinds 1 .. j (or of the one that is asked) the document counts. -/
def term (B : List Int) (kind side : Int) (j n : Nat) : Nat :=
  if kind = 0 ∨ kind = (j : Int) then (if side = 0 then cnt (fun i => B.getD i 0 == (j : Int)) n else if side = 1 then cnt (fun i => B.getD i 0 == -(j : Int)) n else 0) else 0
def rsum (B : List Int) (kind side : Int) : Nat → Nat
  | 0 => 0
  | j + 1 => rsum B kind side j + term B kind side (j + 1) 64
theorem term_le (B : List Int) (kind side : Int) (j : Nat) : term B kind side j 64 ≤ 64 := by
  unfold term
  split
  · split
    · exact cnt_le _ _
    · split
      · exact cnt_le _ _
      · omega
  · omega
theorem rsum_le (B : List Int) (kind side : Int) (j : Nat) : rsum B kind side j ≤ 64 * j := by
  induction j with
  | zero => simp [rsum]
  | succ j ih => have := term_le B kind side (j + 1); simp only [rsum]; omega
theorem cnt_succ (p : Nat → Bool) (n : Nat) : cnt p (n + 1) = cnt p n + (p n).toNat := by
  cases h : p n
  · rw [cnt_no h]; rfl
  · rw [cnt_yes h]; rfl
theorem cnt_zero (p : Nat → Bool) : cnt p 0 = 0 := by simp [cnt, sel]
def one (kind side x : Int) (j : Nat) : Nat :=
  if kind = 0 ∨ kind = (j : Int) then (if side = 0 then (x == (j : Int)).toNat else if side = 1 then (x == -(j : Int)).toNat else 0) else 0
theorem term_succ (B : List Int) (kind side : Int) (j n : Nat) : term B kind side j (n + 1) = term B kind side j n + one kind side (B.getD n 0) j := by
  unfold term one
  split
  · split
    · rw [cnt_succ]
    · split
      · rw [cnt_succ]
      · rfl
  · rfl
theorem one_hit (kind side x : Int) : (hit kind side x).toNat = one kind side x 1 + one kind side x 2 + one kind side x 3 + one kind side x 4 + one kind side x 5 + one kind side x 6 := by
  by_cases hm : manB x = true
  · have h := (manB_iff x).1 hm
    have hx : x = -6 ∨ x = -5 ∨ x = -4 ∨ x = -3 ∨ x = -2 ∨ x = -1 ∨ x = 1 ∨ x = 2 ∨ x = 3 ∨ x = 4 ∨ x = 5 ∨ x = 6 := by omega
    have e1 : ∀ a b : Int, (a == b) = decide (a = b) := fun a b => by by_cases h : a = b <;> simp [h]
    have e2 : ∀ a : Int, decide (a = kind) = decide (kind = a) := fun a => by simp [eq_comm]
    have e3 : ∀ a : Int, decide (a = side) = decide (side = a) := fun a => by simp [eq_comm]
    rcases hx with rfl | rfl | rfl | rfl | rfl | rfl | rfl | rfl | rfl | rfl | rfl | rfl
    all_goals
      unfold hit sideI kindI one
      simp only [hm, e1, e2, e3]
      by_cases h0 : side = 0
      · subst h0
        by_cases k0 : kind = 0
        · subst k0; simp
        · simp [k0]; try (clear e1 e2 e3; split <;> simp_all)
      · by_cases h1 : side = 1
        · subst h1
          by_cases k0 : kind = 0
          · subst k0; simp
          · simp [k0]; try (clear e1 e2 e3; split <;> simp_all)
        · simp [h0, h1]
  · have hm' : manB x = false := by simpa using hm
    have h := (manB_not x).1 hm'
    have z : ∀ j : Nat, 1 ≤ j → j ≤ 6 → one kind side x j = 0 := by
      intro j h1 h2
      have a1 : (x == (j : Int)) = false := beq_eq_false_iff_ne.2 (by omega)
      have a2 : (x == -(j : Int)) = false := beq_eq_false_iff_ne.2 (by omega)
      unfold one
      rw [a1, a2]
      simp
    have hh : hit kind side x = false := by unfold hit; rw [hm']; rfl
    rw [hh, z 1 (by omega) (by omega), z 2 (by omega) (by omega), z 3 (by omega) (by omega), z 4 (by omega) (by omega), z 5 (by omega) (by omega), z 6 (by omega) (by omega)]
    rfl
theorem term_zero (B : List Int) (kind side : Int) (j : Nat) : term B kind side j 0 = 0 := by
  unfold term
  simp [cnt_zero]
theorem six_terms (B : List Int) (kind side : Int) (n : Nat) :
    term B kind side 1 n + term B kind side 2 n + term B kind side 3 n + term B kind side 4 n + term B kind side 5 n + term B kind side 6 n = cnt (fun i => hit kind side (B.getD i 0)) n := by
  induction n with
  | zero => simp [term_zero, cnt_zero]
  | succ n ih =>
    rw [cnt_succ, ← ih, one_hit]
    simp only [term_succ]
    omega
theorem rsum_six (B : List Int) (kind side : Int) : rsum B kind side 6 = many B kind side := by
  unfold many
  rw [← six_terms]
  simp only [rsum, Nat.reduceAdd]
  omega
end Go.Proofs.Ytkebpchhpidogaa
