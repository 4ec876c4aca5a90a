/- MvH: my texts, in their order. -/
import Derived.Test.YtfekipadkenhpaaGreatDoorPkL
namespace Go.Proofs.YtfekipadkenhpaaGreatDoor
open Go.RowKit
set_option linter.unusedVariables false
set_option linter.unusedSimpArgs false
set_option maxRecDepth 100000
/-- Two moves compared. -/
def beqM (a b : Mv) : Bool := (a.f == b.f) && (a.t == b.t) && (a.p == b.p)
theorem beqM_iff (a b : Mv) : beqM a b = true ↔ a = b := by
 obtain ⟨f, t, p⟩ := a
 obtain ⟨f', t', p'⟩ := b
 simp [beqM, and_assoc]
/-- Which of two numbers is ahead. -/
def cmpI (x y : Int) : Int := if x < y then -1 else if y < x then 1 else 0
theorem nan_is (x : Int) (w : World) : Calls Tryz.prog 166 #[.int .i64 x] w fun e w' => e = .returned (.bool false) ∧ w = w' := by
 go_enter Tryz.func166, Tryz.ntmps166
 go_wp2
 go_ret
 exact ⟨by simp, rfl⟩
/-- The first of three that isn't 0. -/
def orI (l : List Int) : Int := if l.getD 0 0 ≠ 0 then l.getD 0 0 else if l.getD 1 0 ≠ 0 then l.getD 1 0 else if l.getD 2 0 ≠ 0 then l.getD 2 0 else 0
theorem or_at {l : List Int} {k : Nat} (hk : k < 3) (h : l.getD k 0 ≠ 0) (hn : ∀ j, j < k → l.getD j 0 = 0) : orI l = l.getD k 0 := by
 unfold orI
 have : k = 0 ∨ k = 1 ∨ k = 2 := by omega
 rcases this with rfl | rfl | rfl
 ·rw [if_pos h]
 ·rw [if_neg (by rw [hn 0 (by omega)]; simp), if_pos h]
 ·rw [if_neg (by rw [hn 0 (by omega)]; simp), if_neg (by rw [hn 1 (by omega)]; simp), if_pos h]
theorem or_none {l : List Int} (hn : ∀ j, j < 3 → l.getD j 0 = 0) : orI l = 0 := by
 unfold orI
 rw [if_neg (by rw [hn 0 (by omega)]; simp), if_neg (by rw [hn 1 (by omega)]; simp), if_neg (by rw [hn 2 (by omega)]; simp)]
/-- Is a move ahead of another one? -/
def lessB (a b : Mv) : Bool := if a.f ≠ b.f then decide (a.f < b.f) else if a.t ≠ b.t then decide (a.t < b.t) else decide (b.p < a.p)
theorem or_less (a b : Mv) : decide (orI [cmpI a.f b.f, cmpI a.t b.t, cmpI b.p a.p] < 0) = lessB a b := by
 unfold orI lessB cmpI
 simp only [List.getD_cons_zero, List.getD_cons_succ]
 by_cases f1 : a.f < b.f
 ·have : a.f ≠ b.f := by omega
  simp [f1, this]
 ·by_cases f2 : b.f < a.f
  ·have : a.f ≠ b.f := by omega
   simp [f1, f2, this]
  ·have : a.f = b.f := by omega
   by_cases t1 : a.t < b.t
   ·have : a.t ≠ b.t := by omega
    simp [*]
   ·by_cases t2 : b.t < a.t
    ·have : a.t ≠ b.t := by omega
     simp [*]
    ·have : a.t = b.t := by omega
     by_cases p1 : b.p < a.p
     ·simp [*]
     ·by_cases p2 : a.p < b.p <;> simp [*]
theorem less_iff (a b : Mv) : lessB a b = true ↔ a.f < b.f ∨ (a.f = b.f ∧ (a.t < b.t ∨ (a.t = b.t ∧ b.p < a.p))) := by
 unfold lessB
 split
 ·simp only [decide_eq_true_eq]; omega
 ·split
  ·simp only [decide_eq_true_eq]; omega
  ·simp only [decide_eq_true_eq]; omega
theorem less_not {a b : Mv} (h : lessB a b = true) : lessB b a = false ∧ beqM a b = false := by
 have h1 := (less_iff a b).1 h
 constructor
 ·rw [Bool.eq_false_iff]; intro h2; have := (less_iff b a).1 h2; omega
 ·rw [Bool.eq_false_iff]; intro h2; rw [beqM_iff] at h2; rw [h2] at h1; omega
theorem less_eq {a b : Mv} (h : lessB a b = false) (h' : lessB b a = false) : beqM a b = true := by
 have h1 : ¬ _ := fun x => Bool.false_ne_true (h.symm.trans ((less_iff a b).2 x))
 have h2 : ¬ _ := fun x => Bool.false_ne_true (h'.symm.trans ((less_iff b a).2 x))
 obtain ⟨f, t, p⟩ := a
 obtain ⟨f', t', p'⟩ := b
 simp only [beqM, Bool.and_eq_true, beq_iff_eq]
 dsimp only at h1 h2
 omega
theorem less_trans {a b c : Mv} (h1 : lessB a b = true) (h2 : lessB b c = true) : lessB a c = true := by
 have a1 := (less_iff a b).1 h1
 have a2 := (less_iff b c).1 h2
 exact (less_iff a c).2 (by omega)
end Go.Proofs.YtfekipadkenhpaaGreatDoor
