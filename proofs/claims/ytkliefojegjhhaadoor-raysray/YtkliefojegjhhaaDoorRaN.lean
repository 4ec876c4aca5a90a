/- Lines back and rays back: every square tried. -/
import Derived.Test.YtkliefojegjhhaaDoorRaM
namespace Go.Proofs.YtkliefojegjhhaaDoor
set_option linter.unusedVariables false
set_option linter.unusedSimpArgs false

def backB (a b : Nat) : Bool := lineL (b : Int) (a : Int) == (lineL (a : Int) (b : Int)).reverse
theorem line_back0 : (List.range' 0 8).all (fun a => (List.range 64).all fun b => backB a b) = true := by decide +kernel
theorem line_back1 : (List.range' 8 8).all (fun a => (List.range 64).all fun b => backB a b) = true := by decide +kernel
theorem line_back2 : (List.range' 16 8).all (fun a => (List.range 64).all fun b => backB a b) = true := by decide +kernel
theorem line_back3 : (List.range' 24 8).all (fun a => (List.range 64).all fun b => backB a b) = true := by decide +kernel
theorem line_back4 : (List.range' 32 8).all (fun a => (List.range 64).all fun b => backB a b) = true := by decide +kernel
theorem line_back5 : (List.range' 40 8).all (fun a => (List.range 64).all fun b => backB a b) = true := by decide +kernel
theorem line_back6 : (List.range' 48 8).all (fun a => (List.range 64).all fun b => backB a b) = true := by decide +kernel
theorem line_back7 : (List.range' 56 8).all (fun a => (List.range 64).all fun b => backB a b) = true := by decide +kernel
theorem in_eight (a : Nat) (h : a < 64) : a ∈ List.range' 0 8 ∨ a ∈ List.range' 8 8 ∨ a ∈ List.range' 16 8 ∨ a ∈ List.range' 24 8 ∨ a ∈ List.range' 32 8 ∨ a ∈ List.range' 40 8 ∨ a ∈ List.range' 48 8 ∨ a ∈ List.range' 56 8 := by
  simp only [List.mem_range'_1]; omega
theorem line_backs (a : Nat) (h : a < 64) : ((List.range 64).all fun b => backB a b) = true := by
  rcases in_eight a h with h | h | h | h | h | h | h | h
  · exact List.all_eq_true.1 line_back0 a h
  · exact List.all_eq_true.1 line_back1 a h
  · exact List.all_eq_true.1 line_back2 a h
  · exact List.all_eq_true.1 line_back3 a h
  · exact List.all_eq_true.1 line_back4 a h
  · exact List.all_eq_true.1 line_back5 a h
  · exact List.all_eq_true.1 line_back6 a h
  · exact List.all_eq_true.1 line_back7 a h
theorem line_back (a b : Int) : lineL b a = (lineL a b).reverse := by
  by_cases h : 0 ≤ a ∧ a < 64 ∧ 0 ≤ b ∧ b < 64
  · obtain ⟨x, rfl⟩ := Int.eq_ofNat_of_zero_le h.1
    obtain ⟨y, rfl⟩ := Int.eq_ofNat_of_zero_le h.2.2.1
    have h1 := line_backs x (by omega)
    have h2 := List.all_eq_true.1 h1 y (by simp; omega)
    exact eq_of_beq h2
  · unfold lineL
    rw [lineN_off (by omega), lineN_off (by omega)]
    rfl
/-- Whose rays lead back. -/
def other (m : Int) : Int := if m = 1 ∨ m = -1 then -m else m
def metB (m s t : Int) : Bool := (ofL (other m) t).any fun l => l.contains s
def meetB (m s : Int) : Bool := (ofL m s).all fun l => l.all fun t => metB m s t
theorem meet0 : (List.range' 0 8).all (fun s => (List.range 13).all fun n => meetB ((n : Int) - 6) (s : Int)) = true := by decide +kernel
theorem meet1 : (List.range' 8 8).all (fun s => (List.range 13).all fun n => meetB ((n : Int) - 6) (s : Int)) = true := by decide +kernel
theorem meet2 : (List.range' 16 8).all (fun s => (List.range 13).all fun n => meetB ((n : Int) - 6) (s : Int)) = true := by decide +kernel
theorem meet3 : (List.range' 24 8).all (fun s => (List.range 13).all fun n => meetB ((n : Int) - 6) (s : Int)) = true := by decide +kernel
theorem meet4 : (List.range' 32 8).all (fun s => (List.range 13).all fun n => meetB ((n : Int) - 6) (s : Int)) = true := by decide +kernel
theorem meet5 : (List.range' 40 8).all (fun s => (List.range 13).all fun n => meetB ((n : Int) - 6) (s : Int)) = true := by decide +kernel
theorem meet6 : (List.range' 48 8).all (fun s => (List.range 13).all fun n => meetB ((n : Int) - 6) (s : Int)) = true := by decide +kernel
theorem meet7 : (List.range' 56 8).all (fun s => (List.range 13).all fun n => meetB ((n : Int) - 6) (s : Int)) = true := by decide +kernel
theorem meets (s : Nat) (h : s < 64) : ((List.range 13).all fun n => meetB ((n : Int) - 6) (s : Int)) = true := by
  rcases in_eight s h with h | h | h | h | h | h | h | h
  · exact List.all_eq_true.1 meet0 s h
  · exact List.all_eq_true.1 meet1 s h
  · exact List.all_eq_true.1 meet2 s h
  · exact List.all_eq_true.1 meet3 s h
  · exact List.all_eq_true.1 meet4 s h
  · exact List.all_eq_true.1 meet5 s h
  · exact List.all_eq_true.1 meet6 s h
  · exact List.all_eq_true.1 meet7 s h
theorem meet (m s : Int) : meetB m s = true := by
  by_cases h : -6 ≤ m ∧ m ≤ 6 ∧ 0 ≤ s ∧ s < 64
  · obtain ⟨y, rfl⟩ := Int.eq_ofNat_of_zero_le h.2.2.1
    have h1 := meets y (by omega)
    have h2 := List.all_eq_true.1 h1 (m + 6).toNat (by simp; omega)
    rwa [show ((m + 6).toNat : Int) - 6 = m by omega] at h2
  · have e : ofL m s = [] := by
      by_cases hm : -6 ≤ m ∧ m ≤ 6
      · exact ofN_off (by omega) 16
      · unfold ofL ofN
        rw [List.filter_eq_nil_iff.2 (fun w _ => by rw [goesB_none (by omega)]; simp)]
        rfl
    unfold meetB
    rw [e]
    rfl
theorem wake_of : ofL 4 0 = [[8, 16, 24, 32, 40, 48, 56], [1, 2, 3, 4, 5, 6, 7]] := by decide +kernel
theorem wake_line : lineL 0 63 = [9, 18, 27, 36, 45, 54] := by decide +kernel
end Go.Proofs.YtkliefojegjhhaaDoor
