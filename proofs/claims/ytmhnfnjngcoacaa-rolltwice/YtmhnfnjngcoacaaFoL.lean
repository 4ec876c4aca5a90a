/- Writing: a digit, a letter, a row. -/
import Derived.Test.YtmhnfnjngcoacaaFoK
import Derived.Test.YtmhnfnjngcoacaaFoE
import Derived.Test.YtmhnfnjngcoacaaShelf
namespace Go.Proofs.Ytmhnfnjngcoacaa
open Go.RowKit
set_option linter.unusedVariables false
set_option linter.unusedSimpArgs false

theorem bs_eq {a : ByteArray} {l : List UInt8} (h : a.data.toList = l) : a = ⟨l.toArray⟩ := by
  obtain ⟨⟨x⟩⟩ := a
  simp at h
  rw [h]
theorem bs_app (a b : ByteArray) : (a ++ b).data.toList = a.data.toList ++ b.data.toList := by
  simp [ByteArray.data_append]
theorem letter_any (m : Int) (h : okB m = true) (w : World) :
    Calls Try.prog 18 #[.int .i64 m] w fun e w' => e = .returned (.string ⟨(lettM m).toArray⟩) ∧ Grown w w' := by
  unfold lettM
  by_cases h0 : m = 0
  · rw [if_pos h0]
    exact letter_no m w (by omega)
  · rw [if_neg h0]
    have hm : manB m = true := by
      unfold okB at h
      have : (m == 0) = false := by simpa using h0
      simpa [this] using h
    obtain ⟨h1, h2⟩ := ordN_lt m hm
    have := letter_yes (ordN m) h1 w
    rw [h2] at this
    exact this
theorem at_nat (f r : Nat) (w : World) (hf : f < 8) (hr : r < 8) :
    Calls Try.prog 51 #[.int .i64 f, .int .i64 r] w fun e w' => e = .returned (.tuple #[.int .i64 ((8 * r + f : Nat) : Int), .bool true]) ∧ w = w' := by
  have := at_yes f r w (by omega) (by omega) (by omega) (by omega)
  rwa [show (r : Int) * 8 + (f : Int) = ((8 * r + f : Nat) : Int) by omega] at this
theorem drop_row (B : List Int) (r f : Nat) (h : f < 8) : (rowL B r).drop f = B.getD (8 * r + f) 0 :: (rowL B r).drop (f + 1) := by
  rw [List.drop_eq_getElem_cons (by rw [rowL_len]; exact h), ← getD_at, rowL_get _ _ _ h]
end Go.Proofs.Ytmhnfnjngcoacaa
