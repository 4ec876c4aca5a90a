/- Contracts of Name and the document's Name, of wakes. -/
import Derived.Test.YtihmpglfghffiaaSqB
import Derived.Deep.QuietTactic
import Derived.BigQuiet
import Derived.Laws.Cover4
import Derived.WalkSpells
namespace Go.Proofs.Ytihmpglfghffiaa
open Go.RowKit
set_option linter.unusedVariables false

/-- The name of a square's number, as bytes: the file's letter, the rank's digit. -/
def nameOf (s : Int) : ByteArray := ⟨#[(97 + (s % 8).toNat).toUInt8, (49 + (s / 8).toNat).toUInt8]⟩
theorem runes_name (n : Nat) (h : n < 64) : runesBytes [97 + (n : Int) % 8, 49 + (n : Int) / 8] = nameOf n := by
  have : ∀ m : Fin 64, runesBytes [97 + ((m : Nat) : Int) % 8, 49 + ((m : Nat) : Int) / 8] = nameOf ((m : Nat) : Int) := by decide +kernel
  exact this ⟨n, h⟩
theorem cut_name (n : Nat) (h : n < 64) : (⟨#[97, 98, 99, 100, 101, 102, 103, 104]⟩ : ByteArray).extract ((n : Int) % 8).toNat ((n : Int) % 8 + 1).toNat ++ (⟨#[49, 50, 51, 52, 53, 54, 55, 56]⟩ : ByteArray).extract ((n : Int) / 8).toNat ((n : Int) / 8 + 1).toNat = nameOf n := by
  have : ∀ m : Fin 64, (⟨#[97, 98, 99, 100, 101, 102, 103, 104]⟩ : ByteArray).extract (((m : Nat) : Int) % 8).toNat (((m : Nat) : Int) % 8 + 1).toNat ++ (⟨#[49, 50, 51, 52, 53, 54, 55, 56]⟩ : ByteArray).extract (((m : Nat) : Int) / 8).toNat (((m : Nat) : Int) / 8 + 1).toNat = nameOf ((m : Nat) : Int) := by decide +kernel
  exact this ⟨n, h⟩

theorem cut_name' (s : Int) (h0 : 0 ≤ s) (h1 : s < 64) : (⟨#[97, 98, 99, 100, 101, 102, 103, 104]⟩ : ByteArray).extract (s % 8).toNat (s % 8 + 1).toNat ++ (⟨#[49, 50, 51, 52, 53, 54, 55, 56]⟩ : ByteArray).extract (s / 8).toNat (s / 8 + 1).toNat = nameOf s := by
  obtain ⟨n, rfl⟩ := Int.eq_ofNat_of_zero_le h0
  exact cut_name n (by omega)

theorem rname_no (s : Int) (w : World) (h : s < 0 ∨ 64 ≤ s) :
    Calls Try.prog 35 #[.int .i64 s] w fun e w' => e = .returned (.string ⟨#[45]⟩) ∧ w = w' := by
  go_enter Try.func35, Try.ntmps35
  go_wp2_with (go_at_call 39; refine (rright_no _ _ h).mono ?_; rintro e w' ⟨rfl, rfl⟩)
  go_ret
  exact ⟨rfl, rfl⟩
theorem rname_yes (s : Int) (w : World) (h0 : 0 ≤ s) (h1 : s < 64) :
    Calls Try.prog 35 #[.int .i64 s] w fun e w' => e = .returned (.string (nameOf s)) ∧ ∃ n, w' = w.drewN n := by
  have e1 : IntKind.i64.wrap (s % 8 + 1) = s % 8 + 1 := IntWalk.i64_in _ (by omega)
  have e2 : IntKind.i64.wrap (s / 8 + 1) = s / 8 + 1 := IntWalk.i64_in _ (by omega)
  have b1 : 0 ≤ s % 8 := by omega
  have b2 : s % 8 ≤ s % 8 + 1 := by omega
  have b3 : s % 8 + 1 ≤ 8 := by omega
  have c1 : 0 ≤ s / 8 := by omega
  have c2 : s / 8 ≤ s / 8 + 1 := by omega
  have c3 : s / 8 + 1 ≤ 8 := by omega
  go_enter Try.func35, Try.ntmps35
  go_wp2_with (first | (go_at_call 39; refine (rright_yes _ _ (by omega) (by omega)).mono ?_; rintro e w' ⟨rfl, rfl⟩) | (go_at_call 40; refine (rfile_yes _ _ (by omega) (by omega)).mono ?_; rintro e w' ⟨rfl, rfl⟩) | (go_at_call 41; refine (rrank_yes _ _ (by omega) (by omega)).mono ?_; rintro e w' ⟨rfl, rfl⟩))
  go_quiet (fail)
  go_wp2
  go_ret
  exact ⟨congrArg (fun b => Ending.returned (.string b)) (cut_name' s h0 h1), nq, rfl⟩

end Go.Proofs.Ytihmpglfghffiaa
