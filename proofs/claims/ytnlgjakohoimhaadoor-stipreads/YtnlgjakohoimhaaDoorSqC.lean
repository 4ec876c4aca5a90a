/- Contracts of Name and the document's Name, of wakes. -/
import Derived.Test.YtnlgjakohoimhaaDoorSqB
import Derived.Deep.QuietTactic
import Derived.BigQuiet
import Derived.Laws.Cover4
import Derived.WalkSpells
namespace Go.Proofs.YtnlgjakohoimhaaDoor
open Go.RowKit
set_option linter.unusedVariables false

/-- The name of a square's number, as bytes: the file's letter, the rank's digit. -/
def nameOf (s : Int) : ByteArray := ⟨#[(97 + (s % 8).toNat).toUInt8, (49 + (s / 8).toNat).toUInt8]⟩
theorem runes_name (n : Nat) (h : n < 64) : runesBytes [97 + (n : Int) % 8, 49 + (n : Int) / 8] = nameOf n := by
  have : ∀ m : Fin 64, runesBytes [97 + ((m : Nat) : Int) % 8, 49 + ((m : Nat) : Int) / 8] = nameOf ((m : Nat) : Int) := by decide +kernel
  exact this ⟨n, h⟩
theorem cut_name (n : Nat) (h : n < 64) : (⟨#[97, 98, 99, 100, 101, 102, 103, 104]⟩ : ByteArray).extract ((n : Int) % 8).toNat ((n : Int) % 8 + 1).toNat ++ (⟨#[49, 50, 51, 52, 53, 54, 55, 56]⟩ : ByteArray).extract ((n : Int) / 8).toNat ((n : Int) / 8 + 1).toNat = nameOf n := by
  have : ∀ m : Fin 64, (⟨#[97, 98, 99, 100, 101, 102, 103, 104]⟩ : ByteArray).extract (((m : Nat) : Int) % 8).toNat (((m : Nat) : Int) % 8 + 1).toNat ++ (⟨#[49, 50, 51, 52, 53, 54, 55, 56]⟩ : ByteArray).extract (((m : Nat) : Int) / 8).toNat (((m : Nat) : Int) / 8 + 1).toNat = nameOf ((m : Nat) : Int) := by decide +kernel
  exact this ⟨n, h⟩

theorem cut_name' (s : Int) (h0 : 0 ≤ s) (h1 : s < 64) : (⟨#[97, 98, 99, 100, 101, 102, 103, 104]⟩ : ByteArray).extract (s % 8).toNat (s % 8 + 1).toNat ++ (⟨#[49, 50, 51, 52, 53, 54, 55, 56]⟩ : ByteArray).extract (s / 8).toNat (s / 8 + 1).toNat = nameOf s := by
  obtain ⟨n, rfl⟩ := Int.eq_ofNat_of_zero_le h0
  exact cut_name n (by omega)

end Go.Proofs.YtnlgjakohoimhaaDoor
