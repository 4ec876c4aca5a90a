/- Contracts of Parse and of the document's Called: what a text that is a square's name is read as, and that no other text is one. -/
import Derived.Test.YtnlgjakohoimhaaDoorSqC
import Derived.Laws.RangeAny
namespace Go.Proofs.YtnlgjakohoimhaaDoor
open Go.RowKit
set_option linter.unusedVariables false


/-- What holds of Parse's two variables where it has read up to 'pos'. -/
def St (s : ByteArray) (pos : Nat) (f r : Int) : Prop :=
  (pos = 0 ∧ f = -1 ∧ r = -1)
  ∨ (0 < s.size ∧ pos = (Utf8.decode s 0).2 ∧ f = (Utf8.decode s 0).1 - 97 ∧ r = -1)
  ∨ (1 < s.size ∧ (Utf8.decode s 0).2 = 1 ∧ pos = 1 + (Utf8.decode s 1).2 ∧ f = (Utf8.decode s 0).1 - 97 ∧ r = (Utf8.decode s 1).1 - 49)
theorem St_0 {s : ByteArray} {f r : Int} (h : St s 0 f r) (h0 : 0 < s.size) : f = -1 ∧ r = -1 ∧ St s ((Utf8.decode s 0).2) ((Utf8.decode s 0).1 - 97) (-1) := by
  have hw := width_pos s 0 h0
  rcases h with h | h | h
  · exact ⟨h.2.1, h.2.2, .inr (.inl ⟨h0, rfl, rfl, rfl⟩)⟩
  · omega
  · omega
theorem St_1 {s : ByteArray} {f r : Int} (h : St s 1 f r) (h1 : 1 < s.size) : f = (Utf8.decode s 0).1 - 97 ∧ r = -1 ∧ St s (1 + (Utf8.decode s 1).2) ((Utf8.decode s 0).1 - 97) ((Utf8.decode s 1).1 - 49) := by
  have hw := width_pos s 1 h1
  rcases h with h | h | h
  · omega
  · exact ⟨h.2.2.1, h.2.2.2, .inr (.inr ⟨h1, h.2.1.symm, rfl, rfl, rfl⟩)⟩
  · omega
theorem two_bytes (s : ByteArray) (h : s.size = 2) : s = ⟨#[s[0], s[1]]⟩ := by
  obtain ⟨⟨l⟩⟩ := s
  match l, h with
  | [a, b], _ => rfl
theorem St_end {s : ByteArray} {pos : Nat} {f r : Int} (h : St s pos f r) (he : ¬ pos < s.size) (hn : ∀ n : Nat, n < 64 → s ≠ nameOf n) : f < 0 ∨ 8 ≤ f ∨ r < 0 ∨ 8 ≤ r := by
  rcases h with h | h | h
  · omega
  · omega
  · obtain ⟨h1, hw0, hp, hf, hr⟩ := h
    by_cases hall : f < 0 ∨ 8 ≤ f ∨ r < 0 ∨ 8 ≤ r
    · exact hall
    · exfalso
      have a0 : (s[0]'(by omega)).toNat < 128 := by
        by_cases g : (s[0]'(by omega)).toNat < 128
        · exact g
        · have := (decode_high s 0 (by omega) (by omega)).1; omega
      have a1 : (s[1]'(by omega)).toNat < 128 := by
        by_cases g : (s[1]'(by omega)).toNat < 128
        · exact g
        · have := (decode_high s 1 (by omega) (by omega)).1; omega
      have d0 := decode_ascii s 0 (by omega) a0
      have d1 := decode_ascii s 1 (by omega) a1
      rw [d0] at hf
      rw [d1] at hr hp
      simp only at hf hr hp
      have hs : s.size = 2 := by omega
      refine hn (((s[1]'(by omega)).toNat - 49) * 8 + ((s[0]'(by omega)).toNat - 97)) (by omega) ?_
      rw [nameOf]
      conv => lhs; rw [two_bytes s hs]
      congr 3
      · apply UInt8.toNat.inj
        simp
        omega
      · congr 1
        apply UInt8.toNat.inj
        simp
        omega
theorem St_name {n pos : Nat} (hn : n < 64) {f r : Int} (h : St (nameOf n) pos f r) (he : ¬ pos < 2) : f = n % 8 ∧ r = n / 8 := by
  have e0 : ((nameOf n)[0]'(by show 0 < 2; omega)).toNat = 97 + n % 8 := by
    show ((97 + ((n : Int) % 8).toNat).toUInt8).toNat = _
    simp; omega
  have e1 : ((nameOf n)[1]'(by show 1 < 2; omega)).toNat = 49 + n / 8 := by
    show ((49 + ((n : Int) / 8).toNat).toUInt8).toNat = _
    simp; omega
  have d0 := decode_ascii (nameOf n) 0 (by show 0 < 2; omega) (by omega)
  have d1 := decode_ascii (nameOf n) 1 (by show 1 < 2; omega) (by omega)
  rw [e0] at d0
  rw [e1] at d1
  unfold St at h
  rw [d0, d1] at h
  simp only at h
  rcases h with h | h | h
  · omega
  · omega
  · omega
theorem nameOf_size (n : Int) : (nameOf n).size = 2 := rfl
theorem nameOf_inj {a b : Nat} (ha : a < 64) (hb : b < 64) (h : nameOf a = nameOf b) : a = b := by
  have : ∀ x y : Fin 64, nameOf ((x : Nat) : Int) = nameOf ((y : Nat) : Int) → x = y := by decide +kernel
  exact congrArg Fin.val (this ⟨a, ha⟩ ⟨b, hb⟩ h)
theorem dash_no : ∀ n : Nat, n < 64 → (⟨#[45]⟩ : ByteArray) ≠ nameOf n := fun n hn h => by have := congrArg ByteArray.size h; simp [nameOf, ByteArray.size] at this
theorem dash_list (n : Nat) (hn : n < 64) : ((nameOf n).toList == [45]) = false := by
  rw [beq_eq_false_iff_ne, ByteArray.toList_eq]
  simp [nameOf]
end Go.Proofs.YtnlgjakohoimhaaDoor
