/- Contracts of pick and seek (ranges over the texts of letters and signs), of Letter and Sign, and of the document's Letter and Sign. -/
import Derived.Test.YtmhnfnjngcoacaaMeA
import Derived.Laws.Runes
import Derived.Laws.IdiomStrings
namespace Go.Proofs.Ytmhnfnjngcoacaa
open Go.RowKit
set_option linter.unusedVariables false

theorem inOrd_inj {a b : Nat} (ha : a < 12) (hb : b < 12) (h : a ≠ b) : inOrd a ≠ inOrd b := by
  unfold inOrd
  split <;> split <;> omega
theorem inOrd_man (n : Nat) (h : n < 12) : inOrd n ≠ 0 ∧ -6 ≤ inOrd n ∧ inOrd n ≤ 6 := by
  unfold inOrd
  split <;> omega
/-- Each man is the nth. -/
theorem man_inOrd (m : Int) (h0 : m ≠ 0) (h1 : -6 ≤ m) (h2 : m ≤ 6) : ∃ n : Nat, n < 12 ∧ m = inOrd n := by
  by_cases h : 0 < m
  · exact ⟨(6 - m).toNat, by omega, by unfold inOrd; rw [if_pos (by omega)]; omega⟩
  · exact ⟨(m + 12).toNat, by omega, by unfold inOrd; rw [if_neg (by omega)]; omega⟩
def letters : ByteArray := ⟨#[75, 81, 82, 66, 78, 80, 107, 113, 114, 98, 110, 112]⟩
def signs : ByteArray := ⟨#[226, 153, 148, 226, 153, 149, 226, 153, 150, 226, 153, 151, 226, 153, 152, 226, 153, 153, 226, 153, 154, 226, 153, 155, 226, 153, 156, 226, 153, 157, 226, 153, 158, 226, 153, 159]⟩
def runeL (n : Nat) : Nat := [75, 81, 82, 66, 78, 80, 107, 113, 114, 98, 110, 112].getD n 0
def runeS (n : Nat) : Nat := 9812 + n
/-- A text of twelve signs of k bytes each. -/
def Twelve (all : ByteArray) (k : Nat) (r : Nat → Nat) : Prop := all.size = 12 * k ∧ 1 ≤ k ∧ (∀ n, n < 12 → Utf8.decode all (k * n) = (r n, k)) ∧ (∀ a b, a < 12 → b < 12 → a ≠ b → r a ≠ r b) ∧ (∀ n, n < 12 → r n < 10000)
theorem twelve_letters : Twelve letters 1 runeL := by
  refine ⟨rfl, by omega, ?_, ?_, ?_⟩
  · have : ∀ n : Fin 12, Utf8.decode letters (1 * n.val) = (runeL n.val, 1) := by decide +kernel
    exact fun n h => this ⟨n, h⟩
  · have : ∀ a b : Fin 12, a.val ≠ b.val → runeL a.val ≠ runeL b.val := by decide +kernel
    exact fun a b ha hb => this ⟨a, ha⟩ ⟨b, hb⟩
  · have : ∀ n : Fin 12, runeL n.val < 10000 := by decide +kernel
    exact fun n h => this ⟨n, h⟩
theorem twelve_signs : Twelve signs 3 runeS := by
  refine ⟨rfl, by omega, ?_, ?_, ?_⟩
  · have : ∀ n : Fin 12, Utf8.decode signs (3 * n.val) = (runeS n.val, 3) := by decide +kernel
    exact fun n h => this ⟨n, h⟩
  · unfold runeS; omega
  · unfold runeS; omega
/-- One step of a range over such a text. -/
theorem twelve_next {all : ByteArray} {k : Nat} {r : Nat → Nat} (h : Twelve all k r) (w : World) (j : Nat) (hj : j < 12) (ty : TypeId) :
    (Instr.next (.pointer (some ⟨w.heap.size, 0, none⟩)) true ty).run Try.prog (w.iter all (k * j)) = .ok (.tuple #[.bool true, .int .i64 (k * j : Nat), .int .i32 (r j : Nat)]) (w.iter all (k * (j + 1))) := by
  have hp : k * j < all.size := by rw [h.1, Nat.mul_comm]; exact Nat.mul_lt_mul_of_pos_right hj h.2.1
  rw [run_next_any w all (k * j) ty hp, h.2.2.1 j hj, Nat.mul_succ]
theorem twelve_end {all : ByteArray} {k : Nat} {r : Nat → Nat} (h : Twelve all k r) (w : World) (ty : TypeId) :
    (Instr.next (.pointer (some ⟨w.heap.size, 0, none⟩)) true ty).run Try.prog (w.iter all (k * 12)) = .ok (.tuple #[.bool false]) (w.iter all (k * 12)) :=
  run_next_end w all (k * 12) ty (by rw [h.1, Nat.mul_comm]; omega)

theorem pick_yes (all : ByteArray) (k : Nat) (r : Nat → Nat) (T : Twelve all k r) (n : Nat) (hn : n < 12) (w : World) :
    Calls Try.prog 31 #[.string all, .int .i64 (inOrd n)] w fun e w' => e = .returned (.string (Utf8.encode (r n : Nat))) ∧ Grown w w' := by
  have HT := Lib.hid T
  clear T
  go_enter Try.func31, Try.ntmps31
  go_wp2
  go_loopw [5] (fun t5 w' => ∃ j : Nat, j ≤ n ∧ t5 = .int .i64 j ∧ w' = w.iter all (k * j)) (fun t5 _ => 12 - (intOf t5).toNat)
  case atStart => exact ⟨0, by omega, rfl, rfl⟩
  case round =>
    obtain ⟨j, hj, rfl, rfl⟩ := hrel
    have hnx := twelve_next HT.out w j (by omega)
    by_cases he : j = n
    · subst he
      go_wp2_with fail
      refine (inOrder_is j _ (by omega)).mono ?_
      rintro e w' ⟨rfl, rfl⟩
      go_wp2
      go_ret
      exact ⟨rfl, grown_iter _ _ _⟩
    · have b1 : (inOrd j == inOrd n) = false := beq_eq_false_iff_ne.2 (inOrd_inj (by omega) (by omega) he)
      have hlt : j < n := by omega
      clear he
      go_wp2_with fail
      refine (inOrder_is j _ (by omega)).mono ?_
      rintro e w' ⟨rfl, rfl⟩
      go_wp2
      go_roundw
      case rel => exact ⟨j + 1, by omega, by go_num, rfl⟩
      case measure => simp [intOf]; omega
theorem pick_no (all : ByteArray) (k : Nat) (r : Nat → Nat) (T : Twelve all k r) (m : Int) (w : World) (h : m < -6 ∨ m = 0 ∨ 6 < m) :
    Calls Try.prog 31 #[.string all, .int .i64 m] w fun e w' => e = .returned (.string ⟨#[]⟩) ∧ Grown w w' := by
  have HT := Lib.hid T
  have H := Lib.hid h
  clear T h
  go_enter Try.func31, Try.ntmps31
  go_wp2
  go_loopw [5] (fun t5 w' => ∃ j : Nat, j ≤ 12 ∧ t5 = .int .i64 j ∧ w' = w.iter all (k * j)) (fun t5 _ => 12 - (intOf t5).toNat)
  case atStart => exact ⟨0, by omega, rfl, rfl⟩
  case round =>
    obtain ⟨j, hj, rfl, rfl⟩ := hrel
    by_cases he : j = 12
    · subst he
      have hnx := twelve_end HT.out w
      go_wp2
      go_ret
      exact ⟨rfl, grown_iter _ _ _⟩
    · have hnx := twelve_next HT.out w j (by omega)
      have b1 : (inOrd j == m) = false := beq_eq_false_iff_ne.2 (by have := inOrd_man j (by omega); have := H.out; omega)
      have hlt : j < 12 := by omega
      clear he
      go_wp2_with fail
      refine (inOrder_is j _ (by omega)).mono ?_
      rintro e w' ⟨rfl, rfl⟩
      go_wp2
      go_roundw
      case rel => exact ⟨j + 1, by omega, by go_num, rfl⟩
      case measure => simp [intOf]; omega
/-- The nth man's letter and sign, as bytes. -/
def lettN (n : Nat) : ByteArray := ⟨#[(runeL n).toUInt8]⟩
def signN (n : Nat) : ByteArray := ⟨#[226, 153, (148 + n).toUInt8]⟩
theorem enc_letter (n : Nat) (h : n < 12) : Utf8.encode (runeL n : Nat) = lettN n := by
  have : ∀ n : Fin 12, Utf8.encode (runeL n.val : Nat) = lettN n.val := by decide +kernel
  exact this ⟨n, h⟩
theorem enc_sign (n : Nat) (h : n < 12) : Utf8.encode (runeS n : Nat) = signN n := by
  have : ∀ n : Fin 12, Utf8.encode (runeS n.val : Nat) = signN n.val := by decide +kernel
  exact this ⟨n, h⟩
theorem letter_yes (n : Nat) (hn : n < 12) (w : World) :
    Calls Try.prog 18 #[.int .i64 (inOrd n)] w fun e w' => e = .returned (.string (lettN n)) ∧ Grown w w' := by
  go_enter Try.func18, Try.ntmps18
  go_wp2_with fail
  refine (pick_yes letters 1 runeL twelve_letters n hn _).mono ?_
  rw [enc_letter n hn]
  rintro e w1 ⟨rfl, g1⟩
  go_wp2
  go_ret
  exact ⟨rfl, g1⟩
theorem letter_no (m : Int) (w : World) (h : m < -6 ∨ m = 0 ∨ 6 < m) :
    Calls Try.prog 18 #[.int .i64 m] w fun e w' => e = .returned (.string ⟨#[]⟩) ∧ Grown w w' := by
  go_enter Try.func18, Try.ntmps18
  go_wp2_with fail
  refine (pick_no letters 1 runeL twelve_letters m _ h).mono ?_
  rintro e w1 ⟨rfl, gw1⟩
  go_wp2
  go_ret
  exact ⟨rfl, gw1⟩
theorem rletter_no (m : Int) (w : World) (h : m < -6 ∨ m = 0 ∨ 6 < m) :
    Calls Try.prog 14 #[.int .i64 m] w fun e w' => e = .returned (.string ⟨#[]⟩) ∧ w = w' := by
  go_enter Try.func14, Try.ntmps14
  go_wp2_with fail
  refine (rkind_no _ _ h).mono ?_
  rintro e w' ⟨rfl, rfl⟩
  go_wp2
  go_ret
  exact ⟨rfl, rfl⟩
theorem cut_w (n : Nat) (h : n < 6) : (⟨#[80, 78, 66, 82, 81, 75]⟩ : ByteArray).extract (6 - n - 1) (6 - n) = lettN n := by
  have : ∀ n : Fin 6, (⟨#[80, 78, 66, 82, 81, 75]⟩ : ByteArray).extract (6 - n.val - 1) (6 - n.val) = lettN n.val := by decide +kernel
  exact this ⟨n, h⟩
theorem cut_b (n : Nat) (h6 : 6 ≤ n) (h : n < 12) : (⟨#[112, 110, 98, 114, 113, 107]⟩ : ByteArray).extract (12 - n - 1) (12 - n) = lettN n := by
  have : ∀ n : Fin 12, 6 ≤ n.val → (⟨#[112, 110, 98, 114, 113, 107]⟩ : ByteArray).extract (12 - n.val - 1) (12 - n.val) = lettN n.val := by decide +kernel
  exact this ⟨n, h⟩ h6
theorem rletter_yes (n : Nat) (hn : n < 12) (w : World) :
    Calls Try.prog 14 #[.int .i64 (inOrd n)] w fun e w' => e = .returned (.string (lettN n)) ∧ w = w' := by
  by_cases h6 : n < 6
  · have e0 : inOrd n = 6 - (n : Int) := by unfold inOrd; rw [if_pos h6]
    have e1 : IntKind.i64.wrap (6 - (n : Int) - 1) = 6 - (n : Int) - 1 := IntWalk.i64_in _ (by omega)
    have b1 : 0 ≤ 6 - (n : Int) - 1 := by omega
    have b2 : 6 - (n : Int) - 1 ≤ 6 - (n : Int) := by omega
    have b3 : 6 - (n : Int) ≤ 6 := by omega
    have b4 : ((6 - (n : Int)) == 0) = false := beq_eq_false_iff_ne.2 (by omega)
    have b5 : 0 < 6 - (n : Int) := by omega
    rw [e0]
    go_enter Try.func14, Try.ntmps14
    go_wp2_with fail
    refine (rkind_yes _ (6 - (n : Int)) _ (.inl rfl) (by omega) (by omega)).mono ?_
    rintro e w' ⟨rfl, rfl⟩
    go_wp2
    go_ret
    exact ⟨congrArg (fun b => Ending.returned (.string b)) (cut_w n h6), rfl⟩
  · have e0 : inOrd n = (n : Int) - 12 := by unfold inOrd; rw [if_neg h6]
    have e1 : IntKind.i64.wrap (12 - (n : Int) - 1) = 12 - (n : Int) - 1 := IntWalk.i64_in _ (by omega)
    have b1 : 0 ≤ 12 - (n : Int) - 1 := by omega
    have b2 : 12 - (n : Int) - 1 ≤ 12 - (n : Int) := by omega
    have b3 : 12 - (n : Int) ≤ 6 := by omega
    have b4 : ((12 - (n : Int)) == 0) = false := beq_eq_false_iff_ne.2 (by omega)
    have b5 : decide (0 < (n : Int) - 12) = false := by simp; omega
    rw [e0]
    go_enter Try.func14, Try.ntmps14
    go_wp2_with fail
    refine (rkind_yes _ (12 - (n : Int)) _ (.inr (by omega)) (by omega) (by omega)).mono ?_
    rintro e w' ⟨rfl, rfl⟩
    go_wp2
    go_ret
    exact ⟨congrArg (fun b => Ending.returned (.string b)) (cut_b n (by omega) hn), rfl⟩
theorem conv_sign (x : Int) (n : Nat) (hx : x = 148 + n) (hn : n < 12) (w : World) :
    (convert 34 9 (.slice (some ⟨w.heap.size, 0, none⟩) 3 3)).run Try.prog (w.alloc (.cells #[.int .u8 226, .int .u8 153, .int .u8 x] 5)) = .ok (.string (signN n)) (w.alloc (.cells #[.int .u8 226, .int .u8 153, .int .u8 x] 5)) := by
  subst hx
  have h3 := run_convert_bytes_back (P := Try.prog) (w.alloc (.cells #[.int .u8 226, .int .u8 153, .int .u8 (148 + n)] 5)) 34 9 5 ⟨w.heap.size, 0, none⟩ 3 [226, 153, (148 + n).toUInt8] Try.underlying34 Try.underlying5 Try.underlying9 ?_
  · exact h3
  · intro j hj
    match j, hj with
    | 0, _ => simp [Addr.add, go_sem]
    | 1, _ => simp [Addr.add, go_sem]
    | 2, _ => simp [Addr.add, go_sem]; omega
end Go.Proofs.Ytmhnfnjngcoacaa
