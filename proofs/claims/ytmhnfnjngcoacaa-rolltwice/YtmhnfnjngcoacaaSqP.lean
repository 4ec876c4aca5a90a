/- Parse at a square's name (beside SqD: its names of its own). -/
import Derived.Test.YtmhnfnjngcoacaaSqC
import Derived.Laws.RangeAny
namespace Go.Proofs.Ytmhnfnjngcoacaa
open Go.RowKit
set_option linter.unusedVariables false

def PSt (s : ByteArray) (pos : Nat) (f r : Int) : Prop :=
  (pos = 0 ∧ f = -1 ∧ r = -1)
  ∨ (0 < s.size ∧ pos = (Utf8.decode s 0).2 ∧ f = (Utf8.decode s 0).1 - 97 ∧ r = -1)
  ∨ (1 < s.size ∧ (Utf8.decode s 0).2 = 1 ∧ pos = 1 + (Utf8.decode s 1).2 ∧ f = (Utf8.decode s 0).1 - 97 ∧ r = (Utf8.decode s 1).1 - 49)
theorem PSt_0 {s : ByteArray} {f r : Int} (h : PSt s 0 f r) (h0 : 0 < s.size) : f = -1 ∧ r = -1 ∧ PSt s ((Utf8.decode s 0).2) ((Utf8.decode s 0).1 - 97) (-1) := by
  have hw := width_pos s 0 h0
  rcases h with h | h | h
  · exact ⟨h.2.1, h.2.2, .inr (.inl ⟨h0, rfl, rfl, rfl⟩)⟩
  · omega
  · omega
theorem PSt_1 {s : ByteArray} {f r : Int} (h : PSt s 1 f r) (h1 : 1 < s.size) : f = (Utf8.decode s 0).1 - 97 ∧ r = -1 ∧ PSt s (1 + (Utf8.decode s 1).2) ((Utf8.decode s 0).1 - 97) ((Utf8.decode s 1).1 - 49) := by
  have hw := width_pos s 1 h1
  rcases h with h | h | h
  · omega
  · exact ⟨h.2.2.1, h.2.2.2, .inr (.inr ⟨h1, h.2.1.symm, rfl, rfl, rfl⟩)⟩
  · omega
theorem PSt_name {n pos : Nat} (hn : n < 64) {f r : Int} (h : PSt (nameOf n) pos f r) (he : ¬ pos < 2) : f = n % 8 ∧ r = n / 8 := by
  have e0 : ((nameOf n)[0]'(by show 0 < 2; omega)).toNat = 97 + n % 8 := by
    show ((97 + ((n : Int) % 8).toNat).toUInt8).toNat = _
    simp; omega
  have e1 : ((nameOf n)[1]'(by show 1 < 2; omega)).toNat = 49 + n / 8 := by
    show ((49 + ((n : Int) / 8).toNat).toUInt8).toNat = _
    simp; omega
  have d0 := decode_ascii (nameOf n) 0 (by show 0 < 2; omega) (by omega)
  have d1 := decode_ascii (nameOf n) 1 (by show 1 < 2; omega) (by omega)
  rw [e0] at d0
  rw [e1] at d1
  unfold PSt at h
  rw [d0, d1] at h
  simp only at h
  rcases h with h | h | h
  · omega
  · omega
  · omega
theorem pname_size (n : Int) : (nameOf n).size = 2 := rfl
theorem parse_name (n : Nat) (w : World) (hn : n < 64) :
    Calls Try.prog 48 #[.string (nameOf n)] w fun e w' => e = .returned (.tuple #[.int .i64 n, .bool true]) ∧ Grown w w' := by
  have hsz := pname_size n
  have HS := Lib.hid (fun (pos : Nat) (f r : Int) (h : PSt (nameOf n) pos f r) (he : ¬ pos < 2) => PSt_name hn h he)
  have hq : n / 8 * 8 + n % 8 = n := by omega
  have HQ := Lib.hid hq
  clear hq
  generalize nameOf n = s at *
  have hsl : s.size ≤ 2 := by omega
  have hsg : 2 ≤ s.size := by omega
  clear hsz
  go_enter Try.func48, Try.ntmps48
  go_wp2
  go_loopw [4, 5] (fun t4 t5 w' => ∃ (pos : Nat) (f r : Int), w' = w.iter s pos ∧ t4 = .int .i64 f ∧ t5 = .int .i64 r ∧ PSt s pos f r) (fun _ _ w' => s.size - w'.iterPos w.heap.size)
  case atStart => exact ⟨0, -1, -1, rfl, rfl, rfl, .inl ⟨rfl, rfl, rfl⟩⟩
  case round =>
    obtain ⟨pos, f, r, rfl, rfl, rfl, hst⟩ := hrel
    by_cases hp : pos < s.size
    · have hnx : ∀ ty, (Instr.next (.pointer (some ⟨w.heap.size, 0, none⟩)) true ty).run Try.prog (w.iter s pos) = _ := fun ty => run_next_any w s pos ty hp
      have hwd := width_pos s pos hp
      have hle := decode_le s pos
      by_cases h0 : pos = 0
      · subst h0
        obtain ⟨rfl, rfl, hst'⟩ := PSt_0 hst hp
        clear hst
        go_wp2
        go_roundw
        case rel => exact ⟨_, _, _, rfl, rfl, rfl, hst'⟩
        case measure => simp; omega
      · obtain rfl : pos = 1 := by omega
        obtain ⟨rfl, rfl, hst'⟩ := PSt_1 hst hp
        have hle0 := decode_le s 0
        clear hst h0
        go_wp2
        go_roundw
        case rel => exact ⟨_, _, _, rfl, rfl, rfl, hst'⟩
        case measure => simp; omega
    · have hnx : ∀ ty, (Instr.next (.pointer (some ⟨w.heap.size, 0, none⟩)) true ty).run Try.prog (w.iter s pos) = _ := fun ty => run_next_end w s pos ty hp
      obtain ⟨rfl, rfl⟩ := HS.out _ _ _ hst (by omega)
      clear hst
      go_wp2_with fail
      refine (at_yes _ _ _ (by omega) (by omega) (by omega) (by omega)).mono ?_
      rintro e w' ⟨rfl, rfl⟩
      go_wp2
      go_ret2
      exact ⟨congrArg (fun i => Ending.returned (.tuple #[.int .i64 i, .bool true])) (by omega), grown_iter _ _ _⟩
end Go.Proofs.Ytmhnfnjngcoacaa
