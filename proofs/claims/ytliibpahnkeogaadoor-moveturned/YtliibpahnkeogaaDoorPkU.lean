/- Contracts of Name and the document's Name, of wakes · Contracts of Parse and of the document's Called: what a text that is a square's name is read as, and that no other text is one · Contracts of pick and seek (ranges over the texts of letters and signs), of Letter and Sign, and of the document's Letter and Sign · Texts of moves: Text, the document's Text · The document's Text; promoOf. (Written by wip/mkmvt.py.). -/
import Derived.Test.YtliibpahnkeogaaDoorPkA
import Derived.Test.YtliibpahnkeogaaDoorPkL
import Derived.Test.YtliibpahnkeogaaDoorPkO
import Derived.Deep.QuietTactic
import Derived.BigQuiet
import Derived.Laws.Cover4
import Derived.WalkSpells
import Derived.Laws.RangeAny
import Derived.Laws.Runes
import Derived.Laws.IdiomStrings
namespace Go.Proofs.YtliibpahnkeogaaDoor
open Go.RowKit
set_option linter.unusedVariables false

/-- The name of a square's number, as bytes: the file's letter, the rank's digit. -/
def nameOf (s : Int) : ByteArray := ⟨#[(97 + (s % 8).toNat).toUInt8, (49 + (s / 8).toNat).toUInt8]⟩
theorem runes_name (n : Nat) (h : n < 64) : runesBytes [97 + (n : Int) % 8, 49 + (n : Int) / 8] = nameOf n := by
  have : ∀ m : Fin 64, runesBytes [97 + ((m : Nat) : Int) % 8, 49 + ((m : Nat) : Int) / 8] = nameOf ((m : Nat) : Int) := by decide +kernel
  exact this ⟨n, h⟩
theorem cut_name (n : Nat) (h : n < 64) : (⟨#[97, 98, 99, 100, 101, 102, 103, 104]⟩ : ByteArray).extract ((n : Int) % 8).toNat ((n : Int) % 8 + 1).toNat ++ (⟨#[49, 50, 51, 52, 53, 54, 55, 56]⟩ : ByteArray).extract ((n : Int) / 8).toNat ((n : Int) / 8 + 1).toNat = nameOf n := by
  have : ∀ m : Fin 64, (⟨#[97, 98, 99, 100, 101, 102, 103, 104]⟩ : ByteArray).extract (((m : Nat) : Int) % 8).toNat (((m : Nat) : Int) % 8 + 1).toNat ++ (⟨#[49, 50, 51, 52, 53, 54, 55, 56]⟩ : ByteArray).extract (((m : Nat) : Int) / 8).toNat (((m : Nat) : Int) / 8 + 1).toNat = nameOf ((m : Nat) : Int) := by decide +kernel
  exact this ⟨n, h⟩

theorem cut_name' (s : Int) (h0 : 0 ≤ s) (h1 : s < 64) : (⟨#[97, 98, 99, 100, 101, 102, 103, 104]⟩ : ByteArray).extract (s % 8).toNat (s % 8 + 1).toNat ++ (⟨#[49, 50, 51, 52, 53, 54, 55, 56]⟩ : ByteArray).extract (s / 8).toNat (s / 8 + 1).toNat = nameOf s := by
  obtain ⟨n, rfl⟩ := Int.eq_ofNat_of_zero_le h0
  exact cut_name n (by omega)

theorem name_no (s : Int) (w : World) (h : s < 0 ∨ 64 ≤ s) :
    Calls Tryd.prog 54 #[.int .i64 s] w fun e w' => e = .returned (.string ⟨#[45]⟩) ∧ w = w' := by
  go_enter Tryd.func54, Tryd.ntmps54
  go_wp2_with (go_at_call 52; refine (right_no _ _ h).mono ?_; rintro e w' ⟨rfl, rfl⟩)
  go_ret
  exact ⟨rfl, rfl⟩
theorem rname_no (s : Int) (w : World) (h : s < 0 ∨ 64 ≤ s) :
    Calls Tryd.prog 56 #[.int .i64 s] w fun e w' => e = .returned (.string ⟨#[45]⟩) ∧ w = w' := by
  go_enter Tryd.func56, Tryd.ntmps56
  go_wp2_with (go_at_call 45; refine (rright_no _ _ h).mono ?_; rintro e w' ⟨rfl, rfl⟩)
  go_ret
  exact ⟨rfl, rfl⟩
theorem conv_name (s : Int) (h0 : 0 ≤ s) (h1 : s < 64) (w : World) :
    (convert 83 9 (.slice (some ⟨w.heap.size, 0, none⟩) 2 2)).run Tryd.prog (w.alloc (.cells #[.int .i32 (97 + s % 8), .int .i32 (49 + s / 8)] 21)) = .ok (.string (nameOf s)) (w.alloc (.cells #[.int .i32 (97 + s % 8), .int .i32 (49 + s / 8)] 21)) := by
  obtain ⟨n, rfl⟩ := Int.eq_ofNat_of_zero_le h0
  rw [run_convert_runes _ 83 9 21 _ 2 2 [97 + (n : Int) % 8, 49 + (n : Int) / 8] (by simp) Tryd.underlying83 Tryd.underlying21 Tryd.underlying9 ?_]
  · rw [← runes_name n (by omega)]; rfl
  · intro j hj
    match j, hj with
    | 0, _ => simp [Addr.add, go_sem]
    | 1, _ => simp [Addr.add, go_sem]
theorem name_yes (s : Int) (w : World) (h0 : 0 ≤ s) (h1 : s < 64) :
    Calls Tryd.prog 54 #[.int .i64 s] w fun e w' => e = .returned (.string (nameOf s)) ∧ w' = w.alloc (.cells #[.int .i32 (97 + s % 8), .int .i32 (49 + s / 8)] 21) := by
  have hc := conv_name s h0 h1 w
  go_enter Tryd.func54, Tryd.ntmps54
  go_wp2_with (first | (go_at_call 52; refine (right_yes _ _ (by omega) (by omega)).mono ?_; rintro e w' ⟨rfl, rfl⟩) | (go_at_call 75; refine (file_yes _ _ (by omega) (by omega)).mono ?_; rintro e w' ⟨rfl, rfl⟩) | (go_at_call 71; refine (rank_yes _ _ (by omega) (by omega)).mono ?_; rintro e w' ⟨rfl, rfl⟩))
  go_ret
  exact ⟨rfl, rfl⟩
theorem rname_yes (s : Int) (w : World) (h0 : 0 ≤ s) (h1 : s < 64) :
    Calls Tryd.prog 56 #[.int .i64 s] w fun e w' => e = .returned (.string (nameOf s)) ∧ ∃ n, w' = w.drewN n := by
  have e1 : IntKind.i64.wrap (s % 8 + 1) = s % 8 + 1 := IntWalk.i64_in _ (by omega)
  have e2 : IntKind.i64.wrap (s / 8 + 1) = s / 8 + 1 := IntWalk.i64_in _ (by omega)
  have b1 : 0 ≤ s % 8 := by omega
  have b2 : s % 8 ≤ s % 8 + 1 := by omega
  have b3 : s % 8 + 1 ≤ 8 := by omega
  have c1 : 0 ≤ s / 8 := by omega
  have c2 : s / 8 ≤ s / 8 + 1 := by omega
  have c3 : s / 8 + 1 ≤ 8 := by omega
  go_enter Tryd.func56, Tryd.ntmps56
  go_wp2_with (first | (go_at_call 45; refine (rright_yes _ _ (by omega) (by omega)).mono ?_; rintro e w' ⟨rfl, rfl⟩) | (go_at_call 36; refine (rfile_yes _ _ (by omega) (by omega)).mono ?_; rintro e w' ⟨rfl, rfl⟩) | (go_at_call 47; refine (rrank_yes _ _ (by omega) (by omega)).mono ?_; rintro e w' ⟨rfl, rfl⟩))
  go_quiet (fail)
  go_wp2
  go_ret
  exact ⟨congrArg (fun b => Ending.returned (.string b)) (cut_name' s h0 h1), nq, rfl⟩

theorem name_grown (s : Int) (w : World) (h0 : 0 ≤ s) (h1 : s < 64) :
    Calls Tryd.prog 54 #[.int .i64 s] w fun e w' => e = .returned (.string (nameOf s)) ∧ Grown w w' :=
  (name_yes s w h0 h1).mono fun _ _ ⟨he, hw⟩ => ⟨he, by rw [hw]; exact (Grown.refl _).alloc _ _⟩
theorem name_28 (w : World) : Calls Tryd.prog 54 #[.int .i64 28] w fun e w' => e = .returned (.string ⟨#[101, 52]⟩) ∧ Grown w w' :=
  name_grown 28 w (by omega) (by omega)
theorem name_45 (w : World) : Calls Tryd.prog 54 #[.int .i64 45] w fun e w' => e = .returned (.string ⟨#[102, 54]⟩) ∧ Grown w w' :=
  name_grown 45 w (by omega) (by omega)
theorem step_28 (w : World) : Calls Tryd.prog 98 #[.int .i64 28, .int .i64 1, .int .i64 2] w fun e w' => e = .returned (.tuple #[.int .i64 45, .bool true]) ∧ w = w' :=
  step_yes 28 1 2 w (by omega) (by omega) (by omega) (by omega) (by omega) (by omega)
end Go.Proofs.YtliibpahnkeogaaDoor
namespace Go.Proofs.YtliibpahnkeogaaDoor
open Go.RowKit
set_option linter.unusedVariables false


/-- What holds of Parse's two variables where it has read up to 'pos'. -/
def St (s : ByteArray) (pos : Nat) (f r : Int) : Prop :=
  (pos = 0 ∧ f = -1 ∧ r = -1)
  ∨ (0 < s.size ∧ pos = (Utf8.decode s 0).2 ∧ f = (Utf8.decode s 0).1 - 97 ∧ r = -1)
  ∨ (1 < s.size ∧ (Utf8.decode s 0).2 = 1 ∧ pos = 1 + (Utf8.decode s 1).2 ∧ f = (Utf8.decode s 0).1 - 97 ∧ r = (Utf8.decode s 1).1 - 49)
theorem St_0 {s : ByteArray} {f r : Int} (h : St s 0 f r) (h0 : 0 < s.size) : f = -1 ∧ r = -1 ∧ St s ((Utf8.decode s 0).2) ((Utf8.decode s 0).1 - 97) (-1) := by
  have hw := width_pos s 0 h0
  rcases h with h | h | h
  · exact ⟨h.2.1, h.2.2, .inr (.inl ⟨h0, rfl, rfl, rfl⟩)⟩
  · omega
  · omega
theorem St_1 {s : ByteArray} {f r : Int} (h : St s 1 f r) (h1 : 1 < s.size) : f = (Utf8.decode s 0).1 - 97 ∧ r = -1 ∧ St s (1 + (Utf8.decode s 1).2) ((Utf8.decode s 0).1 - 97) ((Utf8.decode s 1).1 - 49) := by
  have hw := width_pos s 1 h1
  rcases h with h | h | h
  · omega
  · exact ⟨h.2.2.1, h.2.2.2, .inr (.inr ⟨h1, h.2.1.symm, rfl, rfl, rfl⟩)⟩
  · omega
theorem two_bytes (s : ByteArray) (h : s.size = 2) : s = ⟨#[s[0], s[1]]⟩ := by
  obtain ⟨⟨l⟩⟩ := s
  match l, h with
  | [a, b], _ => rfl
theorem St_end {s : ByteArray} {pos : Nat} {f r : Int} (h : St s pos f r) (he : ¬ pos < s.size) (hn : ∀ n : Nat, n < 64 → s ≠ nameOf n) : f < 0 ∨ 8 ≤ f ∨ r < 0 ∨ 8 ≤ r := by
  rcases h with h | h | h
  · omega
  · omega
  · obtain ⟨h1, hw0, hp, hf, hr⟩ := h
    by_cases hall : f < 0 ∨ 8 ≤ f ∨ r < 0 ∨ 8 ≤ r
    · exact hall
    · exfalso
      have a0 : (s[0]'(by omega)).toNat < 128 := by
        by_cases g : (s[0]'(by omega)).toNat < 128
        · exact g
        · have := (decode_high s 0 (by omega) (by omega)).1; omega
      have a1 : (s[1]'(by omega)).toNat < 128 := by
        by_cases g : (s[1]'(by omega)).toNat < 128
        · exact g
        · have := (decode_high s 1 (by omega) (by omega)).1; omega
      have d0 := decode_ascii s 0 (by omega) a0
      have d1 := decode_ascii s 1 (by omega) a1
      rw [d0] at hf
      rw [d1] at hr hp
      simp only at hf hr hp
      have hs : s.size = 2 := by omega
      refine hn (((s[1]'(by omega)).toNat - 49) * 8 + ((s[0]'(by omega)).toNat - 97)) (by omega) ?_
      rw [nameOf]
      conv => lhs; rw [two_bytes s hs]
      congr 3
      · apply UInt8.toNat.inj
        simp
        omega
      · congr 1
        apply UInt8.toNat.inj
        simp
        omega
theorem parse_no (s : ByteArray) (w : World) (hn : ∀ n : Nat, n < 64 → s ≠ nameOf n) :
    Calls Tryd.prog 58 #[.string s] w fun e w' => e = .returned (.tuple #[.int .i64 0, .bool false]) ∧ Grown w w' := by
  have HN := Lib.hid hn
  clear hn
  go_enter Tryd.func58, Tryd.ntmps58
  go_wp2
  go_loopw [4, 5] (fun t4 t5 w' => ∃ (pos : Nat) (f r : Int), w' = w.iter s pos ∧ t4 = .int .i64 f ∧ t5 = .int .i64 r ∧ St s pos f r) (fun _ _ w' => s.size - w'.iterPos w.heap.size)
  case atStart => exact ⟨0, -1, -1, rfl, rfl, rfl, .inl ⟨rfl, rfl, rfl⟩⟩
  case round =>
    obtain ⟨pos, f, r, rfl, rfl, rfl, hst⟩ := hrel
    by_cases hp : pos < s.size
    · have hnx : ∀ ty, (Instr.next (.pointer (some ⟨w.heap.size, 0, none⟩)) true ty).run Tryd.prog (w.iter s pos) = _ := fun ty => run_next_any w s pos ty hp
      have hwd := width_pos s pos hp
      have hle := decode_le s pos
      by_cases h0 : pos = 0
      · subst h0
        obtain ⟨rfl, rfl, hst'⟩ := St_0 hst hp
        clear hst
        go_wp2
        go_roundw
        case rel => exact ⟨_, _, _, rfl, rfl, rfl, hst'⟩
        case measure => simp; omega
      · by_cases h1 : pos = 1
        · subst h1
          obtain ⟨rfl, rfl, hst'⟩ := St_1 hst hp
          have hle0 := decode_le s 0
          clear hst h0
          go_wp2
          go_roundw
          case rel => exact ⟨_, _, _, rfl, rfl, rfl, hst'⟩
          case measure => simp; omega
        · have b0 : ((pos : Int) == 0) = false := beq_eq_false_iff_ne.2 (by omega)
          have b1 : ((pos : Int) == 1) = false := beq_eq_false_iff_ne.2 (by omega)
          clear hst h0 h1
          go_wp2
          go_ret2
          exact ⟨rfl, grown_iter _ _ _⟩
    · have hnx : ∀ ty, (Instr.next (.pointer (some ⟨w.heap.size, 0, none⟩)) true ty).run Tryd.prog (w.iter s pos) = _ := fun ty => run_next_end w s pos ty hp
      have H := Lib.hid (St_end hst hp HN.out)
      clear hst
      go_wp2_with fail
      refine (at_no _ _ _ H.out).mono ?_
      rintro e w' ⟨rfl, rfl⟩
      go_wp2
      go_ret2
      exact ⟨rfl, grown_iter _ _ _⟩
theorem St_name {n pos : Nat} (hn : n < 64) {f r : Int} (h : St (nameOf n) pos f r) (he : ¬ pos < 2) : f = n % 8 ∧ r = n / 8 := by
  have e0 : ((nameOf n)[0]'(by show 0 < 2; omega)).toNat = 97 + n % 8 := by
    show ((97 + ((n : Int) % 8).toNat).toUInt8).toNat = _
    simp; omega
  have e1 : ((nameOf n)[1]'(by show 1 < 2; omega)).toNat = 49 + n / 8 := by
    show ((49 + ((n : Int) / 8).toNat).toUInt8).toNat = _
    simp; omega
  have d0 := decode_ascii (nameOf n) 0 (by show 0 < 2; omega) (by omega)
  have d1 := decode_ascii (nameOf n) 1 (by show 1 < 2; omega) (by omega)
  rw [e0] at d0
  rw [e1] at d1
  unfold St at h
  rw [d0, d1] at h
  simp only at h
  rcases h with h | h | h
  · omega
  · omega
  · omega
theorem nameOf_size (n : Int) : (nameOf n).size = 2 := rfl
theorem parse_yes (n : Nat) (w : World) (hn : n < 64) :
    Calls Tryd.prog 58 #[.string (nameOf n)] w fun e w' => e = .returned (.tuple #[.int .i64 n, .bool true]) ∧ Grown w w' := by
  have hsz := nameOf_size n
  have HS := Lib.hid (fun (pos : Nat) (f r : Int) (h : St (nameOf n) pos f r) (he : ¬ pos < 2) => St_name hn h he)
  have hq : n / 8 * 8 + n % 8 = n := by omega
  have HQ := Lib.hid hq
  clear hq
  generalize nameOf n = s at *
  have hsl : s.size ≤ 2 := by omega
  have hsg : 2 ≤ s.size := by omega
  clear hsz
  go_enter Tryd.func58, Tryd.ntmps58
  go_wp2
  go_loopw [4, 5] (fun t4 t5 w' => ∃ (pos : Nat) (f r : Int), w' = w.iter s pos ∧ t4 = .int .i64 f ∧ t5 = .int .i64 r ∧ St s pos f r) (fun _ _ w' => s.size - w'.iterPos w.heap.size)
  case atStart => exact ⟨0, -1, -1, rfl, rfl, rfl, .inl ⟨rfl, rfl, rfl⟩⟩
  case round =>
    obtain ⟨pos, f, r, rfl, rfl, rfl, hst⟩ := hrel
    by_cases hp : pos < s.size
    · have hnx : ∀ ty, (Instr.next (.pointer (some ⟨w.heap.size, 0, none⟩)) true ty).run Tryd.prog (w.iter s pos) = _ := fun ty => run_next_any w s pos ty hp
      have hwd := width_pos s pos hp
      have hle := decode_le s pos
      by_cases h0 : pos = 0
      · subst h0
        obtain ⟨rfl, rfl, hst'⟩ := St_0 hst hp
        clear hst
        go_wp2
        go_roundw
        case rel => exact ⟨_, _, _, rfl, rfl, rfl, hst'⟩
        case measure => simp; omega
      · obtain rfl : pos = 1 := by omega
        obtain ⟨rfl, rfl, hst'⟩ := St_1 hst hp
        have hle0 := decode_le s 0
        clear hst h0
        go_wp2
        go_roundw
        case rel => exact ⟨_, _, _, rfl, rfl, rfl, hst'⟩
        case measure => simp; omega
    · have hnx : ∀ ty, (Instr.next (.pointer (some ⟨w.heap.size, 0, none⟩)) true ty).run Tryd.prog (w.iter s pos) = _ := fun ty => run_next_end w s pos ty hp
      obtain ⟨rfl, rfl⟩ := HS.out _ _ _ hst (by omega)
      clear hst
      go_wp2_with fail
      refine (at_yes _ _ _ (by omega) (by omega) (by omega) (by omega)).mono ?_
      rintro e w' ⟨rfl, rfl⟩
      go_wp2
      go_ret2
      exact ⟨congrArg (fun i => Ending.returned (.tuple #[.int .i64 i, .bool true])) (by omega), grown_iter _ _ _⟩
theorem parse_dash (w : World) : Calls Tryd.prog 58 #[.string ⟨#[45]⟩] w fun e w' => e = .returned (.tuple #[.int .i64 0, .bool false]) ∧ Grown w w' :=
  parse_no ⟨#[45]⟩ w (fun n hn h => by have := congrArg ByteArray.size h; simp [nameOf, ByteArray.size] at this)

theorem nameOf_inj {a b : Nat} (ha : a < 64) (hb : b < 64) (h : nameOf a = nameOf b) : a = b := by
  have : ∀ x y : Fin 64, nameOf ((x : Nat) : Int) = nameOf ((y : Nat) : Int) → x = y := by decide +kernel
  exact congrArg Fin.val (this ⟨a, ha⟩ ⟨b, hb⟩ h)
theorem dash_no : ∀ n : Nat, n < 64 → (⟨#[45]⟩ : ByteArray) ≠ nameOf n := fun n hn h => by have := congrArg ByteArray.size h; simp [nameOf, ByteArray.size] at this
theorem dash_list (n : Nat) (hn : n < 64) : ((nameOf n).toList == [45]) = false := by
  rw [beq_eq_false_iff_ne, ByteArray.toList_eq]
  simp [nameOf]
end Go.Proofs.YtliibpahnkeogaaDoor
namespace Go.Proofs.YtliibpahnkeogaaDoor
open Go.RowKit
set_option linter.unusedVariables false

theorem inOrd_inj {a b : Nat} (ha : a < 12) (hb : b < 12) (h : a ≠ b) : inOrd a ≠ inOrd b := by
  unfold inOrd
  split <;> split <;> omega
theorem inOrd_man (n : Nat) (h : n < 12) : inOrd n ≠ 0 ∧ -6 ≤ inOrd n ∧ inOrd n ≤ 6 := by
  unfold inOrd
  split <;> omega
/-- Each man is the nth. -/
theorem man_inOrd (m : Int) (h0 : m ≠ 0) (h1 : -6 ≤ m) (h2 : m ≤ 6) : ∃ n : Nat, n < 12 ∧ m = inOrd n := by
  by_cases h : 0 < m
  · exact ⟨(6 - m).toNat, by omega, by unfold inOrd; rw [if_pos (by omega)]; omega⟩
  · exact ⟨(m + 12).toNat, by omega, by unfold inOrd; rw [if_neg (by omega)]; omega⟩
def letters : ByteArray := ⟨#[75, 81, 82, 66, 78, 80, 107, 113, 114, 98, 110, 112]⟩
def signs : ByteArray := ⟨#[226, 153, 148, 226, 153, 149, 226, 153, 150, 226, 153, 151, 226, 153, 152, 226, 153, 153, 226, 153, 154, 226, 153, 155, 226, 153, 156, 226, 153, 157, 226, 153, 158, 226, 153, 159]⟩
def runeL (n : Nat) : Nat := [75, 81, 82, 66, 78, 80, 107, 113, 114, 98, 110, 112].getD n 0
def runeS (n : Nat) : Nat := 9812 + n
/-- A text of twelve signs of k bytes each. -/
def Twelve (all : ByteArray) (k : Nat) (r : Nat → Nat) : Prop := all.size = 12 * k ∧ 1 ≤ k ∧ (∀ n, n < 12 → Utf8.decode all (k * n) = (r n, k)) ∧ (∀ a b, a < 12 → b < 12 → a ≠ b → r a ≠ r b) ∧ (∀ n, n < 12 → r n < 10000)
theorem twelve_letters : Twelve letters 1 runeL := by
  refine ⟨rfl, by omega, ?_, ?_, ?_⟩
  · have : ∀ n : Fin 12, Utf8.decode letters (1 * n.val) = (runeL n.val, 1) := by decide +kernel
    exact fun n h => this ⟨n, h⟩
  · have : ∀ a b : Fin 12, a.val ≠ b.val → runeL a.val ≠ runeL b.val := by decide +kernel
    exact fun a b ha hb => this ⟨a, ha⟩ ⟨b, hb⟩
  · have : ∀ n : Fin 12, runeL n.val < 10000 := by decide +kernel
    exact fun n h => this ⟨n, h⟩
theorem twelve_signs : Twelve signs 3 runeS := by
  refine ⟨rfl, by omega, ?_, ?_, ?_⟩
  · have : ∀ n : Fin 12, Utf8.decode signs (3 * n.val) = (runeS n.val, 3) := by decide +kernel
    exact fun n h => this ⟨n, h⟩
  · unfold runeS; omega
  · unfold runeS; omega
/-- One step of a range over such a text. -/
theorem twelve_next {all : ByteArray} {k : Nat} {r : Nat → Nat} (h : Twelve all k r) (w : World) (j : Nat) (hj : j < 12) (ty : TypeId) :
    (Instr.next (.pointer (some ⟨w.heap.size, 0, none⟩)) true ty).run Tryd.prog (w.iter all (k * j)) = .ok (.tuple #[.bool true, .int .i64 (k * j : Nat), .int .i32 (r j : Nat)]) (w.iter all (k * (j + 1))) := by
  have hp : k * j < all.size := by rw [h.1, Nat.mul_comm]; exact Nat.mul_lt_mul_of_pos_right hj h.2.1
  rw [run_next_any w all (k * j) ty hp, h.2.2.1 j hj, Nat.mul_succ]
theorem twelve_end {all : ByteArray} {k : Nat} {r : Nat → Nat} (h : Twelve all k r) (w : World) (ty : TypeId) :
    (Instr.next (.pointer (some ⟨w.heap.size, 0, none⟩)) true ty).run Tryd.prog (w.iter all (k * 12)) = .ok (.tuple #[.bool false]) (w.iter all (k * 12)) :=
  run_next_end w all (k * 12) ty (by rw [h.1, Nat.mul_comm]; omega)

theorem pick_yes (all : ByteArray) (k : Nat) (r : Nat → Nat) (T : Twelve all k r) (n : Nat) (hn : n < 12) (w : World) :
    Calls Tryd.prog 100 #[.string all, .int .i64 (inOrd n)] w fun e w' => e = .returned (.string (Utf8.encode (r n : Nat))) ∧ Grown w w' := by
  have HT := Lib.hid T
  clear T
  go_enter Tryd.func100, Tryd.ntmps100
  go_wp2
  go_loopw [5] (fun t5 w' => ∃ j : Nat, j ≤ n ∧ t5 = .int .i64 j ∧ w' = w.iter all (k * j)) (fun t5 _ => 12 - (intOf t5).toNat)
  case atStart => exact ⟨0, by omega, rfl, rfl⟩
  case round =>
    obtain ⟨j, hj, rfl, rfl⟩ := hrel
    have hnx := twelve_next HT.out w j (by omega)
    by_cases he : j = n
    · subst he
      go_wp2_with fail
      refine (inOrder_is j _ (by omega)).mono ?_
      rintro e w' ⟨rfl, rfl⟩
      go_wp2
      go_ret
      exact ⟨rfl, grown_iter _ _ _⟩
    · have b1 : (inOrd j == inOrd n) = false := beq_eq_false_iff_ne.2 (inOrd_inj (by omega) (by omega) he)
      have hlt : j < n := by omega
      clear he
      go_wp2_with fail
      refine (inOrder_is j _ (by omega)).mono ?_
      rintro e w' ⟨rfl, rfl⟩
      go_wp2
      go_roundw
      case rel => exact ⟨j + 1, by omega, by go_num, rfl⟩
      case measure => simp [intOf]; omega
theorem pick_no (all : ByteArray) (k : Nat) (r : Nat → Nat) (T : Twelve all k r) (m : Int) (w : World) (h : m < -6 ∨ m = 0 ∨ 6 < m) :
    Calls Tryd.prog 100 #[.string all, .int .i64 m] w fun e w' => e = .returned (.string ⟨#[]⟩) ∧ Grown w w' := by
  have HT := Lib.hid T
  have H := Lib.hid h
  clear T h
  go_enter Tryd.func100, Tryd.ntmps100
  go_wp2
  go_loopw [5] (fun t5 w' => ∃ j : Nat, j ≤ 12 ∧ t5 = .int .i64 j ∧ w' = w.iter all (k * j)) (fun t5 _ => 12 - (intOf t5).toNat)
  case atStart => exact ⟨0, by omega, rfl, rfl⟩
  case round =>
    obtain ⟨j, hj, rfl, rfl⟩ := hrel
    by_cases he : j = 12
    · subst he
      have hnx := twelve_end HT.out w
      go_wp2
      go_ret
      exact ⟨rfl, grown_iter _ _ _⟩
    · have hnx := twelve_next HT.out w j (by omega)
      have b1 : (inOrd j == m) = false := beq_eq_false_iff_ne.2 (by have := inOrd_man j (by omega); have := H.out; omega)
      have hlt : j < 12 := by omega
      clear he
      go_wp2_with fail
      refine (inOrder_is j _ (by omega)).mono ?_
      rintro e w' ⟨rfl, rfl⟩
      go_wp2
      go_roundw
      case rel => exact ⟨j + 1, by omega, by go_num, rfl⟩
      case measure => simp [intOf]; omega
/-- The nth man's letter and sign, as bytes. -/
def lettN (n : Nat) : ByteArray := ⟨#[(runeL n).toUInt8]⟩
def signN (n : Nat) : ByteArray := ⟨#[226, 153, (148 + n).toUInt8]⟩
theorem enc_letter (n : Nat) (h : n < 12) : Utf8.encode (runeL n : Nat) = lettN n := by
  have : ∀ n : Fin 12, Utf8.encode (runeL n.val : Nat) = lettN n.val := by decide +kernel
  exact this ⟨n, h⟩
theorem enc_sign (n : Nat) (h : n < 12) : Utf8.encode (runeS n : Nat) = signN n := by
  have : ∀ n : Fin 12, Utf8.encode (runeS n.val : Nat) = signN n.val := by decide +kernel
  exact this ⟨n, h⟩
theorem letter_yes (n : Nat) (hn : n < 12) (w : World) :
    Calls Tryd.prog 86 #[.int .i64 (inOrd n)] w fun e w' => e = .returned (.string (lettN n)) ∧ Grown w w' := by
  go_enter Tryd.func86, Tryd.ntmps86
  go_wp2_with fail
  refine (pick_yes letters 1 runeL twelve_letters n hn _).mono ?_
  rw [enc_letter n hn]
  rintro e w1 ⟨rfl, g1⟩
  go_wp2
  go_ret
  exact ⟨rfl, g1⟩
theorem letter_no (m : Int) (w : World) (h : m < -6 ∨ m = 0 ∨ 6 < m) :
    Calls Tryd.prog 86 #[.int .i64 m] w fun e w' => e = .returned (.string ⟨#[]⟩) ∧ Grown w w' := by
  go_enter Tryd.func86, Tryd.ntmps86
  go_wp2_with fail
  refine (pick_no letters 1 runeL twelve_letters m _ h).mono ?_
  rintro e w1 ⟨rfl, gw1⟩
  go_wp2
  go_ret
  exact ⟨rfl, gw1⟩
theorem rletter_no (m : Int) (w : World) (h : m < -6 ∨ m = 0 ∨ 6 < m) :
    Calls Tryd.prog 57 #[.int .i64 m] w fun e w' => e = .returned (.string ⟨#[]⟩) ∧ w = w' := by
  go_enter Tryd.func57, Tryd.ntmps57
  go_wp2_with fail
  refine (rkind_no _ _ h).mono ?_
  rintro e w' ⟨rfl, rfl⟩
  go_wp2
  go_ret
  exact ⟨rfl, rfl⟩
theorem cut_w (n : Nat) (h : n < 6) : (⟨#[80, 78, 66, 82, 81, 75]⟩ : ByteArray).extract (6 - n - 1) (6 - n) = lettN n := by
  have : ∀ n : Fin 6, (⟨#[80, 78, 66, 82, 81, 75]⟩ : ByteArray).extract (6 - n.val - 1) (6 - n.val) = lettN n.val := by decide +kernel
  exact this ⟨n, h⟩
theorem cut_b (n : Nat) (h6 : 6 ≤ n) (h : n < 12) : (⟨#[112, 110, 98, 114, 113, 107]⟩ : ByteArray).extract (12 - n - 1) (12 - n) = lettN n := by
  have : ∀ n : Fin 12, 6 ≤ n.val → (⟨#[112, 110, 98, 114, 113, 107]⟩ : ByteArray).extract (12 - n.val - 1) (12 - n.val) = lettN n.val := by decide +kernel
  exact this ⟨n, h⟩ h6
theorem rletter_yes (n : Nat) (hn : n < 12) (w : World) :
    Calls Tryd.prog 57 #[.int .i64 (inOrd n)] w fun e w' => e = .returned (.string (lettN n)) ∧ w = w' := by
  by_cases h6 : n < 6
  · have e0 : inOrd n = 6 - (n : Int) := by unfold inOrd; rw [if_pos h6]
    have e1 : IntKind.i64.wrap (6 - (n : Int) - 1) = 6 - (n : Int) - 1 := IntWalk.i64_in _ (by omega)
    have b1 : 0 ≤ 6 - (n : Int) - 1 := by omega
    have b2 : 6 - (n : Int) - 1 ≤ 6 - (n : Int) := by omega
    have b3 : 6 - (n : Int) ≤ 6 := by omega
    have b4 : ((6 - (n : Int)) == 0) = false := beq_eq_false_iff_ne.2 (by omega)
    have b5 : 0 < 6 - (n : Int) := by omega
    rw [e0]
    go_enter Tryd.func57, Tryd.ntmps57
    go_wp2_with fail
    refine (rkind_yes _ (6 - (n : Int)) _ (.inl rfl) (by omega) (by omega)).mono ?_
    rintro e w' ⟨rfl, rfl⟩
    go_wp2
    go_ret
    exact ⟨congrArg (fun b => Ending.returned (.string b)) (cut_w n h6), rfl⟩
  · have e0 : inOrd n = (n : Int) - 12 := by unfold inOrd; rw [if_neg h6]
    have e1 : IntKind.i64.wrap (12 - (n : Int) - 1) = 12 - (n : Int) - 1 := IntWalk.i64_in _ (by omega)
    have b1 : 0 ≤ 12 - (n : Int) - 1 := by omega
    have b2 : 12 - (n : Int) - 1 ≤ 12 - (n : Int) := by omega
    have b3 : 12 - (n : Int) ≤ 6 := by omega
    have b4 : ((12 - (n : Int)) == 0) = false := beq_eq_false_iff_ne.2 (by omega)
    have b5 : decide (0 < (n : Int) - 12) = false := by simp; omega
    rw [e0]
    go_enter Tryd.func57, Tryd.ntmps57
    go_wp2_with fail
    refine (rkind_yes _ (12 - (n : Int)) _ (.inr (by omega)) (by omega) (by omega)).mono ?_
    rintro e w' ⟨rfl, rfl⟩
    go_wp2
    go_ret
    exact ⟨congrArg (fun b => Ending.returned (.string b)) (cut_b n (by omega) hn), rfl⟩
end Go.Proofs.YtliibpahnkeogaaDoor
namespace Go.Proofs.YtliibpahnkeogaaDoor
open Go.RowKit
set_option linter.unusedVariables false
set_option linter.unusedSimpArgs false
set_option maxRecDepth 100000

/-- The small letter of a Promo. -/
def smB (n : Int) : ByteArray := if n = 0 then ⟨#[]⟩ else lettN (12 - n).toNat
theorem promo_five {n : Int} (h : promoB n = true) : n = 0 ∨ n = 2 ∨ n = 3 ∨ n = 4 ∨ n = 5 := by
  unfold promoB at h
  simp only [Bool.or_eq_true, Bool.and_eq_true, beq_iff_eq, decide_eq_true_eq] at h
  omega
theorem small_is (n : Int) (h : promoB n = true) (w : World) : Calls Tryd.prog 55 #[.int .i64 n] w fun e w' => e = .returned (.string (smB n)) ∧ Kept w w' := by
  by_cases h0 : n = 0
  · subst h0
    have HV : Hid (smB 0 = ⟨#[]⟩) := rfl
    go_enter Tryd.func55, Tryd.ntmps55
    go_wp2_with fail
    refine (make_nokind 0 1 _ (by omega)).mono ?_
    rintro e w' ⟨rfl, rfl⟩
    go_wp2_with fail
    refine (letter_no 0 _ (by omega)).mono ?_
    rintro e w1 ⟨rfl, gw1⟩
    go_wp2
    go_ret
    exact ⟨by rw [HV.out]; rfl, Kept.of_grown gw1⟩
  · have hn : 2 ≤ n ∧ n ≤ 5 := by have := promo_five h; omega
    have HV : Hid (smB n = lettN (12 - n).toNat) := by show _ = _; unfold smB; rw [if_neg h0]
    have he : inOrd (12 - n).toNat = -n := by unfold inOrd; rw [if_neg (by omega)]; omega
    have HL := Lib.hid (fun w => letter_yes (12 - n).toNat (by omega) w)
    rw [he] at HL
    clear he h h0
    generalize lettN (12 - n).toNat = L at *
    have HMk := Lib.hid (fun w => make_b n w (by omega) (by omega))
    go_enter Tryd.func55, Tryd.ntmps55
    go_wp2_with fail
    refine (HMk.out _).mono ?_
    rintro e w' ⟨rfl, rfl⟩
    go_wp2_with fail
    refine (HL.out _).mono ?_
    rintro e w1 ⟨rfl, gw1⟩
    go_wp2
    go_ret
    exact ⟨by rw [HV.out]; rfl, Kept.of_grown gw1⟩
/-- The text of a move. -/
def okT (m : Mv) : Bool := onB m.f && onB m.t && promoB m.p
def txB (m : Mv) : ByteArray := (nameOf m.f ++ nameOf m.t) ++ smB m.p
def textB (m : Mv) : ByteArray := if okT m then txB m else ⟨#[]⟩
theorem name_k (s : Int) (w : World) (h0 : 0 ≤ s) (h1 : s < 64) : Calls Tryd.prog 54 #[.int .i64 s] w fun e w' => e = .returned (.string (nameOf s)) ∧ Kept w w' :=
  (name_grown s w h0 h1).mono fun _ _ ⟨a, b⟩ => ⟨a, Kept.of_grown b⟩
theorem rname_k (s : Int) (w : World) (h0 : 0 ≤ s) (h1 : s < 64) : Calls Tryd.prog 56 #[.int .i64 s] w fun e w' => e = .returned (.string (nameOf s)) ∧ Kept w w' :=
  (rname_yes s w h0 h1).mono fun _ _ ⟨a, n, b⟩ => ⟨a, by rw [b]; exact (Kept.refl _).drewN n⟩
theorem smB_size (n : Int) : (smB n).size ≤ 1 := by
  unfold smB
  split
  · exact Nat.zero_le _
  · exact Nat.le_refl _
theorem onB_iff (s : Int) : onB s = true ↔ 0 ≤ s ∧ s < 64 := by simp [onB]
set_option maxHeartbeats 2000000 in
theorem text_is (m : Mv) (w : World) (hT : TabM w) : Calls Tryd.prog 20 #[.agg (ml m).toArray] w fun e w' => e = .returned (.string (textB m)) ∧ Kept w w' := by
  have HM := Lib.hid (MAt.new w m)
  have HK0 := Lib.hid ((Kept.refl w).alloc (.cells (ml m).toArray 28))
  have HT := Lib.hid (hT.kept HK0.out)
  have HV : Hid (textB m = if onB m.f && onB m.t && promoB m.p then txB m else ⟨#[]⟩) := rfl
  have HR1 := Lib.hid (right_k m.f)
  have HR2 := Lib.hid (right_k m.t)
  have HR3 := Lib.hid (fun w hw => isPromo_is m.p w hw)
  have cf := HM.out.f
  clear hT
  cases h1 : onB m.f
  · rw [h1] at HR1 HV
    have HV' : Hid (textB m = ⟨#[]⟩) := HV.out
    go_enter Tryd.func20, Tryd.ntmps20
    go_wp2_with fail
    refine (HR1.out _).mono ?_
    rintro e w1 ⟨rfl, k1⟩
    have HK1 := Lib.hid (HK0.out.trans k1)
    clear k1 cf
    go_wp2
    go_ret
    exact ⟨by rw [HV'.out]; rfl, HK1.out⟩
  · rw [h1] at HR1 HV
    cases h2 : onB m.t
    · rw [h2] at HR2 HV
      have HV' : Hid (textB m = ⟨#[]⟩) := HV.out
      go_enter Tryd.func20, Tryd.ntmps20
      go_wp2_with fail
      refine (HR1.out _).mono ?_
      rintro e w1 ⟨rfl, k1⟩
      have HK1 := Lib.hid (HK0.out.trans k1)
      have ct := (MAt.kept HM.out k1).t
      clear k1 cf
      go_wp2_with fail
      refine (HR2.out _).mono ?_
      rintro e w2 ⟨rfl, k2⟩
      have HK2 := Lib.hid (HK1.out.trans k2)
      clear k2 ct
      go_wp2
      go_ret
      exact ⟨by rw [HV'.out]; rfl, HK2.out⟩
    · rw [h2] at HR2 HV
      cases h3 : promoB m.p
      · rw [h3] at HR3 HV
        have HV' : Hid (textB m = ⟨#[]⟩) := HV.out
        go_enter Tryd.func20, Tryd.ntmps20
        go_wp2_with fail
        refine (HR1.out _).mono ?_
        rintro e w1 ⟨rfl, k1⟩
        have HK1 := Lib.hid (HK0.out.trans k1)
        have HM1 := Lib.hid (MAt.kept HM.out k1)
        have HT1 := Lib.hid (HT.out.kept k1)
        have ct := HM1.out.t
        clear k1 cf
        go_wp2_with fail
        refine (HR2.out _).mono ?_
        rintro e w2 ⟨rfl, k2⟩
        have HK2 := Lib.hid (HK1.out.trans k2)
        have HT2 := Lib.hid (HT1.out.kept k2)
        have cp := (MAt.kept HM1.out k2).p
        clear k2 ct
        go_wp2_with fail
        refine (HR3.out _ HT2.out).mono ?_
        rintro e w3 ⟨rfl, k3⟩
        have HK3 := Lib.hid (HK2.out.trans k3)
        clear k3 cp
        go_wp2
        go_ret
        exact ⟨by rw [HV'.out]; rfl, HK3.out⟩
      · have o1 := (onB_iff _).1 h1
        have o2 := (onB_iff _).1 h2
        have HN1 := Lib.hid (fun w => name_k m.f w o1.1 o1.2)
        have HN2 := Lib.hid (fun w => name_k m.t w o2.1 o2.2)
        have HSm := Lib.hid (fun w => small_is m.p h3 w)
        rw [h3] at HR3 HV
        have HV' : Hid (textB m = (nameOf m.f ++ nameOf m.t) ++ smB m.p) := HV.out
        have s1 : (nameOf m.f).size = 2 := rfl
        have s2 : (nameOf m.t).size = 2 := rfl
        have s3 := smB_size m.p
        clear o1 o2 h1 h2 h3 HV
        generalize nameOf m.f = n1 at *
        generalize nameOf m.t = n2 at *
        generalize smB m.p = n3 at *
        have s12 : (n1 ++ n2).size = 4 := by rw [ByteArray.size_append]; omega
        have z1 : ¬ 9223372036854775807 < n1.size + n2.size := by omega
        have z2 : ¬ 9223372036854775807 < (n1 ++ n2).size + n3.size := by omega
        have z3 : ¬ 9223372036854775807 < n1.size + n2.size + n3.size := by omega
        clear s1 s2 s3 s12
        go_enter Tryd.func20, Tryd.ntmps20
        go_wp2_with fail
        refine (HR1.out _).mono ?_
        rintro e w1 ⟨rfl, k1⟩
        have HK1 := Lib.hid (HK0.out.trans k1)
        have HM1 := Lib.hid (MAt.kept HM.out k1)
        have HT1 := Lib.hid (HT.out.kept k1)
        have ct := HM1.out.t
        clear k1 cf
        go_wp2_with fail
        refine (HR2.out _).mono ?_
        rintro e w2 ⟨rfl, k2⟩
        have HK2 := Lib.hid (HK1.out.trans k2)
        have HT2 := Lib.hid (HT1.out.kept k2)
        have HM2 := Lib.hid (MAt.kept HM1.out k2)
        have cp := HM2.out.p
        clear k2 ct
        go_wp2_with fail
        refine (HR3.out _ HT2.out).mono ?_
        rintro e w3 ⟨rfl, k3⟩
        have HK3 := Lib.hid (HK2.out.trans k3)
        have HM3 := Lib.hid (MAt.kept HM2.out k3)
        clear k3 cp
        go_wp2
        refine wp_region_held_drew (S := Kept _) (by kernel_rfl) (Kept.refl _).drew (fun hHeld => ?_)
        refine rg_take (i := 0) (v := (.pointer (some ⟨w.heap.size, 0, none⟩))) (some 19) rfl rfl (by kernel_rfl) (by kernel_rfl) (by kernel_rfl) (fun _ _ _ h => h) (Or.inl ⟨by rfl, fun _ _ => by go_simp⟩) hHeld ?_
        simp only [Act.put, List.setIfInBounds_toArray, List.set_cons_zero, List.set_cons_succ]
        refine rg_take (i := 1) (v := (.int .i64 m.f)) (some 20) rfl rfl (by kernel_rfl) (by kernel_rfl) (by kernel_rfl) (fun _ _ _ h => h) (Or.inl ⟨by rfl, fun w' h => by have h' := kept_cell h (HM3.out.f); go_simp⟩) hHeld ?_
        simp only [Act.put, List.setIfInBounds_toArray, List.set_cons_zero, List.set_cons_succ]
        refine rg_take (i := 3) (v := (.pointer (some ⟨w.heap.size, 1, none⟩))) (some 22) rfl rfl (by kernel_rfl) (by kernel_rfl) (by kernel_rfl) (fun _ _ _ h => h) (Or.inl ⟨by rfl, fun _ _ => by go_simp⟩) hHeld ?_
        simp only [Act.put, List.setIfInBounds_toArray, List.set_cons_zero, List.set_cons_succ]
        refine rg_take (i := 4) (v := (.int .i64 m.t)) (some 23) rfl rfl (by kernel_rfl) (by kernel_rfl) (by kernel_rfl) (fun _ _ _ h => h) (Or.inl ⟨by rfl, fun w' h => by have h' := kept_cell h (HM3.out.t); go_simp⟩) hHeld ?_
        simp only [Act.put, List.setIfInBounds_toArray, List.set_cons_zero, List.set_cons_succ]
        refine rg_take (i := 7) (v := (.pointer (some ⟨w.heap.size, 2, none⟩))) (some 26) rfl rfl (by kernel_rfl) (by kernel_rfl) (by kernel_rfl) (fun _ _ _ h => h) (Or.inl ⟨by rfl, fun _ _ => by go_simp⟩) hHeld ?_
        simp only [Act.put, List.setIfInBounds_toArray, List.set_cons_zero, List.set_cons_succ]
        refine rg_take (i := 8) (v := (.int .i64 m.p)) (some 27) rfl rfl (by kernel_rfl) (by kernel_rfl) (by kernel_rfl) (fun _ _ _ h => h) (Or.inl ⟨by rfl, fun w' h => by have h' := kept_cell h (HM3.out.p); go_simp⟩) hHeld ?_
        simp only [Act.put, List.setIfInBounds_toArray, List.set_cons_zero, List.set_cons_succ]
        refine wpAnyH_ready (rs := [2]) (by kernel_rfl) (by simp) ?_
        refine AllReadyH.cons rfl (fun K hK => ?_) AllReadyH.nil
        go_simp
        refine (HN1.out _).mono ?_
        rintro e x1 ⟨rfl, gx1⟩
        refine hK.out _ _ (hHeld.trans gx1) (fun _ => ?_)
        replace hHeld := hHeld.trans gx1
        clear hK K
        refine wpAnyH_ready (rs := [5]) (by kernel_rfl) (by simp) ?_
        refine AllReadyH.cons rfl (fun K hK => ?_) AllReadyH.nil
        go_simp
        refine (HN2.out _).mono ?_
        rintro e x2 ⟨rfl, gx2⟩
        refine hK.out _ _ (hHeld.trans gx2) (fun _ => ?_)
        replace hHeld := hHeld.trans gx2
        clear hK K
        refine rg_take (i := 6) (v := (.string (n1 ++ n2))) (some 25) rfl rfl (by kernel_rfl) (by kernel_rfl) (by kernel_rfl) (fun _ _ _ h => h) (Or.inl ⟨by rfl, fun _ _ => by go_simp⟩) hHeld ?_
        simp only [Act.put, List.setIfInBounds_toArray, List.set_cons_zero, List.set_cons_succ]
        refine wpAnyH_ready (rs := [9]) (by kernel_rfl) (by simp) ?_
        refine AllReadyH.cons rfl (fun K hK => ?_) AllReadyH.nil
        go_simp
        refine (HSm.out _).mono ?_
        rintro e x3 ⟨rfl, gx3⟩
        refine hK.out _ _ (hHeld.trans gx3) (fun _ => ?_)
        replace hHeld := hHeld.trans gx3
        clear hK K
        refine rg_take (i := 10) (v := (.string ((n1 ++ n2) ++ n3))) (some 29) rfl rfl (by kernel_rfl) (by kernel_rfl) (by kernel_rfl) (fun _ _ _ h => h) (Or.inl ⟨by rfl, fun _ _ => by go_simp⟩) hHeld ?_
        simp only [Act.put, List.setIfInBounds_toArray, List.set_cons_zero, List.set_cons_succ]
        refine rg_take (i := 11) (v := (.string ((n1 ++ n2) ++ n3))) (some 2) rfl rfl (by kernel_rfl) (by kernel_rfl) (by kernel_rfl) (fun _ _ _ h => h) (Or.inl ⟨by rfl, fun _ _ => by go_simp⟩) hHeld ?_
        simp only [Act.put, List.setIfInBounds_toArray, List.set_cons_zero, List.set_cons_succ]
        refine wpAnyH_done (by kernel_rfl) ?_ _
        go_wp2
        go_ret
        exact ⟨by rw [HV'.out]; rfl, HK3.out.trans hHeld⟩
end Go.Proofs.YtliibpahnkeogaaDoor
namespace Go.Proofs.YtliibpahnkeogaaDoor
open Go.RowKit
set_option linter.unusedVariables false
set_option linter.unusedSimpArgs false
set_option maxRecDepth 100000

theorem ba_nil (a : ByteArray) : a ++ (⟨#[]⟩ : ByteArray) = a := by
  obtain ⟨⟨l⟩⟩ := a
  apply WideShapes.bytes_inj
  simp
set_option maxHeartbeats 2000000 in
theorem rtext1 (m : Mv) (h1 : onB m.f = false) (w : World) : Calls Tryd.prog 21 #[.agg (ml m).toArray] w fun e w' => e = .returned (.string (textB m)) ∧ Kept w w' := by
  have HM := Lib.hid (MAt.new w m)
  have HK0 := Lib.hid ((Kept.refl w).alloc (.cells (ml m).toArray 28))
  have HR1 := Lib.hid (rright_k m.f)
  have HR2 := Lib.hid (rright_k m.t)
  have cf := HM.out.f
  have HV' : Hid (textB m = ⟨#[]⟩) := by show _ = _; unfold textB okT; rw [h1]; rfl
  rw [h1] at HR1
  clear h1
  go_enter Tryd.func21, Tryd.ntmps21
  go_wp2_with fail
  refine (HR1.out _).mono ?_
  rintro e w1 ⟨rfl, k1⟩
  have HK1 := Lib.hid (HK0.out.trans k1)
  have HM1 := Lib.hid (MAt.kept HM.out k1)
  clear k1 cf
  go_wp2
  go_ret
  exact ⟨by rw [HV'.out]; rfl, HK1.out⟩
set_option maxHeartbeats 2000000 in
theorem rtext2 (m : Mv) (h1 : onB m.f = true) (h2 : onB m.t = false) (w : World) : Calls Tryd.prog 21 #[.agg (ml m).toArray] w fun e w' => e = .returned (.string (textB m)) ∧ Kept w w' := by
  have HM := Lib.hid (MAt.new w m)
  have HK0 := Lib.hid ((Kept.refl w).alloc (.cells (ml m).toArray 28))
  have HR1 := Lib.hid (rright_k m.f)
  have HR2 := Lib.hid (rright_k m.t)
  have cf := HM.out.f
  have HV' : Hid (textB m = ⟨#[]⟩) := by show _ = _; unfold textB okT; rw [h1, h2]; rfl
  rw [h1] at HR1
  rw [h2] at HR2
  clear h1 h2
  go_enter Tryd.func21, Tryd.ntmps21
  go_wp2_with fail
  refine (HR1.out _).mono ?_
  rintro e w1 ⟨rfl, k1⟩
  have HK1 := Lib.hid (HK0.out.trans k1)
  have HM1 := Lib.hid (MAt.kept HM.out k1)
  clear k1 cf
  have ct := HM1.out.t
  go_wp2_with fail
  refine (HR2.out _).mono ?_
  rintro e w2 ⟨rfl, k2⟩
  have HK2 := Lib.hid (HK1.out.trans k2)
  have HM2 := Lib.hid (MAt.kept HM1.out k2)
  clear k2 ct
  go_wp2
  go_ret
  exact ⟨by rw [HV'.out]; rfl, HK2.out⟩
set_option maxHeartbeats 2000000 in
theorem rtext3 (m : Mv) (h1 : onB m.f = true) (h2 : onB m.t = true) (h3 : m.p < 0) (w : World) : Calls Tryd.prog 21 #[.agg (ml m).toArray] w fun e w' => e = .returned (.string (textB m)) ∧ Kept w w' := by
  have HM := Lib.hid (MAt.new w m)
  have HK0 := Lib.hid ((Kept.refl w).alloc (.cells (ml m).toArray 28))
  have HR1 := Lib.hid (rright_k m.f)
  have HR2 := Lib.hid (rright_k m.t)
  have cf := HM.out.f
  have hpn : promoB m.p = false := by
    rw [Bool.eq_false_iff]; intro h; have := promo_five h; omega
  have HV' : Hid (textB m = ⟨#[]⟩) := by show _ = _; unfold textB okT; rw [h1, h2, hpn]; rfl
  have b1 : decide (m.p < 0) = true := decide_eq_true h3
  rw [h1] at HR1
  rw [h2] at HR2
  clear h1 h2 h3 hpn
  go_enter Tryd.func21, Tryd.ntmps21
  go_wp2_with fail
  refine (HR1.out _).mono ?_
  rintro e w1 ⟨rfl, k1⟩
  have HK1 := Lib.hid (HK0.out.trans k1)
  have HM1 := Lib.hid (MAt.kept HM.out k1)
  clear k1 cf
  have ct := HM1.out.t
  go_wp2_with fail
  refine (HR2.out _).mono ?_
  rintro e w2 ⟨rfl, k2⟩
  have HK2 := Lib.hid (HK1.out.trans k2)
  have HM2 := Lib.hid (MAt.kept HM1.out k2)
  clear k2 ct
  have cp := HM2.out.p
  go_wp2
  go_ret
  exact ⟨by rw [HV'.out]; rfl, HK2.out⟩
set_option maxHeartbeats 2000000 in
theorem rtext4 (m : Mv) (h1 : onB m.f = true) (h2 : onB m.t = true) (h3 : m.p = 1) (w : World) : Calls Tryd.prog 21 #[.agg (ml m).toArray] w fun e w' => e = .returned (.string (textB m)) ∧ Kept w w' := by
  have HM := Lib.hid (MAt.new w m)
  have HK0 := Lib.hid ((Kept.refl w).alloc (.cells (ml m).toArray 28))
  have HR1 := Lib.hid (rright_k m.f)
  have HR2 := Lib.hid (rright_k m.t)
  have cf := HM.out.f
  have hpn : promoB m.p = false := by
    rw [Bool.eq_false_iff]; intro h; have := promo_five h; omega
  have HV' : Hid (textB m = ⟨#[]⟩) := by show _ = _; unfold textB okT; rw [h1, h2, hpn]; rfl
  have b1 : decide (m.p < 0) = false := decide_eq_false (by omega)
  have b2 : (m.p == 1) = true := beq_iff_eq.2 h3
  rw [h1] at HR1
  rw [h2] at HR2
  clear h1 h2 h3 hpn
  go_enter Tryd.func21, Tryd.ntmps21
  go_wp2_with fail
  refine (HR1.out _).mono ?_
  rintro e w1 ⟨rfl, k1⟩
  have HK1 := Lib.hid (HK0.out.trans k1)
  have HM1 := Lib.hid (MAt.kept HM.out k1)
  clear k1 cf
  have ct := HM1.out.t
  go_wp2_with fail
  refine (HR2.out _).mono ?_
  rintro e w2 ⟨rfl, k2⟩
  have HK2 := Lib.hid (HK1.out.trans k2)
  have HM2 := Lib.hid (MAt.kept HM1.out k2)
  clear k2 ct
  have cp := HM2.out.p
  go_wp2
  go_ret
  exact ⟨by rw [HV'.out]; rfl, HK2.out⟩
set_option maxHeartbeats 2000000 in
theorem rtext5 (m : Mv) (h1 : onB m.f = true) (h2 : onB m.t = true) (h3 : 5 < m.p) (w : World) : Calls Tryd.prog 21 #[.agg (ml m).toArray] w fun e w' => e = .returned (.string (textB m)) ∧ Kept w w' := by
  have HM := Lib.hid (MAt.new w m)
  have HK0 := Lib.hid ((Kept.refl w).alloc (.cells (ml m).toArray 28))
  have HR1 := Lib.hid (rright_k m.f)
  have HR2 := Lib.hid (rright_k m.t)
  have cf := HM.out.f
  have hpn : promoB m.p = false := by
    rw [Bool.eq_false_iff]; intro h; have := promo_five h; omega
  have HV' : Hid (textB m = ⟨#[]⟩) := by show _ = _; unfold textB okT; rw [h1, h2, hpn]; rfl
  have b1 : decide (m.p < 0) = false := decide_eq_false (by omega)
  have b2 : (m.p == 1) = false := beq_eq_false_iff_ne.2 (by omega)
  have b3 : decide (5 < m.p) = true := decide_eq_true h3
  rw [h1] at HR1
  rw [h2] at HR2
  clear h1 h2 h3 hpn
  go_enter Tryd.func21, Tryd.ntmps21
  go_wp2_with fail
  refine (HR1.out _).mono ?_
  rintro e w1 ⟨rfl, k1⟩
  have HK1 := Lib.hid (HK0.out.trans k1)
  have HM1 := Lib.hid (MAt.kept HM.out k1)
  clear k1 cf
  have ct := HM1.out.t
  go_wp2_with fail
  refine (HR2.out _).mono ?_
  rintro e w2 ⟨rfl, k2⟩
  have HK2 := Lib.hid (HK1.out.trans k2)
  have HM2 := Lib.hid (MAt.kept HM1.out k2)
  clear k2 ct
  have cp := HM2.out.p
  go_wp2
  go_ret
  exact ⟨by rw [HV'.out]; rfl, HK2.out⟩
set_option maxHeartbeats 2000000 in
theorem rtext6 (m : Mv) (h1 : onB m.f = true) (h2 : onB m.t = true) (h3 : promoB m.p = true) (h4 : m.p = 0) (w : World) : Calls Tryd.prog 21 #[.agg (ml m).toArray] w fun e w' => e = .returned (.string (textB m)) ∧ Kept w w' := by
  have HM := Lib.hid (MAt.new w m)
  have HK0 := Lib.hid ((Kept.refl w).alloc (.cells (ml m).toArray 28))
  have HR1 := Lib.hid (rright_k m.f)
  have HR2 := Lib.hid (rright_k m.t)
  have cf := HM.out.f
  have o1 := (onB_iff _).1 h1
  have o2 := (onB_iff _).1 h2
  have HN1 := Lib.hid (fun w => rname_k m.f w o1.1 o1.2)
  have HN2 := Lib.hid (fun w => rname_k m.t w o2.1 o2.2)
  have HV' : Hid (textB m = (nameOf m.f ++ nameOf m.t) ++ smB m.p) := by show _ = _; unfold textB okT; rw [h1, h2, h3]; rfl
  have b1 : decide (m.p < 0) = false := decide_eq_false (by have := promo_five h3; omega)
  have b2 : (m.p == 1) = false := beq_eq_false_iff_ne.2 (by have := promo_five h3; omega)
  have b3 : decide (5 < m.p) = false := decide_eq_false (by have := promo_five h3; omega)
  have s1 : (nameOf m.f).size = 2 := rfl
  have s2 : (nameOf m.t).size = 2 := rfl
  have s3 := smB_size m.p
  rw [h1] at HR1
  rw [h2] at HR2
  have b4 : decide (0 < m.p) = false := decide_eq_false (by omega)
  have hsm : smB m.p = ⟨#[]⟩ := by unfold smB; rw [if_pos h4]
  rw [hsm, ba_nil] at HV'
  clear hsm s3 h4
  clear o1 o2 h1 h2 h3
  generalize nameOf m.f = n1 at *
  generalize nameOf m.t = n2 at *
  have s12 : (n1 ++ n2).size = 4 := by rw [ByteArray.size_append]; omega
  have z1 : ¬ 9223372036854775807 < n1.size + n2.size := by omega
  clear s1 s2 s12
  go_enter Tryd.func21, Tryd.ntmps21
  go_wp2_with fail
  refine (HR1.out _).mono ?_
  rintro e w1 ⟨rfl, k1⟩
  have HK1 := Lib.hid (HK0.out.trans k1)
  have HM1 := Lib.hid (MAt.kept HM.out k1)
  clear k1 cf
  have ct := HM1.out.t
  go_wp2_with fail
  refine (HR2.out _).mono ?_
  rintro e w2 ⟨rfl, k2⟩
  have HK2 := Lib.hid (HK1.out.trans k2)
  have HM2 := Lib.hid (MAt.kept HM1.out k2)
  clear k2 ct
  have cp := HM2.out.p
  go_wp2
  clear cp
  refine wp_region_held_drew (S := Kept _) (by kernel_rfl) (Kept.refl _).drew (fun hHeld => ?_)
  refine rg_take (i := 0) (v := (.pointer (some ⟨w.heap.size, 0, none⟩))) (some 29) rfl rfl (by kernel_rfl) (by kernel_rfl) (by kernel_rfl) (fun _ _ _ h => h) (Or.inl ⟨by rfl, fun _ _ => by go_simp⟩) hHeld ?_
  simp only [Act.put, List.setIfInBounds_toArray, List.set_cons_zero, List.set_cons_succ]
  refine rg_take (i := 1) (v := (.int .i64 m.f)) (some 30) rfl rfl (by kernel_rfl) (by kernel_rfl) (by kernel_rfl) (fun _ _ _ h => h) (Or.inl ⟨by rfl, fun w' h => by have h' := kept_cell h (HM2.out.f); go_simp⟩) hHeld ?_
  simp only [Act.put, List.setIfInBounds_toArray, List.set_cons_zero, List.set_cons_succ]
  refine rg_take (i := 3) (v := (.pointer (some ⟨w.heap.size, 1, none⟩))) (some 32) rfl rfl (by kernel_rfl) (by kernel_rfl) (by kernel_rfl) (fun _ _ _ h => h) (Or.inl ⟨by rfl, fun _ _ => by go_simp⟩) hHeld ?_
  simp only [Act.put, List.setIfInBounds_toArray, List.set_cons_zero, List.set_cons_succ]
  refine rg_take (i := 4) (v := (.int .i64 m.t)) (some 33) rfl rfl (by kernel_rfl) (by kernel_rfl) (by kernel_rfl) (fun _ _ _ h => h) (Or.inl ⟨by rfl, fun w' h => by have h' := kept_cell h (HM2.out.t); go_simp⟩) hHeld ?_
  simp only [Act.put, List.setIfInBounds_toArray, List.set_cons_zero, List.set_cons_succ]
  refine wpAnyH_ready (rs := [2]) (by kernel_rfl) (by simp) ?_
  refine AllReadyH.cons rfl (fun K hK => ?_) AllReadyH.nil
  go_simp
  refine (HN1.out _).mono ?_
  rintro e x1 ⟨rfl, gx1⟩
  refine hK.out _ _ (hHeld.trans gx1) (fun _ => ?_)
  replace hHeld := hHeld.trans gx1
  clear hK K
  refine wpAnyH_ready (rs := [5]) (by kernel_rfl) (by simp) ?_
  refine AllReadyH.cons rfl (fun K hK => ?_) AllReadyH.nil
  go_simp
  refine (HN2.out _).mono ?_
  rintro e x2 ⟨rfl, gx2⟩
  refine hK.out _ _ (hHeld.trans gx2) (fun _ => ?_)
  replace hHeld := hHeld.trans gx2
  clear hK K
  refine rg_take (i := 6) (v := (.string (n1 ++ n2))) (some 35) rfl rfl (by kernel_rfl) (by kernel_rfl) (by kernel_rfl) (fun _ _ _ h => h) (Or.inl ⟨by rfl, fun _ _ => by go_simp⟩) hHeld ?_
  simp only [Act.put, List.setIfInBounds_toArray, List.set_cons_zero, List.set_cons_succ]
  refine rg_take (i := 7) (v := (.string (n1 ++ n2))) (some 3) rfl rfl (by kernel_rfl) (by kernel_rfl) (by kernel_rfl) (fun _ _ _ h => h) (Or.inl ⟨by rfl, fun _ _ => by go_simp⟩) hHeld ?_
  simp only [Act.put, List.setIfInBounds_toArray, List.set_cons_zero, List.set_cons_succ]
  refine wpAnyH_done (by kernel_rfl) ?_ _
  have HM3 := Lib.hid (MAt.kept HM2.out hHeld)
  have HK3 := Lib.hid (HK2.out.trans hHeld)
  clear hHeld
  have cp := HM3.out.p
  go_wp2
  go_ret
  exact ⟨by rw [HV'.out]; rfl, HK3.out⟩
set_option maxHeartbeats 2000000 in
theorem rtext7 (m : Mv) (h1 : onB m.f = true) (h2 : onB m.t = true) (h3 : promoB m.p = true) (h4 : m.p ≠ 0) (w : World) : Calls Tryd.prog 21 #[.agg (ml m).toArray] w fun e w' => e = .returned (.string (textB m)) ∧ Kept w w' := by
  have HM := Lib.hid (MAt.new w m)
  have HK0 := Lib.hid ((Kept.refl w).alloc (.cells (ml m).toArray 28))
  have HR1 := Lib.hid (rright_k m.f)
  have HR2 := Lib.hid (rright_k m.t)
  have cf := HM.out.f
  have o1 := (onB_iff _).1 h1
  have o2 := (onB_iff _).1 h2
  have HN1 := Lib.hid (fun w => rname_k m.f w o1.1 o1.2)
  have HN2 := Lib.hid (fun w => rname_k m.t w o2.1 o2.2)
  have HV' : Hid (textB m = (nameOf m.f ++ nameOf m.t) ++ smB m.p) := by show _ = _; unfold textB okT; rw [h1, h2, h3]; rfl
  have b1 : decide (m.p < 0) = false := decide_eq_false (by have := promo_five h3; omega)
  have b2 : (m.p == 1) = false := beq_eq_false_iff_ne.2 (by have := promo_five h3; omega)
  have b3 : decide (5 < m.p) = false := decide_eq_false (by have := promo_five h3; omega)
  have s1 : (nameOf m.f).size = 2 := rfl
  have s2 : (nameOf m.t).size = 2 := rfl
  have s3 := smB_size m.p
  rw [h1] at HR1
  rw [h2] at HR2
  have h25 : 2 ≤ m.p ∧ m.p ≤ 5 := by have := promo_five h3; omega
  have b4 : decide (0 < m.p) = true := decide_eq_true (by omega)
  have hsm : smB m.p = lettN (12 - m.p).toNat := by unfold smB; rw [if_neg h4]
  have he : inOrd (12 - m.p).toNat = -m.p := by unfold inOrd; rw [if_neg (by omega)]; omega
  have HLt := Lib.hid (fun w => rletter_yes (12 - m.p).toNat (by omega) w)
  rw [he, ← hsm] at HLt
  have e0 : IntKind.i64.wrap (-m.p) = -m.p := IntWalk.i64_in _ (by omega)
  have e0' : IntKind.i64.wrap (0 - m.p) = -m.p := by rw [Int.zero_sub]; exact e0
  clear hsm he h4 h25
  clear o1 o2 h1 h2 h3
  generalize nameOf m.f = n1 at *
  generalize nameOf m.t = n2 at *
  have s12 : (n1 ++ n2).size = 4 := by rw [ByteArray.size_append]; omega
  have z1 : ¬ 9223372036854775807 < n1.size + n2.size := by omega
  generalize smB m.p = n3 at *
  have z2 : ¬ 9223372036854775807 < (n1 ++ n2).size + n3.size := by omega
  have z3 : ¬ 9223372036854775807 < n1.size + n2.size + n3.size := by omega
  clear s1 s2 s12 s3
  go_enter Tryd.func21, Tryd.ntmps21
  go_wp2_with fail
  refine (HR1.out _).mono ?_
  rintro e w1 ⟨rfl, k1⟩
  have HK1 := Lib.hid (HK0.out.trans k1)
  have HM1 := Lib.hid (MAt.kept HM.out k1)
  clear k1 cf
  have ct := HM1.out.t
  go_wp2_with fail
  refine (HR2.out _).mono ?_
  rintro e w2 ⟨rfl, k2⟩
  have HK2 := Lib.hid (HK1.out.trans k2)
  have HM2 := Lib.hid (MAt.kept HM1.out k2)
  clear k2 ct
  have cp := HM2.out.p
  go_wp2
  clear cp
  refine wp_region_held_drew (S := Kept _) (by kernel_rfl) (Kept.refl _).drew (fun hHeld => ?_)
  refine rg_take (i := 0) (v := (.pointer (some ⟨w.heap.size, 0, none⟩))) (some 29) rfl rfl (by kernel_rfl) (by kernel_rfl) (by kernel_rfl) (fun _ _ _ h => h) (Or.inl ⟨by rfl, fun _ _ => by go_simp⟩) hHeld ?_
  simp only [Act.put, List.setIfInBounds_toArray, List.set_cons_zero, List.set_cons_succ]
  refine rg_take (i := 1) (v := (.int .i64 m.f)) (some 30) rfl rfl (by kernel_rfl) (by kernel_rfl) (by kernel_rfl) (fun _ _ _ h => h) (Or.inl ⟨by rfl, fun w' h => by have h' := kept_cell h (HM2.out.f); go_simp⟩) hHeld ?_
  simp only [Act.put, List.setIfInBounds_toArray, List.set_cons_zero, List.set_cons_succ]
  refine rg_take (i := 3) (v := (.pointer (some ⟨w.heap.size, 1, none⟩))) (some 32) rfl rfl (by kernel_rfl) (by kernel_rfl) (by kernel_rfl) (fun _ _ _ h => h) (Or.inl ⟨by rfl, fun _ _ => by go_simp⟩) hHeld ?_
  simp only [Act.put, List.setIfInBounds_toArray, List.set_cons_zero, List.set_cons_succ]
  refine rg_take (i := 4) (v := (.int .i64 m.t)) (some 33) rfl rfl (by kernel_rfl) (by kernel_rfl) (by kernel_rfl) (fun _ _ _ h => h) (Or.inl ⟨by rfl, fun w' h => by have h' := kept_cell h (HM2.out.t); go_simp⟩) hHeld ?_
  simp only [Act.put, List.setIfInBounds_toArray, List.set_cons_zero, List.set_cons_succ]
  refine wpAnyH_ready (rs := [2]) (by kernel_rfl) (by simp) ?_
  refine AllReadyH.cons rfl (fun K hK => ?_) AllReadyH.nil
  go_simp
  refine (HN1.out _).mono ?_
  rintro e x1 ⟨rfl, gx1⟩
  refine hK.out _ _ (hHeld.trans gx1) (fun _ => ?_)
  replace hHeld := hHeld.trans gx1
  clear hK K
  refine wpAnyH_ready (rs := [5]) (by kernel_rfl) (by simp) ?_
  refine AllReadyH.cons rfl (fun K hK => ?_) AllReadyH.nil
  go_simp
  refine (HN2.out _).mono ?_
  rintro e x2 ⟨rfl, gx2⟩
  refine hK.out _ _ (hHeld.trans gx2) (fun _ => ?_)
  replace hHeld := hHeld.trans gx2
  clear hK K
  refine rg_take (i := 6) (v := (.string (n1 ++ n2))) (some 35) rfl rfl (by kernel_rfl) (by kernel_rfl) (by kernel_rfl) (fun _ _ _ h => h) (Or.inl ⟨by rfl, fun _ _ => by go_simp⟩) hHeld ?_
  simp only [Act.put, List.setIfInBounds_toArray, List.set_cons_zero, List.set_cons_succ]
  refine rg_take (i := 7) (v := (.string (n1 ++ n2))) (some 3) rfl rfl (by kernel_rfl) (by kernel_rfl) (by kernel_rfl) (fun _ _ _ h => h) (Or.inl ⟨by rfl, fun _ _ => by go_simp⟩) hHeld ?_
  simp only [Act.put, List.setIfInBounds_toArray, List.set_cons_zero, List.set_cons_succ]
  refine wpAnyH_done (by kernel_rfl) ?_ _
  have HM3 := Lib.hid (MAt.kept HM2.out hHeld)
  have HK3 := Lib.hid (HK2.out.trans hHeld)
  clear hHeld
  have cp := HM3.out.p
  go_wp2_with fail
  refine (HLt.out _).mono ?_
  rintro e w4 ⟨rfl, rfl⟩
  clear cp
  go_wp2
  go_ret
  exact ⟨by rw [HV'.out]; rfl, HK3.out⟩
theorem rtext_is (m : Mv) (w : World) : Calls Tryd.prog 21 #[.agg (ml m).toArray] w fun e w' => e = .returned (.string (textB m)) ∧ Kept w w' := by
  cases h1 : onB m.f
  · exact rtext1 m h1 w
  · cases h2 : onB m.t
    · exact rtext2 m h1 h2 w
    · cases h3 : promoB m.p
      · by_cases a : m.p < 0
        · exact rtext3 m h1 h2 a w
        · by_cases b : m.p = 1
          · exact rtext4 m h1 h2 b w
          · refine rtext5 m h1 h2 ?_ w
            unfold promoB at h3
            simp only [Bool.or_eq_false_iff, beq_eq_false_iff_ne, Bool.and_eq_false_iff, decide_eq_false_iff_not] at h3
            omega
      · by_cases h4 : m.p = 0
        · exact rtext6 m h1 h2 h3 h4 w
        · exact rtext7 m h1 h2 h3 h4 w
/-- What a text is as a Promo's letter. -/
def LR (c : ByteArray) (q : Int) (b : Bool) : Prop := (b = true ∧ promoB q = true ∧ c = smB q) ∨ (b = false ∧ q = 0 ∧ ∀ x, promoB x = true → c ≠ smB x)
theorem promoOf_is (c : ByteArray) (w : World) (hT : TabM w) : Calls Tryd.prog 59 #[.string c] w fun e w' => ∃ q b, LR c q b ∧ e = .returned (.tuple #[.int .i64 q, .bool b]) ∧ Kept w w' := by
  have HT := Lib.hid hT
  clear hT
  go_enter Tryd.func59, Tryd.ntmps59
  go_wp2_with (refine wpList_load_mid rfl 82 _ rfl 2 0 rfl prV _ HT.out.proms.range Tryd.underlying82 rfl size_proms ?_)
  go_loopw [7] (fun t7 wr => ∃ k : Nat, k ≤ 5 ∧ t7 = .int .i64 k ∧ (∀ j, j < k → c ≠ smB (prL.getD j 0)) ∧ Kept w wr) (fun t7 _ => 5 - (intOf t7).toNat)
  case atStart => exact ⟨0, by omega, rfl, fun j hj => by omega, Kept.refl _⟩
  case round =>
    obtain ⟨k, hk, rfl, hno, hK⟩ := hrel
    have HNo := Lib.hid hno
    have HK := Lib.hid hK
    clear hno hK
    by_cases hlt : k < 5
    · have hx := run_index_pr k hlt
      have HPr := Lib.hid (promo_at k hlt)
      obtain ⟨x, hxe⟩ : ∃ x, prL.getD k 0 = x := ⟨_, rfl⟩
      rw [hxe] at HPr
      simp only [hxe] at hx
      have HX := Lib.hid hxe
      have HSm := Lib.hid (fun w => small_is x HPr.out w)
      clear hxe
      by_cases he : c = smB x
      · have HE := Lib.hid he
        have hb : ((smB x).toList == c.toList) = true := by rw [he]; simp
        obtain ⟨sx, hsx⟩ : ∃ y, smB x = y := ⟨_, rfl⟩
        rw [hsx] at hb HSm
        clear he hsx
        go_wp2_with fail
        refine (HSm.out _).mono ?_
        rintro e w1 ⟨rfl, k1⟩
        have HK1 := Lib.hid (HK.out.trans k1)
        clear k1
        go_wp2
        go_ret2
        exact ⟨x, true, .inl ⟨rfl, HPr.out, HE.out⟩, rfl, HK1.out⟩
      · have HE := Lib.hid he
        have hb := str_eq_false (fun e => he e.symm)
        obtain ⟨sx, hsx⟩ : ∃ y, smB x = y := ⟨_, rfl⟩
        rw [hsx] at hb HSm
        clear he hsx
        go_wp2_with fail
        refine (HSm.out _).mono ?_
        rintro e w1 ⟨rfl, k1⟩
        have HK1 := Lib.hid (HK.out.trans k1)
        clear k1
        go_wp2
        go_roundw
        case rel => exact ⟨k + 1, by omega, by go_num, fun j hj => by rcases Nat.lt_succ_iff_lt_or_eq.1 hj with h | h; exact HNo.out j h; rw [h, HX.out]; exact HE.out, HK1.out⟩
        case measure => simp [intOf]; omega
    · have HF : Hid (∀ x, promoB x = true → c ≠ smB x) := by
        intro x hx
        rcases promo_five hx with rfl | rfl | rfl | rfl | rfl
        · exact HNo.out 0 (by omega)
        · exact HNo.out 1 (by omega)
        · exact HNo.out 2 (by omega)
        · exact HNo.out 3 (by omega)
        · exact HNo.out 4 (by omega)
      go_wp2
      go_ret2
      exact ⟨0, false, .inr ⟨rfl, rfl, HF.out⟩, rfl, HK.out⟩
end Go.Proofs.YtliibpahnkeogaaDoor
