/- Contracts of Parse and of the document's Called: what a text that is a square's name is read as, and that no other text is one. -/
import Derived.Test.YtjigidifcojmmaaSqC
import Derived.Laws.RangeAny
namespace Go.Proofs.Ytjigidifcojmmaa
open Go.RowKit
set_option linter.unusedVariables false

theorem frozen_alloc_iter (w : World) (s : ByteArray) (p : Nat) (a : Addr) : (w.iter s p).frozen? a = w.frozen? a := by
  by_cases h : a.block = w.heap.size
  · have e1 : (w.iter s p).heap[a.block]? = some (.stringIter s p) := by rw [h]; exact World.iter_heap w s p
    have e2 : w.heap[a.block]? = none := by rw [h]; simp
    simp [World.frozen?, e1, e2]
  · exact World.frozen?_alloc_old _ _ _ h
theorem kept_iter (w : World) (s : ByteArray) (p : Nat) : w.keptBut (w.iter s p) (fun _ => False) := by
  refine ⟨rfl, rfl, fun i hi => ?_⟩
  have e : (w.iter s p).heap[i]? = w.heap[i]? := by
    show (w.heap.push _)[i]? = _
    rw [Array.getElem?_push, if_neg (by omega)]
  rw [e]
  split <;> simp_all
theorem grown_iter (w : World) (s : ByteArray) (p : Nat) : Grown w (w.iter s p) :=
  ⟨kept_iter w s p, fun a => frozen_alloc_iter w s p a, by show w.heap.size ≤ (w.heap.push _).size; simp⟩

/-- What holds of Parse's two variables where it has read up to 'pos'. -/
def St (s : ByteArray) (pos : Nat) (f r : Int) : Prop :=
  (pos = 0 ∧ f = -1 ∧ r = -1)
  ∨ (0 < s.size ∧ pos = (Utf8.decode s 0).2 ∧ f = (Utf8.decode s 0).1 - 97 ∧ r = -1)
  ∨ (1 < s.size ∧ (Utf8.decode s 0).2 = 1 ∧ pos = 1 + (Utf8.decode s 1).2 ∧ f = (Utf8.decode s 0).1 - 97 ∧ r = (Utf8.decode s 1).1 - 49)
theorem width_pos (s : ByteArray) (pos : Nat) (h : pos < s.size) : 1 ≤ (Utf8.decode s pos).2 := by
  by_cases ha : (s[pos]'h).toNat < 128
  · rw [decode_ascii s pos h ha]
    exact Nat.le_refl _
  · exact (decode_high s pos h (by omega)).2
theorem St_0 {s : ByteArray} {f r : Int} (h : St s 0 f r) (h0 : 0 < s.size) : f = -1 ∧ r = -1 ∧ St s ((Utf8.decode s 0).2) ((Utf8.decode s 0).1 - 97) (-1) := by
  have hw := width_pos s 0 h0
  rcases h with h | h | h
  · exact ⟨h.2.1, h.2.2, .inr (.inl ⟨h0, rfl, rfl, rfl⟩)⟩
  · omega
  · omega
theorem St_1 {s : ByteArray} {f r : Int} (h : St s 1 f r) (h1 : 1 < s.size) : f = (Utf8.decode s 0).1 - 97 ∧ r = -1 ∧ St s (1 + (Utf8.decode s 1).2) ((Utf8.decode s 0).1 - 97) ((Utf8.decode s 1).1 - 49) := by
  have hw := width_pos s 1 h1
  rcases h with h | h | h
  · omega
  · exact ⟨h.2.2.1, h.2.2.2, .inr (.inr ⟨h1, h.2.1.symm, rfl, rfl, rfl⟩)⟩
  · omega
theorem two_bytes (s : ByteArray) (h : s.size = 2) : s = ⟨#[s[0], s[1]]⟩ := by
  obtain ⟨⟨l⟩⟩ := s
  match l, h with
  | [a, b], _ => rfl
theorem St_end {s : ByteArray} {pos : Nat} {f r : Int} (h : St s pos f r) (he : ¬ pos < s.size) (hn : ∀ n : Nat, n < 64 → s ≠ nameOf n) : f < 0 ∨ 8 ≤ f ∨ r < 0 ∨ 8 ≤ r := by
  rcases h with h | h | h
  · omega
  · omega
  · obtain ⟨h1, hw0, hp, hf, hr⟩ := h
    by_cases hall : f < 0 ∨ 8 ≤ f ∨ r < 0 ∨ 8 ≤ r
    · exact hall
    · exfalso
      have a0 : (s[0]'(by omega)).toNat < 128 := by
        by_cases g : (s[0]'(by omega)).toNat < 128
        · exact g
        · have := (decode_high s 0 (by omega) (by omega)).1; omega
      have a1 : (s[1]'(by omega)).toNat < 128 := by
        by_cases g : (s[1]'(by omega)).toNat < 128
        · exact g
        · have := (decode_high s 1 (by omega) (by omega)).1; omega
      have d0 := decode_ascii s 0 (by omega) a0
      have d1 := decode_ascii s 1 (by omega) a1
      rw [d0] at hf
      rw [d1] at hr hp
      simp only at hf hr hp
      have hs : s.size = 2 := by omega
      refine hn (((s[1]'(by omega)).toNat - 49) * 8 + ((s[0]'(by omega)).toNat - 97)) (by omega) ?_
      rw [nameOf]
      conv => lhs; rw [two_bytes s hs]
      congr 3
      · apply UInt8.toNat.inj
        simp
        omega
      · congr 1
        apply UInt8.toNat.inj
        simp
        omega
theorem parse_no (s : ByteArray) (w : World) (hn : ∀ n : Nat, n < 64 → s ≠ nameOf n) :
    Calls Try.prog 17 #[.string s] w fun e w' => e = .returned (.tuple #[.int .i64 0, .bool false]) ∧ Grown w w' := by
  have HN := Lib.hid hn
  clear hn
  go_enter Try.func17, Try.ntmps17
  go_wp2
  go_loopw [4, 5] (fun t4 t5 w' => ∃ (pos : Nat) (f r : Int), w' = w.iter s pos ∧ t4 = .int .i64 f ∧ t5 = .int .i64 r ∧ St s pos f r) (fun _ _ w' => s.size - w'.iterPos w.heap.size)
  case atStart => exact ⟨0, -1, -1, rfl, rfl, rfl, .inl ⟨rfl, rfl, rfl⟩⟩
  case round =>
    obtain ⟨pos, f, r, rfl, rfl, rfl, hst⟩ := hrel
    by_cases hp : pos < s.size
    · have hnx : ∀ ty, (Instr.next (.pointer (some ⟨w.heap.size, 0, none⟩)) true ty).run Try.prog (w.iter s pos) = _ := fun ty => run_next_any w s pos ty hp
      have hwd := width_pos s pos hp
      have hle := decode_le s pos
      by_cases h0 : pos = 0
      · subst h0
        obtain ⟨rfl, rfl, hst'⟩ := St_0 hst hp
        clear hst
        go_wp2
        go_roundw
        case rel => exact ⟨_, _, _, rfl, rfl, rfl, hst'⟩
        case measure => simp; omega
      · by_cases h1 : pos = 1
        · subst h1
          obtain ⟨rfl, rfl, hst'⟩ := St_1 hst hp
          have hle0 := decode_le s 0
          clear hst h0
          go_wp2
          go_roundw
          case rel => exact ⟨_, _, _, rfl, rfl, rfl, hst'⟩
          case measure => simp; omega
        · have b0 : ((pos : Int) == 0) = false := beq_eq_false_iff_ne.2 (by omega)
          have b1 : ((pos : Int) == 1) = false := beq_eq_false_iff_ne.2 (by omega)
          clear hst h0 h1
          go_wp2
          go_ret2
          exact ⟨rfl, grown_iter _ _ _⟩
    · have hnx : ∀ ty, (Instr.next (.pointer (some ⟨w.heap.size, 0, none⟩)) true ty).run Try.prog (w.iter s pos) = _ := fun ty => run_next_end w s pos ty hp
      have H := Lib.hid (St_end hst hp HN.out)
      clear hst
      go_wp2_with fail
      refine (at_no _ _ _ H.out).mono ?_
      rintro e w' ⟨rfl, rfl⟩
      go_wp2
      go_ret2
      exact ⟨rfl, grown_iter _ _ _⟩
theorem St_name {n pos : Nat} (hn : n < 64) {f r : Int} (h : St (nameOf n) pos f r) (he : ¬ pos < 2) : f = n % 8 ∧ r = n / 8 := by
  have e0 : ((nameOf n)[0]'(by show 0 < 2; omega)).toNat = 97 + n % 8 := by
    show ((97 + ((n : Int) % 8).toNat).toUInt8).toNat = _
    simp; omega
  have e1 : ((nameOf n)[1]'(by show 1 < 2; omega)).toNat = 49 + n / 8 := by
    show ((49 + ((n : Int) / 8).toNat).toUInt8).toNat = _
    simp; omega
  have d0 := decode_ascii (nameOf n) 0 (by show 0 < 2; omega) (by omega)
  have d1 := decode_ascii (nameOf n) 1 (by show 1 < 2; omega) (by omega)
  rw [e0] at d0
  rw [e1] at d1
  unfold St at h
  rw [d0, d1] at h
  simp only at h
  rcases h with h | h | h
  · omega
  · omega
  · omega
theorem nameOf_size (n : Int) : (nameOf n).size = 2 := rfl
theorem parse_yes (n : Nat) (w : World) (hn : n < 64) :
    Calls Try.prog 17 #[.string (nameOf n)] w fun e w' => e = .returned (.tuple #[.int .i64 n, .bool true]) ∧ Grown w w' := by
  have hsz := nameOf_size n
  have HS := Lib.hid (fun (pos : Nat) (f r : Int) (h : St (nameOf n) pos f r) (he : ¬ pos < 2) => St_name hn h he)
  have hq : n / 8 * 8 + n % 8 = n := by omega
  have HQ := Lib.hid hq
  clear hq
  generalize nameOf n = s at *
  have hsl : s.size ≤ 2 := by omega
  have hsg : 2 ≤ s.size := by omega
  clear hsz
  go_enter Try.func17, Try.ntmps17
  go_wp2
  go_loopw [4, 5] (fun t4 t5 w' => ∃ (pos : Nat) (f r : Int), w' = w.iter s pos ∧ t4 = .int .i64 f ∧ t5 = .int .i64 r ∧ St s pos f r) (fun _ _ w' => s.size - w'.iterPos w.heap.size)
  case atStart => exact ⟨0, -1, -1, rfl, rfl, rfl, .inl ⟨rfl, rfl, rfl⟩⟩
  case round =>
    obtain ⟨pos, f, r, rfl, rfl, rfl, hst⟩ := hrel
    by_cases hp : pos < s.size
    · have hnx : ∀ ty, (Instr.next (.pointer (some ⟨w.heap.size, 0, none⟩)) true ty).run Try.prog (w.iter s pos) = _ := fun ty => run_next_any w s pos ty hp
      have hwd := width_pos s pos hp
      have hle := decode_le s pos
      by_cases h0 : pos = 0
      · subst h0
        obtain ⟨rfl, rfl, hst'⟩ := St_0 hst hp
        clear hst
        go_wp2
        go_roundw
        case rel => exact ⟨_, _, _, rfl, rfl, rfl, hst'⟩
        case measure => simp; omega
      · obtain rfl : pos = 1 := by omega
        obtain ⟨rfl, rfl, hst'⟩ := St_1 hst hp
        have hle0 := decode_le s 0
        clear hst h0
        go_wp2
        go_roundw
        case rel => exact ⟨_, _, _, rfl, rfl, rfl, hst'⟩
        case measure => simp; omega
    · have hnx : ∀ ty, (Instr.next (.pointer (some ⟨w.heap.size, 0, none⟩)) true ty).run Try.prog (w.iter s pos) = _ := fun ty => run_next_end w s pos ty hp
      obtain ⟨rfl, rfl⟩ := HS.out _ _ _ hst (by omega)
      clear hst
      go_wp2_with fail
      refine (at_yes _ _ _ (by omega) (by omega) (by omega) (by omega)).mono ?_
      rintro e w' ⟨rfl, rfl⟩
      go_wp2
      go_ret2
      exact ⟨congrArg (fun i => Ending.returned (.tuple #[.int .i64 i, .bool true])) (by omega), grown_iter _ _ _⟩
theorem parse_dash (w : World) : Calls Try.prog 17 #[.string ⟨#[45]⟩] w fun e w' => e = .returned (.tuple #[.int .i64 0, .bool false]) ∧ Grown w w' :=
  parse_no ⟨#[45]⟩ w (fun n hn h => by have := congrArg ByteArray.size h; simp [nameOf, ByteArray.size] at this)

theorem nameOf_inj {a b : Nat} (ha : a < 64) (hb : b < 64) (h : nameOf a = nameOf b) : a = b := by
  have : ∀ x y : Fin 64, nameOf ((x : Nat) : Int) = nameOf ((y : Nat) : Int) → x = y := by decide +kernel
  exact congrArg Fin.val (this ⟨a, ha⟩ ⟨b, hb⟩ h)
theorem str_eq_false {a b : ByteArray} (h : a ≠ b) : (a.toList == b.toList) = false := by
  rw [beq_eq_false_iff_ne]
  intro e
  rw [ByteArray.toList_eq, ByteArray.toList_eq] at e
  exact h (WideShapes.bytes_inj e)
theorem called_yes (n : Nat) (w : World) (hn : n < 64) :
    Calls Try.prog 18 #[.string (nameOf n)] w fun e w' => e = .returned (.int .i64 n) ∧ ∃ m, w' = w.drewN m := by
  go_enter Try.func18, Try.ntmps18
  go_wp2
  go_loopw [3] (fun t w' => ∃ k m : Nat, k ≤ n ∧ t = .int .i64 k ∧ w' = w.drewN m) (fun t _ => 64 - (intOf t).toNat)
  case atStart => exact ⟨0, 0, by omega, rfl, rfl⟩
  case round =>
    obtain ⟨k, m, hk, rfl, rfl⟩ := hrel
    by_cases he : k = n
    · subst he
      go_wp2_with fail
      refine (rname_yes _ _ (by omega) (by omega)).mono ?_
      rintro e w1 ⟨rfl, q, rfl⟩
      go_wp2
      go_ret
      exact ⟨rfl, m + q, rfl⟩
    · have hb := str_eq_false (fun e => he (nameOf_inj (a := k) (b := n) (by omega) hn e))
      have hk' : k < n := by omega
      clear he
      go_wp2_with fail
      refine (rname_yes _ _ (by omega) (by omega)).mono ?_
      rintro e w1 ⟨rfl, q, rfl⟩
      go_wp2
      go_roundw
      case rel => exact ⟨k + 1, m + q, by omega, by go_num, rfl⟩
      case measure => simp [intOf]; omega
theorem called_no (s : ByteArray) (w : World) (hn : ∀ n : Nat, n < 64 → s ≠ nameOf n) :
    Calls Try.prog 18 #[.string s] w fun e w' => e = .returned (.int .i64 (-1)) ∧ ∃ m, w' = w.drewN m := by
  have HN := Lib.hid hn
  clear hn
  go_enter Try.func18, Try.ntmps18
  go_wp2
  go_loopw [3] (fun t w' => ∃ k m : Nat, k ≤ 64 ∧ t = .int .i64 k ∧ w' = w.drewN m) (fun t _ => 64 - (intOf t).toNat)
  case atStart => exact ⟨0, 0, by omega, rfl, rfl⟩
  case round =>
    obtain ⟨k, m, hk, rfl, rfl⟩ := hrel
    by_cases hlt : (k : Int) < 64
    · have hb := str_eq_false (fun e => HN.out k (by omega) e.symm)
      go_wp2_with fail
      refine (rname_yes _ _ (by omega) (by omega)).mono ?_
      rintro e w1 ⟨rfl, q, rfl⟩
      go_wp2
      go_roundw
      case rel => exact ⟨k + 1, m + q, by omega, by go_num, rfl⟩
      case measure => simp [intOf]; omega
    · go_wp2
      go_ret
      exact ⟨rfl, m, rfl⟩

theorem walkSquareNames (s : Int) (w0 : (Lit.int .i64 s).wf = true) (w : World) :
    Calls Try.prog 3 #[.int .i64 s] w fun e w' => e = .returned (.bool true) ∧ Grown w w' := by
  clear w0
  by_cases hs : s < 0 ∨ 64 ≤ s
  · go_enter Try.func3, Try.ntmps3
    go_wp2_with fail
    refine (wakes _).mono ?_
    rintro e w1 ⟨rfl, gw1⟩
    go_wp2_with fail
    refine (right_no _ _ hs).mono ?_
    rintro e w' ⟨rfl, rfl⟩
    go_wp2_with fail
    refine (rright_no _ _ hs).mono ?_
    rintro e w' ⟨rfl, rfl⟩
    go_wp2_with fail
    refine (file_no _ _ hs).mono ?_
    rintro e w' ⟨rfl, rfl⟩
    go_wp2_with fail
    refine (rfile_no _ _ hs).mono ?_
    rintro e w' ⟨rfl, rfl⟩
    go_wp2_with fail
    refine (rank_no _ _ hs).mono ?_
    rintro e w' ⟨rfl, rfl⟩
    go_wp2_with fail
    refine (rrank_no _ _ hs).mono ?_
    rintro e w' ⟨rfl, rfl⟩
    go_wp2_with fail
    refine (name_no _ _ hs).mono ?_
    rintro e w' ⟨rfl, rfl⟩
    go_wp2_with fail
    refine (rname_no _ _ hs).mono ?_
    rintro e w' ⟨rfl, rfl⟩
    go_wp2_with fail
    refine (name_no _ _ hs).mono ?_
    rintro e w' ⟨rfl, rfl⟩
    go_wp2_with fail
    refine (parse_dash _).mono ?_
    rintro e w2 ⟨rfl, gw2⟩
    go_wp2_with fail
    refine (rright_no _ _ hs).mono ?_
    rintro e w' ⟨rfl, rfl⟩
    go_wp2
    go_ret
    exact ⟨rfl, grown_trans gw1 gw2⟩
  · obtain ⟨n, rfl⟩ := Int.eq_ofNat_of_zero_le (show 0 ≤ s by omega)
    have h0 : 0 ≤ (n : Int) := by omega
    have h1 : (n : Int) < 64 := by omega
    have hn : n < 64 := by omega
    clear hs
    go_enter Try.func3, Try.ntmps3
    go_wp2_with fail
    refine (wakes _).mono ?_
    rintro e w1 ⟨rfl, gw1⟩
    go_wp2_with fail
    refine (right_yes _ _ h0 h1).mono ?_
    rintro e w' ⟨rfl, rfl⟩
    go_wp2_with fail
    refine (rright_yes _ _ h0 h1).mono ?_
    rintro e w' ⟨rfl, rfl⟩
    go_wp2_with fail
    refine (file_yes _ _ h0 h1).mono ?_
    rintro e w' ⟨rfl, rfl⟩
    go_wp2_with fail
    refine (rfile_yes _ _ h0 h1).mono ?_
    rintro e w' ⟨rfl, rfl⟩
    go_wp2_with fail
    refine (rank_yes _ _ h0 h1).mono ?_
    rintro e w' ⟨rfl, rfl⟩
    go_wp2_with fail
    refine (rrank_yes _ _ h0 h1).mono ?_
    rintro e w' ⟨rfl, rfl⟩
    go_wp2_with fail
    refine (name_grown _ _ h0 h1).mono ?_
    rintro e w2 ⟨rfl, gw2⟩
    go_wp2_with fail
    refine (rname_yes _ _ h0 h1).mono ?_
    rintro e w3 ⟨rfl, q, rfl⟩
    go_wp2_with fail
    refine (name_grown _ _ h0 h1).mono ?_
    rintro e w4 ⟨rfl, gw4⟩
    go_wp2_with fail
    refine (parse_yes n _ hn).mono ?_
    rintro e w5 ⟨rfl, gw5⟩
    go_wp2_with fail
    refine (rright_yes _ _ h0 h1).mono ?_
    rintro e w' ⟨rfl, rfl⟩
    go_wp2
    go_ret
    exact ⟨rfl, grown_trans gw1 (grown_trans gw2 (grown_trans (grown_drewN w2 q) (grown_trans gw4 gw5)))⟩

theorem dash_no : ∀ n : Nat, n < 64 → (⟨#[45]⟩ : ByteArray) ≠ nameOf n := fun n hn h => by have := congrArg ByteArray.size h; simp [nameOf, ByteArray.size] at this
theorem dash_list (n : Nat) (hn : n < 64) : ((nameOf n).toList == [45]) = false := by
  rw [beq_eq_false_iff_ne, ByteArray.toList_eq]
  simp [nameOf]
theorem walkSquareReads (t : ByteArray) (w0 : t.size ≤ maxLen) (w : World) :
    Calls Try.prog 4 #[.string t] w fun e w' => e = .returned (.bool true) ∧ Grown w w' := by
  unfold maxLen at w0
  by_cases hl : 100 < (t.size : Int)
  · go_enter Try.func4, Try.ntmps4
    go_wp2_with fail
    refine (wakes _).mono ?_
    rintro e w1 ⟨rfl, gw1⟩
    go_wp2
    go_ret
    exact ⟨rfl, gw1⟩
  · by_cases hn : ∃ n : Nat, n < 64 ∧ t = nameOf n
    · obtain ⟨n, hn, rfl⟩ := hn
      have hb : ((nameOf n).toList == [45]) = false := dash_list n hn
      have hz : decide ((n : Int) < 0) = false := by simp
      go_enter Try.func4, Try.ntmps4
      go_wp2_with fail
      refine (wakes _).mono ?_
      rintro e w1 ⟨rfl, gw1⟩
      go_wp2_with fail
      refine (parse_yes n _ hn).mono ?_
      rintro e w2 ⟨rfl, gw2⟩
      go_wp2_with fail
      refine (called_yes n _ hn).mono ?_
      rintro e w3 ⟨rfl, q, rfl⟩
      go_wp2
      go_ret
      exact ⟨rfl, grown_trans gw1 (grown_trans gw2 (grown_drewN w2 q))⟩
    · have hn' : ∀ n : Nat, n < 64 → t ≠ nameOf n := fun n h e => hn ⟨n, h, e⟩
      have HN := Lib.hid hn'
      clear hn hn'
      go_enter Try.func4, Try.ntmps4
      go_wp2_with fail
      refine (wakes _).mono ?_
      rintro e w1 ⟨rfl, gw1⟩
      go_wp2_with fail
      refine (parse_no _ _ HN.out).mono ?_
      rintro e w2 ⟨rfl, gw2⟩
      go_wp2_with fail
      refine (called_no _ _ HN.out).mono ?_
      rintro e w3 ⟨rfl, q, rfl⟩
      go_wp2
      go_ret
      exact ⟨rfl, grown_trans gw1 (grown_trans gw2 (grown_drewN w2 q))⟩
end Go.Proofs.Ytjigidifcojmmaa
