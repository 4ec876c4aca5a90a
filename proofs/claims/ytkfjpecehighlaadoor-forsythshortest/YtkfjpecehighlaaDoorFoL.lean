/- Writing: a digit, a letter, a row. -/
import Derived.Test.YtkfjpecehighlaaDoorFoK
import Derived.Test.YtkfjpecehighlaaDoorFoE
import Derived.Test.YtkfjpecehighlaaDoorShelf
namespace Go.Proofs.YtkfjpecehighlaaDoor
open Go.RowKit
set_option linter.unusedVariables false
set_option linter.unusedSimpArgs false

theorem bs_eq {a : ByteArray} {l : List UInt8} (h : a.data.toList = l) : a = ⟨l.toArray⟩ := by
  obtain ⟨⟨x⟩⟩ := a
  simp at h
  rw [h]
theorem bs_app (a b : ByteArray) : (a ++ b).data.toList = a.data.toList ++ b.data.toList := by
  simp [ByteArray.data_append]
theorem decDigits_one (k : Nat) (h : k < 10) : Lib.decDigits k = [UInt8.ofNat (48 + k)] := by
  unfold Lib.decDigits
  rw [dif_pos h]
theorem digit_is (k : Nat) (hk : k ≤ 8) (w : World) :
    Calls Tryd.prog 20 #[.int .i64 k] w fun e w' => e = .returned (.string ⟨(dig k).toArray⟩) ∧ w = w' := by
  by_cases h0 : k = 0
  · subst h0
    go_enter Tryd.func20, Tryd.ntmps20
    go_wp2
    go_ret
    exact ⟨rfl, rfl⟩
  · have b0 : ((k : Int) == 0) = false := beq_eq_false_iff_ne.2 (by omega)
    have he := Lib.hid (show dig k = Lib.decDigits k by rw [decDigits_one k (by omega)]; unfold dig; rw [if_neg h0])
    clear h0
    go_enter Tryd.func20, Tryd.ntmps20
    go_wp2_with fail
    refine (Tryd.strconv_Itoa_small k (by omega) _).mono ?_
    rintro e w' ⟨rfl, rfl⟩
    go_wp2
    go_ret
    exact ⟨by rw [he.out]; rfl, rfl⟩
theorem letter_any (m : Int) (h : okB m = true) (w : World) :
    Calls Tryd.prog 21 #[.int .i64 m] w fun e w' => e = .returned (.string ⟨(lettM m).toArray⟩) ∧ Grown w w' := by
  unfold lettM
  by_cases h0 : m = 0
  · rw [if_pos h0]
    exact letter_no m w (by omega)
  · rw [if_neg h0]
    have hm : manB m = true := by
      unfold okB at h
      have : (m == 0) = false := by simpa using h0
      simpa [this] using h
    obtain ⟨h1, h2⟩ := ordN_lt m hm
    have := letter_yes (ordN m) h1 w
    rw [h2] at this
    exact this
theorem at_nat (f r : Nat) (w : World) (hf : f < 8) (hr : r < 8) :
    Calls Tryd.prog 18 #[.int .i64 f, .int .i64 r] w fun e w' => e = .returned (.tuple #[.int .i64 ((8 * r + f : Nat) : Int), .bool true]) ∧ w = w' := by
  have := at_yes f r w (by omega) (by omega) (by omega) (by omega)
  rwa [show (r : Int) * 8 + (f : Int) = ((8 * r + f : Nat) : Int) by omega] at this
theorem drop_row (B : List Int) (r f : Nat) (h : f < 8) : (rowL B r).drop f = B.getD (8 * r + f) 0 :: (rowL B r).drop (f + 1) := by
  rw [List.drop_eq_getElem_cons (by rw [rowL_len]; exact h), ← getD_at, rowL_get _ _ _ h]
theorem row_is (B : List Int) (hB : Brd B) (hR : rightB B = true) (r : Nat) (hr : r < 8) (w : World) :
    Calls Tryd.prog 11 #[.agg (cl B).toArray, .int .i64 r] w fun e w' => e = .returned (.string ⟨(rowT B r).toArray⟩) ∧ Kept w w' := by
  have H := Lib.hid hB
  have HO := Lib.hid ((rightB_iff B hB.1).1 hR)
  have hz := Lib.hid (size_cl hB.1)
  have hbl := Lib.hid (heap_alloc_new w (.cells (cl B).toArray 24))
  have hk0 := Lib.hid ((Kept.refl w).alloc (.cells (cl B).toArray 24))
  clear hB hR
  generalize eW : w.alloc (.cells (cl B).toArray 24) = W at *
  have HW := Lib.hid eW
  clear eW
  go_enter Tryd.func11, Tryd.ntmps11
  go_wp2
  go_loopw [5, 6, 11] (fun t5 t6 t11 wr => ∃ (f g : Nat) (tx : ByteArray), f ≤ 8 ∧ g ≤ f ∧ t11 = .int .i64 f ∧ t6 = .int .i64 g ∧ t5 = .string tx ∧ tx.data.toList ++ rowGo ((rowL B r).drop f) g = rowT B r ∧ Kept W wr) (fun _ _ t11 _ => 8 - (intOf t11).toNat)
  case atStart => exact ⟨0, 0, ⟨#[]⟩, by omega, by omega, rfl, rfl, rfl, rfl, by rw [← HW.out]; exact Kept.refl _⟩
  case round =>
    obtain ⟨f, g, tx, hf, hg, rfl, rfl, rfl, ht, hK⟩ := hrel
    have HT := Lib.hid ht
    have HK := Lib.hid hK
    have HX : Hid (tx.size ≤ 17) := by
      have h1 := rowT_len B r
      rw [← ht, List.length_append, len_size] at h1
      exact Nat.le_trans (Nat.le_add_right _ _) h1
    clear ht hK
    by_cases hl : f < 8
    · have hl' : (f : Int) < 8 := by omega
      have HD := Lib.hid (drop_row B r f hl)
      go_wp2_with fail
      refine (at_nat f r _ (by omega) (by omega)).mono ?_
      rintro e w' ⟨rfl, rfl⟩
      go_wp2_with (refine wpList_load_w (by rfl) _ rfl w.heap.size rfl B (HK.out.heap hbl.out) hz.out ?_)
      refine (man_yes B H.out (8 * r + f) (by omega) _).mono ?_
      rintro e w1 ⟨rfl, g1⟩
      have HK1 := Lib.hid (HK.out.trans g1)
      have HM := Lib.hid (HO.out (8 * r + f) (by omega))
      generalize B.getD (8 * r + f) 0 = m at *
      clear g1
      by_cases hm : m = 0
      · subst hm
        go_wp2
        go_roundw
        case rel => exact ⟨f + 1, g + 1, tx, by omega, by omega, by go_num, by go_num, rfl, by have := HT.out; rw [HD.out] at this; simpa [rowGo] using this, HK1.out⟩
        case measure => simp [intOf]; omega
      · have bm : (m == 0) = false := by simpa using hm
        have HZ := Lib.hid hm
        clear hm
        go_wp2_with fail
        refine (digit_is g (by omega) _).mono ?_
        rintro e w' ⟨rfl, rfl⟩
        go_wp2_with fail
        refine (letter_any m HM.out _).mono ?_
        rintro e w2 ⟨rfl, g2⟩
        have HK2 := Lib.hid (HK1.out.trans (Kept.of_grown g2))
        clear g2
        have s0 := lettM_len m
        have s1 := dig_len g
        have s2 : ¬ 9223372036854775807 < (dig g).length + (lettM m).length := by omega
        have s3 : ¬ 9223372036854775807 < tx.size + ((dig g).length + (lettM m).length) := by have := HX.out; omega
        go_wp2
        go_roundw
        case rel => exact ⟨f + 1, 0, _, by omega, by omega, by go_num, rfl, rfl, by have := HT.out; rw [HD.out, rowGo, if_neg HZ.out] at this; rw [bs_app, bs_app, ← this]; simp, HK2.out⟩
        case measure => simp [intOf]; omega
    · have e8 : f = 8 := by omega
      subst e8
      have HE : Hid (tx.data.toList ++ dig g = rowT B r) := by
        have := HT.out
        rw [List.drop_eq_nil_of_le (by rw [rowL_len]; omega)] at this
        exact this
      clear HT hl
      go_wp2_with fail
      refine (digit_is g (by omega) _).mono ?_
      rintro e w' ⟨rfl, rfl⟩
      have s1 := dig_len g
      have s3 : ¬ 9223372036854775807 < tx.size + (dig g).length := by have := HX.out; omega
      go_wp2
      go_ret
      refine ⟨?_, hk0.out.trans HK.out⟩
      rw [← HE.out]
      exact congrArg (fun b => Ending.returned (.string b)) (bs_eq (bs_app _ _))
end Go.Proofs.YtkfjpecehighlaaDoor
