/- The walks of MenMakes and MenReads. -/
import Derived.Test.YtkkbcfemallglaaMeC
import Derived.Test.YtkkbcfemallglaaMeO
namespace Go.Proofs.Ytkkbcfemallglaa
open Go.RowKit
set_option linter.unusedVariables false

theorem walkMenMakes (kind side : Int) (w0 : (Lit.int .i64 kind).wf = true) (w1 : (Lit.int .i64 side).wf = true) (w : World) :
    Calls Try.prog 4 #[.int .i64 kind, .int .i64 side] w fun e w' => e = .returned (.bool true) ∧ Grown w w' := by
  clear w0 w1
  by_cases hs0 : side = 0
  · subst hs0
    by_cases hk : kind < 1 ∨ 6 < kind
    · rcases hk with hk | hk
      · go_enter Try.func4, Try.ntmps4
        go_wp2_with fail
        refine (mwakes _).mono ?_
        rintro e w1 ⟨rfl, gw1⟩
        go_wp2_with fail
        refine (make_nokind _ _ _ (.inl hk)).mono ?_
        rintro e w' ⟨rfl, rfl⟩
        go_wp2_with fail
        refine (other_w _).mono ?_
        rintro e w' ⟨rfl, rfl⟩
        go_wp2
        go_ret
        exact ⟨rfl, gw1⟩
      · have b1 : decide (kind < 1) = false := by simp; omega
        go_enter Try.func4, Try.ntmps4
        go_wp2_with fail
        refine (mwakes _).mono ?_
        rintro e w1 ⟨rfl, gw1⟩
        go_wp2_with fail
        refine (make_nokind _ _ _ (.inr hk)).mono ?_
        rintro e w' ⟨rfl, rfl⟩
        go_wp2_with fail
        refine (other_w _).mono ?_
        rintro e w' ⟨rfl, rfl⟩
        go_wp2
        go_ret
        exact ⟨rfl, gw1⟩
    · have h1 : 1 ≤ kind := by omega
      have h6 : kind ≤ 6 := by omega
      have b1 : decide (kind < 1) = false := by simp; omega
      have b2 : decide (6 < kind) = false := by simp; omega
      clear hk
      go_enter Try.func4, Try.ntmps4
      go_wp2_with fail
      refine (mwakes _).mono ?_
      rintro e w1 ⟨rfl, gw1⟩
      go_wp2_with fail
      refine (make_w _ _ h1 h6).mono ?_
      rintro e w' ⟨rfl, rfl⟩
      go_wp2_with fail
      refine (other_w _).mono ?_
      rintro e w' ⟨rfl, rfl⟩
      go_wp2_with fail
      refine (mkind_w _ _ (by omega) (by omega)).mono ?_
      rintro e w' ⟨rfl, rfl⟩
      go_wp2_with fail
      refine (mside_w _ _ (by omega) (by omega)).mono ?_
      rintro e w' ⟨rfl, rfl⟩
      go_wp2_with fail
      refine (other_b _).mono ?_
      rintro e w' ⟨rfl, rfl⟩
      go_wp2_with fail
      refine (make_b _ _ h1 h6).mono ?_
      rintro e w' ⟨rfl, rfl⟩
      go_wp2
      go_ret
      exact ⟨rfl, gw1⟩
  · by_cases hs1 : side = 1
    · subst hs1
      by_cases hk : kind < 1 ∨ 6 < kind
      · rcases hk with hk | hk
        · go_enter Try.func4, Try.ntmps4
          go_wp2_with fail
          refine (mwakes _).mono ?_
          rintro e w1 ⟨rfl, gw1⟩
          go_wp2_with fail
          refine (make_nokind _ _ _ (.inl hk)).mono ?_
          rintro e w' ⟨rfl, rfl⟩
          go_wp2_with fail
          refine (other_b _).mono ?_
          rintro e w' ⟨rfl, rfl⟩
          go_wp2
          go_ret
          exact ⟨rfl, gw1⟩
        · have b1 : decide (kind < 1) = false := by simp; omega
          go_enter Try.func4, Try.ntmps4
          go_wp2_with fail
          refine (mwakes _).mono ?_
          rintro e w1 ⟨rfl, gw1⟩
          go_wp2_with fail
          refine (make_nokind _ _ _ (.inr hk)).mono ?_
          rintro e w' ⟨rfl, rfl⟩
          go_wp2_with fail
          refine (other_b _).mono ?_
          rintro e w' ⟨rfl, rfl⟩
          go_wp2
          go_ret
          exact ⟨rfl, gw1⟩
      · have h1 : 1 ≤ kind := by omega
        have h6 : kind ≤ 6 := by omega
        have b1 : decide (kind < 1) = false := by simp; omega
        have b2 : decide (6 < kind) = false := by simp; omega
        have b3 : (kind == - -kind) = true := beq_iff_eq.2 (by omega)
        clear hk
        go_enter Try.func4, Try.ntmps4
        go_wp2_with fail
        refine (mwakes _).mono ?_
        rintro e w1 ⟨rfl, gw1⟩
        go_wp2_with fail
        refine (make_b _ _ h1 h6).mono ?_
        rintro e w' ⟨rfl, rfl⟩
        go_wp2_with fail
        refine (other_b _).mono ?_
        rintro e w' ⟨rfl, rfl⟩
        go_wp2_with fail
        refine (mkind_b _ _ (by omega) (by omega)).mono ?_
        rintro e w' ⟨rfl, rfl⟩
        go_wp2_with fail
        refine (mside_b _ _ (by omega) (by omega)).mono ?_
        rintro e w' ⟨rfl, rfl⟩
        go_wp2_with fail
        refine (other_w _).mono ?_
        rintro e w' ⟨rfl, rfl⟩
        go_wp2_with fail
        refine (make_w _ _ h1 h6).mono ?_
        rintro e w' ⟨rfl, rfl⟩
        go_wp2
        go_ret
        exact ⟨rfl, gw1⟩
    · by_cases hk : kind < 1 ∨ 6 < kind
      · rcases hk with hk | hk
        · by_cases hs : side < 0
          · go_enter Try.func4, Try.ntmps4
            go_wp2_with fail
            refine (mwakes _).mono ?_
            rintro e w1 ⟨rfl, gw1⟩
            go_wp2_with fail
            refine (make_nokind _ _ _ (.inl hk)).mono ?_
            rintro e w' ⟨rfl, rfl⟩
            go_wp2_with fail
            refine (other_no _ _ hs0 hs1).mono ?_
            rintro e w' ⟨rfl, rfl⟩
            go_wp2
            go_ret
            exact ⟨rfl, gw1⟩
          · have c1 : decide (side < 0) = false := by simp; omega
            have c2 : 1 < side := by omega
            go_enter Try.func4, Try.ntmps4
            go_wp2_with fail
            refine (mwakes _).mono ?_
            rintro e w1 ⟨rfl, gw1⟩
            go_wp2_with fail
            refine (make_nokind _ _ _ (.inl hk)).mono ?_
            rintro e w' ⟨rfl, rfl⟩
            go_wp2_with fail
            refine (other_no _ _ hs0 hs1).mono ?_
            rintro e w' ⟨rfl, rfl⟩
            go_wp2
            go_ret
            exact ⟨rfl, gw1⟩
        · have b1 : decide (kind < 1) = false := by simp; omega
          by_cases hs : side < 0
          · go_enter Try.func4, Try.ntmps4
            go_wp2_with fail
            refine (mwakes _).mono ?_
            rintro e w1 ⟨rfl, gw1⟩
            go_wp2_with fail
            refine (make_nokind _ _ _ (.inr hk)).mono ?_
            rintro e w' ⟨rfl, rfl⟩
            go_wp2_with fail
            refine (other_no _ _ hs0 hs1).mono ?_
            rintro e w' ⟨rfl, rfl⟩
            go_wp2
            go_ret
            exact ⟨rfl, gw1⟩
          · have c1 : decide (side < 0) = false := by simp; omega
            have c2 : 1 < side := by omega
            go_enter Try.func4, Try.ntmps4
            go_wp2_with fail
            refine (mwakes _).mono ?_
            rintro e w1 ⟨rfl, gw1⟩
            go_wp2_with fail
            refine (make_nokind _ _ _ (.inr hk)).mono ?_
            rintro e w' ⟨rfl, rfl⟩
            go_wp2_with fail
            refine (other_no _ _ hs0 hs1).mono ?_
            rintro e w' ⟨rfl, rfl⟩
            go_wp2
            go_ret
            exact ⟨rfl, gw1⟩
      · have h1 : 1 ≤ kind := by omega
        have h6 : kind ≤ 6 := by omega
        have b1 : decide (kind < 1) = false := by simp; omega
        have b2 : decide (6 < kind) = false := by simp; omega
        clear hk
        by_cases hs : side < 0
        · go_enter Try.func4, Try.ntmps4
          go_wp2_with fail
          refine (mwakes _).mono ?_
          rintro e w1 ⟨rfl, gw1⟩
          go_wp2_with fail
          refine (make_noside _ _ _ h1 h6 hs0 hs1).mono ?_
          rintro e w' ⟨rfl, rfl⟩
          go_wp2_with fail
          refine (other_no _ _ hs0 hs1).mono ?_
          rintro e w' ⟨rfl, rfl⟩
          go_wp2
          go_ret
          exact ⟨rfl, gw1⟩
        · have c1 : decide (side < 0) = false := by simp; omega
          have c2 : 1 < side := by omega
          go_enter Try.func4, Try.ntmps4
          go_wp2_with fail
          refine (mwakes _).mono ?_
          rintro e w1 ⟨rfl, gw1⟩
          go_wp2_with fail
          refine (make_noside _ _ _ h1 h6 hs0 hs1).mono ?_
          rintro e w' ⟨rfl, rfl⟩
          go_wp2_with fail
          refine (other_no _ _ hs0 hs1).mono ?_
          rintro e w' ⟨rfl, rfl⟩
          go_wp2
          go_ret
          exact ⟨rfl, gw1⟩

theorem lettN_size (n : Nat) : (lettN n).size ≤ 1000 := by show 1 ≤ 1000; omega
theorem signN_size (n : Nat) : (signN n).size ≤ 1000 := by show 3 ≤ 1000; omega
/-- Both readings of a text agree. -/
theorem both_no (t : ByteArray) (m : Int) (h : ofT t = 0) (hl : t.size ≤ 100) (w : World) (Hm : m < -6 ∨ m = 0 ∨ 6 < m) :
    Calls Try.prog 3 #[.string t, .int .i64 m] w fun e w' => e = .returned (.bool true) ∧ Grown w w' := by
  have H := Lib.hid h
  have HM := Lib.hid Hm
  clear h Hm
  go_enter Try.func3, Try.ntmps3
  go_wp2_with fail
  refine (mwakes _).mono ?_
  rintro e w1 ⟨rfl, gw1⟩
  go_wp2_with fail
  refine (of_no _ _ (by omega) H.out).mono ?_
  rintro e w2 ⟨rfl, gw2⟩
  go_wp2_with fail
  refine (rof_no _ H.out _).mono ?_
  rintro e w3 ⟨rfl, gw3⟩
  go_wp2_with fail
  refine (rkind_no _ _ HM.out).mono ?_
  rintro e w' ⟨rfl, rfl⟩
  go_wp2
  go_ret
  exact ⟨rfl, grown_trans gw1 (grown_trans gw2 gw3)⟩
theorem both_yes (t : ByteArray) (n : Nat) (hn : n < 12) (m : Int) (h : t = lettN n ∨ t = signN n) (hl : t.size ≤ 100) (w : World) (Hm : m < -6 ∨ m = 0 ∨ 6 < m) :
    Calls Try.prog 3 #[.string t, .int .i64 m] w fun e w' => e = .returned (.bool true) ∧ Grown w w' := by
  have ho : ofT t = inOrd n := by rcases h with h | h <;> rw [h]; exact ofT_letter n hn; exact ofT_sign n hn
  have H := Lib.hid h
  have HO := Lib.hid ho
  have HM := Lib.hid Hm
  have b0 : (inOrd n != 0) = true := bne_iff_ne.2 (inOrd_man n hn).1
  clear h Hm ho
  go_enter Try.func3, Try.ntmps3
  go_wp2_with fail
  refine (mwakes _).mono ?_
  rintro e w1 ⟨rfl, gw1⟩
  go_wp2_with fail
  refine (of_yes _ _ _ (by omega) HO.out (inOrd_man n hn).1).mono ?_
  rintro e w2 ⟨rfl, gw2⟩
  go_wp2_with fail
  refine (rof_yes _ n hn H.out _).mono ?_
  rintro e w3 ⟨rfl, gw3⟩
  go_wp2_with fail
  refine (rkind_no _ _ HM.out).mono ?_
  rintro e w' ⟨rfl, rfl⟩
  go_wp2
  go_ret
  exact ⟨rfl, grown_trans gw1 (grown_trans gw2 gw3)⟩
theorem both_no' (t : ByteArray) (j : Nat) (hj : j < 12) (h : ofT t = 0) (hl : t.size ≤ 100) (w : World) :
    Calls Try.prog 3 #[.string t, .int .i64 (inOrd j)] w fun e w' => e = .returned (.bool true) ∧ Grown w w' := by
  have H := Lib.hid h
  have b1 : ((6 - (j : Int) % 6) == 0) = false := beq_eq_false_iff_ne.2 (by omega)
  clear h
  go_enter Try.func3, Try.ntmps3
  go_wp2_with fail
  refine (mwakes _).mono ?_
  rintro e w1 ⟨rfl, gw1⟩
  go_wp2_with fail
  refine (of_no _ _ (by omega) H.out).mono ?_
  rintro e w2 ⟨rfl, gw2⟩
  go_wp2_with fail
  refine (rof_no _ H.out _).mono ?_
  rintro e w3 ⟨rfl, gw3⟩
  go_wp2_with fail
  refine (rkind_ord _ hj _).mono ?_
  rintro e w' ⟨rfl, rfl⟩
  go_wp2_with fail
  refine (letter_yes _ hj _).mono ?_
  rintro e w4 ⟨rfl, gw4⟩
  go_wp2_with fail
  refine (of_yes _ _ _ (lettN_size j) (ofT_letter j hj) (inOrd_man j hj).1).mono ?_
  rintro e w5 ⟨rfl, gw5⟩
  go_wp2_with fail
  refine (sign_yes _ hj _).mono ?_
  rintro e w6 ⟨rfl, gw6⟩
  go_wp2_with fail
  refine (of_yes _ _ _ (signN_size j) (ofT_sign j hj) (inOrd_man j hj).1).mono ?_
  rintro e w7 ⟨rfl, gw7⟩
  go_wp2
  go_ret
  exact ⟨rfl, grown_trans gw1 (grown_trans gw2 (grown_trans gw3 (grown_trans gw4 (grown_trans gw5 (grown_trans gw6 gw7)))))⟩
theorem both_yes' (t : ByteArray) (n : Nat) (hn : n < 12) (j : Nat) (hj : j < 12) (h : t = lettN n ∨ t = signN n) (hl : t.size ≤ 100) (w : World) :
    Calls Try.prog 3 #[.string t, .int .i64 (inOrd j)] w fun e w' => e = .returned (.bool true) ∧ Grown w w' := by
  have ho : ofT t = inOrd n := by rcases h with h | h <;> rw [h]; exact ofT_letter n hn; exact ofT_sign n hn
  have H := Lib.hid h
  have HO := Lib.hid ho
  have b0 : (inOrd n != 0) = true := bne_iff_ne.2 (inOrd_man n hn).1
  have b1 : ((6 - (j : Int) % 6) == 0) = false := beq_eq_false_iff_ne.2 (by omega)
  clear h ho
  go_enter Try.func3, Try.ntmps3
  go_wp2_with fail
  refine (mwakes _).mono ?_
  rintro e w1 ⟨rfl, gw1⟩
  go_wp2_with fail
  refine (of_yes _ _ _ (by omega) HO.out (inOrd_man n hn).1).mono ?_
  rintro e w2 ⟨rfl, gw2⟩
  go_wp2_with fail
  refine (rof_yes _ n hn H.out _).mono ?_
  rintro e w3 ⟨rfl, gw3⟩
  go_wp2_with fail
  refine (rkind_ord _ hj _).mono ?_
  rintro e w' ⟨rfl, rfl⟩
  go_wp2_with fail
  refine (letter_yes _ hj _).mono ?_
  rintro e w4 ⟨rfl, gw4⟩
  go_wp2_with fail
  refine (of_yes _ _ _ (lettN_size j) (ofT_letter j hj) (inOrd_man j hj).1).mono ?_
  rintro e w5 ⟨rfl, gw5⟩
  go_wp2_with fail
  refine (sign_yes _ hj _).mono ?_
  rintro e w6 ⟨rfl, gw6⟩
  go_wp2_with fail
  refine (of_yes _ _ _ (signN_size j) (ofT_sign j hj) (inOrd_man j hj).1).mono ?_
  rintro e w7 ⟨rfl, gw7⟩
  go_wp2
  go_ret
  exact ⟨rfl, grown_trans gw1 (grown_trans gw2 (grown_trans gw3 (grown_trans gw4 (grown_trans gw5 (grown_trans gw6 gw7)))))⟩
theorem walkMenReads (t : ByteArray) (m : Int) (w0 : t.size ≤ maxLen) (w1 : (Lit.int .i64 m).wf = true) (w : World) :
    Calls Try.prog 3 #[.string t, .int .i64 m] w fun e w' => e = .returned (.bool true) ∧ Grown w w' := by
  unfold maxLen at w0
  clear w1
  by_cases hl : 100 < (t.size : Int)
  · go_enter Try.func3, Try.ntmps3
    go_wp2_with fail
    refine (mwakes _).mono ?_
    rintro e w1 ⟨rfl, gw1⟩
    go_wp2
    go_ret
    exact ⟨rfl, gw1⟩
  · by_cases ht : ofT t = 0
    · by_cases hm : m < -6 ∨ m = 0 ∨ 6 < m
      · exact both_no t m ht (by omega) w hm
      · obtain ⟨j, hj, rfl⟩ := man_inOrd m (by omega) (by omega) (by omega)
        exact both_no' t j hj ht (by omega) w
    · obtain ⟨n, hn, hx⟩ := ofT_inv t ht
      by_cases hm : m < -6 ∨ m = 0 ∨ 6 < m
      · exact both_yes t n hn m hx (by omega) w hm
      · obtain ⟨j, hj, rfl⟩ := man_inOrd m (by omega) (by omega) (by omega)
        exact both_yes' t n hn j hj hx (by omega) w
end Go.Proofs.Ytkkbcfemallglaa
