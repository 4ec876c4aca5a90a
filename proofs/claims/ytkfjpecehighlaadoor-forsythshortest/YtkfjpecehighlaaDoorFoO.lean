/- The walks of ForsythWrites and ForsythShortest. -/
import Derived.Test.YtkfjpecehighlaaDoorFoN
import Derived.Test.YtkfjpecehighlaaDoorFoI
namespace Go.Proofs.YtkfjpecehighlaaDoor
open Go.RowKit
set_option linter.unusedVariables false
set_option linter.unusedSimpArgs false

theorem wt_size (B : List Int) : (⟨(writeT B).toArray⟩ : ByteArray).size ≤ 1000 := by
  have := writeT_len B
  show (writeT B).toArray.size ≤ 1000
  simp; omega
theorem read_written (B : List Int) (hB : Brd B) (hR : rightB B = true) (w : World) :
    Calls Tryd.prog 9 #[.string ⟨(writeT B).toArray⟩] w fun e w' => e = .returned (.tuple #[.agg (cl B).toArray, .int .i64 (writeT B).length, .int .i64 0]) ∧ Kept w w' :=
  read_eq ⟨(writeT B).toArray⟩ (wt_size B) B _ 0 (by simpa using writeT_reads hB.1 hR) w
theorem read_empty (w : World) :
    Calls Tryd.prog 9 #[.string ⟨#[]⟩] w fun e w' => e = .returned (.tuple #[.agg (cl Zb).toArray, .int .i64 0, .int .i64 1]) ∧ Kept w w' :=
  read_eq ⟨#[]⟩ (by decide) Zb 0 1 (.inr ⟨_, rfl, rfl, .inl ⟨by decide, rfl, rfl⟩⟩) w
theorem walkForsythWrites (B : List Int) (hB : Brd B) (w : World) :
    Calls Tryd.prog 3 #[.agg (cl B).toArray] w fun e w' => e = .returned (.bool true) ∧ Kept w w' := by
  have hbl := Lib.hid (heap_alloc_new w (.cells (cl B).toArray 24))
  have hk0 := Lib.hid ((Kept.refl w).alloc (.cells (cl B).toArray 24))
  have hz := Lib.hid (size_cl hB.1)
  have hzz := Lib.hid (size_cl Zb_brd.1)
  have hBl := Lib.hid hB.1
  have H := Lib.hid hB
  clear hB
  cases hR : rightB B with
  | false =>
    go_enter Tryd.func3, Tryd.ntmps3
    go_wp2_with fail
    refine (fwakes _).mono ?_
    rintro e w1 ⟨rfl, g1⟩
    go_wp2_with (refine wpList_load_w (by rfl) _ rfl _ rfl _ (g1.heap hbl.out) hz.out ?_)
    refine (write_no B H.out hR _).mono ?_
    rintro e w2 ⟨rfl, g2⟩
    go_wp2_with (refine wpList_load_w (by rfl) _ rfl _ rfl _ ((g1.trans g2).heap hbl.out) hz.out ?_)
    refine (rwrite_no B H.out hR _).mono ?_
    rintro e w3 ⟨rfl, g3⟩
    go_wp2_with fail
    refine (read_empty _).mono ?_
    rintro e w4 ⟨rfl, g4⟩
    have HK := Lib.hid ((hk0.out.trans (((g1.trans g2).trans g3).trans g4)).alloc (.cells (cl Zb).toArray 24))
    clear g1 g2 g3 g4
    go_wp2_with (first | (with_reducible refine wpList_new_b rfl rfl ?_) | ((with_reducible refine wpList_store_new rfl _ _ rfl Zb Zb Zb_len Zb_len ?_ ?_ ?_); exact rfl; exact rfl))
    go_ret
    exact ⟨rfl, HK.out⟩
  | true =>
    have s0 : ¬ 9223372036854775807 < (writeT B).length := by have := writeT_len B; omega
    go_enter Tryd.func3, Tryd.ntmps3
    go_wp2_with fail
    refine (fwakes _).mono ?_
    rintro e w1 ⟨rfl, g1⟩
    go_wp2_with (refine wpList_load_w (by rfl) _ rfl _ rfl _ (g1.heap hbl.out) hz.out ?_)
    refine (write_yes B H.out hR _).mono ?_
    rintro e w2 ⟨rfl, g2⟩
    go_wp2_with (refine wpList_load_w (by rfl) _ rfl _ rfl _ ((g1.trans g2).heap hbl.out) hz.out ?_)
    refine (rwrite_yes B H.out hR _).mono ?_
    rintro e w3 ⟨rfl, g3⟩
    go_wp2_with fail
    refine (read_written B H.out hR _).mono ?_
    rintro e w4 ⟨rfl, g4⟩
    have gg := ((g1.trans g2).trans g3).trans g4
    have HK := Lib.hid ((hk0.out.trans gg).alloc (.cells (cl B).toArray 24))
    have hb1 := Lib.hid (((Kept.refl w4).alloc (.cells (cl B).toArray 24)).heap (gg.heap hbl.out))
    have hb2 := Lib.hid (heap_alloc_new w4 (.cells (cl B).toArray 24))
    clear g1 g2 g3 g4 gg
    go_wp2_with (first | (with_reducible refine wpList_new_b rfl rfl ?_) | ((with_reducible refine wpList_store_new rfl _ _ rfl Zb B Zb_len hBl.out ?_ ?_ ?_); exact rfl; exact rfl) | (refine wpList_load_w (by rfl) _ rfl w.heap.size rfl B hb1.out hz.out ?_) | (refine wpList_load_w (by rfl) _ rfl w4.heap.size rfl B hb2.out hz.out ?_) | (refine wpList_eql_w (by rfl) _ _ _ rfl B B rfl rfl ⟨hBl.out, hBl.out, beqB_refl _⟩ ?_))
    go_ret
    exact ⟨rfl, HK.out⟩
theorem walkForsythShortest (t : ByteArray) (wt : t.size ≤ maxLen) (w : World) :
    Calls Tryd.prog 4 #[.string t] w fun e w' => e = .returned (.bool true) ∧ Kept w w' := by
  unfold maxLen at wt
  have hzz := Lib.hid (size_cl Zb_brd.1)
  by_cases hl : 200 < (t.size : Int)
  · go_enter Tryd.func4, Tryd.ntmps4
    go_wp2_with fail
    refine (fwakes _).mono ?_
    rintro e w1 ⟨rfl, g1⟩
    go_wp2
    go_ret
    exact ⟨rfl, g1⟩
  · go_enter Tryd.func4, Tryd.ntmps4
    go_wp2_with fail
    refine (fwakes _).mono ?_
    rintro e w1 ⟨rfl, g1⟩
    go_wp2_with fail
    refine (read_is t (by omega) _).mono ?_
    rintro e w2 ⟨B, n, x, rfl, hr, g2⟩
    have hnl := hr.le
    rw [len_size] at hnl
    by_cases hx : x = 0
    · subst hx
      rcases hr with ⟨_, _, _, _, h0⟩ | ⟨s, hs, hn, ⟨_, _, h0⟩ | ⟨h64, rfl, _⟩⟩
      · cases h0
      · cases h0
      · have hsh := shortest hs h64
        rw [len_size] at hsh
        have hB := bd_brd _ (says_inv hs).men
        have hR := bd_right hs
        clear hs h64 hn
        generalize bd s.1 = B at *
        have H := Lib.hid hB
        have HR := Lib.hid hR
        have hBl := Lib.hid hB.1
        have hz := Lib.hid (size_cl hB.1)
        have hsh' : ((writeT B).length : Int) ≤ (t.size : Int) := by omega
        have s0 : ¬ 9223372036854775807 < (writeT B).length := by have := writeT_len B; omega
        have G2 := Lib.hid (g1.trans g2)
        have hb0 := Lib.hid (heap_alloc_new w2 (.cells (cl B).toArray 24))
        clear hB hR g1 g2
        go_wp2_with (first | (with_reducible refine wpList_new_b rfl rfl ?_) | ((with_reducible refine wpList_store_new rfl _ _ rfl Zb B Zb_len hBl.out ?_ ?_ ?_); exact rfl; exact rfl) | (refine wpList_load_w (by rfl) _ rfl w2.heap.size rfl B hb0.out hz.out ?_))
        refine (write_yes B H.out HR.out _).mono ?_
        rintro e w3 ⟨rfl, g3⟩
        go_wp2_with fail
        refine (read_written B H.out HR.out _).mono ?_
        rintro e w4 ⟨rfl, g4⟩
        have gg := g3.trans g4
        have HK := Lib.hid (((G2.out.alloc (.cells (cl B).toArray 24)).trans gg).alloc (.cells (cl B).toArray 24))
        have hb1 := Lib.hid (((Kept.refl w4).alloc (.cells (cl B).toArray 24)).heap (gg.heap hb0.out))
        have hb2 := Lib.hid (heap_alloc_new w4 (.cells (cl B).toArray 24))
        clear g3 g4 gg
        go_wp2_with (first | (with_reducible refine wpList_new_b rfl rfl ?_) | ((with_reducible refine wpList_store_new rfl _ _ rfl Zb B Zb_len hBl.out ?_ ?_ ?_); exact rfl; exact rfl) | (refine wpList_load_w (by rfl) _ rfl w2.heap.size rfl B hb1.out hz.out ?_) | (refine wpList_load_w (by rfl) _ rfl w4.heap.size rfl B hb2.out hz.out ?_) | (refine wpList_eql_w (by rfl) _ _ _ rfl B B rfl rfl ⟨hBl.out, hBl.out, beqB_refl _⟩ ?_))
        go_ret
        exact ⟨rfl, HK.out⟩
    · have bx : (x != 0) = true := bne_iff_ne.2 hx
      have hBz : B = Zb := by
        rcases hr with ⟨_, _, _, h, _⟩ | ⟨s, _, _, ⟨_, h, _⟩ | ⟨_, _, h⟩⟩
        · exact h
        · exact h
        · exact absurd h hx
      subst hBz
      have HK := Lib.hid ((g1.trans g2).alloc (.cells (cl Zb).toArray 24))
      have hb1 := Lib.hid (heap_alloc_new w2 (.cells (cl Zb).toArray 24))
      clear g1 g2 hr hx
      go_wp2_with (first | (with_reducible refine wpList_new_b rfl rfl ?_) | ((with_reducible refine wpList_store_new rfl _ _ rfl Zb Zb Zb_len Zb_len ?_ ?_ ?_); exact rfl; exact rfl) | (refine wpList_load_w (by rfl) _ rfl w2.heap.size rfl Zb hb1.out hzz.out ?_) | (refine wpList_zero_w (by rfl) rfl ?_) | (refine wpList_eql_w (by rfl) _ _ _ rfl Zb Zb rfl rfl ⟨Zb_len, Zb_len, beqB_refl _⟩ ?_))
      go_ret
      exact ⟨rfl, HK.out⟩
end Go.Proofs.YtkfjpecehighlaaDoor
