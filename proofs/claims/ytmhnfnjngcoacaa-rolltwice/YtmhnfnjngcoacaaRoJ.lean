/- The example; the walk of RollWrites. -/
import Derived.Test.YtmhnfnjngcoacaaRoI
import Derived.Test.YtmhnfnjngcoacaaRoE
import Derived.Test.YtmhnfnjngcoacaaBoN
namespace Go.Proofs.Ytmhnfnjngcoacaa
open Go.RowKit
set_option linter.unusedVariables false
set_option linter.unusedSimpArgs false

def wroll : ByteArray := ⟨#[119, 104, 105, 116, 101, 32, 75, 103, 49, 32, 80, 97, 50, 32, 98, 108, 97, 99, 107, 32, 75, 101, 56]⟩
def wrB : List Int := ((Zb.set 6 6).set 8 1).set 60 (-6)
theorem wroll_reads : RReads wroll.data.toList wrB 23 0 :=
  .inr ⟨rs1 wrB 1 [] (-6) 101, by kernel_rfl, rfl, .inr ⟨rfl, rfl, rfl⟩⟩
theorem roll_w (w : World) : Calls Try.prog 8 #[.string ⟨#[119, 104, 105, 116, 101, 32, 75, 103, 49, 32, 80, 97, 50, 32, 98, 108, 97, 99, 107, 32, 75, 101, 56]⟩] w fun e w' => e = .returned (.tuple #[.agg (cl wrB).toArray, .int .i64 23, .int .i64 0]) ∧ Kept w w' :=
  rollread_is wroll (by decide) wrB 23 0 wroll_reads w
theorem wrB_len : wrB.length = 64 := by decide +kernel
theorem wrB_6 : wrB.getD 6 0 = 6 := by decide +kernel
theorem wrB_8 : wrB.getD 8 0 = 1 := by decide +kernel
theorem wrB_60 : wrB.getD 60 0 = -6 := by decide +kernel
theorem rollwakes (w : World) : Calls Try.prog 5 #[] w fun e w' => e = .returned (.bool true) ∧ Kept w w' := by
  have hz := Lib.hid (size_cl Zb_brd.1)
  go_enter Try.func5, Try.ntmps5
  go_wp2_with fail
  refine (roll_w _).mono ?_
  rintro e w1 ⟨rfl, g1⟩
  have HK := Lib.hid (g1.alloc (.cells (cl wrB).toArray 24))
  have hb := heap_alloc_new w1 (.cells (cl wrB).toArray 24)
  have c6 := cell_cl wrB_len hb 6 (by omega)
  have c8 := cell_cl wrB_len hb 8 (by omega)
  have c60 := cell_cl wrB_len hb 60 (by omega)
  rw [wrB_6] at c6
  rw [wrB_8] at c8
  rw [wrB_60] at c60
  clear g1 hb
  go_wp2_with (first | (with_reducible refine wpList_new_b rfl rfl ?_) | ((with_reducible refine wpList_store_new rfl _ _ rfl Zb wrB Zb_len wrB_len ?_ ?_ ?_); exact rfl; exact rfl))
  go_ret
  exact ⟨rfl, HK.out⟩
theorem roll_size (B : List Int) : (⟨(rollT B).toArray⟩ : ByteArray).size = (rollT B).length := by
  show (rollT B).toArray.size = _
  simp
theorem rollread_written (B : List Int) (hB : Brd B) (hR : rightB B = true) (w : World) :
    Calls Try.prog 8 #[.string ⟨(rollT B).toArray⟩] w fun e w' => e = .returned (.tuple #[.agg (cl B).toArray, .int .i64 (rollT B).length, .int .i64 0]) ∧ Kept w w' :=
  rollread_is ⟨(rollT B).toArray⟩ (by rw [roll_size]; have := rollT_len B; omega) B _ 0 (by simpa using roll_reads hB.1 hR) w
theorem rollread_empty (w : World) :
    Calls Try.prog 8 #[.string ⟨#[]⟩] w fun e w' => e = .returned (.tuple #[.agg (cl Zb).toArray, .int .i64 0, .int .i64 1]) ∧ Kept w w' :=
  rollread_is ⟨#[]⟩ (by decide) Zb 0 1 (.inr ⟨r0, rfl, rfl, .inl ⟨rfl, rfl, rfl⟩⟩) w
theorem walkRollWrites (B : List Int) (hB : Brd B) (w : World) :
    Calls Try.prog 3 #[.agg (cl B).toArray] w fun e w' => e = .returned (.bool true) ∧ Kept w w' := by
  have hbl := Lib.hid (heap_alloc_new w (.cells (cl B).toArray 24))
  have hk0 := Lib.hid ((Kept.refl w).alloc (.cells (cl B).toArray 24))
  have hz := Lib.hid (size_cl hB.1)
  have hzz := Lib.hid (size_cl Zb_brd.1)
  have hBl := Lib.hid hB.1
  have H := Lib.hid hB
  clear hB
  cases hR : rightB B with
  | false =>
    go_enter Try.func3, Try.ntmps3
    go_wp2_with fail
    refine (rollwakes _).mono ?_
    rintro e w1 ⟨rfl, g1⟩
    go_wp2_with (refine wpList_load_w (by rfl) _ rfl _ rfl _ (g1.heap hbl.out) hz.out ?_)
    refine (rollwrite_no B H.out hR _).mono ?_
    rintro e w2 ⟨rfl, g2⟩
    go_wp2_with (refine wpList_load_w (by rfl) _ rfl _ rfl _ ((g1.trans g2).heap hbl.out) hz.out ?_)
    refine (rollrwrite_no B H.out hR _).mono ?_
    rintro e w3 ⟨rfl, g3⟩
    go_wp2_with fail
    refine (rollread_empty _).mono ?_
    rintro e w4 ⟨rfl, g4⟩
    have HK := Lib.hid ((hk0.out.trans (((g1.trans g2).trans g3).trans g4)).alloc (.cells (cl Zb).toArray 24))
    clear g1 g2 g3 g4
    go_wp2_with (first | (with_reducible refine wpList_new_b rfl rfl ?_) | ((with_reducible refine wpList_store_new rfl _ _ rfl Zb Zb Zb_len Zb_len ?_ ?_ ?_); exact rfl; exact rfl))
    go_ret
    exact ⟨rfl, HK.out⟩
  | true =>
    have s0 : ¬ 9223372036854775807 < (rollT B).length := by have := rollT_len B; omega
    go_enter Try.func3, Try.ntmps3
    go_wp2_with fail
    refine (rollwakes _).mono ?_
    rintro e w1 ⟨rfl, g1⟩
    go_wp2_with (refine wpList_load_w (by rfl) _ rfl _ rfl _ (g1.heap hbl.out) hz.out ?_)
    refine (rollwrite_yes B H.out hR _).mono ?_
    rintro e w2 ⟨rfl, g2⟩
    go_wp2_with (refine wpList_load_w (by rfl) _ rfl _ rfl _ ((g1.trans g2).heap hbl.out) hz.out ?_)
    refine (rollrwrite_yes B H.out hR _).mono ?_
    rintro e w3 ⟨rfl, g3⟩
    go_wp2_with fail
    refine (rollread_written B H.out hR _).mono ?_
    rintro e w4 ⟨rfl, g4⟩
    have gg := ((g1.trans g2).trans g3).trans g4
    have HK := Lib.hid ((hk0.out.trans gg).alloc (.cells (cl B).toArray 24))
    have hb1 := Lib.hid (((Kept.refl w4).alloc (.cells (cl B).toArray 24)).heap (gg.heap hbl.out))
    have hb2 := Lib.hid (heap_alloc_new w4 (.cells (cl B).toArray 24))
    clear g1 g2 g3 g4 gg
    go_wp2_with (first | (with_reducible refine wpList_new_b rfl rfl ?_) | ((with_reducible refine wpList_store_new rfl _ _ rfl Zb B Zb_len hBl.out ?_ ?_ ?_); exact rfl; exact rfl) | (refine wpList_load_w (by rfl) _ rfl w.heap.size rfl B hb1.out hz.out ?_) | (refine wpList_load_w (by rfl) _ rfl w4.heap.size rfl B hb2.out hz.out ?_) | (refine wpList_eql_w (by rfl) _ _ _ rfl B B rfl rfl ⟨hBl.out, hBl.out, beqB_refl _⟩ ?_))
    go_ret
    exact ⟨rfl, HK.out⟩
end Go.Proofs.Ytmhnfnjngcoacaa
