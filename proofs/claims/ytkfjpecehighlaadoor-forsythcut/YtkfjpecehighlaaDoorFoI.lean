/- The examples of forsyth; the walk of ForsythReads. -/
import Derived.Test.YtkfjpecehighlaaDoorFoE
import Derived.Test.YtkfjpecehighlaaDoorBoN
namespace Go.Proofs.YtkfjpecehighlaaDoor
open Go.RowKit
set_option linter.unusedVariables false
set_option linter.unusedSimpArgs false

theorem read_eq (t : ByteArray) (hm : t.size ≤ 1000) (B : List Int) (n : Nat) (x : Int) (h : Reads t.data.toList B n x) (w : World) :
    Calls Tryd.prog 9 #[.string t] w fun e w' => e = .returned (.tuple #[.agg (cl B).toArray, .int .i64 n, .int .i64 x]) ∧ Kept w w' := by
  refine (read_is t hm w).mono ?_
  rintro e w' ⟨B', n', x', he, hr, hk⟩
  obtain ⟨rfl, rfl, rfl⟩ := h.uniq hr
  exact ⟨he, hk⟩
def wtext : ByteArray := ⟨#[56, 47, 56, 47, 56, 47, 56, 47, 56, 47, 56, 47, 56, 47, 52, 75, 50, 107]⟩
def wsq : List Int := List.replicate 60 0 ++ [6, 0, 0, -6]
theorem wread1 : Reads wtext.data.toList (bd wsq) 18 0 :=
  .inr ⟨(wsq, 7, 8), by decide +kernel, rfl, .inr ⟨by decide, rfl, rfl⟩⟩
theorem wread2 : Reads [56, 47, 57] Zb 2 2 := .inl ⟨by decide, ⟨(List.replicate 8 0, 1, 0), by decide +kernel⟩, by decide +kernel, rfl, rfl⟩
theorem read_w1 (w : World) : Calls Tryd.prog 9 #[.string ⟨#[56, 47, 56, 47, 56, 47, 56, 47, 56, 47, 56, 47, 56, 47, 52, 75, 50, 107]⟩] w fun e w' => e = .returned (.tuple #[.agg (cl (bd wsq)).toArray, .int .i64 18, .int .i64 0]) ∧ Kept w w' :=
  read_eq wtext (by decide) _ 18 0 wread1 w
theorem read_w2 (w : World) : Calls Tryd.prog 9 #[.string ⟨#[56, 47, 57]⟩] w fun e w' => e = .returned (.tuple #[.agg (cl Zb).toArray, .int .i64 2, .int .i64 2]) ∧ Kept w w' :=
  read_eq ⟨#[56, 47, 57]⟩ (by decide) _ 2 2 wread2 w
theorem wsq_4 : (bd wsq).getD 4 0 = 6 := by decide +kernel
theorem wsq_7 : (bd wsq).getD 7 0 = -6 := by decide +kernel
theorem fwakes (w : World) : Calls Tryd.prog 6 #[] w fun e w' => e = .returned (.bool true) ∧ Kept w w' := by
  have hl := Lib.hid (bd_length wsq)
  go_enter Tryd.func6, Tryd.ntmps6
  go_wp2_with fail
  refine (read_w1 _).mono ?_
  rintro e w1 ⟨rfl, g1⟩
  go_wp2_with (first | (with_reducible refine wpList_new_b rfl rfl ?_) | ((with_reducible refine wpList_store_new rfl _ _ rfl Zb (bd wsq) Zb_len hl.out ?_ ?_ ?_); exact rfl; exact rfl))
  refine (read_w2 _).mono ?_
  rintro e w2 ⟨rfl, g2⟩
  have hb := (((Kept.refl w2).alloc (.cells (cl Zb).toArray 24))).heap (g2.heap (heap_alloc_new w1 (.cells (cl (bd wsq)).toArray 24)))
  have d4 := cell_cl hl.out hb 4 (by omega)
  have d7 := cell_cl hl.out hb 7 (by omega)
  rw [wsq_4] at d4
  rw [wsq_7] at d7
  have HK := Lib.hid (((g1.alloc (.cells (cl (bd wsq)).toArray 24)).trans g2).alloc (.cells (cl Zb).toArray 24))
  clear hb g1 g2
  go_wp2_with (first | (with_reducible refine wpList_new_b rfl rfl ?_) | ((with_reducible refine wpList_store_new rfl _ _ rfl Zb Zb Zb_len Zb_len ?_ ?_ ?_); exact rfl; exact rfl))
  go_ret
  exact ⟨rfl, HK.out⟩
end Go.Proofs.YtkfjpecehighlaaDoor
