/- The document's Write. -/
import Derived.Test.YtkfjpecehighlaaDoorFoM
namespace Go.Proofs.YtkfjpecehighlaaDoor
open Go.RowKit
set_option linter.unusedVariables false
set_option linter.unusedSimpArgs false

theorem rletter_any (m : Int) (h : okB m = true) (w : World) :
    Calls Tryd.prog 14 #[.int .i64 m] w fun e w' => e = .returned (.string ⟨(lettM m).toArray⟩) ∧ w = w' := by
  unfold lettM
  by_cases h0 : m = 0
  · rw [if_pos h0]
    exact rletter_no m w (by omega)
  · rw [if_neg h0]
    have hm : manB m = true := by
      unfold okB at h
      have : (m == 0) = false := by simpa using h0
      simpa [this] using h
    obtain ⟨h1, h2⟩ := ordN_lt m hm
    have := rletter_yes (ordN m) h1 w
    rw [h2] at this
    exact this
theorem cut_digit (g : Nat) (h : 1 ≤ g) (h8 : g ≤ 8) : (⟨#[48, 49, 50, 51, 52, 53, 54, 55, 56]⟩ : ByteArray).extract g (g + 1) = ⟨(dig g).toArray⟩ := by
  have : g = 1 ∨ g = 2 ∨ g = 3 ∨ g = 4 ∨ g = 5 ∨ g = 6 ∨ g = 7 ∨ g = 8 := by omega
  rcases this with rfl | rfl | rfl | rfl | rfl | rfl | rfl | rfl <;> decide +kernel
theorem dig_one (g : Nat) (h : 1 ≤ g) : (dig g).length = 1 := by
  unfold dig; rw [if_neg (by omega)]; rfl
/-- The text behind k rows. -/
def upto (B : List Int) (k : Nat) : List UInt8 := if k = 8 then writeT B else txt B k
theorem rwrite_no (B : List Int) (hB : Brd B) (hR : rightB B = false) (w : World) :
    Calls Tryd.prog 8 #[.agg (cl B).toArray] w fun e w' => e = .returned (.tuple #[.string ⟨#[]⟩, .int .i64 5]) ∧ Kept w w' := by
  have hbl := heap_alloc_new w (.cells (cl B).toArray 24)
  have hz := Lib.hid (size_cl hB.1)
  have H := Lib.hid hB
  clear hB
  go_enter Tryd.func8, Tryd.ntmps8
  go_wp2_with (refine wpList_load_w (by rfl) _ rfl _ rfl _ (hbl) hz.out ?_)
  refine (rright_is B H.out _).mono ?_
  rw [hR]
  rintro e w1 ⟨rfl, g1⟩
  go_wp2
  go_ret2
  exact ⟨rfl, ((Kept.refl w).alloc _).trans g1⟩
set_option maxHeartbeats 1000000 in
theorem rwrite_yes (B : List Int) (hB : Brd B) (hR : rightB B = true) (w : World) :
    Calls Tryd.prog 8 #[.agg (cl B).toArray] w fun e w' => e = .returned (.tuple #[.string ⟨(writeT B).toArray⟩, .int .i64 0]) ∧ Kept w w' := by
  have hbl := Lib.hid (heap_alloc_new w (.cells (cl B).toArray 24))
  have hz := Lib.hid (size_cl hB.1)
  have H := Lib.hid hB
  have HR := Lib.hid hR
  have HOK := Lib.hid ((rightB_iff B hB.1).1 hR)
  obtain ⟨W, eW⟩ : ∃ W, W = w.alloc (.cells (cl B).toArray 24) := ⟨_, rfl⟩
  have hkW := Lib.hid (show Kept w W by rw [eW]; exact (Kept.refl w).alloc _)
  have hbW := Lib.hid (show W.heap[w.heap.size]? = some (.cells (cl B).toArray 24 (0, 0)) by rw [eW]; exact hbl.out)
  have HW := Lib.hid eW
  clear hB hR eW
  go_enter Tryd.func8, Tryd.ntmps8
  go_wp2_with (refine wpList_load_w (by rfl) _ rfl _ rfl _ (hbl.out) hz.out ?_)
  refine (rright_is B H.out _).mono ?_
  rw [HR.out]
  rintro e w1 ⟨rfl, g1⟩
  have HK1 := Lib.hid (show Kept W w1 by rw [HW.out]; exact g1)
  clear g1
  go_wp2
  go_loopw [4, 5] (fun t4 t5 wr => ∃ (k : Nat) (tx : ByteArray), k ≤ 8 ∧ t5 = .int .i64 (7 - (k : Int)) ∧ t4 = .string tx ∧ tx.data.toList = upto B k ∧ Kept W wr) (fun _ t5 _ => (intOf t5 + 1).toNat)
  case atStart => exact ⟨0, ⟨#[]⟩, by omega, rfl, rfl, rfl, HK1.out⟩
  case round =>
    obtain ⟨k, tx, hk, rfl, rfl, ht, hK⟩ := hrel
    have HT := Lib.hid ht
    have HK := Lib.hid hK
    clear ht hK
    by_cases hl : k < 8
    · have hl' : (k : Int) ≤ 7 := by omega
      have HT2 : Hid (tx.data.toList = txt B k) := by have := HT.out; unfold upto at this; rwa [if_neg (by omega)] at this
      clear HT
      go_wp2
      go_loopw [4, 6, 7] (fun t4 t6 t7 wr => ∃ (f g : Nat) (ty : ByteArray), f ≤ 8 ∧ g ≤ f ∧ (f = 8 → g = 0) ∧ t7 = .int .i64 f ∧ t6 = .int .i64 g ∧ t4 = .string ty ∧ ty.data.toList ++ rowGo ((rowL B (7 - k)).drop f) g = txt B k ++ rowT B (7 - k) ∧ Kept W wr) (fun _ _ t7 _ => 8 - (intOf t7).toNat)
      case atStart => exact ⟨0, 0, tx, by omega, by omega, by omega, rfl, rfl, rfl, by rw [HT2.out]; rfl, HK.out⟩
      case round =>
        obtain ⟨f, g, ty, hf, hg, hfg, rfl, rfl, rfl, hy, hKy⟩ := hrel
        have HY := Lib.hid hy
        have HKY := Lib.hid hKy
        have HX : Hid (ty.size ≤ 180) := by
          have h1 := rowT_len B (7 - k)
          have h2 := txt_len B k
          have h3 := congrArg List.length hy
          rw [List.length_append, List.length_append, len_size] at h3
          refine Lib.hid ?_
          omega
        have HFG := Lib.hid hfg
        clear hy hKy hfg
        by_cases hf8 : f < 8
        · have hf8' : (f : Int) < 8 := by omega
          have HD := Lib.hid (drop_row B (7 - k) f hf8)
          have hix : 8 * (7 - (k : Int)) + (f : Int) = ((8 * (7 - k) + f : Nat) : Int) := by omega
          obtain ⟨j, hj⟩ : ∃ j : Nat, 8 * (7 - k) + f = j := ⟨_, rfl⟩
          rw [hj] at HD hix
          have hj64 : j < 64 := by omega
          have hc := cell_cl H.out.1 (HKY.out.heap hbW.out) j hj64
          have HM := Lib.hid (HOK.out j hj64)
          obtain ⟨hb1, hb2⟩ := H.out.2 j hj64
          generalize B.getD j 0 = m at *
          clear hj
          by_cases hm : m = 0
          · subst hm
            obtain ⟨g', hg'⟩ : ∃ g' : Nat, (g : Int) + 1 = (g' : Int) := ⟨g + 1, by omega⟩
            have hgp : (0 : Int) < (g' : Int) := by omega
            have HD2 : Hid (ty.data.toList ++ rowGo ((rowL B (7 - k)).drop (f + 1)) g' = txt B k ++ rowT B (7 - k)) := by
              refine Lib.hid ?_
              have := HY.out
              rw [HD.out] at this
              rw [show g' = g + 1 by omega]
              simpa [rowGo] using this
            clear HY HD
            by_cases h7 : f = 7
            · have b7 : ((f : Int) == 7) = true := by rw [beq_iff_eq]; omega
              have HF7 := Lib.hid h7
              clear h7
              have hsl := cut_digit g' (by omega) (by omega)
              have s0 := dig_one g' (by omega)
              have s1 : ¬ 9223372036854775807 < ty.size + 1 := by have := HX.out; omega
              go_wp2_with fail
              refine (rletter_any 0 HM.out _).mono ?_
              rintro e w' ⟨rfl, rfl⟩
              have s2 : ¬ 9223372036854775807 < ty.size + (dig g').length + (lettM 0).length := by have := HX.out; have := lettM_len 0; omega
              have s3 : ¬ 9223372036854775807 < ty.size + (dig g').length := by have := HX.out; omega
              go_wp2
              go_roundw
              case rel => exact ⟨f + 1, 0, _, by omega, by omega, fun _ => rfl, by go_num, rfl, rfl, by rw [bs_app, bs_app]; have := HD2.out; have h7 := HF7.out; rw [List.drop_eq_nil_of_le (by rw [rowL_len]; omega)] at this; rw [← this, List.drop_eq_nil_of_le (by rw [rowL_len]; omega)]; simp [rowGo, lettM, dig], HKY.out⟩
              case measure => simp [intOf]; omega
            · have b7 : ((f : Int) == 7) = false := beq_eq_false_iff_ne.2 (by omega)
              have hlt7 : f < 7 := by omega
              clear h7
              go_wp2_with fail
              refine (rletter_any 0 HM.out _).mono ?_
              rintro e w' ⟨rfl, rfl⟩
              have s2 : ¬ 9223372036854775807 < ty.size + (lettM 0).length := by have := HX.out; have := lettM_len 0; omega
              go_wp2
              go_roundw
              case rel => exact ⟨f + 1, g', _, by omega, by omega, by omega, by go_num, rfl, rfl, by rw [bs_app]; have := HD2.out; simpa [lettM] using this, HKY.out⟩
              case measure => simp [intOf]; omega
          · have bm : (m == 0) = false := by simpa using hm
            have bm' : (m != 0) = true := by simpa using hm
            have HD2 : Hid (ty.data.toList ++ (dig g ++ lettM m ++ rowGo ((rowL B (7 - k)).drop (f + 1)) 0) = txt B k ++ rowT B (7 - k)) := by
              have := HY.out
              rw [HD.out, rowGo, if_neg hm] at this
              exact this
            clear HY HD hm
            by_cases hg0 : g = 0
            · subst hg0
              go_wp2_with fail
              refine (rletter_any m HM.out _).mono ?_
              rintro e w' ⟨rfl, rfl⟩
              have s2 : ¬ 9223372036854775807 < ty.size + (lettM m).length := by have := HX.out; have := lettM_len m; omega
              go_wp2
              go_roundw
              case rel => exact ⟨f + 1, 0, _, by omega, by omega, fun _ => rfl, by go_num, rfl, rfl, by rw [bs_app]; have := HD2.out; simpa [dig] using this, HKY.out⟩
              case measure => simp [intOf]; omega
            · have hgp : (0 : Int) < (g : Int) := by omega
              have hsl := cut_digit g (by omega) (by omega)
              have s0 := dig_one g (by omega)
              have s1 : ¬ 9223372036854775807 < ty.size + 1 := by have := HX.out; omega
              clear hg0
              go_wp2_with fail
              refine (rletter_any m HM.out _).mono ?_
              rintro e w' ⟨rfl, rfl⟩
              have s2 : ¬ 9223372036854775807 < ty.size + (dig g).length + (lettM m).length := by have := HX.out; have := lettM_len m; omega
              go_wp2
              go_roundw
              case rel => exact ⟨f + 1, 0, _, by omega, by omega, fun _ => rfl, by go_num, rfl, rfl, by rw [bs_app, bs_app]; have := HD2.out; simpa using this, HKY.out⟩
              case measure => simp [intOf]; omega
        · have e8 : f = 8 := by omega
          subst e8
          have e0 := HFG.out rfl
          subst e0
          have HE : Hid (ty.data.toList = txt B k ++ rowT B (7 - k)) := by
            refine Lib.hid ?_
            have := HY.out
            rw [List.drop_eq_nil_of_le (by rw [rowL_len]; omega)] at this
            simpa [rowGo, dig] using this
          clear HY hf8
          by_cases h7 : k = 7
          · subst h7
            go_wp2
            go_roundw
            case rel => exact ⟨8, ty, by omega, rfl, rfl, by rw [HE.out]; rfl, HKY.out⟩
            case measure => simp [intOf]
          · have b7 : (0 : Int) < 7 - (k : Int) := by omega
            have s2 : ¬ 9223372036854775807 < ty.size + 1 := by have := HX.out; omega
            go_wp2
            go_roundw
            case rel => exact ⟨k + 1, _, by omega, by go_num, rfl, by rw [bs_app, HE.out]; unfold upto; rw [if_neg (by omega)]; rfl, HKY.out⟩
            case measure => simp [intOf]; omega
    · have e8 : k = 8 := by omega
      subst e8
      have HE := Lib.hid (bs_eq (show tx.data.toList = writeT B from HT.out))
      clear HT hl
      go_wp2
      go_ret2
      exact ⟨by rw [HE.out]; rfl, hkW.out.trans HK.out⟩
end Go.Proofs.YtkfjpecehighlaaDoor
