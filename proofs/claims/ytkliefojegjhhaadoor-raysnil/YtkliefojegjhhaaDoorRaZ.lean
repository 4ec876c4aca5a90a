/- The examples; walks of RaysNil and RaysRay. -/
import Derived.Test.YtkliefojegjhhaaDoorRaY
import Derived.Test.YtkliefojegjhhaaDoorRaN
namespace Go.Proofs.YtkliefojegjhhaaDoor
open Go.RowKit
set_option linter.unusedVariables false
set_option linter.unusedSimpArgs false

set_option maxHeartbeats 1000000 in
theorem rays_wake (w : World) (hS : Steps w) : Calls Tryd.prog 12 #[] w fun e w' => e = .returned (.bool true) ∧ Kept w w' := by
  have HS := Lib.hid hS
  clear hS
  go_enter Tryd.func12, Tryd.ntmps12
  go_wp2_with fail
  refine (make_is _ HS.out).mono ?_
  rintro e w1 ⟨rfl, hT, k1⟩
  have HT1 := Lib.hid hT
  have HK1 := Lib.hid k1
  clear hT k1
  go_wp2_with fail
  refine (of_is 4 0 _ _ HT1.out (HS.out.kept HK1.out)).mono ?_
  rintro e w2 ⟨v, rfl, hR, k2⟩
  rw [wake_of] at hR
  obtain ⟨go, co, rfl, hco, hco2, hread⟩ := hR.read (by decide)
  obtain ⟨u, g, hc, hls, _⟩ := hread 0 [8, 16, 24, 32, 40, 48, 56] rfl
  obtain ⟨off, cu, rfl, _, _, _⟩ := hls.full (by decide)
  have HL := Lib.hid hls
  have HK2 := Lib.hid k2
  have HT2 := Lib.hid (HT1.out.kept k2)
  have hco' : 2 ≤ co := hco
  clear hR hread hls k2 hco hco2
  go_wp2_with fail
  refine (sameZ_yes g w2.heap.size _ _ [8, 16, 24, 32, 40, 48, 56] _ (HL.out.kept ((Kept.refl _).alloc _)) (LsZ.lit w2 [8, 16, 24, 32, 40, 48, 56] (by simp))).mono ?_
  rintro e w3 ⟨rfl, k3⟩
  have HK3 := Lib.hid (((Kept.refl w2).alloc (.cells (zl [8, 16, 24, 32, 40, 48, 56]).toArray 3)).trans k3)
  have HT3 := Lib.hid (HT2.out.kept HK3.out)
  clear k3
  go_wp2_with fail
  refine (line_is 0 63 _ _ HT3.out).mono ?_
  rintro e w4 ⟨v, rfl, hO, k4⟩
  rw [wake_line] at hO
  obtain ⟨g4, hls4, _⟩ := hO.ls
  obtain ⟨off4, cu4, rfl, _, _, _⟩ := hls4.full (by decide)
  have HL4 := Lib.hid hls4
  have HK4 := Lib.hid k4
  clear hO hls4 k4
  go_wp2_with fail
  refine (sameZ_yes g4 w4.heap.size _ _ [9, 18, 27, 36, 45, 54] _ (HL4.out.kept ((Kept.refl _).alloc _)) (LsZ.lit w4 [9, 18, 27, 36, 45, 54] (by simp))).mono ?_
  rintro e w5 ⟨rfl, k5⟩
  have HK5 := Lib.hid (((Kept.refl w4).alloc (.cells (zl [9, 18, 27, 36, 45, 54]).toArray 3)).trans k5)
  clear k5
  go_wp2
  go_ret
  exact ⟨rfl, (((HK1.out.trans HK2.out).trans HK3.out).trans HK4.out).trans HK5.out⟩
theorem walkRaysNil (m : Int) (w0 : (Lit.int .i64 m).wf = true) (s : Int) (w1 : (Lit.int .i64 s).wf = true) (w : World) (hS : Steps w) :
    Calls Tryd.prog 6 #[.int .i64 m, .int .i64 s] w fun e w' => e = .returned (.bool true) ∧ Kept w w' := by
  have HS := Lib.hid hS
  clear hS w0 w1
  go_enter Tryd.func6, Tryd.ntmps6
  go_wp2_with fail
  refine (rays_wake _ HS.out).mono ?_
  rintro e w1 ⟨rfl, k1⟩
  have HK1 := Lib.hid k1
  clear k1
  go_wp2_with fail
  refine (of_nil _ _ _).mono ?_
  rintro e w' ⟨rfl, rfl⟩
  go_wp2_with fail
  refine (line_nil _ _ _).mono ?_
  rintro e w' ⟨rfl, rfl⟩
  go_wp2
  go_ret
  exact ⟨rfl, HK1.out⟩
set_option maxHeartbeats 1000000 in
theorem walkRaysRay (s : Int) (w0 : (Lit.int .i64 s).wf = true) (f : Int) (w1 : (Lit.int .i64 f).wf = true) (r : Int) (w2 : (Lit.int .i64 r).wf = true) (w : World) (hS : Steps w) :
    Calls Tryd.prog 4 #[.int .i64 s, .int .i64 f, .int .i64 r] w fun e w' => e = .returned (.bool true) ∧ Kept w w' := by
  have HS := Lib.hid hS
  have HP := Lib.hid (ray_is s f r w1 w2)
  have HB := Lib.hid (line_back s f)
  clear hS w0 w1 w2
  go_enter Tryd.func4, Tryd.ntmps4
  go_wp2_with fail
  refine (rays_wake _ HS.out).mono ?_
  rintro e w1 ⟨rfl, k1⟩
  have HK1 := Lib.hid k1
  clear k1
  go_wp2_with fail
  refine (HP.out _).mono ?_
  rintro e w2 ⟨v2, rfl, hO2, k2⟩
  obtain ⟨a2, c2, rfl⟩ := hO2.slice
  have HO2 := Lib.hid hO2
  have HK2 := Lib.hid (HK1.out.trans k2)
  clear hO2 k2
  go_wp2_with fail
  refine (rray_is s f r _).mono ?_
  rintro e w3 ⟨v3, rfl, hO3, k3⟩
  obtain ⟨a3, c3, rfl⟩ := hO3.slice
  obtain ⟨g3, hl3, _⟩ := hO3.ls
  obtain ⟨g2, hl2, _⟩ := (HO2.out.kept k3).ls
  have HL3 := Lib.hid hl3
  have HL2 := Lib.hid hl2
  have HK3 := Lib.hid (HK2.out.trans k3)
  clear hO3 k3 hl3 hl2
  generalize (rayL s f r).length = nr at *
  go_wp2_with fail
  refine (sameZ_yes g2 g3 _ _ (rayL s f r) _ HL2.out HL3.out).mono ?_
  rintro e w4 ⟨rfl, k4⟩
  have HK4 := Lib.hid (HK3.out.trans k4)
  clear k4
  go_wp2_with fail
  refine (make_is _ (HS.out.kept HK4.out)).mono ?_
  rintro e w5 ⟨rfl, hT, k5⟩
  have HT5 := Lib.hid hT
  have HK5 := Lib.hid (HK4.out.trans k5)
  clear hT k5
  go_wp2_with fail
  refine (line_is s f _ _ HT5.out).mono ?_
  rintro e w6 ⟨v6, rfl, hO6, k6⟩
  obtain ⟨a6, c6, rfl⟩ := hO6.slice
  have HO6 := Lib.hid hO6
  have HT6 := Lib.hid (HT5.out.kept k6)
  have HK6 := Lib.hid (HK5.out.trans k6)
  clear hO6 k6
  go_wp2_with fail
  refine (line_is f s _ _ HT6.out).mono ?_
  rintro e w7 ⟨v7, rfl, hO7, k7⟩
  rw [HB.out] at hO7
  obtain ⟨a7, c7, rfl⟩ := hO7.slice
  rw [List.length_reverse] at hO7 ⊢
  have HO7 := Lib.hid hO7
  have HO67 := Lib.hid (HO6.out.kept k7)
  have HK7 := Lib.hid (HK6.out.trans k7)
  clear hO7 k7
  go_wp2_with fail
  refine (rline_is s f _).mono ?_
  rintro e w8 ⟨v8, g8, rfl, hL8, _, k8⟩
  obtain ⟨a8, c8, rfl⟩ := hL8.slice
  obtain ⟨g6, hl6, _⟩ := (HO67.out.kept k8).ls
  obtain ⟨g7, hl7, _⟩ := (HO7.out.kept k8).ls
  have HL8 := Lib.hid hL8
  have HL6 := Lib.hid hl6
  have HL7 := Lib.hid hl7
  have HK8 := Lib.hid (HK7.out.trans k8)
  clear hL8 k8 hl6 hl7 HO67 HO7 HO6
  generalize hl : lineL s f = l at *
  clear hl
  generalize hn : l.length = n at *
  have HN := Lib.hid hn
  clear hn
  go_wp2_with fail
  refine (sameZ_yes g6 g8 _ _ l _ HL6.out HL8.out).mono ?_
  rintro e w9 ⟨rfl, k9⟩
  have HK9 := Lib.hid (HK8.out.trans k9)
  have HL69 := Lib.hid (HL6.out.kept k9)
  have HL79 := Lib.hid (HL7.out.kept k9)
  clear k9 HL6 HL7
  go_wp2
  go_loopw [47] (fun t47 wr => ∃ i : Nat, i ≤ n ∧ t47 = .int .i64 i ∧ Kept w9 wr) (fun t47 _ => n - (intOf t47).toNat)
  case atStart => exact ⟨0, by omega, rfl, Kept.refl _⟩
  case round =>
    obtain ⟨i, hi, rfl, hK⟩ := hrel
    have HK := Lib.hid hK
    clear hK
    by_cases hlt : i < n
    · have hlt' : (i : Int) < (n : Int) := by omega
      obtain ⟨j, hj⟩ : ∃ j, i + j + 1 = n := ⟨n - 1 - i, by omega⟩
      obtain ⟨x, hx⟩ : ∃ x, l[i]? = some x := ⟨_, List.getElem?_eq_getElem (by have := HN.out; omega)⟩
      have hxr : l.reverse[j]? = some x := by
        rw [List.getElem?_reverse (by have := HN.out; omega), ← hx]
        congr 1
        have := HN.out; omega
      obtain ⟨o6, c6', e6, q61, q62, hc6⟩ := HL69.out.full (by have := HN.out; omega)
      obtain ⟨o7, c7', e7, q71, q72, hc7⟩ := HL79.out.full (by have := HN.out; rw [List.length_reverse]; omega)
      injection e6 with e61 e62 e63
      injection e7 with e71 e72 e73
      subst e61 e63 e71 e73
      have d6 := kept_cell HK.out (hc6 i x hx)
      have d7 := kept_cell HK.out (hc7 j x hxr)
      have hm : n ≤ maxLen := by have := HN.out; omega
      unfold maxLen at hm
      have e1 : IntKind.i64.wrap ((n : Int) - 1) = (n : Int) - 1 := IntWalk.i64_in _ (by omega)
      have e2 : IntKind.i64.wrap ((n : Int) - 1 - (i : Int)) = (j : Int) := by rw [show (n : Int) - 1 - (i : Int) = (j : Int) by omega]; exact IntWalk.i64_in _ (by omega)
      have hjn : (j : Int) < (n : Int) := by omega
      clear hx hxr hc6 hc7 q61 q62 q71 q72 hj e62 e72
      go_wp2
      refine wp_region_held_drew (S := Kept _) (by kernel_rfl) (Kept.refl _).drew (fun hHeld => ?_)
      refine rg_take (i := 0) (v := (.slice (some ⟨g6, o6, none⟩) n c6)) (some 50) rfl rfl (by kernel_rfl) (by kernel_rfl) (by kernel_rfl) (fun _ _ _ h => h) (Or.inl ⟨by rfl, fun _ _ => by go_simp⟩) hHeld ?_
      simp only [Act.put, List.setIfInBounds_toArray, List.set_cons_zero, List.set_cons_succ]
      refine rg_take (i := 1) (v := (.int .i64 (i : Int))) (some 51) rfl rfl (by kernel_rfl) (by kernel_rfl) (by kernel_rfl) (fun _ _ _ h => h) (Or.inl ⟨by rfl, fun _ _ => by go_simp⟩) hHeld ?_
      simp only [Act.put, List.setIfInBounds_toArray, List.set_cons_zero, List.set_cons_succ]
      refine rg_take (i := 2) (v := (.pointer (some ⟨g6, o6 + i, none⟩))) (some 52) rfl rfl (by kernel_rfl) (by kernel_rfl) (by kernel_rfl) (fun _ _ _ h => h) (Or.inl ⟨by rfl, fun _ _ => by go_simp⟩) hHeld ?_
      simp only [Act.put, List.setIfInBounds_toArray, List.set_cons_zero, List.set_cons_succ]
      refine rg_take (i := 3) (v := (.int .i64 x)) (some 53) rfl rfl (by kernel_rfl) (by kernel_rfl) (by kernel_rfl) (fun _ _ _ h => h) (Or.inl ⟨by rfl, fun w' h => by have h' := kept_cell h (d6); go_simp⟩) hHeld ?_
      simp only [Act.put, List.setIfInBounds_toArray, List.set_cons_zero, List.set_cons_succ]
      refine rg_take (i := 4) (v := (.slice (some ⟨g7, o7, none⟩) n c7)) (some 54) rfl rfl (by kernel_rfl) (by kernel_rfl) (by kernel_rfl) (fun _ _ _ h => h) (Or.inl ⟨by rfl, fun _ _ => by go_simp⟩) hHeld ?_
      simp only [Act.put, List.setIfInBounds_toArray, List.set_cons_zero, List.set_cons_succ]
      refine rg_take (i := 5) (v := (.slice (some ⟨g7, o7, none⟩) n c7)) (some 55) rfl rfl (by kernel_rfl) (by kernel_rfl) (by kernel_rfl) (fun _ _ _ h => h) (Or.inl ⟨by rfl, fun _ _ => by go_simp⟩) hHeld ?_
      simp only [Act.put, List.setIfInBounds_toArray, List.set_cons_zero, List.set_cons_succ]
      refine rg_take (i := 6) (v := (.int .i64 (n : Int))) (some 56) rfl rfl (by kernel_rfl) (by kernel_rfl) (by kernel_rfl) (fun _ _ _ h => h) (Or.inl ⟨by rfl, fun _ _ => by go_simp⟩) hHeld ?_
      simp only [Act.put, List.setIfInBounds_toArray, List.set_cons_zero, List.set_cons_succ]
      refine rg_take (i := 7) (v := (.int .i64 ((n : Int) - 1))) (some 57) rfl rfl (by kernel_rfl) (by kernel_rfl) (by kernel_rfl) (fun _ _ _ h => h) (Or.inl ⟨by rfl, fun _ _ => by go_simp⟩) hHeld ?_
      simp only [Act.put, List.setIfInBounds_toArray, List.set_cons_zero, List.set_cons_succ]
      refine rg_take (i := 8) (v := (.int .i64 (i : Int))) (some 58) rfl rfl (by kernel_rfl) (by kernel_rfl) (by kernel_rfl) (fun _ _ _ h => h) (Or.inl ⟨by rfl, fun _ _ => by go_simp⟩) hHeld ?_
      simp only [Act.put, List.setIfInBounds_toArray, List.set_cons_zero, List.set_cons_succ]
      refine rg_take (i := 9) (v := (.int .i64 (j : Int))) (some 59) rfl rfl (by kernel_rfl) (by kernel_rfl) (by kernel_rfl) (fun _ _ _ h => h) (Or.inl ⟨by rfl, fun _ _ => by go_simp⟩) hHeld ?_
      simp only [Act.put, List.setIfInBounds_toArray, List.set_cons_zero, List.set_cons_succ]
      refine rg_take (i := 10) (v := (.pointer (some ⟨g7, o7 + j, none⟩))) (some 60) rfl rfl (by kernel_rfl) (by kernel_rfl) (by kernel_rfl) (fun _ _ _ h => h) (Or.inl ⟨by rfl, fun _ _ => by go_simp⟩) hHeld ?_
      simp only [Act.put, List.setIfInBounds_toArray, List.set_cons_zero, List.set_cons_succ]
      refine rg_take (i := 11) (v := (.int .i64 x)) (some 61) rfl rfl (by kernel_rfl) (by kernel_rfl) (by kernel_rfl) (fun _ _ _ h => h) (Or.inl ⟨by rfl, fun w' h => by have h' := kept_cell h (d7); go_simp⟩) hHeld ?_
      simp only [Act.put, List.setIfInBounds_toArray, List.set_cons_zero, List.set_cons_succ]
      refine rg_take (i := 12) (v := (.bool false)) (some 62) rfl rfl (by kernel_rfl) (by kernel_rfl) (by kernel_rfl) (fun _ _ _ h => h) (Or.inl ⟨by rfl, fun _ _ => by go_simp⟩) hHeld ?_
      simp only [Act.put, List.setIfInBounds_toArray, List.set_cons_zero, List.set_cons_succ]
      refine wpAnyH_done (by kernel_rfl) ?_ _
      have HKr := Lib.hid (HK.out.trans hHeld)
      go_wp2
      go_roundw
      case rel => exact ⟨i + 1, by omega, by go_num, HKr.out⟩
      case measure => simp [intOf]; omega
    · have hlt' : ¬ (i : Int) < (n : Int) := by omega
      go_wp2
      go_ret
      exact ⟨rfl, HK9.out.trans HK.out⟩
end Go.Proofs.YtkliefojegjhhaaDoor
