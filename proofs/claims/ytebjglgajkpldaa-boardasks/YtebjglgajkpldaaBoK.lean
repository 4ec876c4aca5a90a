/- The document's Wrong; the examples; the walk of BoardWrong. -/
import Derived.Test.YtebjglgajkpldaaBoJ
namespace Go.Proofs.Ytebjglgajkpldaa
open Go.RowKit
set_option linter.unusedVariables false
set_option linter.unusedSimpArgs false

theorem hit_w (x : Int) : hit 6 0 x = (x == 6) := by
  rw [Bool.eq_iff_iff, beq_iff_eq]
  unfold hit sideI kindI
  by_cases h : manB x = true
  · have := (manB_iff x).1 h
    by_cases h0 : 0 < x
    · simp [h, h0]
    · simp [h, h0]; omega
  · have := (manB_not x).1 (by simpa using h)
    simp [h]; omega
theorem hit_b (x : Int) : hit 6 1 x = (x == -6) := by
  rw [Bool.eq_iff_iff, beq_iff_eq]
  unfold hit sideI kindI
  by_cases h : manB x = true
  · have := (manB_iff x).1 h
    by_cases h0 : 0 < x
    · simp [h, h0]; omega
    · simp [h, h0]; omega
  · have := (manB_not x).1 (by simpa using h)
    simp [h]; omega
theorem kings_w (B : List Int) : ((whereL B 6).length : Int) = manyI B 6 0 := by
  unfold manyI many whereL cnt
  simp only [hit_w]
theorem kings_b (B : List Int) : ((whereL B (-6)).length : Int) = manyI B 6 1 := by
  unfold manyI many whereL cnt
  simp only [hit_b]
/-- Does the document find a pawn on that file's first or last square? -/
def rEdge (B : List Int) (f : Nat) : Bool := B.getD f 0 == 1 || B.getD f 0 == -1 || B.getD (56 + f) 0 == 1 || B.getD (56 + f) 0 == -1
theorem edge_low (B : List Int) (f : Nat) (h : f < 8) : edge B f = (B.getD f 0 == 1 || B.getD f 0 == -1) := by
  unfold edge
  have e : (((f : Int) / 8 == 0)) = true := by rw [beq_iff_eq]; omega
  rw [e, kindI_one]; simp
theorem edge_high (B : List Int) (f : Nat) (h : f < 8) : edge B (56 + f) = (B.getD (56 + f) 0 == 1 || B.getD (56 + f) 0 == -1) := by
  unfold edge
  have e : ((((56 + f : Nat) : Int) / 8 == 7)) = true := by rw [beq_iff_eq]; omega
  rw [e, kindI_one]; simp
theorem edge_mid (B : List Int) (i : Nat) (h0 : 8 ≤ i) (h1 : i < 56) : edge B i = false := by
  unfold edge
  have e1 : (((i : Int) / 8 == 0)) = false := by rw [beq_eq_false_iff_ne]; omega
  have e2 : (((i : Int) / 8 == 7)) = false := by rw [beq_eq_false_iff_ne]; omega
  rw [e1, e2]; simp
theorem rEdge_edge (B : List Int) (f : Nat) (h : f < 8) : rEdge B f = (edge B f || edge B (56 + f)) := by
  rw [edge_low B f h, edge_high B f h]
  unfold rEdge
  simp only [Bool.or_assoc]
theorem edgeB_false (B : List Int) (h : ∀ f, f < 8 → rEdge B f = false) : edgeB B = false := by
  unfold edgeB
  rw [List.any_eq_false]
  intro i hi
  have hi : i < 64 := by simpa using hi
  by_cases h0 : i < 8
  · have := h i h0
    rw [rEdge_edge B i h0, Bool.or_eq_false_iff] at this
    rw [this.1]; decide
  · by_cases h1 : i < 56
    · rw [edge_mid B i (by omega) h1]; decide
    · have := h (i - 56) (by omega)
      rw [rEdge_edge B _ (by omega), Bool.or_eq_false_iff, show 56 + (i - 56) = i by omega] at this
      rw [this.2]; decide
theorem edgeB_true (B : List Int) (f : Nat) (hf : f < 8) (h : rEdge B f = true) : edgeB B = true := by
  unfold edgeB
  rw [List.any_eq_true]
  rw [rEdge_edge B f hf, Bool.or_eq_true] at h
  rcases h with h | h
  · exact ⟨f, by simp; omega, h⟩
  · exact ⟨56 + f, by simp; omega, h⟩
theorem rwrong_is (B : List Int) (hB : Brd B) (w : World) :
    Calls Try.prog 11 #[.agg (cl B).toArray] w fun e w' => e = .returned (.int .i64 (wrongI B)) ∧ Kept w w' := by
  have hbl := Lib.hid (heap_alloc_new w (.cells (cl B).toArray 24))
  have hk0 := (Kept.refl w).alloc (.cells (cl B).toArray 24)
  have hz := Lib.hid (size_cl hB.1)
  have HB := Lib.hid hB
  clear hB
  by_cases h1 : rightB B = true
  · by_cases h2 : (manyI B 6 0 != 1) = true
    · have HW : Hid (6 = wrongI B) := by
        unfold wrongI; rw [if_neg (by rw [h1]; decide), if_pos (.inl (bne_iff_ne.1 h2))]; rfl
      go_enter Try.func11, Try.ntmps11
      go_wp2_with (refine wpList_load_w (by rfl) _ rfl _ rfl _ (hbl.out) hz.out ?_)
      refine (rright_is B HB.out _).mono ?_
      rintro e w1 ⟨rfl, g1⟩
      go_wp2_with (refine wpList_load_w (by rfl) _ rfl _ rfl _ (g1.heap hbl.out) hz.out ?_)
      refine (rwhere_is B HB.out 6 _).mono ?_
      rintro e w2 ⟨v, rfl, o2, g2⟩
      obtain ⟨aa, cap, rfl⟩ := o2.slice
      have hlen := kings_w B
      clear o2
      go_wp2
      go_ret
      exact ⟨ret_int HW.out, (hk0.trans g1).trans g2⟩
    · have h2' : (manyI B 6 0 != 1) = false := by simpa using h2
      by_cases h3 : (manyI B 6 1 != 1) = true
      · have HW : Hid (6 = wrongI B) := by
          unfold wrongI; rw [if_neg (by rw [h1]; decide), if_pos (.inr (bne_iff_ne.1 h3))]; rfl
        clear h2
        go_enter Try.func11, Try.ntmps11
        go_wp2_with (refine wpList_load_w (by rfl) _ rfl _ rfl _ (hbl.out) hz.out ?_)
        refine (rright_is B HB.out _).mono ?_
        rintro e w1 ⟨rfl, g1⟩
        go_wp2_with (refine wpList_load_w (by rfl) _ rfl _ rfl _ (g1.heap hbl.out) hz.out ?_)
        refine (rwhere_is B HB.out 6 _).mono ?_
        rintro e w2 ⟨v, rfl, o2, g2⟩
        obtain ⟨aa, cap, rfl⟩ := o2.slice
        have hlen := kings_w B
        clear o2
        go_wp2_with (refine wpList_load_w (by rfl) _ rfl _ rfl _ ((g1.trans g2).heap hbl.out) hz.out ?_)
        refine (rwhere_is B HB.out (-6) _).mono ?_
        rintro e w3 ⟨v, rfl, o3, g3⟩
        obtain ⟨ab, cap', rfl⟩ := o3.slice
        have hlen' := kings_b B
        clear o3
        go_wp2
        go_ret
        exact ⟨ret_int HW.out, ((hk0.trans g1).trans g2).trans g3⟩
      · have h3' : (manyI B 6 1 != 1) = false := by simpa using h3
        have hkings : Hid (¬ (manyI B 6 0 ≠ 1 ∨ manyI B 6 1 ≠ 1)) := by
          have a1 : manyI B 6 0 = 1 := by simpa using h2'
          have a2 : manyI B 6 1 = 1 := by simpa using h3'
          show ¬ _
          omega
        clear h2 h3
        rcases first_or (rEdge B) 8 with h4 | ⟨n, hn, h4, h5⟩
        · have h4' : edgeB B = false := edgeB_false B h4
          have H4 := Lib.hid h4
          clear h4
          go_enter Try.func11, Try.ntmps11
          go_wp2_with (refine wpList_load_w (by rfl) _ rfl _ rfl _ (hbl.out) hz.out ?_)
          refine (rright_is B HB.out _).mono ?_
          rintro e w1 ⟨rfl, g1⟩
          go_wp2_with (refine wpList_load_w (by rfl) _ rfl _ rfl _ (g1.heap hbl.out) hz.out ?_)
          refine (rwhere_is B HB.out 6 _).mono ?_
          rintro e w2 ⟨v, rfl, o2, g2⟩
          obtain ⟨aa, cap, rfl⟩ := o2.slice
          have hlen := kings_w B
          clear o2
          go_wp2_with (refine wpList_load_w (by rfl) _ rfl _ rfl _ ((g1.trans g2).heap hbl.out) hz.out ?_)
          refine (rwhere_is B HB.out (-6) _).mono ?_
          rintro e w3 ⟨v, rfl, o3, g3⟩
          obtain ⟨ab, cap', rfl⟩ := o3.slice
          have hlen' := kings_b B
          clear o3
          go_wp2
          have hbl3 := Lib.hid (((g1.trans g2).trans g3).heap hbl.out)
          have hk3 := ((hk0.trans g1).trans g2).trans g3
          clear hlen hlen' g1 g2 g3 hk0
          go_loop [3] (fun i => ∃ k : Nat, k ≤ 8 ∧ i = .int .i64 k) (fun i => 8 - (intOf i).toNat)
          case atStart => exact ⟨0, by omega, rfl⟩
          case round =>
            obtain ⟨k, hk, rfl⟩ := hrel
            by_cases hlt : k < 8
            · have hc : w3.cell? ⟨w.heap.size, k, none⟩ = some (.int .i8 (B.getD k 0)) := by
                rw [cell_of_row _ _ k _ _ (0, 0) hbl3.out]
                simpa using cl_get B k (by rw [HB.out.1]; omega)
              have hc' : w3.cell? ⟨w.heap.size, 56 + k, none⟩ = some (.int .i8 (B.getD (56 + k) 0)) := by
                rw [cell_of_row _ _ (56 + k) _ _ (0, 0) hbl3.out]
                simpa using cl_get B (56 + k) (by rw [HB.out.1]; omega)
              have hn := H4.out k hlt
              unfold rEdge at hn
              simp only [Bool.or_eq_false_iff] at hn
              obtain ⟨⟨⟨n1, n2⟩, n3⟩, n4⟩ := hn
              have ei : ((56 : Int) + (k : Int)).toNat = 56 + k := by omega
              generalize B.getD k 0 = x at *
              generalize B.getD (56 + k) 0 = y at *
              go_wp2
              go_round
              case rel => exact ⟨k + 1, by omega, by go_num⟩
              case measure => simp [intOf]; omega
            · clear H4
              by_cases h5 : 16 < manyI B 0 0
              · have HW : Hid (8 = wrongI B) := by
                  unfold wrongI; rw [if_neg (by rw [h1]; decide), if_neg hkings.out, if_neg (by rw [h4']; decide), if_pos (.inl h5)]; rfl
                go_wp2_with (refine wpList_load_w (by rfl) _ rfl _ rfl _ (hbl3.out) hz.out ?_)
                refine (rmany_i B HB.out 0 0 _).mono ?_
                rintro e w5 ⟨rfl, g5⟩
                go_wp2
                go_ret
                exact ⟨ret_int HW.out, hk3.trans g5⟩
              · have h5' : decide (16 < manyI B 0 0) = false := by simpa using h5
                by_cases h6 : 16 < manyI B 0 1
                · have HW : Hid (8 = wrongI B) := by
                    unfold wrongI; rw [if_neg (by rw [h1]; decide), if_neg hkings.out, if_neg (by rw [h4']; decide), if_pos (.inr h6)]; rfl
                  go_wp2_with (refine wpList_load_w (by rfl) _ rfl _ rfl _ (hbl3.out) hz.out ?_)
                  refine (rmany_i B HB.out 0 0 _).mono ?_
                  rintro e w5 ⟨rfl, g5⟩
                  go_wp2_with (refine wpList_load_w (by rfl) _ rfl _ rfl _ (g5.heap hbl3.out) hz.out ?_)
                  refine (rmany_i B HB.out 0 1 _).mono ?_
                  rintro e w6 ⟨rfl, g6⟩
                  go_wp2
                  go_ret
                  exact ⟨ret_int HW.out, (hk3.trans g5).trans g6⟩
                · have HW : Hid (0 = wrongI B) := by
                    unfold wrongI; rw [if_neg (by rw [h1]; decide), if_neg hkings.out, if_neg (by rw [h4']; decide), if_neg (by omega)]; rfl
                  have h6' : decide (16 < manyI B 0 1) = false := by simpa using h6
                  go_wp2_with (refine wpList_load_w (by rfl) _ rfl _ rfl _ (hbl3.out) hz.out ?_)
                  refine (rmany_i B HB.out 0 0 _).mono ?_
                  rintro e w5 ⟨rfl, g5⟩
                  go_wp2_with (refine wpList_load_w (by rfl) _ rfl _ rfl _ (g5.heap hbl3.out) hz.out ?_)
                  refine (rmany_i B HB.out 0 1 _).mono ?_
                  rintro e w6 ⟨rfl, g6⟩
                  go_wp2
                  go_ret
                  exact ⟨ret_int HW.out, (hk3.trans g5).trans g6⟩
        · have HW : Hid (7 = wrongI B) := by
            unfold wrongI; rw [if_neg (by rw [h1]; decide), if_neg hkings.out, if_pos (edgeB_true B n hn h4)]; rfl
          have H4 := Lib.hid h4
          have H5 := Lib.hid h5
          clear h4 h5
          go_enter Try.func11, Try.ntmps11
          go_wp2_with (refine wpList_load_w (by rfl) _ rfl _ rfl _ (hbl.out) hz.out ?_)
          refine (rright_is B HB.out _).mono ?_
          rintro e w1 ⟨rfl, g1⟩
          go_wp2_with (refine wpList_load_w (by rfl) _ rfl _ rfl _ (g1.heap hbl.out) hz.out ?_)
          refine (rwhere_is B HB.out 6 _).mono ?_
          rintro e w2 ⟨v, rfl, o2, g2⟩
          obtain ⟨aa, cap, rfl⟩ := o2.slice
          have hlen := kings_w B
          clear o2
          go_wp2_with (refine wpList_load_w (by rfl) _ rfl _ rfl _ ((g1.trans g2).heap hbl.out) hz.out ?_)
          refine (rwhere_is B HB.out (-6) _).mono ?_
          rintro e w3 ⟨v, rfl, o3, g3⟩
          obtain ⟨ab, cap', rfl⟩ := o3.slice
          have hlen' := kings_b B
          clear o3
          go_wp2
          have hbl3 := Lib.hid (((g1.trans g2).trans g3).heap hbl.out)
          have hk3 := ((hk0.trans g1).trans g2).trans g3
          clear hlen hlen' g1 g2 g3 hk0
          go_loop [3] (fun i => ∃ k : Nat, k ≤ n ∧ i = .int .i64 k) (fun i => 8 - (intOf i).toNat)
          case atStart => exact ⟨0, by omega, rfl⟩
          case round =>
            obtain ⟨k, hk, rfl⟩ := hrel
            have hlt : k < 8 := by omega
            have hc : w3.cell? ⟨w.heap.size, k, none⟩ = some (.int .i8 (B.getD k 0)) := by
              rw [cell_of_row _ _ k _ _ (0, 0) hbl3.out]
              simpa using cl_get B k (by rw [HB.out.1]; omega)
            have hc' : w3.cell? ⟨w.heap.size, 56 + k, none⟩ = some (.int .i8 (B.getD (56 + k) 0)) := by
              rw [cell_of_row _ _ (56 + k) _ _ (0, 0) hbl3.out]
              simpa using cl_get B (56 + k) (by rw [HB.out.1]; omega)
            have ei : ((56 : Int) + (k : Int)).toNat = 56 + k := by omega
            by_cases he : k = n
            · subst he
              have hn := H4.out
              unfold rEdge at hn
              generalize B.getD k 0 = x at *
              generalize B.getD (56 + k) 0 = y at *
              by_cases n1 : (x == 1) = true
              · clear hn
                go_wp2
                go_ret
                exact ⟨ret_int HW.out, hk3⟩
              · have n1' : (x == 1) = false := by simpa using n1
                by_cases n2 : (x == -1) = true
                · clear hn n1
                  go_wp2
                  go_ret
                  exact ⟨ret_int HW.out, hk3⟩
                · have n2' : (x == -1) = false := by simpa using n2
                  by_cases n3 : (y == 1) = true
                  · clear hn n1 n2
                    go_wp2
                    go_ret
                    exact ⟨ret_int HW.out, hk3⟩
                  · have n3' : (y == 1) = false := by simpa using n3
                    rw [n1', n2', n3'] at hn
                    have n4 : (y == -1) = true := by simpa using hn
                    clear hn n1 n2 n3
                    go_wp2
                    go_ret
                    exact ⟨ret_int HW.out, hk3⟩
            · have hn := H5.out k (by omega)
              have hkn : k < n := by omega
              clear he
              unfold rEdge at hn
              simp only [Bool.or_eq_false_iff] at hn
              obtain ⟨⟨⟨n1, n2⟩, n3⟩, n4⟩ := hn
              generalize B.getD k 0 = x at *
              generalize B.getD (56 + k) 0 = y at *
              go_wp2
              go_round
              case rel => exact ⟨k + 1, by omega, by go_num⟩
              case measure => simp [intOf]; omega
  · have h1' : rightB B = false := by simpa using h1
    clear h1
    have HW : Hid (5 = wrongI B) := by
      unfold wrongI; rw [if_pos h1']; rfl
    go_enter Try.func11, Try.ntmps11
    go_wp2_with (refine wpList_load_w (by rfl) _ rfl _ rfl _ (hbl.out) hz.out ?_)
    refine (rright_is B HB.out _).mono ?_
    rintro e w1 ⟨rfl, g1⟩
    go_wp2
    go_ret
    exact ⟨ret_int HW.out, hk0.trans g1⟩
end Go.Proofs.Ytebjglgajkpldaa
