/- Wrong: the board's and the document's; the examples; the walk of BoardWrong. -/
import Derived.Test.YtebjglgajkpldaaBoI
namespace Go.Proofs.Ytebjglgajkpldaa
open Go.RowKit
set_option linter.unusedVariables false
set_option linter.unusedSimpArgs false

def manyI (B : List Int) (kind side : Int) : Int := (many B kind side : Nat)
theorem manyI_bd (B : List Int) (kind side : Int) : 0 ≤ manyI B kind side ∧ manyI B kind side ≤ 64 := by
  unfold manyI
  have := cnt_le (fun i => hit kind side (B.getD i 0)) 64
  have : many B kind side ≤ 64 := this
  omega
theorem many_i (B : List Int) (hB : Brd B) (kind side : Int) (w : World) :
    Calls Try.prog 18 #[.agg (cl B).toArray, .int .i64 kind, .int .i64 side] w fun e w' => e = .returned (.int .i64 (manyI B kind side)) ∧ Kept w w' := many_is B hB kind side w
theorem rmany_i (B : List Int) (hB : Brd B) (kind side : Int) (w : World) :
    Calls Try.prog 19 #[.agg (cl B).toArray, .int .i64 kind, .int .i64 side] w fun e w' => e = .returned (.int .i64 (manyI B kind side)) ∧ Kept w w' := rmany_is B hB kind side w
/-- What a board lacks. -/
def wrongI (B : List Int) : Int :=
  if rightB B = false then 5 else if manyI B 6 0 ≠ 1 ∨ manyI B 6 1 ≠ 1 then 6 else if edgeB B = true then 7 else if 16 < manyI B 0 0 ∨ 16 < manyI B 0 1 then 8 else 0
theorem wrong_is (B : List Int) (hB : Brd B) (w : World) :
    Calls Try.prog 10 #[.agg (cl B).toArray] w fun e w' => e = .returned (.int .i64 (wrongI B)) ∧ Kept w w' := by
  have hbl := Lib.hid (heap_alloc_new w (.cells (cl B).toArray 24))
  have hk0 := (Kept.refl w).alloc (.cells (cl B).toArray 24)
  have hz := Lib.hid (size_cl hB.1)
  have HB := Lib.hid hB
  clear hB
  by_cases h1 : rightB B = true
  · by_cases h2 : (manyI B 6 0 != 1) = true
    · have HW : Hid (6 = wrongI B) := by
        unfold wrongI; rw [if_neg (by rw [h1]; decide), if_pos (.inl (bne_iff_ne.1 h2))]; rfl
      go_enter Try.func10, Try.ntmps10
      go_wp2_with (refine wpList_load_w (by rfl) _ rfl _ rfl _ (hbl.out) hz.out ?_)
      refine (bright_is B HB.out _).mono ?_
      rintro e w1 ⟨rfl, g1⟩
      go_wp2_with (refine wpList_load_w (by rfl) _ rfl _ rfl _ (g1.heap hbl.out) hz.out ?_)
      refine (many_i B HB.out 6 0 _).mono ?_
      rintro e w2 ⟨rfl, g2⟩
      go_wp2
      go_ret
      exact ⟨ret_int HW.out, (hk0.trans g1).trans g2⟩
    · have h2' : (manyI B 6 0 != 1) = false := by simpa using h2
      by_cases h3 : (manyI B 6 1 != 1) = true
      · have HW : Hid (6 = wrongI B) := by
          unfold wrongI; rw [if_neg (by rw [h1]; decide), if_pos (.inr (bne_iff_ne.1 h3))]; rfl
        clear h2
        go_enter Try.func10, Try.ntmps10
        go_wp2_with (refine wpList_load_w (by rfl) _ rfl _ rfl _ (hbl.out) hz.out ?_)
        refine (bright_is B HB.out _).mono ?_
        rintro e w1 ⟨rfl, g1⟩
        go_wp2_with (refine wpList_load_w (by rfl) _ rfl _ rfl _ (g1.heap hbl.out) hz.out ?_)
        refine (many_i B HB.out 6 0 _).mono ?_
        rintro e w2 ⟨rfl, g2⟩
        go_wp2_with (refine wpList_load_w (by rfl) _ rfl _ rfl _ ((g1.trans g2).heap hbl.out) hz.out ?_)
        refine (many_i B HB.out 6 1 _).mono ?_
        rintro e w3 ⟨rfl, g3⟩
        go_wp2
        go_ret
        exact ⟨ret_int HW.out, ((hk0.trans g1).trans g2).trans g3⟩
      · have h3' : (manyI B 6 1 != 1) = false := by simpa using h3
        have hkings : Hid (¬ (manyI B 6 0 ≠ 1 ∨ manyI B 6 1 ≠ 1)) := by
          have a1 : manyI B 6 0 = 1 := by simpa using h2'
          have a2 : manyI B 6 1 = 1 := by simpa using h3'
          show ¬ _
          omega
        clear h2 h3
        by_cases h4 : edgeB B = true
        · have HW : Hid (7 = wrongI B) := by
            unfold wrongI; rw [if_neg (by rw [h1]; decide), if_neg hkings.out, if_pos h4]; rfl
          go_enter Try.func10, Try.ntmps10
          go_wp2_with (refine wpList_load_w (by rfl) _ rfl _ rfl _ (hbl.out) hz.out ?_)
          refine (bright_is B HB.out _).mono ?_
          rintro e w1 ⟨rfl, g1⟩
          go_wp2_with (refine wpList_load_w (by rfl) _ rfl _ rfl _ (g1.heap hbl.out) hz.out ?_)
          refine (many_i B HB.out 6 0 _).mono ?_
          rintro e w2 ⟨rfl, g2⟩
          go_wp2_with (refine wpList_load_w (by rfl) _ rfl _ rfl _ ((g1.trans g2).heap hbl.out) hz.out ?_)
          refine (many_i B HB.out 6 1 _).mono ?_
          rintro e w3 ⟨rfl, g3⟩
          go_wp2_with (refine wpList_load_w (by rfl) _ rfl _ rfl _ (((g1.trans g2).trans g3).heap hbl.out) hz.out ?_)
          refine (pawnAtEdge_is B HB.out _).mono ?_
          rintro e w4 ⟨rfl, g4⟩
          go_wp2
          go_ret
          exact ⟨ret_int HW.out, (((hk0.trans g1).trans g2).trans g3).trans g4⟩
        · have h4' : edgeB B = false := by simpa using h4
          clear h4
          by_cases h5 : 16 < manyI B 0 0
          · have HW : Hid (8 = wrongI B) := by
              unfold wrongI; rw [if_neg (by rw [h1]; decide), if_neg hkings.out, if_neg (by rw [h4']; decide), if_pos (.inl h5)]; rfl
            go_enter Try.func10, Try.ntmps10
            go_wp2_with (refine wpList_load_w (by rfl) _ rfl _ rfl _ (hbl.out) hz.out ?_)
            refine (bright_is B HB.out _).mono ?_
            rintro e w1 ⟨rfl, g1⟩
            go_wp2_with (refine wpList_load_w (by rfl) _ rfl _ rfl _ (g1.heap hbl.out) hz.out ?_)
            refine (many_i B HB.out 6 0 _).mono ?_
            rintro e w2 ⟨rfl, g2⟩
            go_wp2_with (refine wpList_load_w (by rfl) _ rfl _ rfl _ ((g1.trans g2).heap hbl.out) hz.out ?_)
            refine (many_i B HB.out 6 1 _).mono ?_
            rintro e w3 ⟨rfl, g3⟩
            go_wp2_with (refine wpList_load_w (by rfl) _ rfl _ rfl _ (((g1.trans g2).trans g3).heap hbl.out) hz.out ?_)
            refine (pawnAtEdge_is B HB.out _).mono ?_
            rintro e w4 ⟨rfl, g4⟩
            go_wp2_with (refine wpList_load_w (by rfl) _ rfl _ rfl _ ((((g1.trans g2).trans g3).trans g4).heap hbl.out) hz.out ?_)
            refine (many_i B HB.out 0 0 _).mono ?_
            rintro e w5 ⟨rfl, g5⟩
            go_wp2
            go_ret
            exact ⟨ret_int HW.out, ((((hk0.trans g1).trans g2).trans g3).trans g4).trans g5⟩
          · have h5' : decide (16 < manyI B 0 0) = false := by simpa using h5
            by_cases h6 : 16 < manyI B 0 1
            all_goals
              have h6' : decide (16 < manyI B 0 1) = decide (16 < manyI B 0 1) := rfl
            · have HW : Hid (8 = wrongI B) := by
                unfold wrongI; rw [if_neg (by rw [h1]; decide), if_neg hkings.out, if_neg (by rw [h4']; decide), if_pos (.inr h6)]; rfl
              clear h6'
              go_enter Try.func10, Try.ntmps10
              go_wp2_with (refine wpList_load_w (by rfl) _ rfl _ rfl _ (hbl.out) hz.out ?_)
              refine (bright_is B HB.out _).mono ?_
              rintro e w1 ⟨rfl, g1⟩
              go_wp2_with (refine wpList_load_w (by rfl) _ rfl _ rfl _ (g1.heap hbl.out) hz.out ?_)
              refine (many_i B HB.out 6 0 _).mono ?_
              rintro e w2 ⟨rfl, g2⟩
              go_wp2_with (refine wpList_load_w (by rfl) _ rfl _ rfl _ ((g1.trans g2).heap hbl.out) hz.out ?_)
              refine (many_i B HB.out 6 1 _).mono ?_
              rintro e w3 ⟨rfl, g3⟩
              go_wp2_with (refine wpList_load_w (by rfl) _ rfl _ rfl _ (((g1.trans g2).trans g3).heap hbl.out) hz.out ?_)
              refine (pawnAtEdge_is B HB.out _).mono ?_
              rintro e w4 ⟨rfl, g4⟩
              go_wp2_with (refine wpList_load_w (by rfl) _ rfl _ rfl _ ((((g1.trans g2).trans g3).trans g4).heap hbl.out) hz.out ?_)
              refine (many_i B HB.out 0 0 _).mono ?_
              rintro e w5 ⟨rfl, g5⟩
              go_wp2_with (refine wpList_load_w (by rfl) _ rfl _ rfl _ (((((g1.trans g2).trans g3).trans g4).trans g5).heap hbl.out) hz.out ?_)
              refine (many_i B HB.out 0 1 _).mono ?_
              rintro e w6 ⟨rfl, g6⟩
              go_wp2
              go_ret
              exact ⟨ret_int HW.out, (((((hk0.trans g1).trans g2).trans g3).trans g4).trans g5).trans g6⟩
            · have HW : Hid (0 = wrongI B) := by
                unfold wrongI; rw [if_neg (by rw [h1]; decide), if_neg hkings.out, if_neg (by rw [h4']; decide), if_neg (by omega)]; rfl
              clear h6'
              have h6' : decide (16 < manyI B 0 1) = false := by simpa using h6
              go_enter Try.func10, Try.ntmps10
              go_wp2_with (refine wpList_load_w (by rfl) _ rfl _ rfl _ (hbl.out) hz.out ?_)
              refine (bright_is B HB.out _).mono ?_
              rintro e w1 ⟨rfl, g1⟩
              go_wp2_with (refine wpList_load_w (by rfl) _ rfl _ rfl _ (g1.heap hbl.out) hz.out ?_)
              refine (many_i B HB.out 6 0 _).mono ?_
              rintro e w2 ⟨rfl, g2⟩
              go_wp2_with (refine wpList_load_w (by rfl) _ rfl _ rfl _ ((g1.trans g2).heap hbl.out) hz.out ?_)
              refine (many_i B HB.out 6 1 _).mono ?_
              rintro e w3 ⟨rfl, g3⟩
              go_wp2_with (refine wpList_load_w (by rfl) _ rfl _ rfl _ (((g1.trans g2).trans g3).heap hbl.out) hz.out ?_)
              refine (pawnAtEdge_is B HB.out _).mono ?_
              rintro e w4 ⟨rfl, g4⟩
              go_wp2_with (refine wpList_load_w (by rfl) _ rfl _ rfl _ ((((g1.trans g2).trans g3).trans g4).heap hbl.out) hz.out ?_)
              refine (many_i B HB.out 0 0 _).mono ?_
              rintro e w5 ⟨rfl, g5⟩
              go_wp2_with (refine wpList_load_w (by rfl) _ rfl _ rfl _ (((((g1.trans g2).trans g3).trans g4).trans g5).heap hbl.out) hz.out ?_)
              refine (many_i B HB.out 0 1 _).mono ?_
              rintro e w6 ⟨rfl, g6⟩
              go_wp2
              go_ret
              exact ⟨ret_int HW.out, (((((hk0.trans g1).trans g2).trans g3).trans g4).trans g5).trans g6⟩
  · have h1' : rightB B = false := by simpa using h1
    clear h1
    have HW : Hid (5 = wrongI B) := by
      unfold wrongI; rw [if_pos h1']; rfl
    go_enter Try.func10, Try.ntmps10
    go_wp2_with (refine wpList_load_w (by rfl) _ rfl _ rfl _ (hbl.out) hz.out ?_)
    refine (bright_is B HB.out _).mono ?_
    rintro e w1 ⟨rfl, g1⟩
    go_wp2
    go_ret
    exact ⟨ret_int HW.out, hk0.trans g1⟩
end Go.Proofs.Ytebjglgajkpldaa
