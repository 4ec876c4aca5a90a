/- Walk of AttackPinned. -/
import Derived.Test.YtkliefojegjhhaaDoorAtT
namespace Go.Proofs.YtkliefojegjhhaaDoor
open Go.RowKit
set_option linter.unusedVariables false
set_option linter.unusedSimpArgs false

/-- Two counts in a block. -/
def Two (w : World) (g : Nat) (c d : Nat) : Prop := w.heap[g]? = some (.cells #[.int .i64 (c : Int), .int .i64 (d : Int)] 48 (0, 0))
theorem Two.cell0 {w : World} {g c d : Nat} (h : Two w g c d) : w.cell? ⟨g, 0, none⟩ = some (.int .i64 (c : Int)) := by rw [cell_of_row _ _ 0 _ _ (0, 0) h]; rfl
theorem Two.cell1 {w : World} {g c d : Nat} (h : Two w g c d) : w.cell? ⟨g, 1, none⟩ = some (.int .i64 (d : Int)) := by rw [cell_of_row _ _ 1 _ _ (0, 0) h]; rfl
theorem Two.frozen {w : World} {g c d : Nat} (h : Two w g c d) (i : Nat) : w.frozen? ⟨g, i, none⟩ = false := by simp [World.frozen?, show w.heap[g]? = _ from h]
theorem Two.set0 {w : World} {g c d : Nat} (h : Two w g c d) : Two (w.setCell ⟨g, 0, none⟩ (.int .i64 ((c : Int) + 1))) g (c + 1) d := by
  unfold Two; rw [heap_setCell_same _ _ _ _ _ _ h]; rfl
theorem Two.set1 {w : World} {g c d : Nat} (h : Two w g c d) : Two (w.setCell ⟨g, 1, none⟩ (.int .i64 ((d : Int) + 1))) g c (d + 1) := by
  unfold Two; rw [heap_setCell_same _ _ _ _ _ _ h]; rfl
set_option maxRecDepth 100000 in
set_option maxHeartbeats 4000000 in
theorem walkAttackPinned (B : List Int) (hB : Brd B) (s : Int) (w1 : (Lit.int .i64 s).wf = true) (w : World) (hS : Steps w) :
    Calls Tryd.prog 9 #[.agg (cl B).toArray, .int .i64 s] w fun e w' => e = .returned (.bool true) ∧ Kept w w' := by
  have hz := Lib.hid (size_cl hB.1)
  have HB := Lib.hid hB
  have hbl := Lib.hid (heap_alloc_new w (.cells (cl B).toArray 40))
  have HSt := Lib.hid (hS.kept ((Kept.refl w).alloc (.cells (cl B).toArray 40)))
  have HP := Lib.hid (fun a w hS => pinned_is a B hB s w hS)
  have HRP := Lib.hid (fun w => rpinned_is B hB s w)
  clear hB hS w1
  generalize pinnedL B s = LP at *
  go_enter Tryd.func9, Tryd.ntmps9
  go_wp2_with fail
  refine (attack_wake _ HSt.out).mono ?_
  rintro e W ⟨rfl, k1⟩
  have HK1 := Lib.hid k1
  have hbW := Lib.hid (k1.heap hbl.out)
  have hbA := Lib.hid (((Kept.refl W).alloc (.cells #[.int .i64 0, .int .i64 0] 48)).heap (k1.heap hbl.out))
  have hT0 := Lib.hid (show Two (W.alloc (.cells #[.int .i64 0, .int .i64 0] 48)) W.heap.size 0 0 from heap_alloc_new W _)
  clear k1
  go_wp2_with (refine wpList_load_w (by rfl) _ rfl _ rfl _ (hbA.out) hz.out ?_)
  go_loopw [12] (fun t12 wr => ∃ k c d : Nat, k ≤ 64 ∧ c ≤ k ∧ d ≤ k ∧ t12 = .int .i64 k ∧ Two wr W.heap.size c d ∧ Kept W wr) (fun t12 _ => 64 - (intOf t12).toNat)
  case atStart => exact ⟨0, 0, 0, by omega, by omega, by omega, rfl, hT0.out, (Kept.refl _).alloc _⟩
  case round =>
    obtain ⟨k, c, d, hk, hc, hd, rfl, hT, hK⟩ := hrel
    have HT := Lib.hid hT
    have HK := Lib.hid hK
    have c0 := hT.cell0
    have c1 := hT.cell1
    have f0 := hT.frozen 0
    have f1 := hT.frozen 1
    clear hT hK
    by_cases hlt : k < 64
    · have hlt' : (k : Int) < 64 := by omega
      have hx := run_index_cl B HB.out.1 k hlt
      obtain ⟨hb1, hb2⟩ := HB.out.2 k hlt
      generalize B.getD k 0 = x at *
      have hcase : x = 6 ∨ x = -6 ∨ (x ≠ 6 ∧ x ≠ -6) := by omega
      rcases hcase with h | h | ⟨h, h'⟩
      · have q6 : (x == 6) = true := by simpa using h
        have q7 : (x == -6) = false := by rw [beq_eq_false_iff_ne]; omega
        have HT2 := Lib.hid HT.out.set0
        have HK2 := Lib.hid (HK.out.setCell (p := ⟨W.heap.size, 0, none⟩) (Nat.le_refl _) (.int .i64 ((c : Int) + 1)))
        clear h
        go_wp2
        go_roundw
        case rel => exact ⟨k + 1, c + 1, d, by omega, by omega, by omega, by go_num, HT2.out, HK2.out⟩
        case measure => simp [intOf]; omega
      · have q6 : (x == 6) = false := by rw [beq_eq_false_iff_ne]; omega
        have q7 : (x == -6) = true := by simpa using h
        have HT2 := Lib.hid HT.out.set1
        have HK2 := Lib.hid (HK.out.setCell (p := ⟨W.heap.size, 1, none⟩) (Nat.le_refl _) (.int .i64 ((d : Int) + 1)))
        clear h
        go_wp2
        go_roundw
        case rel => exact ⟨k + 1, c, d + 1, by omega, by omega, by omega, by go_num, HT2.out, HK2.out⟩
        case measure => simp [intOf]; omega
      · have q6 : (x == 6) = false := by rw [beq_eq_false_iff_ne]; exact h
        have q7 : (x == -6) = false := by rw [beq_eq_false_iff_ne]; exact h'
        clear h h'
        go_wp2
        go_roundw
        case rel => exact ⟨k + 1, c, d, by omega, by omega, by omega, by go_num, HT.out, HK.out⟩
        case measure => simp [intOf]; omega
    · have hlt' : ¬ (k : Int) < 64 := by omega
      have hbr := Lib.hid (HK.out.heap hbW.out)
      have hSr := Lib.hid (HSt.out.kept (HK1.out.trans HK.out))
      by_cases h1 : 1 < c
      · have h1' : (1 : Int) < (c : Int) := by omega
        go_wp2
        go_ret
        exact ⟨rfl, ((Kept.refl _).alloc _).trans (HK1.out.trans HK.out)⟩
      · have h1' : ¬ (1 : Int) < (c : Int) := by omega
        by_cases h2 : 1 < d
        · have h2' : (1 : Int) < (d : Int) := by omega
          go_wp2
          go_ret
          exact ⟨rfl, ((Kept.refl _).alloc _).trans (HK1.out.trans HK.out)⟩
        · have h2' : ¬ (1 : Int) < (d : Int) := by omega
          go_wp2
          refine wp_region_held_drew (S := Kept _) (by kernel_rfl) (Kept.refl _).drew (fun hHeld => ?_)
          refine rg_take (i := 1) (some 37) rfl rfl (by kernel_rfl) (by kernel_rfl) (by kernel_rfl) (fun _ _ _ h => h) (take_load (by rfl) _ rfl _ rfl B HB.out.1 (fun _ h => h.heap (hbr.out))) hHeld ?_
          simp only [Act.put, List.setIfInBounds_toArray, List.set_cons_zero, List.set_cons_succ]
          refine rg_take (i := 2) (v := (.int .i64 s)) (some 38) rfl rfl (by kernel_rfl) (by kernel_rfl) (by kernel_rfl) (fun _ _ _ h => h) (Or.inl ⟨by rfl, fun _ _ => by go_simp⟩) hHeld ?_
          simp only [Act.put, List.setIfInBounds_toArray, List.set_cons_zero, List.set_cons_succ]
          refine rg_take (i := 4) (some 40) rfl rfl (by kernel_rfl) (by kernel_rfl) (by kernel_rfl) (fun _ _ _ h => h) (take_load (by rfl) _ rfl _ rfl B HB.out.1 (fun _ h => h.heap (hbr.out))) hHeld ?_
          simp only [Act.put, List.setIfInBounds_toArray, List.set_cons_zero, List.set_cons_succ]
          refine rg_take (i := 5) (v := (.int .i64 s)) (some 41) rfl rfl (by kernel_rfl) (by kernel_rfl) (by kernel_rfl) (fun _ _ _ h => h) (Or.inl ⟨by rfl, fun _ _ => by go_simp⟩) hHeld ?_
          simp only [Act.put, List.setIfInBounds_toArray, List.set_cons_zero, List.set_cons_succ]
          refine wpAnyH_ready (rs := [0]) (by kernel_rfl) (by simp) ?_
          refine AllReadyH.cons rfl (fun K hK => ?_) AllReadyH.nil
          go_simp
          refine (new_is _).mono ?_
          rintro e x0 ⟨⟨a, rfl⟩, gx0⟩
          refine hK.out _ _ (hHeld.trans gx0) (fun _ => ?_)
          replace hHeld := hHeld.trans gx0
          clear hK K gx0
          refine wpAnyH_ready (rs := [3]) (by kernel_rfl) (by simp) ?_
          refine AllReadyH.cons rfl (fun K hK => ?_) AllReadyH.nil
          go_simp
          refine (HP.out a _ (hSr.out.kept hHeld)).mono ?_
          rintro e x1 ⟨vx1, rfl, hox1, gx1⟩
          obtain ⟨ax1, cx1, rfl⟩ := hox1.slice
          have HOx1 := Lib.hid hox1
          clear hox1
          refine hK.out _ _ (hHeld.trans gx1) (fun _ => ?_)
          replace hHeld := hHeld.trans gx1
          clear hK K
          refine wpAnyH_ready (rs := [6]) (by kernel_rfl) (by simp) ?_
          refine AllReadyH.cons rfl (fun K hK => ?_) AllReadyH.nil
          go_simp
          refine (HRP.out _).mono ?_
          rintro e x2 ⟨vx2, rfl, hox2, gx2⟩
          obtain ⟨ax2, cx2, rfl⟩ := hox2.slice
          have HOx2 := Lib.hid hox2
          clear hox2
          refine hK.out _ _ (hHeld.trans gx2) (fun _ => ?_)
          replace hHeld := hHeld.trans gx2
          clear hK K
          obtain ⟨gg1, hg1, _⟩ := (HOx1.out.kept gx2).ls
          obtain ⟨gg2, hg2, _⟩ := HOx2.out.ls
          refine wpAnyH_ready (rs := [7]) (by kernel_rfl) (by simp) ?_
          refine AllReadyH.cons rfl (fun K hK => ?_) AllReadyH.nil
          go_simp
          refine (sameZ_yes gg1 gg2 _ _ LP _ hg1 hg2).mono ?_
          rintro e x3 ⟨rfl, gx3⟩
          refine hK.out _ _ (hHeld.trans gx3) (fun _ => ?_)
          replace hHeld := hHeld.trans gx3
          clear hK K
          refine rg_take (i := 8) (v := (.bool true)) (some 4) rfl rfl (by kernel_rfl) (by kernel_rfl) (by kernel_rfl) (fun _ _ _ h => h) (Or.inl ⟨by rfl, fun _ _ => by go_simp⟩) hHeld ?_
          simp only [Act.put, List.setIfInBounds_toArray, List.set_cons_zero, List.set_cons_succ]
          refine wpAnyH_done (by kernel_rfl) ?_ _
          have HH := Lib.hid hHeld
          clear hHeld
          go_wp2
          go_ret
          exact ⟨rfl, ((Kept.refl _).alloc _).trans (HK1.out.trans (HK.out.trans HH.out))⟩
end Go.Proofs.YtkliefojegjhhaaDoor
