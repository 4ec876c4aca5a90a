/- King and Check, the program's and the document's. -/
import Derived.Test.YtkliefojegjhhaaDoorAtG
namespace Go.Proofs.YtkliefojegjhhaaDoor
open Go.RowKit
set_option linter.unusedVariables false
set_option linter.unusedSimpArgs false

/-- Where a side's king stands; -1: nowhere. -/
def kingI (B : List Int) (side : Int) : Int := if side = 0 then headI (whereL B 6) else if side = 1 then headI (whereL B (-6)) else -1
theorem kingI_bd (B : List Int) (side : Int) : -1 ≤ kingI B side ∧ kingI B side < 64 := by
  unfold kingI
  split
  · exact headI_bd B 6
  · split
    · exact headI_bd B (-6)
    · omega
theorem king_any (B : List Int) (hB : Brd B) (side : Int) (w : World) :
    Calls Tryd.prog 53 #[.agg (cl B).toArray, .int .i64 side] w fun e w' => e = .returned (.int .i64 (kingI B side)) ∧ Kept w w' := by
  unfold kingI
  by_cases h0 : side = 0
  · subst h0; rw [if_pos rfl]; exact king_w B hB w
  · rw [if_neg h0]
    by_cases h1 : side = 1
    · subst h1; rw [if_pos rfl]; exact king_b B hB w
    · rw [if_neg h1]; exact king_no B side h0 h1 w
def otherI (side : Int) : Int := if side = 0 then 1 else if side = 1 then 0 else -1
theorem other_any (side : Int) (w : World) : Calls Tryd.prog 54 #[.int .i64 side] w fun e w' => e = .returned (.int .i64 (otherI side)) ∧ Kept w w' := by
  unfold otherI
  by_cases h0 : side = 0
  · subst h0; rw [if_pos rfl]; exact (other_w w).mono fun _ _ ⟨a, b⟩ => ⟨a, b ▸ Kept.refl _⟩
  · rw [if_neg h0]
    by_cases h1 : side = 1
    · subst h1; rw [if_pos rfl]; exact (other_b w).mono fun _ _ ⟨a, b⟩ => ⟨a, b ▸ Kept.refl _⟩
    · rw [if_neg h1]; exact (other_no side w h0 h1).mono fun _ _ ⟨a, b⟩ => ⟨a, b ▸ Kept.refl _⟩
def checkB (B : List Int) (side : Int) : Bool := struckB B (kingI B side) (otherI side)
set_option maxHeartbeats 1000000 in
theorem check_is (a : Addr) (B : List Int) (hB : Brd B) (side : Int) (w : World) (hS : Steps w) :
    Calls Tryd.prog 29 #[.pointer (some a), .agg (cl B).toArray, .int .i64 side] w fun e w' => e = .returned (.bool (checkB B side)) ∧ Kept w w' := by
  have hbl := Lib.hid (heap_alloc_new w (.cells (cl B).toArray 40))
  have HB := Lib.hid hB
  have HSt := Lib.hid (hS.kept ((Kept.refl w).alloc (.cells (cl B).toArray 40)))
  clear hB hS
  unfold checkB
  go_enter Tryd.func29, Tryd.ntmps29
  go_wp2
  refine wp_region_held_drew (S := Kept _) (by kernel_rfl) (Kept.refl _).drew (fun hHeld => ?_)
  refine rg_take (i := 0) (v := (.pointer (some a))) (some 7) rfl rfl (by kernel_rfl) (by kernel_rfl) (by kernel_rfl) (fun _ _ _ h => h) (Or.inl ⟨by rfl, fun _ _ => by go_simp⟩) hHeld ?_
  simp only [Act.put, List.setIfInBounds_toArray, List.set_cons_zero, List.set_cons_succ]
  refine rg_take (i := 1) (some 8) rfl rfl (by kernel_rfl) (by kernel_rfl) (by kernel_rfl) (fun _ _ _ h => h) (take_load (by rfl) _ rfl _ rfl B HB.out.1 (fun _ h => h.heap (hbl.out))) hHeld ?_
  simp only [Act.put, List.setIfInBounds_toArray, List.set_cons_zero, List.set_cons_succ]
  refine rg_take (i := 2) (some 9) rfl rfl (by kernel_rfl) (by kernel_rfl) (by kernel_rfl) (fun _ _ _ h => h) (take_load (by rfl) _ rfl _ rfl B HB.out.1 (fun _ h => h.heap (hbl.out))) hHeld ?_
  simp only [Act.put, List.setIfInBounds_toArray, List.set_cons_zero, List.set_cons_succ]
  refine rg_take (i := 3) (v := (.int .i64 side)) (some 10) rfl rfl (by kernel_rfl) (by kernel_rfl) (by kernel_rfl) (fun _ _ _ h => h) (Or.inl ⟨by rfl, fun _ _ => by go_simp⟩) hHeld ?_
  simp only [Act.put, List.setIfInBounds_toArray, List.set_cons_zero, List.set_cons_succ]
  refine rg_take (i := 5) (v := (.int .i64 side)) (some 12) rfl rfl (by kernel_rfl) (by kernel_rfl) (by kernel_rfl) (fun _ _ _ h => h) (Or.inl ⟨by rfl, fun _ _ => by go_simp⟩) hHeld ?_
  simp only [Act.put, List.setIfInBounds_toArray, List.set_cons_zero, List.set_cons_succ]
  refine wpAnyH_ready (rs := [4]) (by kernel_rfl) (by simp) ?_
  refine AllReadyH.cons rfl (fun K hK => ?_) AllReadyH.nil
  go_simp
  refine (king_any B HB.out side _).mono ?_
  rintro e w1 ⟨rfl, gw1⟩
  refine hK.out _ _ (hHeld.trans gw1) (fun _ => ?_)
  replace hHeld := hHeld.trans gw1
  clear hK K
  refine wpAnyH_ready (rs := [6]) (by kernel_rfl) (by simp) ?_
  refine AllReadyH.cons rfl (fun K hK => ?_) AllReadyH.nil
  go_simp
  refine (other_any side _).mono ?_
  rintro e w2 ⟨rfl, gw2⟩
  refine hK.out _ _ (hHeld.trans gw2) (fun _ => ?_)
  replace hHeld := hHeld.trans gw2
  clear hK K
  refine wpAnyH_ready (rs := [7]) (by kernel_rfl) (by simp) ?_
  refine AllReadyH.cons rfl (fun K hK => ?_) AllReadyH.nil
  go_simp
  refine (struck_is a B HB.out (kingI B side) (otherI side) _ (HSt.out.kept hHeld)).mono ?_
  rintro e w3 ⟨rfl, gw3⟩
  refine hK.out _ _ (hHeld.trans gw3) (fun _ => ?_)
  replace hHeld := hHeld.trans gw3
  clear hK K
  refine rg_take (i := 8) (v := (.bool (struckB B (kingI B side) (otherI side)))) (some 6) rfl rfl (by kernel_rfl) (by kernel_rfl) (by kernel_rfl) (fun _ _ _ h => h) (Or.inl ⟨by rfl, fun _ _ => by go_simp⟩) hHeld ?_
  simp only [Act.put, List.setIfInBounds_toArray, List.set_cons_zero, List.set_cons_succ]
  refine wpAnyH_done (by kernel_rfl) ?_ _
  go_wp2
  go_ret
  exact ⟨rfl, ((Kept.refl _).alloc _).trans hHeld⟩
theorem check_nil (B : List Int) (hB : Brd B) (side : Int) (w : World) :
    Calls Tryd.prog 29 #[.pointer none, .agg (cl B).toArray, .int .i64 side] w fun e w' => e = .returned (.bool false) ∧ Kept w w' := by
  have hbl := Lib.hid (heap_alloc_new w (.cells (cl B).toArray 40))
  have HB := Lib.hid hB
  clear hB
  go_enter Tryd.func29, Tryd.ntmps29
  go_wp2
  refine wp_region_held_drew (S := Kept _) (by kernel_rfl) (Kept.refl _).drew (fun hHeld => ?_)
  refine rg_take (i := 0) (v := (.pointer none)) (some 7) rfl rfl (by kernel_rfl) (by kernel_rfl) (by kernel_rfl) (fun _ _ _ h => h) (Or.inl ⟨by rfl, fun _ _ => by go_simp⟩) hHeld ?_
  simp only [Act.put, List.setIfInBounds_toArray, List.set_cons_zero, List.set_cons_succ]
  refine rg_take (i := 1) (some 8) rfl rfl (by kernel_rfl) (by kernel_rfl) (by kernel_rfl) (fun _ _ _ h => h) (take_load (by rfl) _ rfl _ rfl B HB.out.1 (fun _ h => h.heap (hbl.out))) hHeld ?_
  simp only [Act.put, List.setIfInBounds_toArray, List.set_cons_zero, List.set_cons_succ]
  refine rg_take (i := 2) (some 9) rfl rfl (by kernel_rfl) (by kernel_rfl) (by kernel_rfl) (fun _ _ _ h => h) (take_load (by rfl) _ rfl _ rfl B HB.out.1 (fun _ h => h.heap (hbl.out))) hHeld ?_
  simp only [Act.put, List.setIfInBounds_toArray, List.set_cons_zero, List.set_cons_succ]
  refine rg_take (i := 3) (v := (.int .i64 side)) (some 10) rfl rfl (by kernel_rfl) (by kernel_rfl) (by kernel_rfl) (fun _ _ _ h => h) (Or.inl ⟨by rfl, fun _ _ => by go_simp⟩) hHeld ?_
  simp only [Act.put, List.setIfInBounds_toArray, List.set_cons_zero, List.set_cons_succ]
  refine rg_take (i := 5) (v := (.int .i64 side)) (some 12) rfl rfl (by kernel_rfl) (by kernel_rfl) (by kernel_rfl) (fun _ _ _ h => h) (Or.inl ⟨by rfl, fun _ _ => by go_simp⟩) hHeld ?_
  simp only [Act.put, List.setIfInBounds_toArray, List.set_cons_zero, List.set_cons_succ]
  refine wpAnyH_ready (rs := [4]) (by kernel_rfl) (by simp) ?_
  refine AllReadyH.cons rfl (fun K hK => ?_) AllReadyH.nil
  go_simp
  refine (king_any B HB.out side _).mono ?_
  rintro e w1 ⟨rfl, gw1⟩
  refine hK.out _ _ (hHeld.trans gw1) (fun _ => ?_)
  replace hHeld := hHeld.trans gw1
  clear hK K
  refine wpAnyH_ready (rs := [6]) (by kernel_rfl) (by simp) ?_
  refine AllReadyH.cons rfl (fun K hK => ?_) AllReadyH.nil
  go_simp
  refine (other_any side _).mono ?_
  rintro e w2 ⟨rfl, gw2⟩
  refine hK.out _ _ (hHeld.trans gw2) (fun _ => ?_)
  replace hHeld := hHeld.trans gw2
  clear hK K
  refine wpAnyH_ready (rs := [7]) (by kernel_rfl) (by simp) ?_
  refine AllReadyH.cons rfl (fun K hK => ?_) AllReadyH.nil
  go_simp
  refine (struck_nil B HB.out (kingI B side) (otherI side) _).mono ?_
  rintro e w3 ⟨rfl, gw3⟩
  refine hK.out _ _ (hHeld.trans gw3) (fun _ => ?_)
  replace hHeld := hHeld.trans gw3
  clear hK K
  refine rg_take (i := 8) (v := (.bool false)) (some 6) rfl rfl (by kernel_rfl) (by kernel_rfl) (by kernel_rfl) (fun _ _ _ h => h) (Or.inl ⟨by rfl, fun _ _ => by go_simp⟩) hHeld ?_
  simp only [Act.put, List.setIfInBounds_toArray, List.set_cons_zero, List.set_cons_succ]
  refine wpAnyH_done (by kernel_rfl) ?_ _
  go_wp2
  go_ret
  exact ⟨rfl, ((Kept.refl _).alloc _).trans hHeld⟩
theorem headI_none {l : List Nat} (h : l.length = 0) : headI l = -1 := by rw [List.eq_nil_of_length_eq_zero h]; rfl
theorem headI_some {l : List Nat} (h : 0 < l.length) : headI l = (l.getD 0 0 : Nat) := by
  cases l with
  | nil => simp at h
  | cons a l => rfl
set_option maxRecDepth 100000 in
set_option maxHeartbeats 1000000 in
theorem rking_is (B : List Int) (hB : Brd B) (side : Int) (w : World) :
    Calls Tryd.prog 55 #[.agg (cl B).toArray, .int .i64 side] w fun e w' => e = .returned (.int .i64 (kingI B side)) ∧ Kept w w' := by
  have hz := Lib.hid (size_cl hB.1)
  have hbl := Lib.hid (heap_alloc_new w (.cells (cl B).toArray 40))
  have HW := Lib.hid (rwhere_is B hB)
  have HLen := Lib.hid (fun m => (show (whereL B m).length ≤ 64 from sel_le _ 64))
  clear hB
  have hcase : side = 1 ∨ side = 0 ∨ side < 0 ∨ 1 < side := by omega
  by_cases h1 : side = 1
  · subst h1
    have hk : kingI B 1 = headI (whereL B (-6)) := rfl
    rw [hk]
    by_cases hl : 0 < (whereL B (-6)).length
    · rw [headI_some hl]
      have HLn := Lib.hid (HLen.out (-6))
      have HWm := Lib.hid (HW.out (-6))
      generalize whereL B (-6) = Lw at *
      obtain ⟨y, hy⟩ : ∃ y, Lw.getD 0 0 = y := ⟨_, rfl⟩
      rw [hy]
      go_enter Tryd.func55, Tryd.ntmps55
      go_wp2_with (refine wpList_load_w (by rfl) _ rfl _ rfl _ (hbl.out) hz.out ?_)
      refine (HWm.out _).mono ?_
      rintro e w1 ⟨v, rfl, hown, k1⟩
      obtain ⟨a, cap, rfl⟩ := hown.slice
      obtain ⟨g, rfl, hc⟩ := hown.at_ 0 hl
      rw [hy] at hc
      have HK := Lib.hid (((Kept.refl w).alloc _).trans k1)
      skip
      have hl2 : ((Lw.length : Int) == 0) = false := by rw [beq_eq_false_iff_ne]; omega
      clear hown k1 hy
      generalize Lw.length = N at *
      go_wp2
      go_ret
      exact ⟨rfl, HK.out⟩
    · rw [headI_none (by omega)]
      have hl0 : (whereL B (-6)).length = 0 := by omega
      go_enter Tryd.func55, Tryd.ntmps55
      go_wp2_with (refine wpList_load_w (by rfl) _ rfl _ rfl _ (hbl.out) hz.out ?_)
      refine (HW.out (-6) _).mono ?_
      rintro e w1 ⟨v, rfl, hown, k1⟩
      obtain ⟨a, cap, rfl⟩ := hown.slice
      have HK := Lib.hid (((Kept.refl w).alloc _).trans k1)
      clear hown k1
      rw [hl0]
      clear hl0 hl
      go_wp2
      go_ret
      exact ⟨rfl, HK.out⟩
  · have h1' : (side == 1) = false := by simpa using h1
    by_cases h0 : side = 0
    · subst h0
      have hk : kingI B 0 = headI (whereL B 6) := rfl
      rw [hk]
      by_cases hl : 0 < (whereL B 6).length
      · rw [headI_some hl]
        have HLn := Lib.hid (HLen.out 6)
        have HWm := Lib.hid (HW.out 6)
        generalize whereL B 6 = Lw at *
        obtain ⟨y, hy⟩ : ∃ y, Lw.getD 0 0 = y := ⟨_, rfl⟩
        rw [hy]
        go_enter Tryd.func55, Tryd.ntmps55
        go_wp2_with (refine wpList_load_w (by rfl) _ rfl _ rfl _ (hbl.out) hz.out ?_)
        refine (HWm.out _).mono ?_
        rintro e w1 ⟨v, rfl, hown, k1⟩
        obtain ⟨a, cap, rfl⟩ := hown.slice
        obtain ⟨g, rfl, hc⟩ := hown.at_ 0 hl
        rw [hy] at hc
        have HK := Lib.hid (((Kept.refl w).alloc _).trans k1)
        have hl2 : ((Lw.length : Int) == 0) = false := by rw [beq_eq_false_iff_ne]; omega
        clear hown k1 hy
        generalize Lw.length = N at *
        go_wp2
        go_ret
        exact ⟨rfl, HK.out⟩
      · rw [headI_none (by omega)]
        have hl0 : (whereL B 6).length = 0 := by omega
        go_enter Tryd.func55, Tryd.ntmps55
        go_wp2_with (refine wpList_load_w (by rfl) _ rfl _ rfl _ (hbl.out) hz.out ?_)
        refine (HW.out 6 _).mono ?_
        rintro e w1 ⟨v, rfl, hown, k1⟩
        obtain ⟨a, cap, rfl⟩ := hown.slice
        have HK := Lib.hid (((Kept.refl w).alloc _).trans k1)
        clear hown k1
        rw [hl0]
        clear hl0 hl
        go_wp2
        go_ret
        exact ⟨rfl, HK.out⟩
    · have hk : kingI B side = -1 := by unfold kingI; rw [if_neg h0, if_neg h1]
      rw [hk]
      have HLn := Lib.hid (HLen.out 6)
      go_enter Tryd.func55, Tryd.ntmps55
      go_wp2_with (refine wpList_load_w (by rfl) _ rfl _ rfl _ (hbl.out) hz.out ?_)
      refine (HW.out 6 _).mono ?_
      rintro e w1 ⟨v, rfl, hown, k1⟩
      obtain ⟨a, cap, rfl⟩ := hown.slice
      have HK := Lib.hid (((Kept.refl w).alloc _).trans k1)
      clear hown k1 hk
      generalize (whereL B 6).length = N at *
      by_cases hN : N = 0
      · subst hN
        go_wp2
        go_ret
        exact ⟨rfl, HK.out⟩
      · have hN' : ((N : Int) == 0) = false := by simp; omega
        by_cases hs : side < 0
        · go_wp2
          go_ret
          exact ⟨rfl, HK.out⟩
        · have hs2 : 1 < side := by omega
          go_wp2
          go_ret
          exact ⟨rfl, HK.out⟩
theorem struck_by (B : List Int) (k side : Int) : decide (0 < (if okS k && rightB B then zn (byN B k side) else ([] : List Int)).length) = struckB B k side := by
  unfold struckB
  cases h : okS k && rightB B
  · simp
  · obtain ⟨h0, h1⟩ := okS_iff.1 (Bool.and_eq_true _ _ ▸ h).1
    have e := tell_by B k side h0 h1
    rw [if_pos rfl, Bool.true_and]
    unfold zn
    rw [List.length_map, ← e]
    cases tellL B k side <;> simp
set_option maxRecDepth 100000 in
set_option maxHeartbeats 1000000 in
theorem rcheck_is (B : List Int) (hB : Brd B) (side : Int) (hs : side = 0 ∨ side = 1) (w : World) :
    Calls Tryd.prog 30 #[.agg (cl B).toArray, .int .i64 side] w fun e w' => e = .returned (.bool (checkB B side)) ∧ Kept w w' := by
  have hz := Lib.hid (size_cl hB.1)
  have hbl := Lib.hid (heap_alloc_new w (.cells (cl B).toArray 40))
  have HKg := Lib.hid (rking_is B hB side)
  have ho : otherI side = 1 - side := by rcases hs with rfl | rfl <;> rfl
  have HBy := Lib.hid (rby_is B hB (kingI B side) (1 - side))
  have HE := Lib.hid (struck_by B (kingI B side) (1 - side))
  have hlen : (if okS (kingI B side) && rightB B then zn (byN B (kingI B side) (1 - side)) else ([] : List Int)).length ≤ 64 := by
    split
    · exact zn_len _ 64
    · simp
  unfold checkB
  rw [ho]
  have hno : kingI B side < 0 → struckB B (kingI B side) (1 - side) = false := by
    intro h
    unfold struckB
    rw [okS_no (.inl h)]
    rfl
  obtain ⟨kb1, kb2⟩ := kingI_bd B side
  generalize struckB B (kingI B side) (1 - side) = sb at *
  generalize (if okS (kingI B side) && rightB B then zn (byN B (kingI B side) (1 - side)) else ([] : List Int)) = Z at *
  generalize kingI B side = k at *
  clear hB ho
  by_cases hk : k < 0
  · have HN := Lib.hid (hno hk)
    have hk' : ¬ 0 ≤ k := by omega
    clear hno HE HBy
    go_enter Tryd.func30, Tryd.ntmps30
    go_wp2_with (refine wpList_load_w (by rfl) _ rfl _ rfl _ (hbl.out) hz.out ?_)
    refine (HKg.out _).mono ?_
    rintro e w1 ⟨rfl, k1⟩
    have HK := Lib.hid (((Kept.refl w).alloc _).trans k1)
    clear k1
    go_wp2
    go_ret
    exact ⟨by rw [HN.out]; rfl, HK.out⟩
  · have hk' : 0 ≤ k := by omega
    clear hno
    go_enter Tryd.func30, Tryd.ntmps30
    go_wp2_with (refine wpList_load_w (by rfl) _ rfl _ rfl _ (hbl.out) hz.out ?_)
    refine (HKg.out _).mono ?_
    rintro e w1 ⟨rfl, k1⟩
    have HK := Lib.hid (((Kept.refl w).alloc _).trans k1)
    have hb1 := Lib.hid (k1.heap hbl.out)
    clear k1
    go_wp2_with (refine wpList_load_w (by rfl) _ rfl _ rfl _ (hb1.out) hz.out ?_)
    refine (HBy.out _).mono ?_
    rintro e w2 ⟨v, rfl, hown, k2⟩
    obtain ⟨a, cap, rfl⟩ := hown.slice
    have HK2 := Lib.hid (HK.out.trans k2)
    clear hown k2
    generalize Z.length = N at *
    go_wp2
    go_ret
    exact ⟨by rw [← HE.out]; simp, HK2.out⟩
end Go.Proofs.YtkliefojegjhhaaDoor
