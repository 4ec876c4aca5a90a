/- The walk of BoardAsks. -/
import Derived.Test.YtebjglgajkpldaaBoL
namespace Go.Proofs.Ytebjglgajkpldaa
open Go.RowKit
set_option linter.unusedVariables false
set_option linter.unusedSimpArgs false

theorem same_k (l : List Nat) (hl : l.length ≤ 1000000) (a b : Value) (ba bb : Nat) (w : World) (ha : Owns w ba a l) (hb : Owns w bb b l) :
    Calls Try.prog 14 #[a, b] w fun e w' => e = .returned (.bool true) ∧ Kept w w' :=
  (same_yes l hl a b ba bb w ha hb).mono fun e w' ⟨he, n, hn⟩ => ⟨he, by rw [hn]; exact (Kept.refl w).drewN n⟩
set_option maxHeartbeats 2000000 in
theorem walkBoardAsks (B : List Int) (hB : Brd B) (s : Int) (ws : (Lit.int .i64 s).wf = true) (m : Int) (wm : (Lit.int .i64 m).wf = true) (w : World) :
    Calls Try.prog 4 #[.agg (cl B).toArray, .int .i64 s, .int .i64 m] w fun e w' => e = .returned (.bool true) ∧ Kept w w' := by
  have hbl := Lib.hid (heap_alloc_new w (.cells (cl B).toArray 24))
  have hk0 := (Kept.refl w).alloc (.cells (cl B).toArray 24)
  have hz := Lib.hid (size_cl hB.1)
  have HB := Lib.hid hB
  have hBl := Lib.hid hB.1
  clear ws wm
  have hrest : ∃ x : Int, -128 ≤ x ∧ x ≤ 127 ∧ (∀ W : World, Calls Try.prog 13 #[.agg (cl B).toArray, .int .i64 s] W fun e w' => e = .returned (.int .i64 x) ∧ Kept W w') ∧ ((s < 0 ∨ 64 ≤ s) ∧ x = 0 ∨ 0 ≤ s ∧ s < 64 ∧ x = B.getD s.toNat 0) := by
    by_cases h : 0 ≤ s ∧ s < 64
    · have hb := hB.2 s.toNat (by omega)
      refine ⟨B.getD s.toNat 0, hb.1, hb.2, fun W => ?_, .inr ⟨h.1, h.2, rfl⟩⟩
      have := man_yes B hB s.toNat (by omega) W
      rwa [show ((s.toNat : Nat) : Int) = s by omega] at this
    · exact ⟨0, by omega, by omega, fun W => man_no B s (by omega) W, .inl ⟨by omega, rfl⟩⟩
  obtain ⟨x, hx1, hx2, hman, hxs⟩ := hrest
  have HM := Lib.hid hman
  clear hman hB
  go_enter Try.func4, Try.ntmps4
  go_wp2_with fail
  refine (bwakes _).mono ?_
  rintro e w0 ⟨rfl, g0⟩
  have hb0 := Lib.hid (g0.heap hbl.out)
  have hk1 := hk0.trans g0
  clear hk0 g0
  rcases hxs with ⟨hs, rfl⟩ | ⟨hs0, hs1, hx⟩
  · go_wp2_with fail
    refine (rright_no _ _ hs).mono ?_
    rintro e w' ⟨rfl, rfl⟩
    go_wp2
    have hs' := Lib.hid hs
    clear hs
    refine wp_region_held_drew (S := Kept _) (by kernel_rfl) (Kept.refl _).drew (fun hHeld => ?_)
    refine rg_take (i := 0) (some 21) rfl rfl (by kernel_rfl) (by kernel_rfl) (by kernel_rfl) (fun _ _ _ h => h) (take_load (by rfl) _ rfl _ rfl B hBl.out (fun _ h => h.heap (hb0.out))) hHeld ?_
    simp only [Act.put, List.setIfInBounds_toArray, List.set_cons_zero, List.set_cons_succ]
    refine rg_take (i := 1) (v := (.int .i64 s)) (some 22) rfl rfl (by kernel_rfl) (by kernel_rfl) (by kernel_rfl) (fun _ _ _ h => h) (Or.inl ⟨by rfl, fun _ _ => by go_simp⟩) hHeld ?_
    simp only [Act.put, List.setIfInBounds_toArray, List.set_cons_zero, List.set_cons_succ]
    refine rg_take (i := 3) (v := (.int .i64 0)) (some 24) rfl rfl (by kernel_rfl) (by kernel_rfl) (by kernel_rfl) (fun _ _ _ h => h) (Or.inl ⟨by rfl, fun _ _ => by go_simp⟩) hHeld ?_
    simp only [Act.put, List.setIfInBounds_toArray, List.set_cons_zero, List.set_cons_succ]
    refine wpAnyH_ready (rs := [2]) (by kernel_rfl) (by simp) ?_
    refine AllReadyH.cons rfl (fun K hK => ?_) AllReadyH.nil
    go_simp
    refine (HM.out _).mono ?_
    rintro e w1 ⟨rfl, gw1⟩
    refine hK.out _ _ (hHeld.trans gw1) (fun _ => ?_)
    replace hHeld := hHeld.trans gw1
    clear hK K
    refine rg_take (i := 4) (v := (.bool false)) (some 25) rfl rfl (by kernel_rfl) (by kernel_rfl) (by kernel_rfl) (fun _ _ _ h => h) (Or.inl ⟨by rfl, fun _ _ => by go_simp⟩) hHeld ?_
    simp only [Act.put, List.setIfInBounds_toArray, List.set_cons_zero, List.set_cons_succ]
    refine rg_take (i := 5) (v := (.bool false)) (some 26) rfl rfl (by kernel_rfl) (by kernel_rfl) (by kernel_rfl) (fun _ _ _ h => h) (Or.inl ⟨by rfl, fun _ _ => by go_simp⟩) hHeld ?_
    simp only [Act.put, List.setIfInBounds_toArray, List.set_cons_zero, List.set_cons_succ]
    refine rg_take (i := 6) (some 27) rfl rfl (by kernel_rfl) (by kernel_rfl) (by kernel_rfl) (fun _ _ _ h => h) (take_load (by rfl) _ rfl _ rfl B hBl.out (fun _ h => h.heap (hb0.out))) hHeld ?_
    simp only [Act.put, List.setIfInBounds_toArray, List.set_cons_zero, List.set_cons_succ]
    refine rg_take (i := 7) (v := (.int .i64 m)) (some 28) rfl rfl (by kernel_rfl) (by kernel_rfl) (by kernel_rfl) (fun _ _ _ h => h) (Or.inl ⟨by rfl, fun _ _ => by go_simp⟩) hHeld ?_
    simp only [Act.put, List.setIfInBounds_toArray, List.set_cons_zero, List.set_cons_succ]
    refine rg_take (i := 9) (some 30) rfl rfl (by kernel_rfl) (by kernel_rfl) (by kernel_rfl) (fun _ _ _ h => h) (take_load (by rfl) _ rfl _ rfl B hBl.out (fun _ h => h.heap (hb0.out))) hHeld ?_
    simp only [Act.put, List.setIfInBounds_toArray, List.set_cons_zero, List.set_cons_succ]
    refine rg_take (i := 10) (v := (.int .i64 m)) (some 31) rfl rfl (by kernel_rfl) (by kernel_rfl) (by kernel_rfl) (fun _ _ _ h => h) (Or.inl ⟨by rfl, fun _ _ => by go_simp⟩) hHeld ?_
    simp only [Act.put, List.setIfInBounds_toArray, List.set_cons_zero, List.set_cons_succ]
    refine wpAnyH_ready (rs := [8]) (by kernel_rfl) (by simp) ?_
    refine AllReadyH.cons rfl (fun K hK => ?_) AllReadyH.nil
    go_simp
    refine (where_is B HB.out m _).mono ?_
    rintro e w2 ⟨v2, rfl, o2, gw2⟩
    refine hK.out _ _ (hHeld.trans gw2) (fun _ => ?_)
    replace hHeld := hHeld.trans gw2
    clear hK K
    refine wpAnyH_ready (rs := [11]) (by kernel_rfl) (by simp) ?_
    refine AllReadyH.cons rfl (fun K hK => ?_) AllReadyH.nil
    go_simp
    refine (rwhere_is B HB.out m _).mono ?_
    rintro e w3 ⟨v3, rfl, o3, gw3⟩
    refine hK.out _ _ (hHeld.trans gw3) (fun _ => ?_)
    replace hHeld := hHeld.trans gw3
    clear hK K
    refine wpAnyH_ready (rs := [12]) (by kernel_rfl) (by simp) ?_
    refine AllReadyH.cons rfl (fun K hK => ?_) AllReadyH.nil
    go_simp
    refine (same_k (whereL B m) (Nat.le_trans (sel_le _ 64) (by omega)) _ _ _ _ _ (o2.kept gw3) o3).mono ?_
    rintro e w4 ⟨rfl, gw4⟩
    refine hK.out _ _ (hHeld.trans gw4) (fun _ => ?_)
    replace hHeld := hHeld.trans gw4
    clear hK K
    refine rg_take (i := 13) (v := (.bool false)) (some 34) rfl rfl (by kernel_rfl) (by kernel_rfl) (by kernel_rfl) (fun _ _ _ h => h) (Or.inl ⟨by rfl, fun _ _ => by go_simp⟩) hHeld ?_
    simp only [Act.put, List.setIfInBounds_toArray, List.set_cons_zero, List.set_cons_succ]
    refine rg_take (i := 14) (v := (.bool false)) (some 35) rfl rfl (by kernel_rfl) (by kernel_rfl) (by kernel_rfl) (fun _ _ _ h => h) (Or.inl ⟨by rfl, fun _ _ => by go_simp⟩) hHeld ?_
    simp only [Act.put, List.setIfInBounds_toArray, List.set_cons_zero, List.set_cons_succ]
    refine wpAnyH_done (by kernel_rfl) ?_ _
    have hk4 := hk1.trans hHeld
    have hb4 := Lib.hid (hHeld.heap hb0.out)
    clear o2 o3 gw2 gw3 gw1 gw4 hHeld hk1 HM
    go_wp2
    obtain ⟨W, eW⟩ : ∃ W, W = w4 := ⟨_, rfl⟩
    have hbW : Hid (W.heap[w.heap.size]? = some (.cells (cl B).toArray 24 (0, 0))) := by rw [eW]; exact hb4
    have hWk : Kept W w4 := by rw [eW]; exact Kept.refl _
    have hkW : Kept w W := by rw [eW]; exact hk4
    clear eW hb4 hk4 hb0 hbl
    go_loopw [36] (fun i wr => ∃ k : Nat, k ≤ 2 ∧ i = .int .i64 k ∧ Kept W wr) (fun i _ => 2 - (intOf i).toNat)
    case atStart => exact ⟨0, by omega, rfl, hWk⟩
    case round =>
      obtain ⟨k, hk, rfl, hK⟩ := hrel
      clear hWk
      by_cases hlt : k < 2
      · have hk01 : k = 0 ∨ k = 1 := by omega
        clear hk
        rcases hk01 with hk01 | hk01
        · have hlen := sel_le (fun i => B.getD i 0 == (6)) 64
          have hk1 : ((k : Int) == 1) = false := by simp [hk01]
          have hking : Hid (∀ W : World, Calls Try.prog 17 #[.agg (cl B).toArray, .int .i64 (k : Int)] W fun e w' => e = .returned (.int .i64 (headI (whereL B (6)))) ∧ Kept W w') := by
            have e : (k : Int) = 0 := by omega
            rw [e]; exact king_w B HB.out
          have HK := Lib.hid hk01
          clear hk01
          go_wp2_with (refine wpList_load_w (by rfl) _ rfl w.heap.size rfl B (hK.heap hbW.out) hz.out ?_)
          refine (rwhere_is B HB.out (6) _).mono ?_
          rintro e w5 ⟨v, rfl, o5, g5⟩
          obtain ⟨aa, cap, rfl⟩ := o5.slice
          have hK5 := hK.trans g5
          have hwl : (whereL B (6)).length ≤ 64 := hlen
          clear hlen hK g5
          cases hl : whereL B (6) with
          | nil =>
            rw [hl] at hking
            have hh : headI [] = -1 := rfl
            rw [hh] at hking
            have hlz : ([] : List Nat).length = 0 := rfl
            rw [hlz]
            clear o5 hwl hl hh hlz
            go_wp2_with (refine wpList_load_w (by rfl) _ rfl w.heap.size rfl B (hK5.heap hbW.out) hz.out ?_)
            refine (hking.out _).mono ?_
            rintro e w6 ⟨rfl, g6⟩
            have hK6 := hK5.trans g6
            clear hK5 g6 hking
            go_wp2
            go_loopw [55] (fun i wr => ∃ j : Nat, j ≤ 7 ∧ i = .int .i64 j ∧ Kept W wr) (fun i _ => 7 - (intOf i).toNat)
            case atStart => exact ⟨0, by omega, rfl, hK6⟩
            case round =>
              obtain ⟨j, hj, rfl, hK⟩ := hrel
              by_cases hltj : j < 7
              · go_wp2
                have hbr := Lib.hid (hK.heap hbW.out)
                refine wp_region_held_drew (S := Kept _) (by kernel_rfl) (Kept.refl _).drew (fun hHeld => ?_)
                refine rg_take (i := 0) (some 58) rfl rfl (by kernel_rfl) (by kernel_rfl) (by kernel_rfl) (fun _ _ _ h => h) (take_load (by rfl) _ rfl _ rfl B hBl.out (fun _ h => h.heap (hbr.out))) hHeld ?_
                simp only [Act.put, List.setIfInBounds_toArray, List.set_cons_zero, List.set_cons_succ]
                refine rg_take (i := 1) (v := (.int .i64 (j : Int))) (some 59) rfl rfl (by kernel_rfl) (by kernel_rfl) (by kernel_rfl) (fun _ _ _ h => h) (Or.inl ⟨by rfl, fun _ _ => by go_simp⟩) hHeld ?_
                simp only [Act.put, List.setIfInBounds_toArray, List.set_cons_zero, List.set_cons_succ]
                refine rg_take (i := 2) (v := (.int .i64 (k : Int))) (some 60) rfl rfl (by kernel_rfl) (by kernel_rfl) (by kernel_rfl) (fun _ _ _ h => h) (Or.inl ⟨by rfl, fun _ _ => by go_simp⟩) hHeld ?_
                simp only [Act.put, List.setIfInBounds_toArray, List.set_cons_zero, List.set_cons_succ]
                refine rg_take (i := 4) (some 62) rfl rfl (by kernel_rfl) (by kernel_rfl) (by kernel_rfl) (fun _ _ _ h => h) (take_load (by rfl) _ rfl _ rfl B hBl.out (fun _ h => h.heap (hbr.out))) hHeld ?_
                simp only [Act.put, List.setIfInBounds_toArray, List.set_cons_zero, List.set_cons_succ]
                refine rg_take (i := 5) (v := (.int .i64 (j : Int))) (some 63) rfl rfl (by kernel_rfl) (by kernel_rfl) (by kernel_rfl) (fun _ _ _ h => h) (Or.inl ⟨by rfl, fun _ _ => by go_simp⟩) hHeld ?_
                simp only [Act.put, List.setIfInBounds_toArray, List.set_cons_zero, List.set_cons_succ]
                refine rg_take (i := 6) (v := (.int .i64 (k : Int))) (some 64) rfl rfl (by kernel_rfl) (by kernel_rfl) (by kernel_rfl) (fun _ _ _ h => h) (Or.inl ⟨by rfl, fun _ _ => by go_simp⟩) hHeld ?_
                simp only [Act.put, List.setIfInBounds_toArray, List.set_cons_zero, List.set_cons_succ]
                refine wpAnyH_ready (rs := [3]) (by kernel_rfl) (by simp) ?_
                refine AllReadyH.cons rfl (fun K hK => ?_) AllReadyH.nil
                go_simp
                refine (many_i B HB.out (j : Int) (k : Int) _).mono ?_
                rintro e w7 ⟨rfl, gw7⟩
                refine hK.out _ _ (hHeld.trans gw7) (fun _ => ?_)
                replace hHeld := hHeld.trans gw7
                clear hK K
                refine wpAnyH_ready (rs := [7]) (by kernel_rfl) (by simp) ?_
                refine AllReadyH.cons rfl (fun K hK => ?_) AllReadyH.nil
                go_simp
                refine (rmany_i B HB.out (j : Int) (k : Int) _).mono ?_
                rintro e w8 ⟨rfl, gw8⟩
                refine hK.out _ _ (hHeld.trans gw8) (fun _ => ?_)
                replace hHeld := hHeld.trans gw8
                clear hK K
                refine rg_take (i := 8) (v := (.bool false)) (some 66) rfl rfl (by kernel_rfl) (by kernel_rfl) (by kernel_rfl) (fun _ _ _ h => h) (Or.inl ⟨by rfl, fun _ _ => by go_simp⟩) hHeld ?_
                simp only [Act.put, List.setIfInBounds_toArray, List.set_cons_zero, List.set_cons_succ]
                refine wpAnyH_done (by kernel_rfl) ?_ _
                go_wp2
                go_roundw
                case rel => exact ⟨j + 1, by omega, by go_num, hK.trans hHeld⟩
                case measure => simp [intOf]; omega
              · go_wp2
                go_roundw
                case rel => exact ⟨k + 1, by omega, by go_num, hK⟩
                case measure => simp [intOf]; omega
          | cons a t =>
            rw [hl] at hking o5 hwl
            obtain ⟨g, rfl, hcell⟩ := o5.at_ 0 (by simp)
            have hpos : 0 < (a :: t).length := by simp
            have hcell' : w5.cell? ⟨g, 0, none⟩ = some (.int .i64 (a : Int)) := hcell
            have hh : headI (a :: t) = (a : Int) := rfl
            obtain ⟨n, hn⟩ : ∃ n, n = (a :: t).length := ⟨_, rfl⟩
            rw [← hn] at hpos hwl
            rw [← hn]
            have hpos' : (0 : Int) < (n : Int) := by omega
            rw [hh] at hking
            clear o5 hcell hn hl hh
            go_wp2_with (refine wpList_load_w (by rfl) _ rfl w.heap.size rfl B (hK5.heap hbW.out) hz.out ?_)
            refine (hking.out _).mono ?_
            rintro e w6 ⟨rfl, g6⟩
            have hK6 := hK5.trans g6
            clear hK5 g6 hking hcell'
            go_wp2
            go_loopw [55] (fun i wr => ∃ j : Nat, j ≤ 7 ∧ i = .int .i64 j ∧ Kept W wr) (fun i _ => 7 - (intOf i).toNat)
            case atStart => exact ⟨0, by omega, rfl, hK6⟩
            case round =>
              obtain ⟨j, hj, rfl, hK⟩ := hrel
              by_cases hltj : j < 7
              · go_wp2
                have hbr := Lib.hid (hK.heap hbW.out)
                refine wp_region_held_drew (S := Kept _) (by kernel_rfl) (Kept.refl _).drew (fun hHeld => ?_)
                refine rg_take (i := 0) (some 58) rfl rfl (by kernel_rfl) (by kernel_rfl) (by kernel_rfl) (fun _ _ _ h => h) (take_load (by rfl) _ rfl _ rfl B hBl.out (fun _ h => h.heap (hbr.out))) hHeld ?_
                simp only [Act.put, List.setIfInBounds_toArray, List.set_cons_zero, List.set_cons_succ]
                refine rg_take (i := 1) (v := (.int .i64 (j : Int))) (some 59) rfl rfl (by kernel_rfl) (by kernel_rfl) (by kernel_rfl) (fun _ _ _ h => h) (Or.inl ⟨by rfl, fun _ _ => by go_simp⟩) hHeld ?_
                simp only [Act.put, List.setIfInBounds_toArray, List.set_cons_zero, List.set_cons_succ]
                refine rg_take (i := 2) (v := (.int .i64 (k : Int))) (some 60) rfl rfl (by kernel_rfl) (by kernel_rfl) (by kernel_rfl) (fun _ _ _ h => h) (Or.inl ⟨by rfl, fun _ _ => by go_simp⟩) hHeld ?_
                simp only [Act.put, List.setIfInBounds_toArray, List.set_cons_zero, List.set_cons_succ]
                refine rg_take (i := 4) (some 62) rfl rfl (by kernel_rfl) (by kernel_rfl) (by kernel_rfl) (fun _ _ _ h => h) (take_load (by rfl) _ rfl _ rfl B hBl.out (fun _ h => h.heap (hbr.out))) hHeld ?_
                simp only [Act.put, List.setIfInBounds_toArray, List.set_cons_zero, List.set_cons_succ]
                refine rg_take (i := 5) (v := (.int .i64 (j : Int))) (some 63) rfl rfl (by kernel_rfl) (by kernel_rfl) (by kernel_rfl) (fun _ _ _ h => h) (Or.inl ⟨by rfl, fun _ _ => by go_simp⟩) hHeld ?_
                simp only [Act.put, List.setIfInBounds_toArray, List.set_cons_zero, List.set_cons_succ]
                refine rg_take (i := 6) (v := (.int .i64 (k : Int))) (some 64) rfl rfl (by kernel_rfl) (by kernel_rfl) (by kernel_rfl) (fun _ _ _ h => h) (Or.inl ⟨by rfl, fun _ _ => by go_simp⟩) hHeld ?_
                simp only [Act.put, List.setIfInBounds_toArray, List.set_cons_zero, List.set_cons_succ]
                refine wpAnyH_ready (rs := [3]) (by kernel_rfl) (by simp) ?_
                refine AllReadyH.cons rfl (fun K hK => ?_) AllReadyH.nil
                go_simp
                refine (many_i B HB.out (j : Int) (k : Int) _).mono ?_
                rintro e w7 ⟨rfl, gw7⟩
                refine hK.out _ _ (hHeld.trans gw7) (fun _ => ?_)
                replace hHeld := hHeld.trans gw7
                clear hK K
                refine wpAnyH_ready (rs := [7]) (by kernel_rfl) (by simp) ?_
                refine AllReadyH.cons rfl (fun K hK => ?_) AllReadyH.nil
                go_simp
                refine (rmany_i B HB.out (j : Int) (k : Int) _).mono ?_
                rintro e w8 ⟨rfl, gw8⟩
                refine hK.out _ _ (hHeld.trans gw8) (fun _ => ?_)
                replace hHeld := hHeld.trans gw8
                clear hK K
                refine rg_take (i := 8) (v := (.bool false)) (some 66) rfl rfl (by kernel_rfl) (by kernel_rfl) (by kernel_rfl) (fun _ _ _ h => h) (Or.inl ⟨by rfl, fun _ _ => by go_simp⟩) hHeld ?_
                simp only [Act.put, List.setIfInBounds_toArray, List.set_cons_zero, List.set_cons_succ]
                refine wpAnyH_done (by kernel_rfl) ?_ _
                go_wp2
                go_roundw
                case rel => exact ⟨j + 1, by omega, by go_num, hK.trans hHeld⟩
                case measure => simp [intOf]; omega
              · go_wp2
                go_roundw
                case rel => exact ⟨k + 1, by omega, by go_num, hK⟩
                case measure => simp [intOf]; omega
        · have hlen := sel_le (fun i => B.getD i 0 == (-6)) 64
          have hk1 : ((k : Int) == 1) = true := by simp [hk01]
          have hking : Hid (∀ W : World, Calls Try.prog 17 #[.agg (cl B).toArray, .int .i64 (k : Int)] W fun e w' => e = .returned (.int .i64 (headI (whereL B (-6)))) ∧ Kept W w') := by
            have e : (k : Int) = 1 := by omega
            rw [e]; exact king_b B HB.out
          have HK := Lib.hid hk01
          clear hk01
          go_wp2_with (refine wpList_load_w (by rfl) _ rfl w.heap.size rfl B (hK.heap hbW.out) hz.out ?_)
          refine (rwhere_is B HB.out (-6) _).mono ?_
          rintro e w5 ⟨v, rfl, o5, g5⟩
          obtain ⟨aa, cap, rfl⟩ := o5.slice
          have hK5 := hK.trans g5
          have hwl : (whereL B (-6)).length ≤ 64 := hlen
          clear hlen hK g5
          cases hl : whereL B (-6) with
          | nil =>
            rw [hl] at hking
            have hh : headI [] = -1 := rfl
            rw [hh] at hking
            have hlz : ([] : List Nat).length = 0 := rfl
            rw [hlz]
            clear o5 hwl hl hh hlz
            go_wp2_with (refine wpList_load_w (by rfl) _ rfl w.heap.size rfl B (hK5.heap hbW.out) hz.out ?_)
            refine (hking.out _).mono ?_
            rintro e w6 ⟨rfl, g6⟩
            have hK6 := hK5.trans g6
            clear hK5 g6 hking
            go_wp2
            go_loopw [55] (fun i wr => ∃ j : Nat, j ≤ 7 ∧ i = .int .i64 j ∧ Kept W wr) (fun i _ => 7 - (intOf i).toNat)
            case atStart => exact ⟨0, by omega, rfl, hK6⟩
            case round =>
              obtain ⟨j, hj, rfl, hK⟩ := hrel
              by_cases hltj : j < 7
              · go_wp2
                have hbr := Lib.hid (hK.heap hbW.out)
                refine wp_region_held_drew (S := Kept _) (by kernel_rfl) (Kept.refl _).drew (fun hHeld => ?_)
                refine rg_take (i := 0) (some 58) rfl rfl (by kernel_rfl) (by kernel_rfl) (by kernel_rfl) (fun _ _ _ h => h) (take_load (by rfl) _ rfl _ rfl B hBl.out (fun _ h => h.heap (hbr.out))) hHeld ?_
                simp only [Act.put, List.setIfInBounds_toArray, List.set_cons_zero, List.set_cons_succ]
                refine rg_take (i := 1) (v := (.int .i64 (j : Int))) (some 59) rfl rfl (by kernel_rfl) (by kernel_rfl) (by kernel_rfl) (fun _ _ _ h => h) (Or.inl ⟨by rfl, fun _ _ => by go_simp⟩) hHeld ?_
                simp only [Act.put, List.setIfInBounds_toArray, List.set_cons_zero, List.set_cons_succ]
                refine rg_take (i := 2) (v := (.int .i64 (k : Int))) (some 60) rfl rfl (by kernel_rfl) (by kernel_rfl) (by kernel_rfl) (fun _ _ _ h => h) (Or.inl ⟨by rfl, fun _ _ => by go_simp⟩) hHeld ?_
                simp only [Act.put, List.setIfInBounds_toArray, List.set_cons_zero, List.set_cons_succ]
                refine rg_take (i := 4) (some 62) rfl rfl (by kernel_rfl) (by kernel_rfl) (by kernel_rfl) (fun _ _ _ h => h) (take_load (by rfl) _ rfl _ rfl B hBl.out (fun _ h => h.heap (hbr.out))) hHeld ?_
                simp only [Act.put, List.setIfInBounds_toArray, List.set_cons_zero, List.set_cons_succ]
                refine rg_take (i := 5) (v := (.int .i64 (j : Int))) (some 63) rfl rfl (by kernel_rfl) (by kernel_rfl) (by kernel_rfl) (fun _ _ _ h => h) (Or.inl ⟨by rfl, fun _ _ => by go_simp⟩) hHeld ?_
                simp only [Act.put, List.setIfInBounds_toArray, List.set_cons_zero, List.set_cons_succ]
                refine rg_take (i := 6) (v := (.int .i64 (k : Int))) (some 64) rfl rfl (by kernel_rfl) (by kernel_rfl) (by kernel_rfl) (fun _ _ _ h => h) (Or.inl ⟨by rfl, fun _ _ => by go_simp⟩) hHeld ?_
                simp only [Act.put, List.setIfInBounds_toArray, List.set_cons_zero, List.set_cons_succ]
                refine wpAnyH_ready (rs := [3]) (by kernel_rfl) (by simp) ?_
                refine AllReadyH.cons rfl (fun K hK => ?_) AllReadyH.nil
                go_simp
                refine (many_i B HB.out (j : Int) (k : Int) _).mono ?_
                rintro e w7 ⟨rfl, gw7⟩
                refine hK.out _ _ (hHeld.trans gw7) (fun _ => ?_)
                replace hHeld := hHeld.trans gw7
                clear hK K
                refine wpAnyH_ready (rs := [7]) (by kernel_rfl) (by simp) ?_
                refine AllReadyH.cons rfl (fun K hK => ?_) AllReadyH.nil
                go_simp
                refine (rmany_i B HB.out (j : Int) (k : Int) _).mono ?_
                rintro e w8 ⟨rfl, gw8⟩
                refine hK.out _ _ (hHeld.trans gw8) (fun _ => ?_)
                replace hHeld := hHeld.trans gw8
                clear hK K
                refine rg_take (i := 8) (v := (.bool false)) (some 66) rfl rfl (by kernel_rfl) (by kernel_rfl) (by kernel_rfl) (fun _ _ _ h => h) (Or.inl ⟨by rfl, fun _ _ => by go_simp⟩) hHeld ?_
                simp only [Act.put, List.setIfInBounds_toArray, List.set_cons_zero, List.set_cons_succ]
                refine wpAnyH_done (by kernel_rfl) ?_ _
                go_wp2
                go_roundw
                case rel => exact ⟨j + 1, by omega, by go_num, hK.trans hHeld⟩
                case measure => simp [intOf]; omega
              · go_wp2
                go_roundw
                case rel => exact ⟨k + 1, by omega, by go_num, hK⟩
                case measure => simp [intOf]; omega
          | cons a t =>
            rw [hl] at hking o5 hwl
            obtain ⟨g, rfl, hcell⟩ := o5.at_ 0 (by simp)
            have hpos : 0 < (a :: t).length := by simp
            have hcell' : w5.cell? ⟨g, 0, none⟩ = some (.int .i64 (a : Int)) := hcell
            have hh : headI (a :: t) = (a : Int) := rfl
            obtain ⟨n, hn⟩ : ∃ n, n = (a :: t).length := ⟨_, rfl⟩
            rw [← hn] at hpos hwl
            rw [← hn]
            have hpos' : (0 : Int) < (n : Int) := by omega
            rw [hh] at hking
            clear o5 hcell hn hl hh
            go_wp2_with (refine wpList_load_w (by rfl) _ rfl w.heap.size rfl B (hK5.heap hbW.out) hz.out ?_)
            refine (hking.out _).mono ?_
            rintro e w6 ⟨rfl, g6⟩
            have hK6 := hK5.trans g6
            clear hK5 g6 hking hcell'
            go_wp2
            go_loopw [55] (fun i wr => ∃ j : Nat, j ≤ 7 ∧ i = .int .i64 j ∧ Kept W wr) (fun i _ => 7 - (intOf i).toNat)
            case atStart => exact ⟨0, by omega, rfl, hK6⟩
            case round =>
              obtain ⟨j, hj, rfl, hK⟩ := hrel
              by_cases hltj : j < 7
              · go_wp2
                have hbr := Lib.hid (hK.heap hbW.out)
                refine wp_region_held_drew (S := Kept _) (by kernel_rfl) (Kept.refl _).drew (fun hHeld => ?_)
                refine rg_take (i := 0) (some 58) rfl rfl (by kernel_rfl) (by kernel_rfl) (by kernel_rfl) (fun _ _ _ h => h) (take_load (by rfl) _ rfl _ rfl B hBl.out (fun _ h => h.heap (hbr.out))) hHeld ?_
                simp only [Act.put, List.setIfInBounds_toArray, List.set_cons_zero, List.set_cons_succ]
                refine rg_take (i := 1) (v := (.int .i64 (j : Int))) (some 59) rfl rfl (by kernel_rfl) (by kernel_rfl) (by kernel_rfl) (fun _ _ _ h => h) (Or.inl ⟨by rfl, fun _ _ => by go_simp⟩) hHeld ?_
                simp only [Act.put, List.setIfInBounds_toArray, List.set_cons_zero, List.set_cons_succ]
                refine rg_take (i := 2) (v := (.int .i64 (k : Int))) (some 60) rfl rfl (by kernel_rfl) (by kernel_rfl) (by kernel_rfl) (fun _ _ _ h => h) (Or.inl ⟨by rfl, fun _ _ => by go_simp⟩) hHeld ?_
                simp only [Act.put, List.setIfInBounds_toArray, List.set_cons_zero, List.set_cons_succ]
                refine rg_take (i := 4) (some 62) rfl rfl (by kernel_rfl) (by kernel_rfl) (by kernel_rfl) (fun _ _ _ h => h) (take_load (by rfl) _ rfl _ rfl B hBl.out (fun _ h => h.heap (hbr.out))) hHeld ?_
                simp only [Act.put, List.setIfInBounds_toArray, List.set_cons_zero, List.set_cons_succ]
                refine rg_take (i := 5) (v := (.int .i64 (j : Int))) (some 63) rfl rfl (by kernel_rfl) (by kernel_rfl) (by kernel_rfl) (fun _ _ _ h => h) (Or.inl ⟨by rfl, fun _ _ => by go_simp⟩) hHeld ?_
                simp only [Act.put, List.setIfInBounds_toArray, List.set_cons_zero, List.set_cons_succ]
                refine rg_take (i := 6) (v := (.int .i64 (k : Int))) (some 64) rfl rfl (by kernel_rfl) (by kernel_rfl) (by kernel_rfl) (fun _ _ _ h => h) (Or.inl ⟨by rfl, fun _ _ => by go_simp⟩) hHeld ?_
                simp only [Act.put, List.setIfInBounds_toArray, List.set_cons_zero, List.set_cons_succ]
                refine wpAnyH_ready (rs := [3]) (by kernel_rfl) (by simp) ?_
                refine AllReadyH.cons rfl (fun K hK => ?_) AllReadyH.nil
                go_simp
                refine (many_i B HB.out (j : Int) (k : Int) _).mono ?_
                rintro e w7 ⟨rfl, gw7⟩
                refine hK.out _ _ (hHeld.trans gw7) (fun _ => ?_)
                replace hHeld := hHeld.trans gw7
                clear hK K
                refine wpAnyH_ready (rs := [7]) (by kernel_rfl) (by simp) ?_
                refine AllReadyH.cons rfl (fun K hK => ?_) AllReadyH.nil
                go_simp
                refine (rmany_i B HB.out (j : Int) (k : Int) _).mono ?_
                rintro e w8 ⟨rfl, gw8⟩
                refine hK.out _ _ (hHeld.trans gw8) (fun _ => ?_)
                replace hHeld := hHeld.trans gw8
                clear hK K
                refine rg_take (i := 8) (v := (.bool false)) (some 66) rfl rfl (by kernel_rfl) (by kernel_rfl) (by kernel_rfl) (fun _ _ _ h => h) (Or.inl ⟨by rfl, fun _ _ => by go_simp⟩) hHeld ?_
                simp only [Act.put, List.setIfInBounds_toArray, List.set_cons_zero, List.set_cons_succ]
                refine wpAnyH_done (by kernel_rfl) ?_ _
                go_wp2
                go_roundw
                case rel => exact ⟨j + 1, by omega, by go_num, hK.trans hHeld⟩
                case measure => simp [intOf]; omega
              · go_wp2
                go_roundw
                case rel => exact ⟨k + 1, by omega, by go_num, hK⟩
                case measure => simp [intOf]; omega
      · clear hk
        go_wp2_with (refine wpList_load_w (by rfl) _ rfl w.heap.size rfl B (hK.heap hbW.out) hz.out ?_)
        refine (king_no B 2 (by decide) (by decide) _).mono ?_
        rintro e w5 ⟨rfl, g5⟩
        go_wp2_with (refine wpList_load_w (by rfl) _ rfl w.heap.size rfl B ((hK.trans g5).heap hbW.out) hz.out ?_)
        refine (king_no B (-1) (by decide) (by decide) _).mono ?_
        rintro e w6 ⟨rfl, g6⟩
        go_wp2
        go_ret
        exact ⟨rfl, ((hkW.trans hK).trans g5).trans g6⟩
  · have hc : w0.cell? ⟨w.heap.size, s.toNat, none⟩ = some (.int .i8 x) := by
      rw [cell_of_row _ _ s.toNat _ _ (0, 0) hb0.out, hx]
      simpa using cl_get B s.toNat (by rw [hBl.out]; omega)
    clear hx
    go_wp2_with fail
    refine (rright_yes _ _ hs0 hs1).mono ?_
    rintro e w' ⟨rfl, rfl⟩
    go_wp2
    clear hc
    refine wp_region_held_drew (S := Kept _) (by kernel_rfl) (Kept.refl _).drew (fun hHeld => ?_)
    refine rg_take (i := 0) (some 21) rfl rfl (by kernel_rfl) (by kernel_rfl) (by kernel_rfl) (fun _ _ _ h => h) (take_load (by rfl) _ rfl _ rfl B hBl.out (fun _ h => h.heap (hb0.out))) hHeld ?_
    simp only [Act.put, List.setIfInBounds_toArray, List.set_cons_zero, List.set_cons_succ]
    refine rg_take (i := 1) (v := (.int .i64 s)) (some 22) rfl rfl (by kernel_rfl) (by kernel_rfl) (by kernel_rfl) (fun _ _ _ h => h) (Or.inl ⟨by rfl, fun _ _ => by go_simp⟩) hHeld ?_
    simp only [Act.put, List.setIfInBounds_toArray, List.set_cons_zero, List.set_cons_succ]
    refine rg_take (i := 3) (v := (.int .i64 x)) (some 24) rfl rfl (by kernel_rfl) (by kernel_rfl) (by kernel_rfl) (fun _ _ _ h => h) (Or.inl ⟨by rfl, fun _ _ => by go_simp⟩) hHeld ?_
    simp only [Act.put, List.setIfInBounds_toArray, List.set_cons_zero, List.set_cons_succ]
    refine wpAnyH_ready (rs := [2]) (by kernel_rfl) (by simp) ?_
    refine AllReadyH.cons rfl (fun K hK => ?_) AllReadyH.nil
    go_simp
    refine (HM.out _).mono ?_
    rintro e w1 ⟨rfl, gw1⟩
    refine hK.out _ _ (hHeld.trans gw1) (fun _ => ?_)
    replace hHeld := hHeld.trans gw1
    clear hK K
    refine rg_take (i := 4) (v := (.bool false)) (some 25) rfl rfl (by kernel_rfl) (by kernel_rfl) (by kernel_rfl) (fun _ _ _ h => h) (Or.inl ⟨by rfl, fun _ _ => by go_simp⟩) hHeld ?_
    simp only [Act.put, List.setIfInBounds_toArray, List.set_cons_zero, List.set_cons_succ]
    refine rg_take (i := 5) (v := (.bool false)) (some 26) rfl rfl (by kernel_rfl) (by kernel_rfl) (by kernel_rfl) (fun _ _ _ h => h) (Or.inl ⟨by rfl, fun _ _ => by go_simp⟩) hHeld ?_
    simp only [Act.put, List.setIfInBounds_toArray, List.set_cons_zero, List.set_cons_succ]
    refine rg_take (i := 6) (some 27) rfl rfl (by kernel_rfl) (by kernel_rfl) (by kernel_rfl) (fun _ _ _ h => h) (take_load (by rfl) _ rfl _ rfl B hBl.out (fun _ h => h.heap (hb0.out))) hHeld ?_
    simp only [Act.put, List.setIfInBounds_toArray, List.set_cons_zero, List.set_cons_succ]
    refine rg_take (i := 7) (v := (.int .i64 m)) (some 28) rfl rfl (by kernel_rfl) (by kernel_rfl) (by kernel_rfl) (fun _ _ _ h => h) (Or.inl ⟨by rfl, fun _ _ => by go_simp⟩) hHeld ?_
    simp only [Act.put, List.setIfInBounds_toArray, List.set_cons_zero, List.set_cons_succ]
    refine rg_take (i := 9) (some 30) rfl rfl (by kernel_rfl) (by kernel_rfl) (by kernel_rfl) (fun _ _ _ h => h) (take_load (by rfl) _ rfl _ rfl B hBl.out (fun _ h => h.heap (hb0.out))) hHeld ?_
    simp only [Act.put, List.setIfInBounds_toArray, List.set_cons_zero, List.set_cons_succ]
    refine rg_take (i := 10) (v := (.int .i64 m)) (some 31) rfl rfl (by kernel_rfl) (by kernel_rfl) (by kernel_rfl) (fun _ _ _ h => h) (Or.inl ⟨by rfl, fun _ _ => by go_simp⟩) hHeld ?_
    simp only [Act.put, List.setIfInBounds_toArray, List.set_cons_zero, List.set_cons_succ]
    refine wpAnyH_ready (rs := [8]) (by kernel_rfl) (by simp) ?_
    refine AllReadyH.cons rfl (fun K hK => ?_) AllReadyH.nil
    go_simp
    refine (where_is B HB.out m _).mono ?_
    rintro e w2 ⟨v2, rfl, o2, gw2⟩
    refine hK.out _ _ (hHeld.trans gw2) (fun _ => ?_)
    replace hHeld := hHeld.trans gw2
    clear hK K
    refine wpAnyH_ready (rs := [11]) (by kernel_rfl) (by simp) ?_
    refine AllReadyH.cons rfl (fun K hK => ?_) AllReadyH.nil
    go_simp
    refine (rwhere_is B HB.out m _).mono ?_
    rintro e w3 ⟨v3, rfl, o3, gw3⟩
    refine hK.out _ _ (hHeld.trans gw3) (fun _ => ?_)
    replace hHeld := hHeld.trans gw3
    clear hK K
    refine wpAnyH_ready (rs := [12]) (by kernel_rfl) (by simp) ?_
    refine AllReadyH.cons rfl (fun K hK => ?_) AllReadyH.nil
    go_simp
    refine (same_k (whereL B m) (Nat.le_trans (sel_le _ 64) (by omega)) _ _ _ _ _ (o2.kept gw3) o3).mono ?_
    rintro e w4 ⟨rfl, gw4⟩
    refine hK.out _ _ (hHeld.trans gw4) (fun _ => ?_)
    replace hHeld := hHeld.trans gw4
    clear hK K
    refine rg_take (i := 13) (v := (.bool false)) (some 34) rfl rfl (by kernel_rfl) (by kernel_rfl) (by kernel_rfl) (fun _ _ _ h => h) (Or.inl ⟨by rfl, fun _ _ => by go_simp⟩) hHeld ?_
    simp only [Act.put, List.setIfInBounds_toArray, List.set_cons_zero, List.set_cons_succ]
    refine rg_take (i := 14) (v := (.bool false)) (some 35) rfl rfl (by kernel_rfl) (by kernel_rfl) (by kernel_rfl) (fun _ _ _ h => h) (Or.inl ⟨by rfl, fun _ _ => by go_simp⟩) hHeld ?_
    simp only [Act.put, List.setIfInBounds_toArray, List.set_cons_zero, List.set_cons_succ]
    refine wpAnyH_done (by kernel_rfl) ?_ _
    have hk4 := hk1.trans hHeld
    have hb4 := Lib.hid (hHeld.heap hb0.out)
    clear o2 o3 gw2 gw3 gw1 gw4 hHeld hk1 HM
    go_wp2
    obtain ⟨W, eW⟩ : ∃ W, W = w4 := ⟨_, rfl⟩
    have hbW : Hid (W.heap[w.heap.size]? = some (.cells (cl B).toArray 24 (0, 0))) := by rw [eW]; exact hb4
    have hWk : Kept W w4 := by rw [eW]; exact Kept.refl _
    have hkW : Kept w W := by rw [eW]; exact hk4
    clear eW hb4 hk4 hb0 hbl
    go_loopw [36] (fun i wr => ∃ k : Nat, k ≤ 2 ∧ i = .int .i64 k ∧ Kept W wr) (fun i _ => 2 - (intOf i).toNat)
    case atStart => exact ⟨0, by omega, rfl, hWk⟩
    case round =>
      obtain ⟨k, hk, rfl, hK⟩ := hrel
      clear hWk
      by_cases hlt : k < 2
      · have hk01 : k = 0 ∨ k = 1 := by omega
        clear hk
        rcases hk01 with hk01 | hk01
        · have hlen := sel_le (fun i => B.getD i 0 == (6)) 64
          have hk1 : ((k : Int) == 1) = false := by simp [hk01]
          have hking : Hid (∀ W : World, Calls Try.prog 17 #[.agg (cl B).toArray, .int .i64 (k : Int)] W fun e w' => e = .returned (.int .i64 (headI (whereL B (6)))) ∧ Kept W w') := by
            have e : (k : Int) = 0 := by omega
            rw [e]; exact king_w B HB.out
          have HK := Lib.hid hk01
          clear hk01
          go_wp2_with (refine wpList_load_w (by rfl) _ rfl w.heap.size rfl B (hK.heap hbW.out) hz.out ?_)
          refine (rwhere_is B HB.out (6) _).mono ?_
          rintro e w5 ⟨v, rfl, o5, g5⟩
          obtain ⟨aa, cap, rfl⟩ := o5.slice
          have hK5 := hK.trans g5
          have hwl : (whereL B (6)).length ≤ 64 := hlen
          clear hlen hK g5
          cases hl : whereL B (6) with
          | nil =>
            rw [hl] at hking
            have hh : headI [] = -1 := rfl
            rw [hh] at hking
            have hlz : ([] : List Nat).length = 0 := rfl
            rw [hlz]
            clear o5 hwl hl hh hlz
            go_wp2_with (refine wpList_load_w (by rfl) _ rfl w.heap.size rfl B (hK5.heap hbW.out) hz.out ?_)
            refine (hking.out _).mono ?_
            rintro e w6 ⟨rfl, g6⟩
            have hK6 := hK5.trans g6
            clear hK5 g6 hking
            go_wp2
            go_loopw [55] (fun i wr => ∃ j : Nat, j ≤ 7 ∧ i = .int .i64 j ∧ Kept W wr) (fun i _ => 7 - (intOf i).toNat)
            case atStart => exact ⟨0, by omega, rfl, hK6⟩
            case round =>
              obtain ⟨j, hj, rfl, hK⟩ := hrel
              by_cases hltj : j < 7
              · go_wp2
                have hbr := Lib.hid (hK.heap hbW.out)
                refine wp_region_held_drew (S := Kept _) (by kernel_rfl) (Kept.refl _).drew (fun hHeld => ?_)
                refine rg_take (i := 0) (some 58) rfl rfl (by kernel_rfl) (by kernel_rfl) (by kernel_rfl) (fun _ _ _ h => h) (take_load (by rfl) _ rfl _ rfl B hBl.out (fun _ h => h.heap (hbr.out))) hHeld ?_
                simp only [Act.put, List.setIfInBounds_toArray, List.set_cons_zero, List.set_cons_succ]
                refine rg_take (i := 1) (v := (.int .i64 (j : Int))) (some 59) rfl rfl (by kernel_rfl) (by kernel_rfl) (by kernel_rfl) (fun _ _ _ h => h) (Or.inl ⟨by rfl, fun _ _ => by go_simp⟩) hHeld ?_
                simp only [Act.put, List.setIfInBounds_toArray, List.set_cons_zero, List.set_cons_succ]
                refine rg_take (i := 2) (v := (.int .i64 (k : Int))) (some 60) rfl rfl (by kernel_rfl) (by kernel_rfl) (by kernel_rfl) (fun _ _ _ h => h) (Or.inl ⟨by rfl, fun _ _ => by go_simp⟩) hHeld ?_
                simp only [Act.put, List.setIfInBounds_toArray, List.set_cons_zero, List.set_cons_succ]
                refine rg_take (i := 4) (some 62) rfl rfl (by kernel_rfl) (by kernel_rfl) (by kernel_rfl) (fun _ _ _ h => h) (take_load (by rfl) _ rfl _ rfl B hBl.out (fun _ h => h.heap (hbr.out))) hHeld ?_
                simp only [Act.put, List.setIfInBounds_toArray, List.set_cons_zero, List.set_cons_succ]
                refine rg_take (i := 5) (v := (.int .i64 (j : Int))) (some 63) rfl rfl (by kernel_rfl) (by kernel_rfl) (by kernel_rfl) (fun _ _ _ h => h) (Or.inl ⟨by rfl, fun _ _ => by go_simp⟩) hHeld ?_
                simp only [Act.put, List.setIfInBounds_toArray, List.set_cons_zero, List.set_cons_succ]
                refine rg_take (i := 6) (v := (.int .i64 (k : Int))) (some 64) rfl rfl (by kernel_rfl) (by kernel_rfl) (by kernel_rfl) (fun _ _ _ h => h) (Or.inl ⟨by rfl, fun _ _ => by go_simp⟩) hHeld ?_
                simp only [Act.put, List.setIfInBounds_toArray, List.set_cons_zero, List.set_cons_succ]
                refine wpAnyH_ready (rs := [3]) (by kernel_rfl) (by simp) ?_
                refine AllReadyH.cons rfl (fun K hK => ?_) AllReadyH.nil
                go_simp
                refine (many_i B HB.out (j : Int) (k : Int) _).mono ?_
                rintro e w7 ⟨rfl, gw7⟩
                refine hK.out _ _ (hHeld.trans gw7) (fun _ => ?_)
                replace hHeld := hHeld.trans gw7
                clear hK K
                refine wpAnyH_ready (rs := [7]) (by kernel_rfl) (by simp) ?_
                refine AllReadyH.cons rfl (fun K hK => ?_) AllReadyH.nil
                go_simp
                refine (rmany_i B HB.out (j : Int) (k : Int) _).mono ?_
                rintro e w8 ⟨rfl, gw8⟩
                refine hK.out _ _ (hHeld.trans gw8) (fun _ => ?_)
                replace hHeld := hHeld.trans gw8
                clear hK K
                refine rg_take (i := 8) (v := (.bool false)) (some 66) rfl rfl (by kernel_rfl) (by kernel_rfl) (by kernel_rfl) (fun _ _ _ h => h) (Or.inl ⟨by rfl, fun _ _ => by go_simp⟩) hHeld ?_
                simp only [Act.put, List.setIfInBounds_toArray, List.set_cons_zero, List.set_cons_succ]
                refine wpAnyH_done (by kernel_rfl) ?_ _
                go_wp2
                go_roundw
                case rel => exact ⟨j + 1, by omega, by go_num, hK.trans hHeld⟩
                case measure => simp [intOf]; omega
              · go_wp2
                go_roundw
                case rel => exact ⟨k + 1, by omega, by go_num, hK⟩
                case measure => simp [intOf]; omega
          | cons a t =>
            rw [hl] at hking o5 hwl
            obtain ⟨g, rfl, hcell⟩ := o5.at_ 0 (by simp)
            have hpos : 0 < (a :: t).length := by simp
            have hcell' : w5.cell? ⟨g, 0, none⟩ = some (.int .i64 (a : Int)) := hcell
            have hh : headI (a :: t) = (a : Int) := rfl
            obtain ⟨n, hn⟩ : ∃ n, n = (a :: t).length := ⟨_, rfl⟩
            rw [← hn] at hpos hwl
            rw [← hn]
            have hpos' : (0 : Int) < (n : Int) := by omega
            rw [hh] at hking
            clear o5 hcell hn hl hh
            go_wp2_with (refine wpList_load_w (by rfl) _ rfl w.heap.size rfl B (hK5.heap hbW.out) hz.out ?_)
            refine (hking.out _).mono ?_
            rintro e w6 ⟨rfl, g6⟩
            have hK6 := hK5.trans g6
            clear hK5 g6 hking hcell'
            go_wp2
            go_loopw [55] (fun i wr => ∃ j : Nat, j ≤ 7 ∧ i = .int .i64 j ∧ Kept W wr) (fun i _ => 7 - (intOf i).toNat)
            case atStart => exact ⟨0, by omega, rfl, hK6⟩
            case round =>
              obtain ⟨j, hj, rfl, hK⟩ := hrel
              by_cases hltj : j < 7
              · go_wp2
                have hbr := Lib.hid (hK.heap hbW.out)
                refine wp_region_held_drew (S := Kept _) (by kernel_rfl) (Kept.refl _).drew (fun hHeld => ?_)
                refine rg_take (i := 0) (some 58) rfl rfl (by kernel_rfl) (by kernel_rfl) (by kernel_rfl) (fun _ _ _ h => h) (take_load (by rfl) _ rfl _ rfl B hBl.out (fun _ h => h.heap (hbr.out))) hHeld ?_
                simp only [Act.put, List.setIfInBounds_toArray, List.set_cons_zero, List.set_cons_succ]
                refine rg_take (i := 1) (v := (.int .i64 (j : Int))) (some 59) rfl rfl (by kernel_rfl) (by kernel_rfl) (by kernel_rfl) (fun _ _ _ h => h) (Or.inl ⟨by rfl, fun _ _ => by go_simp⟩) hHeld ?_
                simp only [Act.put, List.setIfInBounds_toArray, List.set_cons_zero, List.set_cons_succ]
                refine rg_take (i := 2) (v := (.int .i64 (k : Int))) (some 60) rfl rfl (by kernel_rfl) (by kernel_rfl) (by kernel_rfl) (fun _ _ _ h => h) (Or.inl ⟨by rfl, fun _ _ => by go_simp⟩) hHeld ?_
                simp only [Act.put, List.setIfInBounds_toArray, List.set_cons_zero, List.set_cons_succ]
                refine rg_take (i := 4) (some 62) rfl rfl (by kernel_rfl) (by kernel_rfl) (by kernel_rfl) (fun _ _ _ h => h) (take_load (by rfl) _ rfl _ rfl B hBl.out (fun _ h => h.heap (hbr.out))) hHeld ?_
                simp only [Act.put, List.setIfInBounds_toArray, List.set_cons_zero, List.set_cons_succ]
                refine rg_take (i := 5) (v := (.int .i64 (j : Int))) (some 63) rfl rfl (by kernel_rfl) (by kernel_rfl) (by kernel_rfl) (fun _ _ _ h => h) (Or.inl ⟨by rfl, fun _ _ => by go_simp⟩) hHeld ?_
                simp only [Act.put, List.setIfInBounds_toArray, List.set_cons_zero, List.set_cons_succ]
                refine rg_take (i := 6) (v := (.int .i64 (k : Int))) (some 64) rfl rfl (by kernel_rfl) (by kernel_rfl) (by kernel_rfl) (fun _ _ _ h => h) (Or.inl ⟨by rfl, fun _ _ => by go_simp⟩) hHeld ?_
                simp only [Act.put, List.setIfInBounds_toArray, List.set_cons_zero, List.set_cons_succ]
                refine wpAnyH_ready (rs := [3]) (by kernel_rfl) (by simp) ?_
                refine AllReadyH.cons rfl (fun K hK => ?_) AllReadyH.nil
                go_simp
                refine (many_i B HB.out (j : Int) (k : Int) _).mono ?_
                rintro e w7 ⟨rfl, gw7⟩
                refine hK.out _ _ (hHeld.trans gw7) (fun _ => ?_)
                replace hHeld := hHeld.trans gw7
                clear hK K
                refine wpAnyH_ready (rs := [7]) (by kernel_rfl) (by simp) ?_
                refine AllReadyH.cons rfl (fun K hK => ?_) AllReadyH.nil
                go_simp
                refine (rmany_i B HB.out (j : Int) (k : Int) _).mono ?_
                rintro e w8 ⟨rfl, gw8⟩
                refine hK.out _ _ (hHeld.trans gw8) (fun _ => ?_)
                replace hHeld := hHeld.trans gw8
                clear hK K
                refine rg_take (i := 8) (v := (.bool false)) (some 66) rfl rfl (by kernel_rfl) (by kernel_rfl) (by kernel_rfl) (fun _ _ _ h => h) (Or.inl ⟨by rfl, fun _ _ => by go_simp⟩) hHeld ?_
                simp only [Act.put, List.setIfInBounds_toArray, List.set_cons_zero, List.set_cons_succ]
                refine wpAnyH_done (by kernel_rfl) ?_ _
                go_wp2
                go_roundw
                case rel => exact ⟨j + 1, by omega, by go_num, hK.trans hHeld⟩
                case measure => simp [intOf]; omega
              · go_wp2
                go_roundw
                case rel => exact ⟨k + 1, by omega, by go_num, hK⟩
                case measure => simp [intOf]; omega
        · have hlen := sel_le (fun i => B.getD i 0 == (-6)) 64
          have hk1 : ((k : Int) == 1) = true := by simp [hk01]
          have hking : Hid (∀ W : World, Calls Try.prog 17 #[.agg (cl B).toArray, .int .i64 (k : Int)] W fun e w' => e = .returned (.int .i64 (headI (whereL B (-6)))) ∧ Kept W w') := by
            have e : (k : Int) = 1 := by omega
            rw [e]; exact king_b B HB.out
          have HK := Lib.hid hk01
          clear hk01
          go_wp2_with (refine wpList_load_w (by rfl) _ rfl w.heap.size rfl B (hK.heap hbW.out) hz.out ?_)
          refine (rwhere_is B HB.out (-6) _).mono ?_
          rintro e w5 ⟨v, rfl, o5, g5⟩
          obtain ⟨aa, cap, rfl⟩ := o5.slice
          have hK5 := hK.trans g5
          have hwl : (whereL B (-6)).length ≤ 64 := hlen
          clear hlen hK g5
          cases hl : whereL B (-6) with
          | nil =>
            rw [hl] at hking
            have hh : headI [] = -1 := rfl
            rw [hh] at hking
            have hlz : ([] : List Nat).length = 0 := rfl
            rw [hlz]
            clear o5 hwl hl hh hlz
            go_wp2_with (refine wpList_load_w (by rfl) _ rfl w.heap.size rfl B (hK5.heap hbW.out) hz.out ?_)
            refine (hking.out _).mono ?_
            rintro e w6 ⟨rfl, g6⟩
            have hK6 := hK5.trans g6
            clear hK5 g6 hking
            go_wp2
            go_loopw [55] (fun i wr => ∃ j : Nat, j ≤ 7 ∧ i = .int .i64 j ∧ Kept W wr) (fun i _ => 7 - (intOf i).toNat)
            case atStart => exact ⟨0, by omega, rfl, hK6⟩
            case round =>
              obtain ⟨j, hj, rfl, hK⟩ := hrel
              by_cases hltj : j < 7
              · go_wp2
                have hbr := Lib.hid (hK.heap hbW.out)
                refine wp_region_held_drew (S := Kept _) (by kernel_rfl) (Kept.refl _).drew (fun hHeld => ?_)
                refine rg_take (i := 0) (some 58) rfl rfl (by kernel_rfl) (by kernel_rfl) (by kernel_rfl) (fun _ _ _ h => h) (take_load (by rfl) _ rfl _ rfl B hBl.out (fun _ h => h.heap (hbr.out))) hHeld ?_
                simp only [Act.put, List.setIfInBounds_toArray, List.set_cons_zero, List.set_cons_succ]
                refine rg_take (i := 1) (v := (.int .i64 (j : Int))) (some 59) rfl rfl (by kernel_rfl) (by kernel_rfl) (by kernel_rfl) (fun _ _ _ h => h) (Or.inl ⟨by rfl, fun _ _ => by go_simp⟩) hHeld ?_
                simp only [Act.put, List.setIfInBounds_toArray, List.set_cons_zero, List.set_cons_succ]
                refine rg_take (i := 2) (v := (.int .i64 (k : Int))) (some 60) rfl rfl (by kernel_rfl) (by kernel_rfl) (by kernel_rfl) (fun _ _ _ h => h) (Or.inl ⟨by rfl, fun _ _ => by go_simp⟩) hHeld ?_
                simp only [Act.put, List.setIfInBounds_toArray, List.set_cons_zero, List.set_cons_succ]
                refine rg_take (i := 4) (some 62) rfl rfl (by kernel_rfl) (by kernel_rfl) (by kernel_rfl) (fun _ _ _ h => h) (take_load (by rfl) _ rfl _ rfl B hBl.out (fun _ h => h.heap (hbr.out))) hHeld ?_
                simp only [Act.put, List.setIfInBounds_toArray, List.set_cons_zero, List.set_cons_succ]
                refine rg_take (i := 5) (v := (.int .i64 (j : Int))) (some 63) rfl rfl (by kernel_rfl) (by kernel_rfl) (by kernel_rfl) (fun _ _ _ h => h) (Or.inl ⟨by rfl, fun _ _ => by go_simp⟩) hHeld ?_
                simp only [Act.put, List.setIfInBounds_toArray, List.set_cons_zero, List.set_cons_succ]
                refine rg_take (i := 6) (v := (.int .i64 (k : Int))) (some 64) rfl rfl (by kernel_rfl) (by kernel_rfl) (by kernel_rfl) (fun _ _ _ h => h) (Or.inl ⟨by rfl, fun _ _ => by go_simp⟩) hHeld ?_
                simp only [Act.put, List.setIfInBounds_toArray, List.set_cons_zero, List.set_cons_succ]
                refine wpAnyH_ready (rs := [3]) (by kernel_rfl) (by simp) ?_
                refine AllReadyH.cons rfl (fun K hK => ?_) AllReadyH.nil
                go_simp
                refine (many_i B HB.out (j : Int) (k : Int) _).mono ?_
                rintro e w7 ⟨rfl, gw7⟩
                refine hK.out _ _ (hHeld.trans gw7) (fun _ => ?_)
                replace hHeld := hHeld.trans gw7
                clear hK K
                refine wpAnyH_ready (rs := [7]) (by kernel_rfl) (by simp) ?_
                refine AllReadyH.cons rfl (fun K hK => ?_) AllReadyH.nil
                go_simp
                refine (rmany_i B HB.out (j : Int) (k : Int) _).mono ?_
                rintro e w8 ⟨rfl, gw8⟩
                refine hK.out _ _ (hHeld.trans gw8) (fun _ => ?_)
                replace hHeld := hHeld.trans gw8
                clear hK K
                refine rg_take (i := 8) (v := (.bool false)) (some 66) rfl rfl (by kernel_rfl) (by kernel_rfl) (by kernel_rfl) (fun _ _ _ h => h) (Or.inl ⟨by rfl, fun _ _ => by go_simp⟩) hHeld ?_
                simp only [Act.put, List.setIfInBounds_toArray, List.set_cons_zero, List.set_cons_succ]
                refine wpAnyH_done (by kernel_rfl) ?_ _
                go_wp2
                go_roundw
                case rel => exact ⟨j + 1, by omega, by go_num, hK.trans hHeld⟩
                case measure => simp [intOf]; omega
              · go_wp2
                go_roundw
                case rel => exact ⟨k + 1, by omega, by go_num, hK⟩
                case measure => simp [intOf]; omega
          | cons a t =>
            rw [hl] at hking o5 hwl
            obtain ⟨g, rfl, hcell⟩ := o5.at_ 0 (by simp)
            have hpos : 0 < (a :: t).length := by simp
            have hcell' : w5.cell? ⟨g, 0, none⟩ = some (.int .i64 (a : Int)) := hcell
            have hh : headI (a :: t) = (a : Int) := rfl
            obtain ⟨n, hn⟩ : ∃ n, n = (a :: t).length := ⟨_, rfl⟩
            rw [← hn] at hpos hwl
            rw [← hn]
            have hpos' : (0 : Int) < (n : Int) := by omega
            rw [hh] at hking
            clear o5 hcell hn hl hh
            go_wp2_with (refine wpList_load_w (by rfl) _ rfl w.heap.size rfl B (hK5.heap hbW.out) hz.out ?_)
            refine (hking.out _).mono ?_
            rintro e w6 ⟨rfl, g6⟩
            have hK6 := hK5.trans g6
            clear hK5 g6 hking hcell'
            go_wp2
            go_loopw [55] (fun i wr => ∃ j : Nat, j ≤ 7 ∧ i = .int .i64 j ∧ Kept W wr) (fun i _ => 7 - (intOf i).toNat)
            case atStart => exact ⟨0, by omega, rfl, hK6⟩
            case round =>
              obtain ⟨j, hj, rfl, hK⟩ := hrel
              by_cases hltj : j < 7
              · go_wp2
                have hbr := Lib.hid (hK.heap hbW.out)
                refine wp_region_held_drew (S := Kept _) (by kernel_rfl) (Kept.refl _).drew (fun hHeld => ?_)
                refine rg_take (i := 0) (some 58) rfl rfl (by kernel_rfl) (by kernel_rfl) (by kernel_rfl) (fun _ _ _ h => h) (take_load (by rfl) _ rfl _ rfl B hBl.out (fun _ h => h.heap (hbr.out))) hHeld ?_
                simp only [Act.put, List.setIfInBounds_toArray, List.set_cons_zero, List.set_cons_succ]
                refine rg_take (i := 1) (v := (.int .i64 (j : Int))) (some 59) rfl rfl (by kernel_rfl) (by kernel_rfl) (by kernel_rfl) (fun _ _ _ h => h) (Or.inl ⟨by rfl, fun _ _ => by go_simp⟩) hHeld ?_
                simp only [Act.put, List.setIfInBounds_toArray, List.set_cons_zero, List.set_cons_succ]
                refine rg_take (i := 2) (v := (.int .i64 (k : Int))) (some 60) rfl rfl (by kernel_rfl) (by kernel_rfl) (by kernel_rfl) (fun _ _ _ h => h) (Or.inl ⟨by rfl, fun _ _ => by go_simp⟩) hHeld ?_
                simp only [Act.put, List.setIfInBounds_toArray, List.set_cons_zero, List.set_cons_succ]
                refine rg_take (i := 4) (some 62) rfl rfl (by kernel_rfl) (by kernel_rfl) (by kernel_rfl) (fun _ _ _ h => h) (take_load (by rfl) _ rfl _ rfl B hBl.out (fun _ h => h.heap (hbr.out))) hHeld ?_
                simp only [Act.put, List.setIfInBounds_toArray, List.set_cons_zero, List.set_cons_succ]
                refine rg_take (i := 5) (v := (.int .i64 (j : Int))) (some 63) rfl rfl (by kernel_rfl) (by kernel_rfl) (by kernel_rfl) (fun _ _ _ h => h) (Or.inl ⟨by rfl, fun _ _ => by go_simp⟩) hHeld ?_
                simp only [Act.put, List.setIfInBounds_toArray, List.set_cons_zero, List.set_cons_succ]
                refine rg_take (i := 6) (v := (.int .i64 (k : Int))) (some 64) rfl rfl (by kernel_rfl) (by kernel_rfl) (by kernel_rfl) (fun _ _ _ h => h) (Or.inl ⟨by rfl, fun _ _ => by go_simp⟩) hHeld ?_
                simp only [Act.put, List.setIfInBounds_toArray, List.set_cons_zero, List.set_cons_succ]
                refine wpAnyH_ready (rs := [3]) (by kernel_rfl) (by simp) ?_
                refine AllReadyH.cons rfl (fun K hK => ?_) AllReadyH.nil
                go_simp
                refine (many_i B HB.out (j : Int) (k : Int) _).mono ?_
                rintro e w7 ⟨rfl, gw7⟩
                refine hK.out _ _ (hHeld.trans gw7) (fun _ => ?_)
                replace hHeld := hHeld.trans gw7
                clear hK K
                refine wpAnyH_ready (rs := [7]) (by kernel_rfl) (by simp) ?_
                refine AllReadyH.cons rfl (fun K hK => ?_) AllReadyH.nil
                go_simp
                refine (rmany_i B HB.out (j : Int) (k : Int) _).mono ?_
                rintro e w8 ⟨rfl, gw8⟩
                refine hK.out _ _ (hHeld.trans gw8) (fun _ => ?_)
                replace hHeld := hHeld.trans gw8
                clear hK K
                refine rg_take (i := 8) (v := (.bool false)) (some 66) rfl rfl (by kernel_rfl) (by kernel_rfl) (by kernel_rfl) (fun _ _ _ h => h) (Or.inl ⟨by rfl, fun _ _ => by go_simp⟩) hHeld ?_
                simp only [Act.put, List.setIfInBounds_toArray, List.set_cons_zero, List.set_cons_succ]
                refine wpAnyH_done (by kernel_rfl) ?_ _
                go_wp2
                go_roundw
                case rel => exact ⟨j + 1, by omega, by go_num, hK.trans hHeld⟩
                case measure => simp [intOf]; omega
              · go_wp2
                go_roundw
                case rel => exact ⟨k + 1, by omega, by go_num, hK⟩
                case measure => simp [intOf]; omega
      · clear hk
        go_wp2_with (refine wpList_load_w (by rfl) _ rfl w.heap.size rfl B (hK.heap hbW.out) hz.out ?_)
        refine (king_no B 2 (by decide) (by decide) _).mono ?_
        rintro e w5 ⟨rfl, g5⟩
        go_wp2_with (refine wpList_load_w (by rfl) _ rfl w.heap.size rfl B ((hK.trans g5).heap hbW.out) hz.out ?_)
        refine (king_no B (-1) (by decide) (by decide) _).mono ?_
        rintro e w6 ⟨rfl, g6⟩
        go_wp2
        go_ret
        exact ⟨rfl, ((hkW.trans hK).trans g5).trans g6⟩
end Go.Proofs.Ytebjglgajkpldaa
