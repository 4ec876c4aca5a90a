/- The document's Of and Line. -/
import Derived.Test.YtkliefojegjhhaaDoorRaX
namespace Go.Proofs.YtkliefojegjhhaaDoor
open Go.RowKit
set_option linter.unusedVariables false
set_option linter.unusedSimpArgs false

theorem ofR_snoc (m s : Int) (P : List (Int × Int)) (p : Int × Int) : ofR m s (P ++ [p]) = ofR m s P ++ oneL (cutL m (rayL s p.1 p.2)) := by
  unfold ofR; simp
theorem ofR_len (m s : Int) : ∀ P : List (Int × Int), (ofR m s P).length ≤ P.length
  | [] => Nat.le_refl _
  | p :: P => by
    have := ofR_len m s P
    unfold ofR at this ⊢
    rw [List.flatMap_cons, List.length_append, List.length_cons]
    have h1 : (oneL (cutL m (rayL s p.1 p.2))).length ≤ 1 := by unfold oneL; split <;> simp
    omega
theorem take_snoc_at {α : Type} (P : List α) (j : Nat) (p : α) (h : P[j]? = some p) : P.take (j + 1) = P.take j ++ [p] := by
  obtain ⟨hj, e⟩ := List.getElem?_eq_some_iff.1 h
  rw [List.take_succ_eq_append_getElem hj, e]
theorem rray_low (s f r : Int) (w W : World) (k : Kept W w) :
    Calls Tryd.prog 18 #[.int .i64 s, .int .i64 f, .int .i64 r] w fun e w' => ∃ v, e = .returned v ∧ OwnZ w' w.heap.size v (rayL s f r) ∧ Kept w w' := rray_is s f r w
theorem cut_yes {m : Int} {l : List Int} (h : slidesB m = true) : cutL m l = l := by unfold cutL; rw [h]; simp
theorem cut_no {m : Int} {l : List Int} (h : slidesB m = false) : cutL m l = l.take 1 := by unfold cutL; rw [h]; simp
theorem cut_short {m : Int} {l : List Int} (h : l.length ≤ 1) : cutL m l = l := by
  unfold cutL
  split
  · rfl
  · exact List.take_of_length_le h
set_option maxRecDepth 100000 in
set_option maxHeartbeats 2000000 in
theorem rof_is (m s : Int) (w : World) : Calls Tryd.prog 15 #[.int .i64 m, .int .i64 s] w (NewR 30 w (ofL m s)) := by
  obtain ⟨i0, hi0, hz0, hz1, hz2⟩ := partsZ infoRow
  have HI := Lib.hid hi0
  have HZ := Lib.hid hz0
  have HZ1 := Lib.hid hz1
  have HZ2 := Lib.hid hz2
  have HEnd := Lib.hid (ofR_is m s)
  have hlenP := stepsL_len m
  have HFL := Lib.hid (stZ_len m)
  have HAt := Lib.hid (show ∀ (j : Nat) (p : Int × Int), (stepsL m)[j]? = some p → (stZ m)[2 * j]? = some p.1 ∧ (stZ m)[2 * j + 1]? = some p.2 from flat_at (stepsL m))
  clear hi0 hz0 hz1 hz2
  go_enter Tryd.func15, Tryd.ntmps15
  go_wp2_with fail
  refine (rsteps_is m _).mono ?_
  rintro e W ⟨v6, rfl, hown6, k6⟩
  obtain ⟨a6, c6, rfl⟩ := hown6.slice
  obtain ⟨g6, hl6, _⟩ := hown6.ls
  have HL6 := Lib.hid hl6
  have HK6 := Lib.hid k6
  clear hown6 hl6 k6
  generalize hn6 : (stZ m).length = n6 at *
  have HN6 := Lib.hid hn6
  clear hn6
  go_wp2
  go_loopw [5, 7] (fun t5 t7 wr => ∃ i j : Nat, i = 2 * j ∧ j ≤ (stepsL m).length ∧ t7 = .int .i64 i ∧ RowsZ 30 wr W.heap.size t5 (ofR m s ((stepsL m).take j)) ∧ Kept W wr) (fun _ t7 _ => n6 - (intOf t7).toNat)
  case atStart => exact ⟨0, 0, rfl, by omega, rfl, RowsZ.nil _ _ _, Kept.refl _⟩
  case round =>
    obtain ⟨i, j, hij, hj, rfl, hR, hK⟩ := hrel
    obtain ⟨a5, c5, rfl⟩ := hR.slice
    have HIJ := Lib.hid hij
    have HR := Lib.hid hR
    have HK := Lib.hid hK
    have hNN : n6 = 2 * (stepsL m).length := HFL.out
    by_cases hlt : i < n6
    · have hlt' : (i : Int) < (n6 : Int) := by omega
      have hlt1 : (i : Int) + 1 < (n6 : Int) := by omega
      have hsm : (i : Int) ≤ 100 := by omega
      obtain ⟨p, hp⟩ : ∃ p, (stepsL m)[j]? = some p := ⟨_, List.getElem?_eq_getElem (by omega)⟩
      obtain ⟨q1, q2⟩ := HAt.out j p hp
      rw [← hij] at q1 q2
      obtain ⟨off, c6', e6, hk1, hk2, hcell⟩ := HL6.out.full (by have := HN6.out; omega)
      injection e6 with e61 e62 e63
      subst e61 e63
      have d1 := kept_cell HK.out (hcell i _ q1)
      have d2 := kept_cell HK.out (hcell (i + 1) _ q2)
      have hLj := Lib.hid (ofR_len m s ((stepsL m).take j))
      have HTk := Lib.hid (show ofR m s ((stepsL m).take (j + 1)) = ofR m s ((stepsL m).take j) ++ oneL (cutL m (rayL s p.1 p.2)) by rw [take_snoc_at _ j p hp, ofR_snoc])
      have hj1 : j + 1 ≤ (stepsL m).length := by omega
      have hLj2 : (ofR m s ((stepsL m).take j)).length ≤ 1000 := by have := hLj.out; rw [List.length_take] at this; omega
      obtain ⟨pf, pr⟩ := p
      dsimp only at *
      clear hij hR hK hp q1 q2 hcell hLj hk1 hk2 e62 hNN
      generalize (stepsL m).take j = PJ at *
      generalize hRL : rayL s pf pr = RL at *
      have HRay := Lib.hid (rray_low s pf pr)
      rw [hRL] at HRay
      have hrl8 : RL.length ≤ 8 := by rw [← hRL]; exact rayL_len _ _ _
      clear hRL
      generalize hN5 : (ofR m s PJ).length = N5 at *
      have HN5 := Lib.hid hN5
      clear hN5
      have wr1 : IntKind.i64.wrap ((i : Int) + 1) = (i : Int) + 1 := IntWalk.i64_in _ (by omega)
      have tn1 : ((i : Int) + 1).toNat = i + 1 := by omega
      have ge1 : (0 : Int) ≤ (i : Int) + 1 := by omega
      go_wp2
      refine wp_region_held_drew (S := Kept _) (by kernel_rfl) (Kept.refl _).drew (fun hHeld => ?_)
      refine rg_take (i := 0) (v := (.int .i64 s)) (some 17) rfl rfl (by kernel_rfl) (by kernel_rfl) (by kernel_rfl) (fun _ _ _ h => h) (Or.inl ⟨by rfl, fun _ _ => by go_simp⟩) hHeld ?_
      simp only [Act.put, List.setIfInBounds_toArray, List.set_cons_zero, List.set_cons_succ]
      refine rg_take (i := 1) (v := (.slice (some ⟨g6, off, none⟩) n6 c6)) (some 18) rfl rfl (by kernel_rfl) (by kernel_rfl) (by kernel_rfl) (fun _ _ _ h => h) (Or.inl ⟨by rfl, fun _ _ => by go_simp⟩) hHeld ?_
      simp only [Act.put, List.setIfInBounds_toArray, List.set_cons_zero, List.set_cons_succ]
      refine rg_take (i := 2) (v := (.int .i64 (i : Int))) (some 19) rfl rfl (by kernel_rfl) (by kernel_rfl) (by kernel_rfl) (fun _ _ _ h => h) (Or.inl ⟨by rfl, fun _ _ => by go_simp⟩) hHeld ?_
      simp only [Act.put, List.setIfInBounds_toArray, List.set_cons_zero, List.set_cons_succ]
      refine rg_take (i := 3) (v := (.pointer (some ⟨g6, off + i, none⟩))) (some 20) rfl rfl (by kernel_rfl) (by kernel_rfl) (by kernel_rfl) (fun _ _ _ h => h) (Or.inl ⟨by rfl, fun _ _ => by go_simp⟩) hHeld ?_
      simp only [Act.put, List.setIfInBounds_toArray, List.set_cons_zero, List.set_cons_succ]
      refine rg_take (i := 4) (v := (.int .i64 pf)) (some 21) rfl rfl (by kernel_rfl) (by kernel_rfl) (by kernel_rfl) (fun _ _ _ h => h) (Or.inl ⟨by rfl, fun w' h => by have h' := kept_cell h (d1); go_simp⟩) hHeld ?_
      simp only [Act.put, List.setIfInBounds_toArray, List.set_cons_zero, List.set_cons_succ]
      refine rg_take (i := 5) (v := (.slice (some ⟨g6, off, none⟩) n6 c6)) (some 22) rfl rfl (by kernel_rfl) (by kernel_rfl) (by kernel_rfl) (fun _ _ _ h => h) (Or.inl ⟨by rfl, fun _ _ => by go_simp⟩) hHeld ?_
      simp only [Act.put, List.setIfInBounds_toArray, List.set_cons_zero, List.set_cons_succ]
      refine rg_take (i := 6) (v := (.int .i64 (i : Int))) (some 23) rfl rfl (by kernel_rfl) (by kernel_rfl) (by kernel_rfl) (fun _ _ _ h => h) (Or.inl ⟨by rfl, fun _ _ => by go_simp⟩) hHeld ?_
      simp only [Act.put, List.setIfInBounds_toArray, List.set_cons_zero, List.set_cons_succ]
      refine rg_take (i := 7) (v := (.int .i64 ((i : Int) + 1))) (some 24) rfl rfl (by kernel_rfl) (by kernel_rfl) (by kernel_rfl) (fun _ _ _ h => h) (Or.inl ⟨by rfl, fun _ _ => by go_simp⟩) hHeld ?_
      simp only [Act.put, List.setIfInBounds_toArray, List.set_cons_zero, List.set_cons_succ]
      refine rg_take (i := 8) (v := (.pointer (some ⟨g6, off + (i + 1), none⟩))) (some 25) rfl rfl (by kernel_rfl) (by kernel_rfl) (by kernel_rfl) (fun _ _ _ h => h) (Or.inl ⟨by rfl, fun _ _ => by go_simp⟩) hHeld ?_
      simp only [Act.put, List.setIfInBounds_toArray, List.set_cons_zero, List.set_cons_succ]
      refine rg_take (i := 9) (v := (.int .i64 pr)) (some 26) rfl rfl (by kernel_rfl) (by kernel_rfl) (by kernel_rfl) (fun _ _ _ h => h) (Or.inl ⟨by rfl, fun w' h => by have h' := kept_cell h (d2); go_simp⟩) hHeld ?_
      simp only [Act.put, List.setIfInBounds_toArray, List.set_cons_zero, List.set_cons_succ]
      refine wpAnyH_ready (rs := [10]) (by kernel_rfl) (by simp) ?_
      refine AllReadyH.cons rfl (fun K hK => ?_) AllReadyH.nil
      go_simp
      have HK0 := Lib.hid hHeld
      refine (HRay.out _ _ hHeld).mono ?_
      rintro e w1 ⟨v, rfl, hown, g1⟩
      obtain ⟨a, cap, rfl⟩ := hown.slice
      refine hK.out _ _ (hHeld.trans g1) (fun _ => ?_)
      replace hHeld := hHeld.trans g1
      clear hK K
      have HO := Lib.hid hown
      have HG1 := Lib.hid g1
      clear hown g1
      refine rg_take (i := 11) (v := (.slice a RL.length cap)) (some 8) rfl rfl (by kernel_rfl) (by kernel_rfl) (by kernel_rfl) (fun _ _ _ h => h) (Or.inl ⟨by rfl, fun _ _ => by go_simp⟩) hHeld ?_
      simp only [Act.put, List.setIfInBounds_toArray, List.set_cons_zero, List.set_cons_succ]
      refine wpAnyH_done (by kernel_rfl) ?_ _
      have HRX := Lib.hid (HR.out.kept HK0.out)
      by_cases h1 : 1 < RL.length
      · have h1' : (1 : Int) < (RL.length : Int) := by omega
        have h0' : (0 : Int) < (RL.length : Int) := by omega
        go_wp2_with fail
        refine (rslides_is m _).mono ?_
        cases hsl : slidesB m
        · have HT1 := HTk.out
          rw [cut_no hsl, show oneL (RL.take 1) = [RL.take 1] by unfold oneL; rw [if_neg (by rw [List.length_take]; omega)]] at HT1
          replace HTk := Lib.hid HT1
          clear HT1 hsl
          rintro e w' ⟨rfl, rfl⟩
          obtain ⟨g8, cap8, cur8, e8, _, _, hnc8, hcm8, _, _⟩ := HO.out.blk (by omega)
          injection e8 with e81 e82 e83
          subst e81 e83
          have hr : ∀ w, (Instr.sliceAt 30 (.slice (some ⟨g8, 0, none⟩) RL.length cap) none (some (.int .i64 1)) none).run Tryd.prog w = .ok (.slice (some ⟨g8, 0, none⟩) 1 cap) w := run_head g8 0 RL.length cap 1 (by omega)
          have HO8 := Lib.hid (HO.out.take 1 (by omega))
          have hpos8 : 0 < (RL.take 1).length := by rw [List.length_take]; omega
          clear hnc8 hcm8
          go_wp2_with (at_builtin; refine RowsAt.append Tryd.underlying27 HI.out HZ.out HZ1.out HZ2.out rfl (by decide) rfl _ _ rfl W.heap.size _ _ (ofR m s PJ) (RL.take 1) rfl rfl HRX.out HG1.out HO8.out hpos8 ?c1 ?d1 ?_)
          case c1 => have := HK.out.size; have := HK0.out.size; omega
          case d1 => rw [HN5.out]; omega
          intro v' w4 hR4 hk4
          obtain ⟨a4, c4, rfl⟩ := hR4.slice
          have HR4 := Lib.hid hR4
          have HK4 := Lib.hid (hk4 W ((HK.out.trans HK0.out).trans HG1.out) (Nat.le_refl _))
          clear hR4 hk4
          generalize (ofR m s PJ ++ [(RL.take 1)]).length = N4 at *
          go_wp2
          go_roundw
          case rel => exact ⟨i + 2, j + 1, by have := HIJ.out; omega, hj1, by go_num, by rw [HTk.out]; exact HR4.out, HK4.out⟩
          case measure => simp [intOf]; omega
        · have HT1 := HTk.out
          rw [cut_yes hsl, show oneL RL = [RL] by unfold oneL; rw [if_neg (by omega)]] at HT1
          replace HTk := Lib.hid HT1
          clear HT1 hsl
          rintro e w' ⟨rfl, rfl⟩
          have hpos8 : 0 < RL.length := by omega
          go_wp2_with (at_builtin; refine RowsAt.append Tryd.underlying27 HI.out HZ.out HZ1.out HZ2.out rfl (by decide) rfl _ _ rfl W.heap.size _ _ (ofR m s PJ) RL rfl rfl HRX.out HG1.out HO.out hpos8 ?c2 ?d2 ?_)
          case c2 => have := HK.out.size; have := HK0.out.size; omega
          case d2 => rw [HN5.out]; omega
          intro v' w4 hR4 hk4
          obtain ⟨a4, c4, rfl⟩ := hR4.slice
          have HR4 := Lib.hid hR4
          have HK4 := Lib.hid (hk4 W ((HK.out.trans HK0.out).trans HG1.out) (Nat.le_refl _))
          clear hR4 hk4
          generalize (ofR m s PJ ++ [RL]).length = N4 at *
          go_wp2
          go_roundw
          case rel => exact ⟨i + 2, j + 1, by have := HIJ.out; omega, hj1, by go_num, by rw [HTk.out]; exact HR4.out, HK4.out⟩
          case measure => simp [intOf]; omega
      · have h1' : ¬ (1 : Int) < (RL.length : Int) := by omega
        by_cases h0 : 0 < RL.length
        · have h0' : (0 : Int) < (RL.length : Int) := by omega
          have HT1 := HTk.out
          rw [cut_short (by omega), show oneL RL = [RL] by unfold oneL; rw [if_neg (by omega)]] at HT1
          replace HTk := Lib.hid HT1
          clear HT1
          go_wp2_with (at_builtin; refine RowsAt.append Tryd.underlying27 HI.out HZ.out HZ1.out HZ2.out rfl (by decide) rfl _ _ rfl W.heap.size _ _ (ofR m s PJ) RL rfl rfl HRX.out HG1.out HO.out h0 ?c3 ?d3 ?_)
          case c3 => have := HK.out.size; have := HK0.out.size; omega
          case d3 => rw [HN5.out]; omega
          intro v' w4 hR4 hk4
          obtain ⟨a4, c4, rfl⟩ := hR4.slice
          have HR4 := Lib.hid hR4
          have HK4 := Lib.hid (hk4 W ((HK.out.trans HK0.out).trans HG1.out) (Nat.le_refl _))
          clear hR4 hk4
          generalize (ofR m s PJ ++ [RL]).length = N4 at *
          go_wp2
          go_roundw
          case rel => exact ⟨i + 2, j + 1, by have := HIJ.out; omega, hj1, by go_num, by rw [HTk.out]; exact HR4.out, HK4.out⟩
          case measure => simp [intOf]; omega
        · have h0' : ¬ (0 : Int) < (RL.length : Int) := by omega
          have HT1 := HTk.out
          rw [cut_short (by omega), show oneL RL = [] by unfold oneL; rw [if_pos (by omega)]] at HT1
          replace HTk := Lib.hid HT1
          have HR9 := Lib.hid (HRX.out.kept HG1.out)
          have HK9 := Lib.hid ((HK.out.trans HK0.out).trans HG1.out)
          clear HT1
          go_wp2
          go_roundw
          case rel => exact ⟨i + 2, j + 1, by have := HIJ.out; omega, hj1, by go_num, by rw [HTk.out]; simpa using HR9.out, HK9.out⟩
          case measure => simp [intOf]; omega
    · have hlt' : ¬ (i : Int) < (n6 : Int) := by omega
      have HT := Lib.hid (show ofR m s ((stepsL m).take j) = ofL m s by rw [List.take_of_length_le (by omega)]; exact HEnd.out)
      clear hij hR hK hNN
      go_wp2
      go_ret
      exact ⟨_, rfl, by rw [← HT.out]; exact HR.out.low HK6.out.size, HK6.out.trans HK.out⟩
theorem RowsZ.read {e : TypeId} {w : World} {base : Nat} {v : Value} {L : List (List Int)} (h : RowsZ e w base v L) (hL : 0 < L.length) :
    ∃ go cap, v = .slice (some ⟨go, 0, none⟩) L.length cap ∧ L.length ≤ cap ∧ cap ≤ maxLen ∧ ∀ (i : Nat) (l : List Int), L[i]? = some l → ∃ u g, w.cell? ⟨go, i, none⟩ = some u ∧ LsZ w g u l ∧ (0 < l.length → base ≤ g ∧ g < w.heap.size) := by
  obtain ⟨vs, gs, h⟩ := h
  have hnv := h.len
  have hng := h.ngs
  rcases h.own.2 with ⟨ev, h0⟩ | ⟨go, cap, cur, ev, hb, hh, hnc, hcm, hcs, ht⟩
  · omega
  · refine ⟨go, cap, ev, hnc, hcm, fun i l hl => ?_⟩
    obtain ⟨hi, _⟩ := List.getElem?_eq_some_iff.1 hl
    obtain ⟨u, hu⟩ : ∃ u, vs[i]? = some u := ⟨_, List.getElem?_eq_getElem (by omega)⟩
    obtain ⟨gg, hg⟩ : ∃ g, gs[i]? = some g := ⟨_, List.getElem?_eq_getElem (by omega)⟩
    obtain ⟨q1, _⟩ := h.each i u gg l hu hg hl
    obtain ⟨g, q2, q3⟩ := q1.ls
    refine ⟨u, g, ?_, q2, q3⟩
    rw [cell_of_row w go i cur _ (0, 0) hh]
    have h2 : (cur.toList.take (L.length * 1))[i]? = vs[i]? := by rw [ht]
    rw [List.getElem?_take, if_pos (by omega)] at h2
    simp only [Array.getElem?_toList] at h2
    rw [h2, hu]
theorem ofL_pos {m s : Int} {l : List Int} (h : l ∈ ofL m s) : 0 < l.length ∧ l.length ≤ 8 := by
  unfold ofL ofN at h
  obtain ⟨w, _, hw⟩ := List.mem_flatMap.1 h
  unfold oneL at hw
  split at hw
  · cases hw
  · simp at hw
    subst hw
    exact ⟨by omega, cutL_len m w s⟩
theorem ofL_len (m s : Int) : (ofL m s).length ≤ 16 := ofN_len m s 16
theorem lineIn_drop (L : List (List Int)) (b : Int) (i : Nat) (l : List Int) (h : L[i]? = some l) : lineIn (L.drop i) b = if l.contains b then l.take (l.idxOf b) else lineIn (L.drop (i + 1)) b := by
  obtain ⟨hi, e⟩ := List.getElem?_eq_some_iff.1 h
  rw [List.drop_eq_getElem_cons hi, e]
  unfold lineIn
  rw [List.find?_cons]
  cases hc : l.contains b <;> simp [hc]
set_option maxHeartbeats 1000000 in
theorem rline_is (a b : Int) (w : World) : Calls Tryd.prog 20 #[.int .i64 a, .int .i64 b] w (NewL w (lineL a b)) := by
  have HE := Lib.hid (line_ref a b)
  have HP := Lib.hid (show ∀ l : List Int, l ∈ ofL 5 a → 0 < l.length ∧ l.length ≤ 8 from fun l h => ofL_pos h)
  have HL := Lib.hid (ofL_len 5 a)
  go_enter Tryd.func20, Tryd.ntmps20
  go_wp2_with fail
  refine (rof_is 5 a _).mono ?_
  rintro e W ⟨v5, rfl, hR, hK⟩
  obtain ⟨a5, c5, rfl⟩ := hR.slice
  have HR := Lib.hid hR
  have HK := Lib.hid hK
  clear hR hK
  generalize ofL 5 a = L at *
  generalize hn : L.length = n at *
  have HN := Lib.hid hn
  have hn16 : n ≤ 16 := HL.out
  clear hn HL
  go_wp2
  go_loop [6, 7] (fun t6 _ => ∃ i : Nat, i ≤ n ∧ t6 = .int .i64 i ∧ lineIn (L.drop i) b = lineL a b) (fun t6 _ => n - (intOf t6).toNat)
  case atStart => exact ⟨0, by omega, rfl, HE.out⟩
  case round =>
    obtain ⟨i, hi, rfl, hD⟩ := hrel
    have HD := Lib.hid hD
    clear hD
    by_cases hlt : i < n
    · have hlt' : (i : Int) < (n : Int) := by omega
      obtain ⟨l, hl⟩ : ∃ l, L[i]? = some l := ⟨_, List.getElem?_eq_getElem (by have := HN.out; omega)⟩
      obtain ⟨p0, p8⟩ := HP.out l (List.mem_of_getElem? hl)
      obtain ⟨go, co, eo, _, _, hread⟩ := HR.out.read (by have := HN.out; omega)
      injection eo with eo1 _ eo3
      subst eo1 eo3
      obtain ⟨u, g, hc, hls, hlow⟩ := hread i l hl
      obtain ⟨off, cu, rfl, hk1, hk2, hcell⟩ := hls.full p0
      have HS := Lib.hid (lineIn_drop L b i l hl)
      have HLS := Lib.hid hls
      have HC := Lib.hid hcell
      have HLow := Lib.hid hlow
      generalize hN : l.length = N at *
      have HNl := Lib.hid hN
      clear hl hread hls hcell hlow hN
      unfold maxLen at hk2
      go_wp2
      go_loop [7] (fun t7 => ∃ k : Nat, k ≤ N ∧ t7 = .int .i64 k ∧ ∀ j, j < k → l[j]? ≠ some b) (fun t7 => N - (intOf t7).toNat)
      case atStart => exact ⟨0, by omega, rfl, fun j hj => by omega⟩
      case round =>
        obtain ⟨k, hk, rfl, hno⟩ := hrel
        have HO := Lib.hid hno
        clear hno
        by_cases hkl : k < N
        · have hkl' : (k : Int) < (N : Int) := by omega
          obtain ⟨y, hy⟩ : ∃ y, l[k]? = some y := ⟨_, List.getElem?_eq_getElem (by have := HNl.out; omega)⟩
          have e1 := HC.out k y hy
          have HY := Lib.hid hy
          clear hy
          by_cases hyb : y = b
          · have b0 : (y == b) = true := by simpa using hyb
            have hib := idxI_at HO.out (hyb ▸ HY.out)
            have hcb : l.contains b = true := List.contains_iff_mem.2 (List.mem_of_getElem? (hyb ▸ HY.out))
            have hid2 : l.idxOf b = k := by unfold idxI at hib; rw [if_pos hcb] at hib; omega
            have HF := HS.out
            rw [hcb, if_pos rfl, hid2] at HF
            have HF2 := Lib.hid (HD.out.symm.trans HF)
            have HT := Lib.hid (HLS.out.take k (by have := HNl.out; omega))
            have hr := run_head g off N cu k (by omega)
            clear hib hcb hid2 HF hyb
            go_wp2
            go_ret
            refine ⟨_, g, rfl, by rw [HF2.out]; exact HT.out, fun h => ?_, HK.out⟩
            have h1 := (HLow.out p0).1
            have h2 := HK.out.size
            omega
          · have b0 : (y == b) = false := by simpa using hyb
            have HX := Lib.hid hyb
            clear hyb
            go_wp2
            go_round
            case rel => exact ⟨k + 1, by omega, by go_num, fun j hj => by
              by_cases hji : j < k
              · exact HO.out j hji
              · obtain rfl : j = k := by omega
                rw [HY.out]
                exact fun e => HX.out (Option.some.inj e)⟩
            case measure => simp [intOf]; omega
        · have hkl' : ¬ (k : Int) < (N : Int) := by omega
          have hcb : l.contains b = false := by
            have := hasB_none (l := l) (x := b) (fun j hj => HO.out j (by have := HNl.out; omega))
            exact this
          have HF := HS.out
          rw [hcb] at HF
          have HF2 := Lib.hid (HF.symm.trans HD.out)
          clear hcb HF
          go_wp2
          go_round
          case rel => exact ⟨i + 1, by omega, by go_num, by have := HF2.out; simpa using this⟩
          case measure => simp [intOf]; omega
    · have hlt' : ¬ (i : Int) < (n : Int) := by omega
      have HF := Lib.hid (show lineL a b = [] by rw [← HD.out, List.drop_eq_nil_of_le (by have := HN.out; omega)]; rfl)
      go_wp2
      go_ret
      exact ⟨_, 0, rfl, by rw [HF.out]; exact .inl ⟨rfl, rfl⟩, fun h => by rw [HF.out] at h; simp at h, HK.out⟩
end Go.Proofs.YtkliefojegjhhaaDoor
